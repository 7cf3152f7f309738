import Derived.Lib.ConvBytes
import Derived.Laws.MathBits
import Derived.Deep.LoopGhost
import Derived.Test.YtnfpdihkjkimiaaGreatsh5
set_option linter.unusedVariables false
set_option linter.constructorNameAsVariable false
set_option linter.unusedSimpArgs false
set_option maxRecDepth 1000000
set_option maxHeartbeats 4000000
namespace Go.Proofs.YtnfpdihkjkimiaaGreat
section
open Go.RowKit Go.Sort Go.Deep
variable {P:Nat} [NeZero P] {N:Nat}
theorem opp1_c (O:Ord N) {a:Nat} (ha:a<N):Gives 114 #[nv a] (nv (sMi N 0 a)):=by
 intro w
 have h:=sMin_c O 0 a O.pos ha
 generalize sMi N 0 a=m at h ⊢
 go_enter Tryz.func114,Tryz.ntmps114
 refine RG.M.enter [(0,.v (nv a))] 6 (by kernel_rfl) ?_
 intro a0 M0
 repeat refine wp_seq ?_
 refine M0.t [.m 1 [] 0,.m 2 [] 1] [(0,wn a),(1,RG.z 4)] [] [wn a,RG.z 4] [(1,.p 0 0),(2,.p 1 0)] ⟨RG.mk 0 52,RG.mk 1 52,trivial⟩ ?_
 intro j1 j2 a1 w1 M1
 repeat refine wp_seq ?_
 refine M1.t [.x 3 [] (nv 0),.x 4 [] (nv a),.c 5 [(3,0),(4,1)] (nv m),.u [(5,2)] 1] [] [(1,3,wn m)] [wn a,wn m] [(2,.p 1 0)] ⟨RG.st,RG.ld u40 i40,RG.cl h,RG.pt i40,trivial⟩ ?_
 intro a2 w2 M2
 refine wp_ret ?_
 refine bodyPost_ret (v:=nv m) (RG.results_row M2.st 2 52 rfl 1 _ rfl (M2.at (s:=(.p 1 0))) u40 i40) M2.sl.defers ?_
 exact ⟨_,rfl,M2.st.bel.below,rfl⟩
theorem mkTL (N:Nat) (hN:N≤512):∃ C0:List Value,C0.length=37*N∧∀ w:World,(Instr.makeSlice 56 (.int .i64 N) (.int .i64 N)).run Tryz.prog w=.ok (.slice (some ⟨w.heap.size,0,none⟩) N N) (w.alloc (.cells C0.toArray 121)):=by
 have hi:(Tryz.prog.info? 121).map (fun i=>(i.size,decide (i.bytes≤4000),i.zero.isSome))=some (37,true,true):=by kernel_rfl
 obtain ⟨i,hi1,hi2⟩:=Option.map_eq_some_iff.1 hi
 simp only[Prod.mk.injEq,decide_eq_true_eq] at hi2
 obtain ⟨h1,h2,h3⟩:=hi2
 obtain ⟨z,hz⟩:=Option.isSome_iff_exists.1 h3
 refine ⟨(madeCells z.cells (N*37)).toList,by rw[Array.length_toList,size_madeCells,Nat.mul_comm],fun w=>?_⟩
 have hb:(i.bytes:Int)*(N:Int)≤281474976710656:=by
  have:i.bytes*N≤4000*512:=Nat.mul_le_mul h2 hN
  have h5:((i.bytes*N:Nat):Int)≤281474976710656:=by omega
  rwa[Int.natCast_mul] at h5
 have:=run_make (P:=Tryz.prog) w 56 121 i z undS hi1 hz .i64 .i64 (N:Int) (N:Int) (by omega) (by omega) hb (by omega)
 rw[Int.toNat_natCast,h1] at this
 rw[Array.toArray_toList]
 exact this
theorem cells_row {W:World} {g:Nat} {l:List (Nat × Bs)} (h33:∀ x∈l.map (·.2),x.size=33) (hr:W.rangeAt g 0 (cellsT l)) (j:Nat) (hj:j<l.length):W.rangeAt g (37*j) (wn (l[j]).1++bl33 (l[j]).2):=fun t u hu=>by
 have ht:t<37:=by
  have:=(List.getElem?_eq_some_iff.1 hu).1
  rw[row_len (h33 _ (List.mem_map.2 ⟨_,List.getElem_mem hj,rfl⟩))] at this
  exact this
 have:=hr (37*j+t) u (by rw[cellsT_at l h33 j hj t ht];exact hu)
 rw[Nat.zero_add] at this
 exact this
theorem rows_cells {W:World} {g:Nat} {l:List (Nat × Bs)} (h33:∀ x∈l.map (·.2),x.size=33) (hr:∀ j (hj:j<l.length),W.rangeAt g (37*j) (wn (l[j]).1++bl33 (l[j]).2)):W.rangeAt g 0 (cellsT l):=fun t u hu=>by
 have hlen:t<l.length*37:=by
  have:=(List.getElem?_eq_some_iff.1 hu).1
  rwa[cellsT_len fun x hx=>h33 _ (List.mem_map.2 ⟨x,hx,rfl⟩)] at this
 have hj:t/37<l.length:=Nat.div_lt_of_lt_mul (by omega)
 have ht:t%37<37:=Nat.mod_lt _ (by decide)
 have e:37*(t/37)+t%37=t:=Nat.div_add_mod _ _
 have h2:=cellsT_at l h33 (t/37) hj (t%37) ht
 rw[e,hu] at h2
 have:=hr (t/37) hj (t%37) u h2.symm
 rw[e] at this
 rw[Nat.zero_add]
 exact this
def tmT (N n:Nat) (x:Nat × Bs):Nat × Bs:=(sTi N n x.1,x.2)
structure Tz (w W:World) (N n K k3 i:Nat) (l:List (Nat × Bs)):Prop where
 bl:Below w.heap.size w W
 lt:K<W.heap.size
 ne:k3≠K
 th:W.there K 0 (37*l.length)
 r3:Row W k3 (wn n)
 rw:∀ j (hj:j<l.length),j<i→W.rangeAt K (37*j) (wn (tmT N n (l[j])).1++bl33 (tmT N n (l[j])).2)
theorem Tz.grow {w W W':World} {n K k3 i:Nat} {l:List (Nat × Bs)} (h:Tz w W N n K k3 i l) (hb:Below W.heap.size W W'):Tz w W' N n K k3 i l:=
 ⟨h.bl.trans (hb.mono h.bl.size),Nat.lt_of_lt_of_le h.lt hb.size,h.ne,RG.there_below h.th hb h.lt,h.r3.below hb,fun j hj hji=>RG.range_below (h.rw j hj hji) hb h.lt⟩
theorem Tz.drew {w W:World} {n K k3 i:Nat} {l:List (Nat × Bs)} (h:Tz w W N n K k3 i l):Tz w W.drew N n K k3 i l:=⟨h.bl.drew,h.lt,h.ne,h.th,h.r3,h.rw⟩
theorem Tz.put {w W:World} {n K k3 i:Nat} {l:List (Nat × Bs)} (h:Tz w W N n K k3 i l) (hK:w.heap.size≤K) (hi:i<l.length) (h33:∀ x∈l.map (·.2),x.size=33):Tz w (W.setCells K (37*i) (wn (tmT N n (l[i])).1++bl33 (tmT N n (l[i])).2)) N n K k3 (i+1) l:=by
 have hsz:∀ (j:Nat) (hj:j<l.length),(wn (tmT N n (l[j])).1++bl33 (tmT N n (l[j])).2).length=37:=fun j hj=>row_len (h33 _ (List.mem_map.2 ⟨_,List.getElem_mem hj,rfl⟩))
 refine ⟨RG.below_setCells hK _ _ _ h.bl,by rw[RG.setCells_size];exact h.lt,h.ne,World.there_setCells h.th _ _ _,⟨by rw[RG.setCells_size];exact h.r3.1,World.rangeAt_setCells_apart h.r3.2.1 K _ _ (Or.inl h.ne),World.there_setCells h.r3.2.2 _ _ _⟩,fun j hj hji=>?_⟩
 by_cases e:j=i
 ·subst e
  refine World.rangeAt_setCells_same W K _ _ fun t ht=>?_
  rw[hsz j hj] at ht
  have:=h.th (37*j+t) (by omega)
  rwa[Nat.zero_add] at this
 ·exact World.rangeAt_setCells_apart (h.rw j hj (by omega)) K _ _ (Or.inr (Or.inl (by rw[hsz j hj];omega)))
section
variable (w:World) (n K k3 k7 i s m:Nat) (p:Bs) (l:List (Nat × Bs))
def Rt:Nat→Value→World→Prop
 | 0,v,_=>v=.slice (some ⟨K,0,none⟩) l.length l.length
 | 1,v,_=>v=.int .i64 i
 | 2,v,_=>v=nv n
 | 3,v,_=>v=.pointer (some ⟨k7,0,none⟩)
 | 4,v,_=>v=nv s
 | 5,v,_=>v=nv m
 | 6,v,_=>v=.pointer (some ⟨k7,4,none⟩)
 | 7,v,_=>v=pvl p
 | 8,v,_=>v=tvl m p
 | 9,v,_=>v=.pointer (some ⟨K,0+37*i,none⟩)
 | _,_,_=>True
def Gt (N:Nat):RG.Gw:=⟨Rt n K k7 i s m p l,fun W=>Tz w W N n K k3 i l∧Row W k7 (wn s++bl33 p),fun j v W W' hb h=>by
 match j,h with
 | 0,h=>exact h
 | 1,h=>exact h
 | 2,h=>exact h
 | 3,h=>exact h
 | 4,h=>exact h
 | 5,h=>exact h
 | 6,h=>exact h
 | 7,h=>exact h
 | 8,h=>exact h
 | 9,h=>exact h
 | _+10,_=>trivial,fun W W' hb h=>⟨h.1.grow hb,h.2.below hb⟩⟩
end
theorem sumTimes_c (O:Ord N) {n:Nat} (hn:n<N) (B:Nat) (s:Value) (l:List (Nat × Bs)) (hl:l.length≤512) (h33:∀ x∈l.map (·.2),x.size=33) (hlN:∀ x∈l,x.1<N) (w:World) (hS:Sm B w s l) :
 Calls Tryz.prog 47 #[s,nv n] w (Ret fun e w'=>Below w.heap.size w w'∧Sm w.heap.size w' e (l.map (tmT N n))):=by
 obtain ⟨g,c,rfl,hc,-,hg,hr⟩:=hS
 have HB:=Hid.mk' (boxS n w)
 obtain ⟨w1,hw1⟩:∃ w1,Hid (w.alloc (.cells (wn n).toArray 52)=w1):=⟨_,rfl⟩
 rw[hw1.out] at HB
 obtain ⟨k3,hk3⟩:∃ k,Hid (w.heap.size=k):=⟨_,rfl⟩
 obtain ⟨K,hK⟩:∃ k,Hid (w1.heap.size=k):=⟨_,rfl⟩
 have e1:K=k3+1:=by rw[← hK.out,← hk3.out,← hw1.out,World.size_alloc]
 obtain ⟨C0,hC0,hmk⟩:=mkTL l.length hl
 have hmk':=hmk w1
 obtain ⟨w2,hw2⟩:∃ w2,Hid (w1.alloc (.cells C0.toArray 121)=w2):=⟨_,rfl⟩
 rw[hw2.out,hK.out] at hmk'
 rw[hk3.out] at HB
 have K2:Hid (Tz w w2 N n K k3 0 l):=by
  have hR1:Row w1 k3 (wn n):=by rw[← hw1.out,← hk3.out];exact row_new w _ _
  have b1:Below w.heap.size w w1:=by rw[← hw1.out];exact below1 _ _
  have b2:Below w1.heap.size w1 w2:=by rw[← hw2.out];exact below1 _ _
  have hR2:Row w2 K C0:=by rw[← hw2.out,← hK.out];exact row_new w1 _ _
  exact ⟨b1.trans (b2.mono b1.size),hR2.1,by omega,by rw[← hC0];exact hR2.2.2,hR1.below b2,fun j hj hji=>by omega⟩
 have HF:Hid (Ord N∧n<N∧(∀ x∈l.map (·.2),x.size=33)∧(∀ x∈l,x.1<N)∧g<w.heap.size∧w.rangeAt g 0 (cellsT l)∧w.heap.size≤K):=⟨O,hn,h33,hlN,hg,hr,by rw[hk3.out];omega⟩
 obtain ⟨d',hd3,hd4⟩:=Option.map_eq_some_iff.1 uT
 have HD:Hid (Tryz.prog.underlying 121=some d'∧d'.isRow=true):=⟨hd3,hd4⟩
 obtain ⟨vn,hvn⟩:∃ v,Hid (nv n=v):=⟨_,rfl⟩
 rw[hvn.out] at HB ⊢
 clear hd3 hd4 O hn h33 hlN hg hr hmk hC0 hw1 hw2 hK hk3 e1
 go_enter Tryz.func47,Tryz.ntmps47
 go_wp2_with (first|(refine wpList_box (u:=vn) (v:=.pointer (some ⟨k3,0,none⟩)) (w':=w1) rfl 52 (.tmp 1) rfl ?_ ?_ ?_;rfl;exact HB.out)|fail)
 clear hmk'
 go_loopg [13] l.length (fun m s13 W=>∃ i:Nat,i+m=l.length∧s13=.int .i64 i∧Hid (Tz w W N n K k3 i l))
 case atStart=>exact ⟨0,by omega,rfl,K2⟩
 case round =>
  clear K2 HB
  obtain ⟨i,hik,rfl,KM⟩:=hrel
  by_cases hi:i<l.length
  ·have hi':(i:Int)<(l.length:Int):=by omega
   obtain ⟨s,hse⟩:∃ s,Hid ((l[i]'hi).1=s):=⟨(l[i]'hi).1,(rfl:(l[i]'hi).1=(l[i]'hi).1)⟩
   obtain ⟨p,hpe⟩:∃ p,Hid ((l[i]'hi).2=p):=⟨(l[i]'hi).2,(rfl:(l[i]'hi).2=(l[i]'hi).2)⟩
   have hps:Hid (p.size=33):=by rw[← hpe.out];exact HF.out.2.2.1 _ (List.mem_map.2 ⟨_,List.getElem_mem hi,rfl⟩)
   have hsN:Hid (s<N):=by rw[← hse.out];exact HF.out.2.2.2.1 _ (List.getElem_mem hi)
   have B0:Hid (wr.rangeAt g (37*i) (wn s++bl33 p)):=by
    have h:=RG.range_below (cells_row HF.out.2.2.1 HF.out.2.2.2.2.2.1 i hi) KM.out.bl HF.out.2.2.2.2.1
    rw[hse.out,hpe.out] at h
    exact h
   obtain ⟨k7,hk7⟩:∃ k,Hid (wr.heap.size=k):=⟨_,rfl⟩
   obtain ⟨W1,hW1⟩:∃ W1,Hid (wr.alloc (.cells zT.toArray 121)=W1):=⟨_,rfl⟩
   obtain ⟨W2,hW2⟩:∃ W2,Hid (W1.setCells k7 0 (wn s++bl33 p)=W2):=⟨_,rfl⟩
   have hlen:(wn s++bl33 p).length=37:=row_len hps.out
   have F1:Hid (Row W1 k7 zT∧Below wr.heap.size wr W1):=by rw[← hW1.out,← hk7.out];exact ⟨row_new wr _ _,below1 wr _⟩
   have F2:Hid (Row W2 k7 (wn s++bl33 p)∧Tz w W2 N n K k3 i l):=by
    rw[← hW2.out]
    exact ⟨F1.out.1.put (by rw[hlen];rfl),KM.out.grow (RG.below_setCells (by rw[hk7.out];exact Nat.le_refl _) _ _ _ F1.out.2)⟩
   have HLT:Hid ((Tryz.prog.info? 121).map (·.size)=some (wn s++bl33 p).length):=by show _=_;rw[hlen];exact iT
   have HLS:Hid ((Tryz.prog.info? 121).map (·.size)=some (wn s++bl33 p).toArray.size∧W1.there k7 0 (wn s++bl33 p).toArray.size):=by
    have e:(wn s++bl33 p).toArray.size=37:=by rw[List.size_toArray];exact hlen
    rw[e];exact ⟨iT,F1.out.1.2.2⟩
   have HAL:Hid ((wn s++bl33 p).toArray.all (·.oneCell')=true):=by
    show _=_
    rw[Array.all_eq_true']
    intro u hu
    exact cells_one s p u (List.mem_toArray.1 hu)
   have hix:=atT g 0 l.length c i hi
   obtain ⟨vt,hvt⟩:∃ v,Hid (Value.agg (wn s++bl33 p).toArray=v):=⟨_,rfl⟩
   have HL:Hid (i<l.length):=hi
   clear hlen KM F1
   go_wp2_with (first|(refine wpList_load_mid rfl 121 _ rfl g (37*i) ?_ (wn s++bl33 p) d' ?_ ?_ ?_ ?_ ?_;rfl;exact B0.out;exact HD.out.1;exact HD.out.2;exact HLT.out;rw[hvt.out])|(refine wpList_op (v:=.pointer (some ⟨k7,0,none⟩)) (w':=W1) rfl (.alloc 121) rfl ?_ ?_;(rw[← hW1.out,← hk7.out];kernel_rfl))|(refine wpList_store_mid rfl 121 _ _ rfl k7 0 (wn s++bl33 p).toArray ?_ ?_ ?_ ?_ ?_ ?_;rfl;exact hvt.out.symm;exact HLS.out.2;exact HLS.out.1;exact HAL.out;rw[show (wn s++bl33 p).toArray.toList=wn s++bl33 p from rfl,hW2.out])|fail)
   clear hW1 hW2 hk7
   refine (Gt w n K k3 k7 i s (sTi N n s) p l N).last 10 (by kernel_rfl) (by kernel_rfl) (by kernel_rfl) ⟨
    RG.gw_val fun a W hp=>⟨[(5,.slice (some ⟨K,0,none⟩) l.length l.length)],.slice (some ⟨K,0,none⟩) l.length l.length,W,⟨hp.o 5 (by kernel_rfl),trivial⟩,by kernel_rfl,Below.refl _ _,rfl⟩,
    RG.gw_val fun a W hp=>⟨[(6,.int .i64 i)],.int .i64 i,W,⟨hp.o 6 (by kernel_rfl),trivial⟩,by kernel_rfl,Below.refl _ _,rfl⟩,
    RG.gw_load 52 3 rfl Go.Proofs.YtnfpdihkjkimiaaGreat.u40 fun a W hp=>⟨k3,0,wn n,hp.o 3 (by kernel_rfl),hp.b.1.r3.2.1,i40,rfl⟩,
    RG.gw_val fun a W hp=>⟨[(7,.pointer (some ⟨k7,0,none⟩))],.pointer (some ⟨k7,0,none⟩),W,⟨hp.o 7 (by kernel_rfl),trivial⟩,by kernel_rfl,Below.refl _ _,rfl⟩,
    RG.gw_load 52 21 rfl Go.Proofs.YtnfpdihkjkimiaaGreat.u40 fun a W hp=>⟨k7,0,wn s,hp.n 3 21 (by kernel_rfl) (by kernel_rfl),range_front hp.b.2.2.1,i40,rfl⟩,
    RG.gw_call fun a W hp=>⟨[(20,nv n),(22,nv s)],61,#[nv n,nv s],⟨hp.n 2 20 (by kernel_rfl) (by kernel_rfl),hp.n 4 22 (by kernel_rfl) (by kernel_rfl),trivial⟩,by kernel_rfl,(sTim_c HF.out.1 n s HF.out.2.1 hsN.out W).mono (by
     rintro e W' ⟨u,rfl,hb,rfl⟩
     exact ⟨_,rfl,hb,rfl⟩)⟩,
    RG.gw_val fun a W hp=>⟨[(7,.pointer (some ⟨k7,0,none⟩))],.pointer (some ⟨k7,4,none⟩),W,⟨hp.o 7 (by kernel_rfl),trivial⟩,by kernel_rfl,Below.refl _ _,rfl⟩,
    RG.gw_load 61 24 rfl uCP fun a W hp=>⟨k7,4,bl33 p,hp.n 6 24 (by kernel_rfl) (by kernel_rfl),range_back (xs:=wn s) hp.b.2.2.1,by rw[bl33_length hps.out];exact infoCP,rfl⟩,
    RG.gw_val fun a W hp=>⟨[(23,nv (sTi N n s)),(25,pvl p)],tvl (sTi N n s) p,W,⟨hp.n 5 23 (by kernel_rfl) (by kernel_rfl),hp.n 7 25 (by kernel_rfl) (by kernel_rfl),trivial⟩,by
     rw[Prod.mk.injEq]
     refine ⟨by kernel_rfl,?_⟩
     refine Eq.trans (b:=((Instr.build 121 #[(0,nv (sTi N n s)),(1,pvl p)]) >>= fun v=>pure (Next.value v)).run Tryz.prog W) (by kernel_rfl) ?_
     rw[Sem.run_bind,bldT hps.out]
     rfl,Below.refl _ _,rfl⟩,
    RG.gw_val fun a W hp=>⟨[(18,.slice (some ⟨K,0,none⟩) l.length l.length),(19,.int .i64 i)],.pointer (some ⟨K,0+37*i,none⟩),W,⟨hp.n 0 18 (by kernel_rfl) (by kernel_rfl),hp.n 1 19 (by kernel_rfl) (by kernel_rfl),trivial⟩,by
     rw[Prod.mk.injEq]
     refine ⟨by kernel_rfl,?_⟩
     show ((Instr.indexAt 56 (.slice (some ⟨K,0,none⟩) l.length l.length) (.int .i64 i)) >>= fun v=>pure (Next.value v)).run Tryz.prog W=_
     rw[Sem.run_bind,atT K 0 l.length l.length i HL.out]
     rfl,Below.refl _ _,rfl⟩,trivial⟩ ⟨F2.out.2.drew,F2.out.1⟩ ?_
   intro V W3 hR3 hB3
   have hV8:V 8=tvl (sTi N n s) p:=hR3 8 (by decide)
   have hV9:V 9=.pointer (some ⟨K,0+37*i,none⟩):=hR3 9 (by decide)
   have hlen2:(wn (sTi N n s)++bl33 p).length=37:=row_len hps.out
   obtain ⟨W4,hW4⟩:∃ W4,Hid (W3.setCells K (37*i) (wn (sTi N n s)++bl33 p)=W4):=⟨_,rfl⟩
   have K4:Hid (Tz w W4 N n K k3 (i+1) l):=by
    have h:=hB3.1.put HF.out.2.2.2.2.2.2 HL.out HF.out.2.2.1
    have e:tmT N n (l[i]'HL.out)=(sTi N n s,p):=by
     have h1:=hse.out
     have h2:=hpe.out
     unfold tmT
     rw[h1,h2]
    rw[e] at h
    rw[← hW4.out]
    exact h
   have HT:Hid (W3.there K (37*i) (wn (sTi N n s)++bl33 p).toArray.size∧(Tryz.prog.info? 121).map (·.size)=some (wn (sTi N n s)++bl33 p).toArray.size∧(wn (sTi N n s)++bl33 p).toArray.all (·.oneCell')=true):=by
    have e:(wn (sTi N n s)++bl33 p).toArray.size=37:=by rw[List.size_toArray];exact hlen2
    refine ⟨fun t ht=>?_,by rw[e];exact iT,?_⟩
    ·rw[e] at ht
     have:=hB3.1.th (37*i+t) (by have:=HL.out;omega)
     rwa[Nat.zero_add] at this
    ·rw[Array.all_eq_true']
     intro u hu
     exact cells_one _ p u (List.mem_toArray.1 hu)
   dsimp only[RG.putV,Nat.reduceAdd,List.take,List.drop]
   simp only[Act.put,List.setIfInBounds_toArray,List.set_cons_succ,List.set_cons_zero]
   obtain ⟨vz,hvz⟩:∃ v,Hid (tvl (sTi N n s) p=v):=⟨_,rfl⟩
   rw[hV8,hV9,hvz.out,Nat.zero_add]
   clear hR3 hB3 hV8 hV9 hlen2 F2
   generalize V 0=s0
   generalize V 1=s1
   generalize V 2=s2
   generalize V 3=s3
   generalize V 4=s4
   generalize V 5=s5
   generalize V 6=s6
   generalize V 7=s7
   go_wp2_with (first|(refine wpList_store_mid rfl 121 _ _ rfl K (37*i) (wn (sTi N n s)++bl33 p).toArray ?_ ?_ ?_ ?_ ?_ ?_;rfl;exact hvz.out.symm;exact HT.out.1;exact HT.out.2.1;exact HT.out.2.2;rw[show (wn (sTi N n s)++bl33 p).toArray.toList=wn (sTi N n s)++bl33 p from rfl,hW4.out])|fail)
   go_roundg (gk-1)
   case measure=>omega
   case rel=>exact ⟨i+1,by omega,rfl,K4⟩
  ·have hi':¬ (i:Int)<(l.length:Int):=by omega
   obtain rfl:i=l.length:=by omega
   have KS:Hid (Below w.heap.size w wr∧Sm w.heap.size wr (.slice (some ⟨K,0,none⟩) l.length l.length) (l.map (tmT N n))):=by
    refine ⟨KM.out.bl,K,l.length,by rw[List.length_map],by rw[List.length_map];exact Nat.le_refl _,HF.out.2.2.2.2.2.2,KM.out.lt,rows_cells (fun x hx=>?_) fun j hj=>?_⟩
    ·obtain ⟨y,hy,rfl⟩:=List.mem_map.1 hx
     obtain ⟨z,hz,rfl⟩:=List.mem_map.1 hy
     exact HF.out.2.2.1 _ (List.mem_map.2 ⟨z,hz,rfl⟩)
    ·rw[List.getElem_map]
     rw[List.length_map] at hj
     exact KM.out.rw j hj hj
   clear KM
   go_wp2
   go_ret
   exact ⟨_,rfl,KS.out.1,KS.out.2⟩
end
namespace SPA
structure Md (N:Nat) [NeZero N] (M:Type) where
 ad:M→M→M
 zo:M
 ac:(Fin N)→M→M
 comm:∀ a b,ad a b=ad b a
 assoc:∀ a b c,ad (ad a b) c=ad a (ad b c)
 zadd:∀ a,ad zo a=a
 acAd:∀ r a b,ac r (ad a b)=ad (ac r a) (ac r b)
 adAc:∀ r s a,ac (r+s) a=ad (ac r a) (ac s a)
 acAc:∀ r s a,ac r (ac s a)=ac (r*s) a
 acOne:∀ a,ac 1 a=a
 zac:∀ a,ac 0 a=zo
variable {N:Nat} [NeZero N] {M:Type}
namespace Md
variable (D:Md N M)
theorem addz (a:M):D.ad a D.zo=a:=by rw[D.comm,D.zadd]
theorem swap (a b c d:M):D.ad (D.ad a b) (D.ad c d)=D.ad (D.ad a c) (D.ad b d):=by
 rw[D.assoc,← D.assoc b,D.comm b c,D.assoc c,← D.assoc]
theorem acz (r:(Fin N)):D.ac r D.zo=D.zo:=by
 have h:=D.zac D.zo
 rw[← h,D.acAc,show r*0=(0:(Fin N)) by grind]
def sm (f:Nat→M):Nat→M
 | 0=>D.zo
 | n+1=>D.ad (sm f n) (f n)
theorem sm_congr {f g:Nat→M}:∀ n,(∀ i,i<n→f i=g i)→D.sm f n=D.sm g n
 | 0,_=>rfl
 | n+1,h=>by
  show D.ad _ _=D.ad _ _
  rw[sm_congr n fun i hi=>h i (by omega),h n (by omega)]
theorem sm_ad (f g:Nat→M):∀ n,D.sm (fun i=>D.ad (f i) (g i)) n=D.ad (D.sm f n) (D.sm g n)
 | 0=>(D.zadd _).symm
 | n+1=>by
  show D.ad _ _=D.ad (D.ad _ _) (D.ad _ _)
  rw[sm_ad f g n,D.swap]
theorem sm_ac (r:(Fin N)) (f:Nat→M):∀ n,D.sm (fun i=>D.ac r (f i)) n=D.ac r (D.sm f n)
 | 0=>(D.acz r).symm
 | n+1=>by
  show D.ad _ _=D.ac r (D.ad _ _)
  rw[sm_ac r f n,D.acAd]
theorem sm_two (f:Nat→M) (n:Nat):∀ m,D.sm f (n+m)=D.ad (D.sm f n) (D.sm (fun i=>f (n+i)) m)
 | 0=>(D.addz _).symm
 | m+1=>by
  show D.ad (D.sm f (n+m)) _=D.ad _ (D.ad _ _)
  rw[sm_two f n m,D.assoc]
  rfl
instance:Std.Associative D.ad:=⟨D.assoc⟩
instance:Std.Commutative D.ad:=⟨D.comm⟩
def dt (a:Nat→(Fin N)) (g:Nat→M) (n:Nat):M:=D.sm (fun i=>D.ac (a i) (g i)) n
theorem dt_two (a:Nat→(Fin N)) (g:Nat→M) (n m:Nat):D.dt a g (n+m)=D.ad (D.dt a g n) (D.dt (fun i=>a (n+i)) (fun i=>g (n+i)) m):=D.sm_two _ n m
theorem dt_mix (x y:(Fin N)) (hxy:x*y=1) (a c:Nat→(Fin N)) (g k:Nat→M) (n:Nat) :
 D.dt (fun i=>x*a i+y*c i) (fun i=>D.ad (D.ac y (g i)) (D.ac x (k i))) n
  = D.ad (D.ad (D.ac (x*x) (D.dt a k n)) (D.ad (D.dt a g n) (D.dt c k n))) (D.ac (y*y) (D.dt c g n)):=by
 unfold dt
 rw[← D.sm_ac,← D.sm_ac,← D.sm_ad,← D.sm_ad,← D.sm_ad]
 refine D.sm_congr n fun i _=>?_
 rw[D.acAd,D.acAc,D.acAc,D.acAc,D.acAc,show (x*a i+y*c i)*y=a i+y*y*c i by grind,show (x*a i+y*c i)*x=x*x*a i+c i by grind,D.adAc,D.adAc]
 ac_rfl
end Md
def own (N:Nat) [NeZero N]:Md N (Fin N) where
 ad:=(·+·)
 zo:=0
 ac:=(·*·)
 comm:=by grind
 assoc:=by grind
 zadd:=by grind
 acAd:=by grind
 adAc:=by grind
 acAc:=by grind
 acOne:=by grind
 zac:=by grind
namespace Md
variable (D:Md N M)
def pr (a b:Nat→(Fin N)) (n:Nat):(Fin N):=(own N).dt a b n
def hd (a b:Nat→(Fin N)) (g h:Nat→M) (u:M) (n:Nat):M:=D.ad (D.ad (D.dt a g n) (D.dt b h n)) (D.ac (pr a b n) u)
def lf (a b:Nat→(Fin N)) (g h:Nat→M) (u:M) (n:Nat):M:=D.hd a (fun i=>b (n+i)) (fun i=>g (n+i)) h u n
def rt (a b:Nat→(Fin N)) (g h:Nat→M) (u:M) (n:Nat):M:=D.hd (fun i=>a (n+i)) b g (fun i=>h (n+i)) u n
def fS (x y:(Fin N)) (n:Nat) (a:Nat→(Fin N)) (i:Nat):(Fin N):=x*a i+y*a (n+i)
def fP (x y:(Fin N)) (n:Nat) (g:Nat→M) (i:Nat):M:=D.ad (D.ac x (g i)) (D.ac y (g (n+i)))
theorem halved (x y:(Fin N)) (hxy:x*y=1) (a b:Nat→(Fin N)) (g h:Nat→M) (u:M) (n:Nat) :
 D.hd (fS x y n a) (fS y x n b) (D.fP y x n g) (D.fP x y n h) u n
  = D.ad (D.ad (D.ac (x*x) (D.lf a b g h u n)) (D.hd a b g h u (n+n))) (D.ac (y*y) (D.rt a b g h u n)):=by
 have e1:=D.dt_mix x y hxy a (fun i=>a (n+i)) g (fun i=>g (n+i)) n
 have e2:=D.dt_mix y x (by rw[← hxy];grind) b (fun i=>b (n+i)) h (fun i=>h (n+i)) n
 have e3:=(own N).dt_mix x y hxy a (fun i=>a (n+i)) b (fun i=>b (n+i)) n
 unfold lf rt hd pr
 rw[show D.dt (fS x y n a) (D.fP y x n g) n=_ from e1,show D.dt (fS y x n b) (D.fP x y n h) n=_ from e2,show (own N).dt (fS x y n a) (fS y x n b) n=_ from e3,D.dt_two,D.dt_two,(own N).dt_two]
 simp only[D.acAd,D.acAc]
 rw[show (own N).ad ((own N).ad ((own N).ac (x*x) ((own N).dt a (fun i=>b (n+i)) n)) ((own N).ad ((own N).dt a b n) ((own N).dt (fun i=>a (n+i)) (fun i=>b (n+i)) n))) ((own N).ac (y*y) ((own N).dt (fun i=>a (n+i)) b n))
  = (x*x*(own N).dt a (fun i=>b (n+i)) n+(own N).ad ((own N).dt a b n) ((own N).dt (fun i=>a (n+i)) (fun i=>b (n+i)) n))+y*y*(own N).dt (fun i=>a (n+i)) b n from rfl,D.adAc,D.adAc]
 ac_rfl
def pv {S:Type} (ch:S→M→M→S × (Fin N)) (iv:(Fin N)→(Fin N)) (u:M):Nat→S→(Nat→(Fin N))→(Nat→(Fin N))→(Nat→M)→(Nat→M)→List (M × M) × (Fin N) × (Fin N)
 | 0,_,a,b,_,_=>([],a 0,b 0)
 | t+1,s,a,b,g,h =>
  let L:=D.lf a b g h u (2^t)
  let T:=D.rt a b g h u (2^t)
  let c:=ch s L T
  let r:=pv ch iv u t c.1 (fS c.2 (iv c.2) (2^t) a) (fS (iv c.2) c.2 (2^t) b) (D.fP (iv c.2) c.2 (2^t) g) (D.fP c.2 (iv c.2) (2^t) h)
  ((L,T) :: r.1,r.2)
def vf {S:Type} (ch:S→M→M→S × (Fin N)) (iv:(Fin N)→(Fin N)) (u:M) (a b:(Fin N)):List (M × M)→S→M→(Nat→M)→(Nat→M)→Prop
 | [],_,p,g,h=>p=D.ad (D.ad (D.ac a (g 0)) (D.ac b (h 0))) (D.ac (a*b) u)
 | (L,T) :: l,s,p,g,h =>
  let c:=ch s L T
  let x:=c.2
  let y:=iv x
  vf ch iv u a b l c.1 (D.ad (D.ad (D.ac (x*x) L) p) (D.ac (y*y) T)) (D.fP y x (2^l.length) g) (D.fP x y (2^l.length) h)
theorem hd_one (a b:Nat→(Fin N)) (g h:Nat→M) (u:M):D.hd a b g h u 1=D.ad (D.ad (D.ac (a 0) (g 0)) (D.ac (b 0) (h 0))) (D.ac (a 0*b 0) u):=by
 show D.ad (D.ad (D.ad D.zo _) (D.ad D.zo _)) (D.ac ((0:(Fin N))+a 0*b 0) u)=_
 rw[D.zadd,D.zadd,show (0:(Fin N))+a 0*b 0=a 0*b 0 by grind]
def cm (H G:M) (c r:(Fin N)):M:=D.ad (D.ac c H) (D.ac r G)
end Md
end SPA
section
open SPA
variable {P:Nat} [NeZero P] {N:Nat} [NeZero N]
abbrev OnP (P:Nat) [NeZero P]:={p:EC.Pt P // EC.On p}
def ptMd (C:Fld P) (hord:∀ r:EC.Pt P,EC.On r→EC.mul N r=none):Md N (OnP P) where
 ad a b:=⟨EC.add a.1 b.1,C.cur.on a.2 b.2⟩
 zo:=⟨none,EC.none_on⟩
 ac r a:=⟨EC.mul r.val a.1,EC.mul_on C.cur a.2 _⟩
 comm a b:=Subtype.ext (C.cur.comm a.2 b.2)
 assoc a b c:=Subtype.ext (C.cur.assoc a.2 b.2 c.2)
 zadd _:=rfl
 acAd r a b:=Subtype.ext (mul_twoB C a.2 b.2 _)
 adAc r s a:=Subtype.ext (by
  show EC.mul (r+s).val a.1=_
  rw[Fin.val_add,mul_mod C hord a.2,EC.mul_add C.cur a.2])
 acAc r s a:=Subtype.ext (by
  show _=EC.mul (r*s).val a.1
  rw[Fin.val_mul,mul_mod C hord a.2,Nat.mul_comm,EC.mul_mul C.cur a.2])
 acOne a:=Subtype.ext (by
  show EC.mul (1:Fin N).val a.1=_
  rw[show (1:Fin N).val=1%N from rfl,mul_mod C hord a.2]
  rfl)
 zac a:=Subtype.ext (by
  show EC.mul (0:Fin N).val a.1=_
  rw[show (0:Fin N).val=0%N from rfl,mul_mod C hord a.2]
  rfl)
omit [NeZero N] in
theorem pl_val (a b:Fin N):(a+b).val=sPl N a.val b.val:=Fin.val_add a b
omit [NeZero N] in
theorem ti_val (a b:Fin N):(a*b).val=sTi N a.val b.val:=Fin.val_mul a b
def ivF (a:Fin N):Fin N:=⟨sIn N a.val,Nat.mod_lt _ (Nat.pos_of_neZero N)⟩
theorem iv_mul (h:NT.IsP N) (a:Fin N) (ha:a.val≠0):a*ivF a=1:=by
 apply Fin.ext
 have h2:=h.1
 have hd:¬ N ∣ a.val:=fun hd=>by
  have:=Nat.le_of_dvd (by omega) hd
  have:=a.isLt
  omega
 rw[Fin.val_mul,show (ivF a).val=a.val^(N-2)%N from rfl,Nat.mul_mod_mod,← Nat.pow_succ',show (N-2).succ=N-1 by omega,h.fermat1 a.val hd]
 show 1=1%N
 rw[Nat.mod_eq_of_lt (by omega)]
end
section
open SPA
variable {P:Nat} [NeZero P] {N:Nat} [NeZero N]
structure Tl (N:Nat) (l:List (Nat × Bs)) (X:OnP P):Prop where
 pts:PtsL P l
 lt:∀ x∈l,x.1<N
 sum:sumL P l=X.1
omit [NeZero N] in
theorem sumL_app (C:Fld P):∀ {l m:List (Nat × Bs)},PtsL P l→PtsL P m→sumL P (l++m)=EC.add (sumL P l) (sumL P m)
 | [],_,_,_=>rfl
 | x :: r,m,h,hm=>by
  have hr:PtsL P r:=fun z hz=>h z (List.mem_cons_of_mem _ hz)
  show EC.add (EC.mul x.1 (unwr P x.2)) (sumL P (r++m))=EC.add (EC.add _ _) _
  rw[sumL_app C hr hm]
  exact (C.cur.assoc (EC.mul_on C.cur (h.on C List.mem_cons_self) _) (sumL_on C hr) (sumL_on C hm)).symm
omit [NeZero N] in
theorem sumL_tm (C:Fld P) (hord:∀ r:EC.Pt P,EC.On r→EC.mul N r=none) (n:Nat):∀ {l:List (Nat × Bs)},PtsL P l→sumL P (l.map (tmT N n))=EC.mul n (sumL P l)
 | [],_=>(EC.mul_none n).symm
 | x :: r,h=>by
  have hr:PtsL P r:=fun z hz=>h z (List.mem_cons_of_mem _ hz)
  have hx:=h.on C (x:=x) List.mem_cons_self
  show EC.add (EC.mul (sTi N n x.1) (unwr P x.2)) (sumL P (r.map (tmT N n)))=EC.mul n (EC.add (EC.mul x.1 (unwr P x.2)) (sumL P r))
  rw[sumL_tm C hord n hr,mul_twoB C (EC.mul_on C.cur hx _) (sumL_on C hr)]
  unfold sTi
  rw[mul_mod C hord hx,Nat.mul_comm,EC.mul_mul C.cur hx]
section
variable (C:Fld P) (hord:∀ r:EC.Pt P,EC.On r→EC.mul N r=none)
theorem Tl.nil:Tl N [] (ptMd C hord).zo:=⟨fun _ h=>(List.not_mem_nil h).elim,fun _ h=>(List.not_mem_nil h).elim,rfl⟩
theorem Tl.app {l m:List (Nat × Bs)} {X Y:OnP P} (h:Tl N l X) (k:Tl N m Y):Tl N (l++m) ((ptMd C hord).ad X Y):=
 ⟨fun x hx=>(List.mem_append.1 hx).elim (h.pts x) (k.pts x),fun x hx=>(List.mem_append.1 hx).elim (h.lt x) (k.lt x),by
  rw[sumL_app C h.pts k.pts,h.sum,k.sum]
  rfl⟩
theorem Tl.tm {l:List (Nat × Bs)} {X:OnP P} (h:Tl N l X) (n:Fin N):Tl N (l.map (tmT N n.val)) ((ptMd C hord).ac n X):=
 ⟨fun x hx=>by
  obtain ⟨y,hy,rfl⟩:=List.mem_map.1 hx
  exact h.pts y hy,fun x hx=>by
  obtain ⟨y,hy,rfl⟩:=List.mem_map.1 hx
  exact Nat.mod_lt _ (Nat.pos_of_neZero N),by
  rw[sumL_tm C hord n.val h.pts,h.sum]
  rfl⟩
omit [NeZero N] in
theorem Tl.one (C:Fld P) (h1:1<N) (X:OnP P):Tl N [(1,wr X.1)] X:=
 ⟨fun x hx=>⟨X.1,X.2,by rw[List.mem_singleton.1 hx]⟩,fun x hx=>by rw[List.mem_singleton.1 hx];exact h1,by
  show EC.add (EC.mul 1 (unwr P (wr X.1))) none=_
  rw[unwr_wr C X.2,EC.add_none]
  rfl⟩
def cmbT (N:Nat) (a:Nat→Nat) (T:Nat→List (Nat × Bs)):Nat→List (Nat × Bs)
 | 0=>[]
 | n+1=>cmbT N a T n++(T n).map (tmT N (a n))
theorem cmbT_tl {a:Nat→Fin N} {T:Nat→List (Nat × Bs)} {g:Nat→OnP P}:∀ n,(∀ i,i<n→Tl N (T i) (g i))→Tl N (cmbT N (fun i=>(a i).val) T n) ((ptMd C hord).dt a g n)
 | 0,_=>Tl.nil C hord
 | n+1,h=>(cmbT_tl n fun i hi=>h i (by omega)).app C hord ((h n (by omega)).tm C hord (a n))
theorem cmbT_len (N:Nat) (a:Nat→Nat) {T:Nat→List (Nat × Bs)} {c:Nat}:∀ n,(∀ i,i<n→(T i).length=c)→(cmbT N a T n).length=c*n
 | 0,_=>rfl
 | n+1,h=>by
  show (cmbT N a T n++_).length=_
  rw[List.length_append,List.length_map,cmbT_len N a n (fun i hi=>h i (by omega)),h n (by omega),Nat.mul_succ]
def fldT (N x y n:Nat) (T:Nat→List (Nat × Bs)) (i:Nat):List (Nat × Bs):=(T i).map (tmT N x)++(T (n+i)).map (tmT N y)
theorem fldT_tl {T:Nat→List (Nat × Bs)} {g:Nat→OnP P} (x y:Fin N) (n:Nat) (h:∀ i,i<n+n→Tl N (T i) (g i)) (i:Nat) (hi:i<n):Tl N (fldT N x.val y.val n T i) ((ptMd C hord).fP x y n g i):=
 ((h i (by omega)).tm C hord x).app C hord ((h (n+i) (by omega)).tm C hord y)
theorem fldT_len (N x y n:Nat) {T:Nat→List (Nat × Bs)} {c:Nat} (h:∀ i,i<n+n→(T i).length=c) (i:Nat) (hi:i<n):(fldT N x y n T i).length=c+c:=by
 unfold fldT
 rw[List.length_append,List.length_map,List.length_map,h i (by omega),h (n+i) (by omega)]
end
end
section
open SPA
variable {N:Nat} [NeZero N]
def ofF (N:Nat) [NeZero N] (n:Nat):Fin N:=⟨n%N,Nat.mod_lt _ (Nat.pos_of_neZero N)⟩
theorem ofF_zero:ofF N 0=0:=Fin.ext rfl
end
namespace SPA
variable {N:Nat} [NeZero N] {M:Type}
namespace Md
variable (D:Md N M)
theorem own_neg (p:M):D.ad p (D.ac (-1) p)=D.zo:=by
 have h:=D.adAc 1 (-1) p
 rw[show (1:(Fin N))+-1=0 by grind,D.zac,D.acOne] at h
 exact h.symm
theorem sub_zo (e p:M):D.ad e (D.ac (-1) p)=D.zo↔p=e:=by
 constructor
 ·intro h
  have h1:D.ad (D.ad e (D.ac (-1) p)) p=D.ad D.zo p:=by rw[h]
  rw[D.assoc,D.comm _ p,D.own_neg,D.addz,D.zadd] at h1
  exact h1.symm
 ·rintro rfl
  exact D.own_neg p
theorem inv_uniq {a b c:(Fin N)} (hb:a*b=1) (hc:a*c=1):b=c:=by
 have:b=(a*b)*c+b*(1-a*c):=by grind
 rw[hb,hc] at this
 grind
structure Vs (S M:Type) where
 s:S
 p:M
 g:Nat→M
 h:Nat→M
structure Ps (S R M:Type) where
 s:S
 a:Nat→R
 b:Nat→R
 g:Nat→M
 h:Nat→M
section
variable {S:Type} (ch:S→M→M→S × (Fin N)) (iv:(Fin N)→(Fin N)) (u:M)
def vstep (n:Nat) (L T:M) (v:Vs S M):Vs S M:=
 let c:=ch v.s L T
 ⟨c.1,D.ad (D.ad (D.ac (c.2*c.2) L) v.p) (D.ac (iv c.2*iv c.2) T),D.fP (iv c.2) c.2 n v.g,D.fP c.2 (iv c.2) n v.h⟩
def vst (t:Nat) (L T:Nat→M) (v:Vs S M):Nat→Vs S M
 | 0=>v
 | i+1=>D.vstep ch iv (2^(t-(i+1))) (L i) (T i) (vst t L T v i)
def pL (n:Nat) (q:Ps S (Fin N) M):M:=D.lf q.a q.b q.g q.h u n
def pT (n:Nat) (q:Ps S (Fin N) M):M:=D.rt q.a q.b q.g q.h u n
def pstep (n:Nat) (q:Ps S (Fin N) M):Ps S (Fin N) M:=
 let c:=ch q.s (D.pL u n q) (D.pT u n q)
 ⟨c.1,fS c.2 (iv c.2) n q.a,fS (iv c.2) c.2 n q.b,D.fP (iv c.2) c.2 n q.g,D.fP c.2 (iv c.2) n q.h⟩
def pst (t:Nat) (q:Ps S (Fin N) M):Nat→Ps S (Fin N) M
 | 0=>q
 | i+1=>D.pstep ch iv u (2^(t-(i+1))) (pst t q i)
def pLi (t:Nat) (q:Ps S (Fin N) M) (i:Nat):M:=D.pL u (2^(t-(i+1))) (D.pst ch iv u t q i)
def pTi (t:Nat) (q:Ps S (Fin N) M) (i:Nat):M:=D.pT u (2^(t-(i+1))) (D.pst ch iv u t q i)
def hdP (n:Nat) (q:Ps S (Fin N) M):M:=D.hd q.a q.b q.g q.h u n
theorem beside (hiv:∀ s L T,(ch s L T).2*iv (ch s L T).2=1) (t:Nat) (q:Ps S (Fin N) M):∀ i,i≤t →
 D.vst ch iv t (D.pLi ch iv u t q) (D.pTi ch iv u t q) ⟨q.s,D.hdP u (2^t) q,q.g,q.h⟩ i
  = ⟨(D.pst ch iv u t q i).s,D.hdP u (2^(t-i)) (D.pst ch iv u t q i),(D.pst ch iv u t q i).g,(D.pst ch iv u t q i).h⟩
 | 0,_=>rfl
 | i+1,hi=>by
  have ih:=beside hiv t q i (by omega)
  show D.vstep ch iv _ _ _ (D.vst ch iv t _ _ _ i)=_
  rw[ih]
  have e:2^(t-i)=2^(t-(i+1))+2^(t-(i+1)):=by
   rw[show t-i=t-(i+1)+1 by omega,Nat.pow_succ]
   omega
  show (⟨_,_,_,_⟩:Vs S M)=⟨(D.pstep ch iv u _ (D.pst ch iv u t q i)).s,D.hdP u _ (D.pstep ch iv u _ (D.pst ch iv u t q i)),(D.pstep ch iv u _ (D.pst ch iv u t q i)).g,(D.pstep ch iv u _ (D.pst ch iv u t q i)).h⟩
  unfold pLi pTi
  generalize D.pst ch iv u t q i=r
  rw[e]
  have h:=D.halved _ _ (hiv r.s (D.pL u (2^(t-(i+1))) r) (D.pT u (2^(t-(i+1))) r)) r.a r.b r.g r.h u (2^(t-(i+1)))
  congr 1
  exact h.symm
def vend (a b:(Fin N)) (v:Vs S M):Prop:=v.p=D.ad (D.ad (D.ac a (v.g 0)) (D.ac b (v.h 0))) (D.ac (a*b) u)
theorem found (hiv:∀ s L T,(ch s L T).2*iv (ch s L T).2=1) (t:Nat) (q:Ps S (Fin N) M) :
 D.vend u ((D.pst ch iv u t q t).a 0) ((D.pst ch iv u t q t).b 0) (D.vst ch iv t (D.pLi ch iv u t q) (D.pTi ch iv u t q) ⟨q.s,D.hdP u (2^t) q,q.g,q.h⟩ t):=by
 rw[D.beside ch iv u hiv t q t (Nat.le_refl _),Nat.sub_self]
 exact D.hd_one _ _ _ _ u
end
end Md
end SPA
section
open SPA
variable {N:Nat} [NeZero N]
theorem iv_sq (h:NT.IsP N) (x:Fin N) (hx:x.val≠0) (hxx:(x*x).val≠0):ivF (x*x)=ivF x*ivF x:=by
 refine Md.inv_uniq (iv_mul h _ hxx) ?_
 have e:=iv_mul h x hx
 generalize ivF x=y at *
 grobner
end
section
open SPA
variable {P:Nat} [NeZero P] {N:Nat} [NeZero N]
def oneF (a:Fin N):Fin N:=if a=0 then 1 else a
theorem oneF_ne (h:1<N) (a:Fin N):(oneF a).val≠0:=by
 unfold oneF
 split
 ·show 1%N≠0
  rw[Nat.mod_eq_of_lt h]
  decide
 ·rename_i h0
  exact fun e=>h0 (Fin.ext (e.trans (Nat.zero_mod N).symm))
def saidF (lab1 lab2:List UInt8) (L X Y:Bs):Bs:=SP.sayL (SP.sayL L lab1 X.toList) lab2 Y.toList
def askF (N:Nat) [NeZero N] (L:Bs):Fin N:=oneF (ofF N (cha N L))
def wentF (L:Bs):Bs:=SP.askedL L [99,104,97,108,108,101,110,103,101]
def chF (N:Nat) [NeZero N] (L:Bs) (X Y:OnP P):Bs × Fin N:=
 let L2:=saidF [108,101,102,116] [114,105,103,104,116] L (wr X.1) (wr Y.1)
 (wentF L2,askF N L2)
theorem askF_ne (h:1<N) (L:Bs):(askF N L).val≠0:=by
 unfold askF
 exact oneF_ne h _
theorem chF_two (L:Bs) (X Y:OnP P):∃ L2,(chF N L X Y).2=askF N L2:=by
 unfold chF
 dsimp only
 exact ⟨_,rfl⟩
theorem chF_iv (h:NT.IsP N) (L:Bs) (X Y:OnP P):(chF N L X Y).2*ivF (chF N L X Y).2=1:=by
 obtain ⟨L2,e⟩:=chF_two (N:=N) L X Y
 rw[e]
 have:=askF_ne h.1 L2
 generalize askF N L2=a at *
 exact iv_mul h a this
theorem chF_sq (h:NT.IsP N) (L:Bs) (X Y:OnP P):((chF N L X Y).2*(chF N L X Y).2).val≠0:=fun e=>by
 have h1:=chF_iv h L X Y
 have h2:(chF N L X Y).2*(chF N L X Y).2=0:=Fin.ext (e.trans (Nat.zero_mod N).symm)
 generalize (chF N L X Y).2=x at *
 generalize ivF x=y at *
 have h3:(1:Fin N)=0:=by grobner
 have h4:1%N=0%N:=congrArg Fin.val h3
 have:=h.1
 rw[Nat.mod_eq_of_lt (by omega),Nat.zero_mod] at h4
 exact absurd h4 (by decide)
theorem foundF (C:Fld P) (hord:∀ r:EC.Pt P,EC.On r→EC.mul N r=none) (h:NT.IsP N) (u:OnP P) (t:Nat) (q:Md.Ps Bs (Fin N) (OnP P)) :
 (ptMd C hord).vend u (((ptMd C hord).pst (chF N) ivF u t q t).a 0) (((ptMd C hord).pst (chF N) ivF u t q t).b 0)
  ((ptMd C hord).vst (chF N) ivF t ((ptMd C hord).pLi (chF N) ivF u t q) ((ptMd C hord).pTi (chF N) ivF u t q) ⟨q.s,(ptMd C hord).hdP u (2^t) q,q.g,q.h⟩ t):=
 (ptMd C hord).found (chF N) ivF u (chF_iv h) t q
end
namespace SPA
variable {N:Nat} [NeZero N] {M:Type}
namespace Md
variable (D:Md N M)
theorem step_pro (a b p:M):D.ad (D.ad p a) b=D.ad (D.ad a p) b:=by ac_rfl
end Md
end SPA
section
open SPA
variable {P:Nat} [NeZero P] {N:Nat} [NeZero N]
theorem Tl.pt (C:Fld P) (hord:∀ r:EC.Pt P,EC.On r→EC.mul N r=none) (n:Fin N) (X:OnP P):Tl N [(n.val,wr X.1)] ((ptMd C hord).ac n X):=
 ⟨fun x hx=>⟨X.1,X.2,by rw[List.mem_singleton.1 hx]⟩,fun x hx=>by rw[List.mem_singleton.1 hx];exact n.isLt,by
  show EC.add (EC.mul n.val (unwr P (wr X.1))) none=_
  rw[unwr_wr C X.2,EC.add_none]
  rfl⟩
structure Gd (N n c:Nat) (T:Nat→List (Nat × Bs)) (g:Nat→OnP P):Prop where
 tl:∀ i,i<n→Tl N (T i) (g i)
 len:∀ i,i<n→(T i).length=c
section
variable (C:Fld P) (hord:∀ r:EC.Pt P,EC.On r→EC.mul N r=none)
theorem Gd.fold {n c:Nat} {T:Nat→List (Nat × Bs)} {g:Nat→OnP P} (h:Gd N (n+n) c T g) (x y:Fin N):Gd N n (c+c) (fldT N x.val y.val n T) ((ptMd C hord).fP x y n g):=
 ⟨fun i hi=>fldT_tl C hord x y n h.tl i hi,fun i hi=>fldT_len N x.val y.val n h.len i hi⟩
theorem Gd.cmb {n c:Nat} {T:Nat→List (Nat × Bs)} {g:Nat→OnP P} (h:Gd N n c T g) (a:Nat→Fin N):Tl N (cmbT N (fun i=>(a i).val) T n) ((ptMd C hord).dt a g n)∧(cmbT N (fun i=>(a i).val) T n).length=c*n:=
 ⟨cmbT_tl C hord n h.tl,cmbT_len N _ n h.len⟩
omit [NeZero N] in
theorem Gd.low {n m c:Nat} {T:Nat→List (Nat × Bs)} {g:Nat→OnP P} (h:Gd N (n+m) c T g):Gd N n c T g:=⟨fun i hi=>h.tl i (by omega),fun i hi=>h.len i (by omega)⟩
omit [NeZero N] in
theorem Gd.high {n m c:Nat} {T:Nat→List (Nat × Bs)} {g:Nat→OnP P} (h:Gd N (n+m) c T g):Gd N m c (fun i=>T (n+i)) (fun i=>g (n+i)):=⟨fun i hi=>h.tl (n+i) (by omega),fun i hi=>h.len (n+i) (by omega)⟩
def hidT (N:Nat) (a b:Nat→Nat) (p:Nat) (G H:Nat→List (Nat × Bs)) (U:List (Nat × Bs)) (n:Nat):List (Nat × Bs):=cmbT N a G n++cmbT N b H n++U.map (tmT N p)
theorem hid_tl {n c d:Nat} {G H:Nat→List (Nat × Bs)} {U:List (Nat × Bs)} {g h:Nat→OnP P} {u:OnP P} (hG:Gd N n c G g) (hH:Gd N n c H h) (hU:Tl N U u) (hd:U.length=d) (a b:Nat→Fin N) :
 Tl N (hidT N (fun i=>(a i).val) (fun i=>(b i).val) (Md.pr a b n).val G H U n) ((ptMd C hord).hd a b g h u n)∧(hidT N (fun i=>(a i).val) (fun i=>(b i).val) (Md.pr a b n).val G H U n).length=c*n+c*n+d:=by
 refine ⟨((hG.cmb C hord a).1.app C hord (hH.cmb C hord b).1).app C hord (hU.tm C hord _),?_⟩
 unfold hidT
 rw[List.length_append,List.length_append,List.length_map,cmbT_len N _ n hG.len,cmbT_len N _ n hH.len,hd]
end
end
section
open Go.RowKit Go.Sort Go.Deep
variable {P:Nat} [NeZero P] {N:Nat}
def BL (W:World) (q:Option Addr) (n:Nat) (X:Nat→List UInt8):Prop:=0<n→∃ g,q=some ⟨g,0,none⟩∧g<W.heap.size∧∀ i,i<n→∃ a l c,W.cell? ⟨g,i,none⟩=some (.slice a l c)∧SP.PartOk W (.slice a l c) (X i)
structure Ar (w W:World) (K e n i:Nat) (R:Nat→List Value):Prop where
 bl:Below w.heap.size w W
 lt:K<W.heap.size
 th:W.there K 0 (e*n)
 rw:∀ j,j<i→W.rangeAt K (e*j) (R j)
theorem Ar.grow {w W W':World} {K e n i:Nat} {R:Nat→List Value} (h:Ar w W K e n i R) (hb:Below W.heap.size W W'):Ar w W' K e n i R:=
 ⟨h.bl.trans (hb.mono h.bl.size),Nat.lt_of_lt_of_le h.lt hb.size,RG.there_below h.th hb h.lt,fun j hj=>RG.range_below (h.rw j hj) hb h.lt⟩
theorem Ar.put {w W:World} {K e n i:Nat} {R:Nat→List Value} (h:Ar w W K e n i R) (hK:w.heap.size≤K) (hi:i<n) (hL:∀ j,j≤i→(R j).length=e):Ar w (W.setCells K (e*i) (R i)) K e n (i+1) R:=by
 refine ⟨RG.below_setCells hK _ _ _ h.bl,by rw[RG.setCells_size];exact h.lt,World.there_setCells h.th _ _ _,fun j hj=>?_⟩
 by_cases hji:j=i
 ·subst hji
  refine World.rangeAt_setCells_same W K _ _ fun t ht=>?_
  rw[hL j (Nat.le_refl _)] at ht
  have h1:e*j+e≤e*n:=by
   have:=Nat.mul_le_mul_left e (Nat.succ_le_of_lt hi)
   rwa[Nat.mul_succ] at this
  have:=h.th (e*j+t) (by omega)
  rwa[Nat.zero_add] at this
 ·have h1:e*j+e≤e*i:=by
   have:=Nat.mul_le_mul_left e (show j+1≤i by omega)
   rwa[Nat.mul_succ] at this
  exact World.rangeAt_setCells_apart (h.rw j (by omega)) K _ _ (Or.inr (Or.inl (by rw[hL j (by omega)];omega)))
theorem mkArr {T E:TypeId} {e:Nat} (hu:Tryz.prog.underlying T=some (.slice E)) (hi:(Tryz.prog.info? E).map (fun i=>(i.size,decide (i.bytes≤4000),i.zero.isSome))=some (e,true,true)) (n:Nat) (hN:n≤512):∃ C0:List Value,C0.length=e*n∧∀ w:World,(Instr.makeSlice T (.int .i64 n) (.int .i64 n)).run Tryz.prog w=.ok (.slice (some ⟨w.heap.size,0,none⟩) n n) (w.alloc (.cells C0.toArray E)):=by
 obtain ⟨i,hi1,hi2⟩:=Option.map_eq_some_iff.1 hi
 simp only[Prod.mk.injEq,decide_eq_true_eq] at hi2
 obtain ⟨h1,h2,h3⟩:=hi2
 obtain ⟨z,hz⟩:=Option.isSome_iff_exists.1 h3
 refine ⟨(madeCells z.cells (n*e)).toList,by rw[Array.length_toList,size_madeCells,Nat.mul_comm],fun w=>?_⟩
 have hb:(i.bytes:Int)*(n:Int)≤281474976710656:=by
  have:i.bytes*n≤4000*512:=Nat.mul_le_mul h2 hN
  have h5:((i.bytes*n:Nat):Int)≤281474976710656:=by omega
  rwa[Int.natCast_mul] at h5
 have:=run_make (P:=Tryz.prog) w T E i z hu hi1 hz .i64 .i64 (n:Int) (n:Int) (by omega) (by omega) hb (by omega)
 rw[Int.toNat_natCast,h1] at this
 rw[Array.toArray_toList]
 exact this
theorem Ar.new {w w1:World} {K e n:Nat} {C0:List Value} {E:TypeId} (R:Nat→List Value) (hC:C0.length=e*n) (hw:w.alloc (.cells C0.toArray E)=w1) (hK:w.heap.size=K):Ar w w1 K e n 0 R:=by
 subst hK
 have hR:Row w1 w.heap.size C0:=by rw[← hw];exact row_new w _ _
 exact ⟨by rw[← hw];exact below1 _ _,hR.1,by rw[← hC];exact hR.2.2,fun j hj=>absurd hj (Nat.not_lt_zero _)⟩
theorem sScalarK_c (O:Ord N) (r:Nat) (L:Bs) (lab:ByteArray) (w:World) (hlab:lab.size≤1048576) (hL:Holds encB w r 0 L) (hl:L.size=32) :
 Calls Tryz.prog 170 #[.agg #[.pointer (some ⟨r,0,none⟩)],.string lab] w (Ret fun e w'=>SP.Only r 0 32 w w'∧Holds encB w' r 0 (SP.askedL L lab.data.toList)∧e=nv (redu N (SP.askL L lab.data.toList 64))):=by
 obtain ⟨A,hA⟩:∃ A,Hid (SP.askL L lab.data.toList 64=A):=⟨_,rfl⟩
 obtain ⟨L',hL'⟩:∃ L',Hid (SP.askedL L lab.data.toList=L'):=⟨_,rfl⟩
 rw[hL'.out]
 have hLs:L'.size=32:=by rw[← hL'.out];exact SP.askedL_size _ _
 have hAs:A.size=64:=by rw[← hA.out];exact SP.askL_size _ _ _
 rw[hA.out]
 have hr:=Holds.lt hL (by omega)
 obtain ⟨w1,hw1⟩:∃ w1,Hid ((w.alloc (.cells #[.pointer (some ⟨r,0,none⟩)] 68)).alloc (.cells #[.int .u64 0,.int .u64 0,.int .u64 0,.int .u64 0] 52)=w1):=⟨_,rfl⟩
 have K1:Hid (Row w1 (w.heap.size+1) [.int .u64 0,.int .u64 0,.int .u64 0,.int .u64 0]∧Below w.heap.size w w1∧Holds encB w1 r 0 L):=by
  rw[← hw1.out]
  have hb:Below w.heap.size w ((w.alloc (.cells #[.pointer (some ⟨r,0,none⟩)] 68)).alloc (.cells #[.int .u64 0,.int .u64 0,.int .u64 0,.int .u64 0] 52)):=(below1 w _).alloc (by rw[World.size_alloc];omega) _
  have hR:=row_new (w.alloc (.cells #[.pointer (some ⟨r,0,none⟩)] 68)) [.int .u64 0,.int .u64 0,.int .u64 0,.int .u64 0] 52
  rw[World.size_alloc] at hR
  exact ⟨hR,hb,Holds.below hL hb hr⟩
 clear hL
 go_enter Tryz.func170,Tryz.ntmps170
 go_wp2_with fail
 rw[hw1.out]
 clear hw1
 refine (SP.Ask_yes r L lab 64 w1 hlab (by decide) K1.out.2.2 hl).mono ?_
 rintro e w2 ⟨r2,rfl,h1,hO,hL2,hA2⟩
 rw[hA.out] at hA2
 rw[hL'.out] at hL2
 have hr2:=Holds.lt hL2 (by omega)
 have K2:Hid (Row w2 (w.heap.size+1) [.int .u64 0,.int .u64 0,.int .u64 0,.int .u64 0]∧SP.Only r 0 32 w w2∧Holds encB w2 r2 0 A∧Holds encB w2 r 0 L'):=⟨K1.out.1.only hO (by omega),(SP.Only.of_below K1.out.2.1 rfl hr).trans hO,hA2,hL2⟩
 clear h1 hO hA2 hL2 K1
 go_wp2_with fail
 refine (reduced_c O r2 A hAs w2 (Holds.lt K2.out.2.2.1 (by omega)) K2.out.2.2.1).mono ?_
 rintro e w4 ⟨v,rfl,hb4,rfl⟩
 have K4:Hid (Row w4 (w.heap.size+1) [.int .u64 0,.int .u64 0,.int .u64 0,.int .u64 0]∧SP.Only r 0 32 w w4∧Holds encB w4 r 0 L'):=⟨K2.out.1.below hb4,K2.out.2.1.trans (SP.Only.of_below hb4 rfl (Nat.lt_of_lt_of_le hr K2.out.2.1.size)),Holds.below K2.out.2.2.2 hb4 hr2⟩
 clear hb4 K2
 obtain ⟨m,hm⟩:∃ m,Hid (redu N A=m):=⟨_,rfl⟩
 rw[hm.out]
 obtain ⟨w5,hw5⟩:∃ w5,Hid (w4.setCells (w.heap.size+1) 0 (wn m)=w5):=⟨_,rfl⟩
 have K5:Hid (Row w5 (w.heap.size+1) (wn m)∧SP.Only r 0 32 w w5∧Holds encB w5 r 0 L'):=by
  rw[← hw5.out]
  refine ⟨K4.out.1.put rfl,only_setCells K4.out.2.1 hr (by omega) _,fun j hj=>?_⟩
  have e:=RG.setCells_other (w.heap.size+1) (wn m) 0 w4 r (by omega)
  rw[World.cell?_of_block (a:=⟨r,0+j,none⟩) e,World.frozen?_of_block (a:=⟨r,0+j,none⟩) e]
  exact K4.out.2.2 j hj
 obtain ⟨vm,hvm⟩:∃ vm,Hid (nv m=vm):=⟨_,rfl⟩
 rw[hvm.out]
 go_wp2_with (refine wpList_store_mid rfl 52 _ _ rfl (w.heap.size+1) 0 (wn m).toArray ?_ ?_ ?_ ?_ ?_ ?_;rfl;exact hvm.out.symm;exact K4.out.1.2.2;exact i40;exact wn_one m;rw[show (wn m).toArray.toList=wn m from rfl,hw5.out])
 refine bodyPost_ret (results_cell 4 52 rfl K5.out.1 rfl u40 i40) rfl ?_
 exact ⟨_,rfl,K5.out.2.1,K5.out.2.2,by rw[hm.out];rfl⟩
theorem row_same {W W':World} {k:Nat} {vs:List Value} (h:Row W k vs) (hs:W.heap.size≤W'.heap.size) (e:W'.heap[k]? = W.heap[k]?):Row W' k vs:=
 ⟨Nat.lt_of_lt_of_le h.1 hs,fun j v hj=>by rw[World.cell?_of_block (a:=⟨k,0+j,none⟩) e];exact h.2.1 j v hj,fun j hj=>by rw[World.cell?_of_block (a:=⟨k,0+j,none⟩) e,World.frozen?_of_block (a:=⟨k,0+j,none⟩) e];exact h.2.2 j hj⟩
structure Wk (w W:World) (k7 r:Nat) (L:Bs):Prop where
 bl:Below w.heap.size w W
 r7:Row W k7 [.pointer (some ⟨r,0,none⟩)]
 lg:Holds encB W r 0 L
 lr:w.heap.size≤r
 n7:k7≠r
theorem uS4:Tryz.prog.underlying 46=some (.slice 52):=by kernel_rfl
theorem iS4:(Tryz.prog.info? 52).map (fun i=>(i.size,decide (i.bytes≤4000),i.zero.isSome))=some (4,true,true):=by kernel_rfl
end
section
open Go.RowKit Go.Sort Go.Deep
variable {Q Q':Nat→Prop} {W W':World} {v:Value} {l:List (Nat × Bs)} {n:Nat}
structure Kq (Q:Nat→Prop) (W W':World):Prop where
 size:W.heap.size≤W'.heap.size
 block:∀ g,Q g→g<W.heap.size→W'.heap[g]? = W.heap[g]?
theorem Kq.of_below (hb:Below W.heap.size W W'):Kq Q W W':=⟨hb.size,fun g _ h=>hb.block g h⟩
theorem Kq.of_only {r o m:Nat} (hO:SP.Only r o m W W') (hQ:∀ g,Q g→g≠r):Kq Q W W':=⟨hO.size,fun g h1 h2=>hO.block g h2 (hQ g h1)⟩
theorem Kq.range {g o:Nat} {vs:List Value} (h:Kq Q W W') (hq:Q g) (hg:g<W.heap.size) (hr:W.rangeAt g o vs):W'.rangeAt g o vs:=fun j v hj=>by
 rw[World.cell?_of_block (a:=⟨g,o+j,none⟩) (h.block g hq hg)]
 exact hr j v hj
theorem Kq.cell {g o:Nat} {x:Value} (h:Kq Q W W') (hq:Q g) (hg:g<W.heap.size) (hr:W.cell? ⟨g,o,none⟩=some x):W'.cell? ⟨g,o,none⟩=some x:=by
 rw[World.cell?_of_block (a:=⟨g,o,none⟩) (h.block g hq hg)]
 exact hr
def SmQ (Q:Nat→Prop) (W:World) (v:Value) (l:List (Nat × Bs)):Prop:=∃ g c,v=.slice (some ⟨g,0,none⟩) l.length c∧l.length≤c∧Q g∧g<W.heap.size∧W.rangeAt g 0 (cellsT l)
theorem SmQ.sm (h:SmQ Q W v l):Sm 0 W v l:=by
 obtain ⟨g,c,h1,h2,-,h3⟩:=h
 exact ⟨g,c,h1,h2,Nat.zero_le _,h3⟩
theorem Sm.q {B:Nat} (h:Sm B W v l):SmQ (B≤·) W v l:=h
theorem SmQ.mono (h:SmQ Q W v l) (hQ:∀ g,Q g→Q' g):SmQ Q' W v l:=by
 obtain ⟨g,c,h1,h2,h3,h4⟩:=h
 exact ⟨g,c,h1,h2,hQ g h3,h4⟩
theorem SmQ.keep (h:SmQ Q W v l) (hk:Kq Q W W'):SmQ Q W' v l:=by
 obtain ⟨g,c,h1,h2,h3,h4,h5⟩:=h
 exact ⟨g,c,h1,h2,h3,Nat.lt_of_lt_of_le h4 hk.size,hk.range h3 h4 h5⟩
def SLq (Q:Nat→Prop) (W:World) (v:Value) (n:Nat) (a:Nat→Nat):Prop:=∃ g o c,v=.slice (some ⟨g,o,none⟩) n c∧n≤c∧Q g∧g<W.heap.size∧∀ j,j<n→W.rangeAt g (o+4*j) (wn (a j))
theorem SLq.mono {a:Nat→Nat} (h:SLq Q W v n a) (hQ:∀ g,Q g→Q' g):SLq Q' W v n a:=by
 obtain ⟨g,o,c,h1,h2,h3,h4⟩:=h
 exact ⟨g,o,c,h1,h2,hQ g h3,h4⟩
theorem SLq.keep {a:Nat→Nat} (h:SLq Q W v n a) (hk:Kq Q W W'):SLq Q W' v n a:=by
 obtain ⟨g,o,c,h1,h2,h3,h4,h5⟩:=h
 exact ⟨g,o,c,h1,h2,h3,Nat.lt_of_lt_of_le h4 hk.size,fun j hj=>hk.range h3 h4 (h5 j hj)⟩
def GLq (Q:Nat→Prop) (W:World) (v:Value) (n:Nat) (T:Nat→List (Nat × Bs)):Prop:=∃ g o c,v=.slice (some ⟨g,o,none⟩) n c∧n≤c∧Q g∧g<W.heap.size∧∀ j,j<n→∃ x,W.cell? ⟨g,o+j,none⟩=some x∧SmQ Q W x (T j)
theorem GLq.mono {T:Nat→List (Nat × Bs)} (h:GLq Q W v n T) (hQ:∀ g,Q g→Q' g):GLq Q' W v n T:=by
 obtain ⟨g,o,c,h1,h2,h3,h4,h5⟩:=h
 refine ⟨g,o,c,h1,h2,hQ g h3,h4,fun j hj=>?_⟩
 obtain ⟨x,h6,h7⟩:=h5 j hj
 exact ⟨x,h6,h7.mono hQ⟩
theorem GLq.keep {T:Nat→List (Nat × Bs)} (h:GLq Q W v n T) (hk:Kq Q W W'):GLq Q W' v n T:=by
 obtain ⟨g,o,c,h1,h2,h3,h4,h5⟩:=h
 refine ⟨g,o,c,h1,h2,h3,Nat.lt_of_lt_of_le h4 hk.size,fun j hj=>?_⟩
 obtain ⟨x,h6,h7⟩:=h5 j hj
 exact ⟨x,hk.cell h3 h4 h6,h7.keep hk⟩
structure GRq (Q:Nat→Prop) (W:World) (v:Value) (n:Nat) (G H:Nat→List (Nat × Bs)) (U:List (Nat × Bs)):Prop where
 ex:∃ vg vh vu,v=.agg #[vg,vh,vu]∧GLq Q W vg n G∧GLq Q W vh n H∧SmQ Q W vu U
theorem GRq.mono {G H:Nat→List (Nat × Bs)} {U:List (Nat × Bs)} (h:GRq Q W v n G H U) (hQ:∀ g,Q g→Q' g):GRq Q' W v n G H U:=by
 obtain ⟨vg,vh,vu,h1,h2,h3,h4⟩:=h.ex
 exact ⟨vg,vh,vu,h1,h2.mono hQ,h3.mono hQ,h4.mono hQ⟩
theorem GRq.keep {G H:Nat→List (Nat × Bs)} {U:List (Nat × Bs)} (h:GRq Q W v n G H U) (hk:Kq Q W W'):GRq Q W' v n G H U:=by
 obtain ⟨vg,vh,vu,h1,h2,h3,h4⟩:=h.ex
 exact ⟨vg,vh,vu,h1,h2.keep hk,h3.keep hk,h4.keep hk⟩
structure TOk (N:Nat) (l:List (Nat × Bs)):Prop where
 sz:∀ x∈l,x.2.size=33
 lt:∀ x∈l,x.1<N
theorem TOk.szm {N:Nat} (h:TOk N l):∀ x∈l.map (·.2),x.size=33:=fun x hx=>by
 obtain ⟨y,hy,rfl⟩:=List.mem_map.1 hx
 exact h.sz y hy
theorem TOk.app {N:Nat} {m:List (Nat × Bs)} (h:TOk N l) (k:TOk N m):TOk N (l++m):=⟨fun x hx=>(List.mem_append.1 hx).elim (h.sz x) (k.sz x),fun x hx=>(List.mem_append.1 hx).elim (h.lt x) (k.lt x)⟩
theorem TOk.tm {N:Nat} (hN:0<N) (h:TOk N l) (k:Nat):TOk N (l.map (tmT N k)):=⟨fun x hx=>by
 obtain ⟨y,hy,rfl⟩:=List.mem_map.1 hx
 exact h.sz y hy,fun x hx=>by
 obtain ⟨y,hy,rfl⟩:=List.mem_map.1 hx
 exact Nat.mod_lt _ hN⟩
theorem TOk.nil {N:Nat}:TOk N []:=⟨fun _ h=>(List.not_mem_nil h).elim,fun _ h=>(List.not_mem_nil h).elim⟩
theorem Tl.ok {P:Nat} [NeZero P] {N:Nat} {X:OnP P} (h:Tl N l X):TOk N l:=⟨fun x hx=>by
 obtain ⟨X,-,e⟩:=h.pts x hx
 rw[e];exact wr_size _,h.lt⟩
theorem cmbT_ok {N:Nat} (hN:0<N) {a:Nat→Nat} {T:Nat→List (Nat × Bs)}:∀ n,(∀ i,i<n→TOk N (T i))→TOk N (cmbT N a T n)
 | 0,_=>TOk.nil
 | n+1,h=>(cmbT_ok hN n fun i hi=>h i (by omega)).app ((h n (by omega)).tm hN _)
end
namespace RG
open Go Go.RowKit
variable {P:Program} {ops:Array Oper} {Q:Exit→Act→World→Prop} {w:World} {a0:Act} {F:Flow}
def chain (ops:Array Oper) (n:Nat):Bool:=(List.range ops.size).all (fun i=>decide (i<n) || (List.range i).all (fun j=>depOn ops i j))
theorem chain_dep {n i j:Nat} (h:chain ops n=true) (hi:n≤i) (his:i<ops.size) (hj:j<i):depOn ops i j=true:=by
 have h1:=List.all_eq_true.1 h i (List.mem_range.2 his)
 rw[Bool.or_eq_true,decide_eq_true_eq] at h1
 rcases h1 with h1|h1
 ·omega
 ·exact List.all_eq_true.1 h1 j (List.mem_range.2 hj)
theorem dep_ready {L:Array Bool} {i j:Nat} {o:Oper} (ho:ops[i]? = some o) (hdep:∀ e∈o.after,Region.binds .any e=true→on L e.on=true) (h2:depOn ops i j=true):on L j=true:=by
 unfold depOn at h2
 rw[ho] at h2
 obtain ⟨e,he,hb⟩:=Array.any_eq_true'.1 h2
 simp only[Bool.and_eq_true,beq_iff_eq] at hb
 have:=hdep e he hb.1
 rw[hb.2] at this
 exact this
theorem tail_any {n:Nat} (hc:chain ops n=true) (hlt:∀ (i:Nat) (o:Oper),ops[i]? = some o→∀ e∈o.after,Region.binds .any e=true→e.on<i):∀ (fuel:Nat) (L:Array Bool) (a:Act) (w:World) (m:Nat),n≤m→m≤ops.size→L.size=ops.size→(∀ j,on L j=true↔j<m)→unl L=fuel→wpList P ops Q (ops.toList.drop m) a w→wpAny P .any ops Q fuel L a w:=by
 intro fuel
 induction fuel with
 | zero =>
  intro L a w m hnm hms hL hall hu h
  have hm:m=ops.size:=by
   rcases Nat.lt_or_ge m ops.size with h1|h1
   ·have:=unl_zero hu m (by omega)
    rw[hall] at this
    omega
   ·omega
  rw[hm,← Array.length_toList,List.drop_length] at h
  refine ⟨?_,h⟩
  apply List.eq_nil_iff_forall_not_mem.2
  intro i hi
  obtain ⟨h1,o,ho,-⟩:=mem_ready.1 hi
  have h2:=(hall i).2 (by rw[hm];exact (Array.getElem?_eq_some_iff.1 ho).1)
  unfold on at h2
  rw[Array.getD_eq_getD_getElem?] at h1 h2
  cases hh:L[i]? with
  | none=>rw[hh] at h1;cases h1
  | some b=>rw[hh] at h1 h2;rw[show b=false from h1] at h2;cases h2
 | succ fuel ih =>
  intro L a w m hnm hms hL hall hu h
  have hrdy:∀ i,i∈Region.ready .any ops L→i=m:=fun i hi=>by
   obtain ⟨h1,o,ho,hdep⟩:=mem_ready.1 hi
   have hoi:on L i=false:=by
    unfold on
    rw[Array.getD_eq_getD_getElem?] at h1 ⊢
    cases hh:L[i]? with
    | none=>rfl
    | some b=>rw[hh] at h1;exact h1
   have his:=(Array.getElem?_eq_some_iff.1 ho).1
   rcases Nat.lt_trichotomy i m with h2|h2|h2
   ·rw[(hall i).2 h2] at hoi;cases hoi
   ·exact h2
   ·have:=(hall m).1 (dep_ready ho hdep (chain_dep hc (by omega) his h2))
    omega
  refine ⟨fun hr=>?_,fun i hi=>?_⟩
  ·rcases Nat.lt_or_ge m ops.size with h1|h1
   ·exfalso
    have ho:ops[m]? = some ops[m]:=Array.getElem?_eq_getElem _
    have hoff:on L m=false:=by
     cases hb:on L m with
     | false=>rfl
     | true=>have:=(hall m).1 hb;omega
    have:m∈Region.ready .any ops L:=mem_ready.2 ⟨?_,_,ho,fun e he hb=>(hall e.on).2 (hlt m _ ho e he hb)⟩
    ·rw[hr] at this;cases this
    ·unfold on at hoff
     rw[Array.getD_eq_getD_getElem?,Array.getElem?_eq_getElem (by rw[hL];exact h1)] at hoff ⊢
     exact hoff
   ·have hm:m=ops.size:=by omega
    rw[hm,← Array.length_toList,List.drop_length] at h
    exact h
  ·obtain rfl:=hrdy i hi
   obtain ⟨h1,o,ho,hdep⟩:=mem_ready.1 hi
   have his:=(Array.getElem?_eq_some_iff.1 ho).1
   have hdrop:ops.toList.drop i=o :: ops.toList.drop (i+1):=by
    rw[List.drop_eq_getElem_cons (by rw[Array.length_toList];exact his)]
    have:ops.toList[i]? = some o:=by rw[Array.getElem?_toList];exact ho
    rw[List.getElem?_eq_getElem (by rw[Array.length_toList];exact his)] at this
    rw[Option.some.inj this]
   rw[hdrop] at h
   have hop:wpOp P ops Q i (fun a' w'=>wpList P ops Q (ops.toList.drop (i+1)) a' w') a w:=by
    unfold wpOp
    rw[ho]
    exact h
   refine wpOp_mono (fun a' w' hq=>ih _ a' w' (i+1) (by omega) (by omega) (by rw[Array.size_setIfInBounds];exact hL) (fun j=>?_) (by have:=unl_set h1;omega) hq) hop
   rw[on_set (by rw[hL];omega)]
   constructor
   ·intro hj
    rw[Bool.or_eq_true] at hj
    rcases hj with hj|hj
    ·have:=(hall j).1 hj;omega
    ·have:i=j:=by simpa using hj
     omega
   ·intro hj
    by_cases h2:j<i
    ·rw[(hall j).2 h2,Bool.true_or]
    ·rw[show j=i by omega];simp
theorem flow_tail {id:Nat} (F:Flow) (n:Nat) (hn:n<ops.size) (hc:chain ops n=true) (hm:P.follows .mixedOrders=true) (R:RegF P Q F ops a0 n) (hB:∀ b,F.B b w.drew)
 (hp:∀ (V:Nat→Value) (w':World),(∀ i,i<n→F.kill i=[]→F.R i (V i) w')→(∀ b,F.killB b=[]→F.B b w')→wpList P ops Q (ops.toList.drop n) (putV V (ops.toList.take n) 0 a0) w'):(Code.region id ops true).wp P Q a0 w:=by
 have hlt:∀ (i:Nat) (o:Oper),ops[i]? = some o→∀ e∈o.after,Region.binds .any e=true→e.on<i:=fun i o ho=>(R.of ho).1
 have key:∀ (fuel:Nat) (L:Array Bool) (a:Act) (w:World),unl L=fuel→(∀ j,n≤j→on L j=false)→InvF F ops a0 L a w→wpAny P .any ops Q fuel L a w:=by
  intro fuel
  induction fuel with
  | zero =>
   intro L a w hu hoff hI
   have:=unl_zero hu n (by rw[hI.size];omega)
   rw[hoff n (Nat.le_refl _)] at this;cases this
  | succ fuel ih =>
   intro L a w hu hoff hI
   by_cases hall:∀ j,j<n→on L j=true
   ·have hall':∀ j,on L j=true↔j<n:=fun j=>⟨fun hj=>(by
     rcases Nat.lt_or_ge j n with h|h
     ·exact h
     ·rw[hoff j h] at hj;cases hj),hall j⟩
    obtain ⟨V,hV1,hV2⟩:=hI.all
    have ha:=hI.act R (by omega) hall' hV1
    have hkl:∀ l:List Nat,l=[]→∀ x∈l,on L x=false:=fun l hl x hx=>by rw[hl] at hx;cases hx
    have hfin:=hp V w (fun j hj hk=>hV2 j (hall j hj) (hkl _ hk)) (fun b hb=>hI.base b (hkl _ hb))
    rw[← ha] at hfin
    exact tail_any hc hlt _ L a w n (Nat.le_refl _) (by omega) hI.size hall' hu hfin
   ·refine ⟨fun hr=>?_,fun i hi=>?_⟩
    ·exact absurd (fun j hj=>hI.full R hr j (by omega)) hall
    ·obtain ⟨h1,o,ho,hdep⟩:=mem_ready.1 hi
     have his:i<ops.size:=(Array.getElem?_eq_some_iff.1 ho).1
     have hoi:on L i=false:=by
      unfold on
      rw[Array.getD_eq_getD_getElem?] at h1 ⊢
      cases hh:L[i]? with
      | none=>rfl
      | some b=>rw[hh] at h1;exact h1
     have hin:i<n:=by
      rcases Nat.lt_or_ge i n with h|h
      ·exact h
      ·exact absurd (fun j hj=>dep_ready ho hdep (chain_dep hc h his (by omega))) hall
     refine wpOp_mono (fun a' w' hI'=>ih _ a' w' (by have:=unl_set h1;omega) (fun j hj=>?_) hI') (stepF R hin (fun j hj=>?_) ho hoi hdep hI)
     ·rw[on_set (by rw[hI.size];exact his),hoff j hj]
      simp only[Bool.false_or,beq_eq_false_iff_ne]
      omega
     ·rcases Nat.lt_or_ge j n with h|h
      ·exact h
      ·rw[hoff j h] at hj;cases hj
 have hoff:∀ i,on (Array.replicate ops.size false) i=false:=fun i=>by
  unfold on
  rw[Array.getD_eq_getD_getElem?,Array.getElem?_replicate]
  by_cases h:i<ops.size
  ·rw[if_pos h];rfl
  ·rw[if_neg h];rfl
 refine wp_region_any hm (key _ _ a0 _ ?_ (fun j _=>hoff j) ⟨Array.size_replicate,(fun i o _ h=>by rw[hoff] at h;cases h),rfl,rfl,fun _ _=>rfl,⟨fun _=>undef,fun i d h=>(by rw[hoff] at h;cases h),fun i h=>(by rw[hoff] at h;cases h)⟩,fun b _=>hB b⟩)
 unfold unl
 rw[Array.toList_replicate,List.countP_replicate]
 simp
theorem flow_plain {id:Nat} (F:Flow) (n:Nat) (hn:n≤ops.size) (R:RegF P Q F ops a0 n) (hB:∀ b,F.B b w)
 (hp:∀ (V:Nat→Value) (w':World),(∀ i,i<n→F.kill i=[]→F.R i (V i) w')→(∀ b,F.killB b=[]→F.B b w')→wpList P ops Q (ops.toList.drop n) (putV V (ops.toList.take n) 0 a0) w'):(Code.region id ops false).wp P Q a0 w:=by
 refine wp_region_list ?_
 have hlt:∀ (i:Nat) (o:Oper),ops[i]? = some o→∀ e∈o.after,Region.binds .any e=true→e.on<i:=fun i o ho=>(R.of ho).1
 have key:∀ (d m:Nat) (L:Array Bool) (a:Act) (w:World),m+d=n→(∀ j,on L j=true↔j<m)→InvF F ops a0 L a w→wpList P ops Q (ops.toList.drop m) a w:=by
  intro d
  induction d with
  | zero =>
   intro m L a w hmd hall hI
   obtain rfl:m=n:=by omega
   obtain ⟨V,hV1,hV2⟩:=hI.all
   have ha:=hI.act R hn hall hV1
   have hkl:∀ l:List Nat,l=[]→∀ x∈l,on L x=false:=fun l hl x hx=>by rw[hl] at hx;cases hx
   rw[ha]
   exact hp V w (fun j hj hk=>hV2 j ((hall j).2 hj) (hkl _ hk)) (fun b hb=>hI.base b (hkl _ hb))
  | succ d ih =>
   intro m L a w hmd hall hI
   have hms:m<ops.size:=by omega
   have ho:ops[m]? = some ops[m]:=Array.getElem?_eq_getElem _
   have hoff:on L m=false:=by
    cases hb:on L m with
    | false=>rfl
    | true=>have:=(hall m).1 hb;omega
   have hop:=stepF R (by omega) (fun j hj=>by have:=(hall j).1 hj;omega) ho hoff (fun e he hb=>(hall e.on).2 (hlt m _ ho e he hb)) hI
   have hop2:wpOp P ops Q m (fun a' w'=>wpList P ops Q (ops.toList.drop (m+1)) a' w') a w:=wpOp_mono (fun a' w' hI'=>ih (m+1) _ a' w' (by omega) (fun j=>by
    rw[on_set (by rw[hI.size];omega)]
    constructor
    ·intro hj
     rw[Bool.or_eq_true] at hj
     rcases hj with hj|hj
     ·have:=(hall j).1 hj;omega
     ·have:m=j:=by simpa using hj
      omega
    ·intro hj
     by_cases h2:j<m
     ·rw[(hall j).2 h2,Bool.true_or]
     ·rw[show j=m by omega];simp) hI') hop
   have hdrop:ops.toList.drop m=ops[m] :: ops.toList.drop (m+1):=by
    rw[List.drop_eq_getElem_cons (by rw[Array.length_toList];exact hms),Array.getElem_toList]
   rw[hdrop]
   unfold wpOp at hop2
   rw[ho] at hop2
   exact hop2
 have hoff:∀ i,on (Array.replicate ops.size false) i=false:=fun i=>by
  unfold on
  rw[Array.getD_eq_getD_getElem?,Array.getElem?_replicate]
  by_cases h:i<ops.size
  ·rw[if_pos h];rfl
  ·rw[if_neg h];rfl
 exact key n 0 _ a0 w (by omega) (fun j=>by rw[hoff];exact ⟨fun h=>(by cases h),fun h=>absurd h (Nat.not_lt_zero _)⟩) ⟨Array.size_replicate,(fun i o _ h=>by rw[hoff] at h;cases h),rfl,rfl,fun _ _=>rfl,⟨fun _=>undef,fun i d h=>(by rw[hoff] at h;cases h),fun i h=>(by rw[hoff] at h;cases h)⟩,fun b _=>hB b⟩
theorem Gw.plain {id:Nat} (G:Gw) (n:Nat) (hc:(decide (n≤ops.size) && chkF ops a0.tmps.size)=true) (h:CertsF P Q G.flow ops a0 0 (ops.toList.take n)) (hB:G.B w)
 (hp:∀ (V:Nat→Value) (w':World),(∀ i,i<n→G.R i (V i) w')→G.B w'→wpList P ops Q (ops.toList.drop n) (putV V (ops.toList.take n) 0 a0) w'):(Code.region id ops false).wp P Q a0 w:=by
 rw[Bool.and_eq_true,decide_eq_true_eq] at hc
 exact flow_plain G.flow n hc.1 (Gw.reg hc.2 h) (fun _=>hB) fun V w' h1 h2=>hp V w' (fun i hi=>h1 i hi rfl) (h2 0 rfl)
end RG
namespace RG
open Go Go.RowKit
structure S1 where
 p:Value→World→Prop
 st:∀ v w w',Below w.heap.size w w'→p v w→p v w'
def pE (v:Value):S1:=⟨fun x _=>x=v,fun _ _ _ _ h=>h⟩
def pA:S1:=⟨fun _ _=>True,fun _ _ _ _ h=>h⟩
def pM (Q:Nat→Prop) (l:List (Nat × Bs)):S1:=⟨fun v w=>SmQ Q w v l,fun _ _ _ hb h=>h.keep (Kq.of_below hb)⟩
def pS (Q:Nat→Prop) (n:Nat) (a:Nat→Nat):S1:=⟨fun v w=>SLq Q w v n a,fun _ _ _ hb h=>h.keep (Kq.of_below hb)⟩
def pG (Q:Nat→Prop) (n:Nat) (T:Nat→List (Nat × Bs)):S1:=⟨fun v w=>GLq Q w v n T,fun _ _ _ hb h=>h.keep (Kq.of_below hb)⟩
def pR (Q:Nat→Prop) (n:Nat) (G H:Nat→List (Nat × Bs)) (U:List (Nat × Bs)):S1:=⟨fun v w=>GRq Q w v n G H U,fun _ _ _ hb h=>h.keep (Kq.of_below hb)⟩
def pI (T:TypeId) (p:S1):S1:=⟨fun v w=>∃ x,v=.iface T x∧p.p x w,fun _ w w' hb ⟨x,h1,h2⟩=>⟨x,h1,p.st x w w' hb h2⟩⟩
def pN (B:Nat) (cs:List Value):S1:=⟨fun v w=>∃ k,v=.pointer (some ⟨k,0,none⟩)∧B≤k∧Row w k cs,fun _ _ _ hb ⟨k,h1,h2,h3⟩=>⟨k,h1,h2,h3.below hb⟩⟩
def nth:List S1→Nat→S1
 | [],_=>pA
 | x :: _,0=>x
 | _ :: r,k+1=>nth r k
def gwL (L:List S1) (B:World→Prop) (hB:∀ w w',Below w.heap.size w w'→B w→B w'):Gw:=⟨fun i=>(nth L i).p,B,fun i=>(nth L i).st,hB⟩
variable {P:Program} {ops:Array Oper} {Q:Exit→Act→World→Prop} {w:World} {a0:Act} {G:Gw} {k:Nat} {o:Oper}
theorem gw_v (ps:List (Tmp × Value)) (v:Value) (hA:∀ a W,PreG G ops a0 k o a W→AllE a ps) (hR:∀ W,G.R k v W) (hs:∀ W,(seenT (ps.map (·.1)) o,(execOp (evo (evl ps)) o).run P W)=(true,.ok (.value v) W):=by intro _;kernel_rfl):CertF P Q G.flow ops a0 k o:=
 gw_val fun a W hp=>⟨ps,v,W,hA a W hp,hs W,Below.refl _ _,hR W⟩
theorem gw_o (t:Tmp) (v v':Value) (h0:a0.eval (.tmp t)=v) (hR:∀ W,G.R k v' W) (hf:freeF ops k t=true:=by kernel_rfl) (hs:∀ W,(seenT [t] o,(execOp (evo (evl [(t,v)])) o).run P W)=(true,.ok (.value v') W):=by intro _;kernel_rfl):CertF P Q G.flow ops a0 k o:=
 gw_v [(t,v)] v' (fun a W hp=>⟨(hp.o t hf).trans h0,trivial⟩) hR hs
theorem gw_n (j:Nat) (t:Tmp) (v v':Value) (hj:∀ x W,G.R j x W→x=v) (hR:∀ W,G.R k v' W) (hd:(depB o j,dstOf ops j)=(true,some t):=by kernel_rfl) (hs:∀ W,(seenT [t] o,(execOp (evo (evl [(t,v)])) o).run P W)=(true,.ok (.value v') W):=by intro _;kernel_rfl):CertF P Q G.flow ops a0 k o:=
 gw_v [(t,v)] v' (fun a W hp=>⟨hj _ W (hp.n j t (congrArg Prod.fst hd) (congrArg Prod.snd hd)),trivial⟩) hR hs
theorem gw_m (j:Nat) (t:Tmp) (f:Value→Value) (hR:∀ x W,G.R j x W→G.R k (f x) W) (hd:(depB o j,dstOf ops j)=(true,some t):=by kernel_rfl) (hs:∀ v W,(seenT [t] o,(execOp (evo (evl [(t,v)])) o).run P W)=(true,.ok (.value (f v)) W):=by intro _ _;kernel_rfl):CertF P Q G.flow ops a0 k o:=
 gw_val fun a W hp=>⟨[(t,a.eval (.tmp t))],_,W,⟨rfl,trivial⟩,hs _ W,Below.refl _ _,hR _ W (hp.n j t (congrArg Prod.fst hd) (congrArg Prod.snd hd))⟩
theorem gw_x (j:Nat) (t:Tmp) (j':Nat) (t':Tmp) (v u v':Value) (I:Sem Value) (hi:∀ W,I.run P W=.ok v' W) (hj:∀ x W,G.R j x W→x=v) (hj':∀ x W,G.R j' x W→x=u) (hR:∀ W,G.R k v' W) (hd:((depB o j,dstOf ops j),(depB o j',dstOf ops j'))=((true,some t),(true,some t')):=by kernel_rfl) (hs:(seenT [t,t'] o,execOp (evo (evl [(t,v),(t',u)])) o)=(true,I >>= fun v=>pure (Next.value v)):=by kernel_rfl):CertF P Q G.flow ops a0 k o:=
 gw_val fun a W hp=>⟨[(t,v),(t',u)],v',W,⟨hj _ W (hp.n j t (congrArg (·.1.1) hd) (congrArg (·.1.2) hd)),hj' _ W (hp.n j' t' (congrArg (·.2.1) hd) (congrArg (·.2.2) hd)),trivial⟩,by
  rw[Prod.mk.injEq] at hs ⊢
  refine ⟨hs.1,?_⟩
  rw[hs.2,Sem.run_bind,hi W]
  rfl,Below.refl _ _,hR W⟩
theorem gw_y (j:Nat) (t:Tmp) (v v':Value) (I:Sem Value) (hi:∀ W,I.run P W=.ok v' W) (hj:∀ x W,G.R j x W→x=v) (hR:∀ W,G.R k v' W) (hd:(depB o j,dstOf ops j)=(true,some t):=by kernel_rfl) (hs:(seenT [t] o,execOp (evo (evl [(t,v)])) o)=(true,I >>= fun v=>pure (Next.value v)):=by kernel_rfl):CertF P Q G.flow ops a0 k o:=
 gw_val fun a W hp=>⟨[(t,v)],v',W,⟨hj _ W (hp.n j t (congrArg Prod.fst hd) (congrArg Prod.snd hd)),trivial⟩,by
  rw[Prod.mk.injEq] at hs ⊢
  refine ⟨hs.1,?_⟩
  rw[hs.2,Sem.run_bind,hi W]
  rfl,Below.refl _ _,hR W⟩
theorem gw_l1 (T:TypeId) (j:Nat) (t:Tmp) (g off:Nat) (x:Value) (hu:(P.underlying T).map (·.isRow)=some false) (hj:∀ x W,G.R j x W→x=.pointer (some ⟨g,off,none⟩)) (hc:∀ W,G.B W→W.cell? ⟨g,off,none⟩=some x) (hR:∀ W,G.R k x W) (hd:(depB o j,dstOf ops j)=(true,some t):=by kernel_rfl) (ho:o.op=.load T (.tmp t):=by rfl):CertF P Q G.flow ops a0 k o:=
 cf_val fun a W hp'=>by
  have hp:=pre_of hp'
  refine ⟨x,W,?_,Below.refl _ _,hR W⟩
  unfold execOp
  rw[ho]
  dsimp only
  rw[hj _ W (hp.n j t (congrArg Prod.fst hd) (congrArg Prod.snd hd)),Sem.run_bind,run_load1 (hc W hp.b) hu]
  rfl
theorem gw_lr (T:TypeId) (j:Nat) (t:Tmp) (g off:Nat) (cs:List Value) (hu:(P.underlying T).map (·.isRow)=some true) (hi:(P.info? T).map (·.size)=some cs.length) (hj:∀ x W,G.R j x W→x=.pointer (some ⟨g,off,none⟩)) (hc:∀ W,G.B W→W.rangeAt g off cs) (hR:∀ W,G.R k (.agg cs.toArray) W) (hd:(depB o j,dstOf ops j)=(true,some t):=by kernel_rfl) (ho:o.op=.load T (.tmp t):=by rfl):CertF P Q G.flow ops a0 k o:=
 gw_load T t ho hu fun a W hp=>⟨g,off,cs,hj _ W (hp.n j t (congrArg Prod.fst hd) (congrArg Prod.snd hd)),hc W hp.b,hi,hR W⟩
theorem gw_lo (T:TypeId) (t:Tmp) (g off:Nat) (cs:List Value) (hu:(P.underlying T).map (·.isRow)=some true) (hi:(P.info? T).map (·.size)=some cs.length) (h0:a0.eval (.tmp t)=.pointer (some ⟨g,off,none⟩)) (hc:∀ W,G.B W→W.rangeAt g off cs) (hR:∀ W,G.R k (.agg cs.toArray) W) (hf:freeF ops k t=true:=by kernel_rfl) (ho:o.op=.load T (.tmp t):=by rfl):CertF P Q G.flow ops a0 k o:=
 gw_load T t ho hu fun a W hp=>⟨g,off,cs,(hp.o t hf).trans h0,hc W hp.b,hi,hR W⟩
theorem gw_lo1 (T:TypeId) (t:Tmp) (g off:Nat) (x:Value) (hu:(P.underlying T).map (·.isRow)=some false) (h0:a0.eval (.tmp t)=.pointer (some ⟨g,off,none⟩)) (hc:∀ W,G.B W→W.cell? ⟨g,off,none⟩=some x) (hR:∀ W,G.R k x W) (hf:freeF ops k t=true:=by kernel_rfl) (ho:o.op=.load T (.tmp t):=by rfl):CertF P Q G.flow ops a0 k o:=
 cf_val fun a W hp'=>by
  have hp:=pre_of hp'
  refine ⟨x,W,?_,Below.refl _ _,hR W⟩
  unfold execOp
  rw[ho]
  dsimp only
  rw[hp.o t hf,h0,Sem.run_bind,run_load1 (hc W hp.b) hu]
  rfl
theorem gw_a (cs:List Value) (T:TypeId) (hR:∀ W W':World,Row W' W.heap.size cs→G.B W→G.R k (.pointer (some ⟨W.heap.size,0,none⟩)) W') (hs:∀ W,(seenT [] o,(execOp (evo (evl [])) o).run P W)=(true,.ok (.value (.pointer (some ⟨W.heap.size,0,none⟩))) (W.alloc (.cells cs.toArray T))):=by intro _;kernel_rfl):CertF P Q G.flow ops a0 k o:=
 gw_val fun a W hp=>⟨[],_,_,trivial,hs W,below1 W _,hR W _ (row_new W cs T) hp.b⟩
theorem gw_c0 (f:FuncId) (args:Array Value) (hc:∀ W,G.B W→Calls P f args W (Ret fun e W'=>Below W.heap.size W W'∧G.R k e W')) (hs:∀ W,(seenT [] o,(execOp (evo (evl [])) o).run P W)=(true,.ok (.enter f args) W):=by intro _;kernel_rfl):CertF P Q G.flow ops a0 k o:=
 gw_call fun a W hp=>⟨[],f,args,trivial,hs W,hc W hp.b⟩
theorem gw_c1 (j:Nat) (t:Tmp) (f:FuncId) (args:Value→Array Value) (hc:∀ x W,G.R j x W→G.B W→Calls P f (args x) W (Ret fun e W'=>Below W.heap.size W W'∧G.R k e W')) (hd:(depB o j,dstOf ops j)=(true,some t):=by kernel_rfl) (hs:∀ x W,(seenT [t] o,(execOp (evo (evl [(t,x)])) o).run P W)=(true,.ok (.enter f (args x)) W):=by intro _ _;kernel_rfl):CertF P Q G.flow ops a0 k o:=
 gw_call fun a W hp=>⟨[(t,a.eval (.tmp t))],f,_,⟨rfl,trivial⟩,hs _ W,hc _ W (hp.n j t (congrArg Prod.fst hd) (congrArg Prod.snd hd)) hp.b⟩
theorem gw_c2 (j:Nat) (t:Tmp) (j':Nat) (t':Tmp) (f:FuncId) (args:Value→Value→Array Value) (hc:∀ x y W,G.R j x W→G.R j' y W→G.B W→Calls P f (args x y) W (Ret fun e W'=>Below W.heap.size W W'∧G.R k e W')) (hd:((depB o j,dstOf ops j),(depB o j',dstOf ops j'))=((true,some t),(true,some t')):=by kernel_rfl) (hs:∀ x y W,(seenT [t,t'] o,(execOp (evo (evl [(t,x),(t',y)])) o).run P W)=(true,.ok (.enter f (args x y)) W):=by intro _ _ _;kernel_rfl):CertF P Q G.flow ops a0 k o:=
 gw_call fun a W hp=>⟨[(t,a.eval (.tmp t)),(t',a.eval (.tmp t'))],f,_,⟨rfl,rfl,trivial⟩,hs _ _ W,hc _ _ W (hp.n j t (congrArg (·.1.1) hd) (congrArg (·.1.2) hd)) (hp.n j' t' (congrArg (·.2.1) hd) (congrArg (·.2.2) hd)) hp.b⟩
theorem gw_c3 (j:Nat) (t:Tmp) (j':Nat) (t':Tmp) (j'':Nat) (t'':Tmp) (f:FuncId) (args:Value→Value→Value→Array Value) (hc:∀ x y z W,G.R j x W→G.R j' y W→G.R j'' z W→G.B W→Calls P f (args x y z) W (Ret fun e W'=>Below W.heap.size W W'∧G.R k e W')) (hd:((depB o j,dstOf ops j),(depB o j',dstOf ops j'),(depB o j'',dstOf ops j''))=((true,some t),(true,some t'),(true,some t'')):=by kernel_rfl) (hs:∀ x y z W,(seenT [t,t',t''] o,(execOp (evo (evl [(t,x),(t',y),(t'',z)])) o).run P W)=(true,.ok (.enter f (args x y z)) W):=by intro _ _ _ _;kernel_rfl):CertF P Q G.flow ops a0 k o:=
 gw_call fun a W hp=>⟨[(t,a.eval (.tmp t)),(t',a.eval (.tmp t')),(t'',a.eval (.tmp t''))],f,_,⟨rfl,rfl,rfl,trivial⟩,hs _ _ _ W,hc _ _ _ W (hp.n j t (congrArg (·.1.1) hd) (congrArg (·.1.2) hd)) (hp.n j' t' (congrArg (·.2.1.1) hd) (congrArg (·.2.1.2) hd)) (hp.n j'' t'' (congrArg (·.2.2.1) hd) (congrArg (·.2.2.2) hd)) hp.b⟩
theorem gw_iv (T:TypeId) (j:Nat) (t:Tmp) (j':Nat) (t':Tmp) (p:S1) (f:FuncId) (hi:∀ x W,G.R j x W→(pI T p).p x W) (hc:∀ x y W,p.p x W→G.R j' y W→G.B W→Calls P f #[x,y] W (Ret fun e W'=>Below W.heap.size W W'∧G.R k e W')) (hd:((depB o j,dstOf ops j),(depB o j',dstOf ops j'))=((true,some t),(true,some t')):=by kernel_rfl) (hs:∀ x y W,(seenT [t,t'] o,(execOp (evo (evl [(t,.iface T x),(t',y)])) o).run P W)=(true,.ok (.enter f #[x,y]) W):=by intro _ _ _;kernel_rfl):CertF P Q G.flow ops a0 k o:=
 gw_call fun a W hp=>by
  obtain ⟨x,e,hx⟩:=hi _ W (hp.n j t (congrArg (·.1.1) hd) (congrArg (·.1.2) hd))
  exact ⟨[(t,.iface T x),(t',a.eval (.tmp t'))],f,_,⟨e,rfl,trivial⟩,hs _ _ W,hc _ _ W hx (hp.n j' t' (congrArg (·.2.1) hd) (congrArg (·.2.2) hd)) hp.b⟩
end RG
section
open Go.RowKit Go.Sort Go.Deep
variable {P:Nat} [NeZero P] {N:Nat}
end
section
open Go.RowKit Go.Sort Go.Deep
def hf (n:Nat):Nat:=2^Nat.log2 (n-1)
section
variable {P:Program} {ops:Array Oper} {rest:List Oper} {op:Oper} {a:Act} {w:World} {Q:Exit→Act→World→Prop}
end
end
section
open Go.RowKit Go.Sort Go.Deep
variable {P:Nat} [NeZero P] {N:Nat}
def num4 (n:Nat):Bs:=#[SP.lenB n 16777216,SP.lenB n 65536,SP.lenB n 256,SP.lenB n 1]
theorem part_4 {w:World} {r n:Nat} (h:Holds encB w r 0 (num4 n)):SP.PartOk w (.slice (some ⟨r,0,none⟩) 4 4) (num4 n).toList:=
 ⟨_,r,0,4,num4 n,rfl,rfl,Nat.le_refl _,Nat.le_of_ble_eq_true rfl,Or.inr ⟨rfl,h⟩⟩
theorem ofOne_c:Gives 64 #[.int .u64 1] (nv 1):=by
 intro w
 go_enter Tryz.func64,Tryz.ntmps64
 refine RG.M.enter [(0,.v (.int .u64 1))] 6 (by kernel_rfl) ?_
 intro a0 M0
 repeat refine wp_seq ?_
 refine M0.t [.m 2 [] 0] [(0,RG.z 4)] [] [RG.z 4] [(0,.v (.int .u64 1)),(2,.p 0 0)] ⟨RG.mk 0 52,trivial⟩ ?_
 intro k a1 w1 M1
 repeat refine wp_seq ?_
 refine M1.t [.x 3 [] (.int .u64 1),.x 4 [(3,0)] (nv 1),.x 5 [(4,1)] (nv 1),.u [(5,2)] 0] [] [(0,3,wn 1)] [wn 1] [(2,.p 0 0)] ⟨RG.st,RG.st,RG.st,RG.pt i40,trivial⟩ ?_
 intro a2 w2 M2
 refine wp_ret ?_
 refine bodyPost_ret (v:=nv 1) (RG.results_row M2.st 2 52 rfl 0 _ rfl (M2.at (s:=(.p 0 0))) u40 i40) M2.sl.defers ?_
 exact ⟨_,rfl,M2.st.bel.below,rfl⟩
def orOne (a:Nat):Nat:=if a=0 then 1 else a
theorem orOne_c (O:Ord N) {a:Nat} (ha:a<N):Gives 150 #[nv a] (nv (orOne a)):=by
 intro w
 have hat:a<top:=Nat.lt_of_lt_of_le ha O.le
 have hq:∀ w:World,(binOp .eql 52 (nv a) (nv 0)).run Tryz.prog w=.ok (.bool (decide (a=0))) w:=fun w=>eqS hat (show 0<top by unfold top;omega) w
 obtain ⟨d,hd⟩:∃ d,Hid (decide (a=0)=d):=⟨_,rfl⟩
 rw[hd.out] at hq
 go_enter Tryz.func150,Tryz.ntmps150
 refine RG.M.enter [(0,.v (nv a))] 8 (by kernel_rfl) ?_
 intro a0 M0
 repeat refine wp_seq ?_
 refine M0.t [.m 1 [] 0,.m 2 [] 1] [(0,wn a),(1,RG.z 4)] [] [wn a,RG.z 4] [(1,.p 0 0),(2,.p 1 0)] ⟨RG.mk 0 52,RG.mk 1 52,trivial⟩ ?_
 intro j1 i1 a1 w1 M1
 repeat refine wp_seq ?_
 refine M1.u [.x 3 [] (nv a),.x 4 [] (nv 0),.x 5 [(3,0),(4,1)] (.bool d)] [(1,.p 0 0),(2,.p 1 0),(5,.v (.bool d))] ⟨RG.ld u40 i40,RG.st,RG.cert_bin rfl .eql 52 52 3 4 (nv a) (nv 0) (.bool d) rfl rfl RG.sx RG.sx (fun w=>by kernel_rfl) hq,trivial⟩ ?_
 intro a2 w2 M2
 cases d with
 | true =>
  refine wp_cond_true M2.ev ?_
  have h0:a=0:=of_decide_eq_true hd.out
  have hr:orOne a=1:=by unfold orOne;rw[if_pos h0]
  rw[hr]
  repeat refine wp_seq ?_
  refine M2.t [.c 6 [] (nv 1),.u [(6,0)] 1] [] [(1,1,wn 1)] [wn a,wn 1] [(2,.p 1 0)] ⟨RG.cl ofOne_c,RG.pt i40,trivial⟩ ?_
  intro a3 w3 M3
  refine wp_ret ?_
  refine bodyPost_ret (v:=nv 1) (RG.results_row M3.st 2 52 rfl 1 _ rfl (M3.at (s:=(.p 1 0))) u40 i40) M3.sl.defers ?_
  exact ⟨_,rfl,M3.st.bel.below,rfl⟩
 | false =>
  refine wp_cond_false M2.ev ?_
  have h0:¬ a=0:=of_decide_eq_false hd.out
  have hr:orOne a=a:=by unfold orOne;rw[if_neg h0]
  rw[hr]
  refine wp_skip ?_
  repeat refine wp_seq ?_
  refine M2.t [.x 7 [] (nv a),.u [(7,0)] 1] [] [(1,1,wn a)] [wn a,wn a] [(2,.p 1 0)] ⟨RG.ld u40 i40,RG.pt i40,trivial⟩ ?_
  intro a3 w3 M3
  refine wp_ret ?_
  refine bodyPost_ret (v:=nv a) (RG.results_row M3.st 2 52 rfl 1 _ rfl (M3.at (s:=(.p 1 0))) u40 i40) M3.sl.defers ?_
  exact ⟨_,rfl,M3.st.bel.below,rfl⟩
end
section
open Go.RowKit Go.Sort Go.Deep
section
variable {P:Program} {ops:Array Oper} {rest:List Oper} {op:Oper} {a:Act} {w w':World} {v:Value} {Q:Exit→Act→World→Prop}
theorem wpList_st1 (hgd:op.guard=none) (ty:TypeId) (x y:Operand) (ho:op.op=.store ty x y) (b o:Nat) (v:Value) (hx:a.eval x=.pointer (some ⟨b,o,none⟩)) (hy:a.eval y=v) (hv:v.cells=#[v]) (h1:v.oneCell'=true) (ht:w.there b o 1) (hi:(P.info? ty).map (·.size)=some 1)
 (h:wpList P ops Q rest (a.put op.dst undef) (w.setCells b o [v])):wpList P ops Q (op :: rest) a w:=
 wpList_plain hgd fun _ hK=>by
  have hr:=run_storeVar_mid (P:=P) w b o ty #[v] ht hi (by simp[h1])
  have e:storeVar ty ⟨b,o,none⟩ v=storeVar ty ⟨b,o,none⟩ (.agg #[v]):=by
   unfold storeVar
   rw[hv]
   rfl
  unfold Oper.wp execOp
  simp only[ho,hx,hy,Instr.storeAt,Instr.sureAddr,Sem.run_bind,Sem.run_pure,Result.andThen_ok,e,hr]
  exact hK _ _ h
theorem wpList_cv (hgd:op.guard=none) (s t:Tmp) (ts:Array TypeId) (ho:op.op=.call ⟨.value (.tmp s),#[.tmp t],ts⟩) (f:FuncId) (cap:Array Value) (x:Value) (hs:a.eval (.tmp s)=.func (.func f) #[] cap) (hx:a.eval (.tmp t)=x) (hf:∀ args W,(callFunc f args).run P W=.ok (.enter f args) W)
 {R:Value→World→Prop} (hc:Calls P f (#[x]++cap) w (Ret R)) (h:∀ v w',R v w'→wpList P ops Q rest (a.put op.dst v) w'):wpList P ops Q (op :: rest) a w:=
 wpList_plain hgd fun K hK=>by
  have hr:(execOp a.eval op).run P w=.ok (.enter f (#[x]++cap)) w:=by
   unfold execOp
   rw[ho]
   have e:(#[Operand.tmp t].map a.eval)=#[x]:=by simp[hx]
   simp only[resolve,hs,Deferred.ofValue,Sem.run_bind,Sem.run_pure,Result.andThen_ok,invoke,e]
   exact hf _ w
  unfold Oper.wp
  rw[hr,Oper.upon_enter]
  refine hc.mono ?_
  rintro e w' ⟨v,rfl,hR⟩
  exact hK _ _ (h v w' hR)
end
end
section
open Go.RowKit Go.Sort Go.Deep
variable {P:Nat} [NeZero P] {N:Nat}
theorem numeralS_c (n:Nat) (hn:n<4294967296) (w:World):Calls Tryz.prog 100 #[.int .i64 n] w (Ret fun e w'=>Below w.heap.size w w'∧∃ r,e=.slice (some ⟨r,0,none⟩) 4 4∧r<w'.heap.size∧Holds encB w' r 0 (num4 n)):=by
 have b00:(n:Int)/16777216%256=SP.ub (SP.lenB n 16777216):=SP.lenB_int n 16777216
 have b0:(n:Int)/16777216=SP.ub (SP.lenB n 16777216):=by omega
 clear b00
 have b1:(n:Int)/65536%256=SP.ub (SP.lenB n 65536):=SP.lenB_int n 65536
 have b2:(n:Int)/256%256=SP.ub (SP.lenB n 256):=SP.lenB_int n 256
 have b3:(n:Int)%256=SP.ub (SP.lenB n 1):=SP.lenB_one n
 have h4:=SP.holds_four w (SP.lenB n 16777216) (SP.lenB n 65536) (SP.lenB n 256) (SP.lenB n 1)
 have HN:Hid (num4 n=#[SP.lenB n 16777216,SP.lenB n 65536,SP.lenB n 256,SP.lenB n 1]):=rfl
 generalize SP.lenB n 16777216=x0 at *
 generalize SP.lenB n 65536=x1 at *
 generalize SP.lenB n 256=x2 at *
 generalize SP.lenB n 1=x3 at *
 have hb0:Below w.heap.size w (w.alloc (.cells #[.int .u8 (SP.ub x0),.int .u8 (SP.ub x1),.int .u8 (SP.ub x2),.int .u8 (SP.ub x3)] 5)):=(Below.refl _ _).alloc (Nat.le_refl _) _
 go_enter Tryz.func100,Tryz.ntmps100
 go_wp2
 go_ret
 refine ⟨_,rfl,hb0,_,rfl,by rw[World.size_alloc];omega,?_⟩
 rw[HN.out]
 exact h4
theorem onceS_c (a:Bs) (ha:a.size=33) (w:World):Calls Tryz.prog 26 #[pvl a] w (Ret fun e w'=>Below w.heap.size w w'∧Sm w.heap.size w' e [(1,a)]):=by
 have B1:=Hid.mk' (boxCP ha w)
 obtain ⟨w1,hw1⟩:∃ w1,Hid (w.alloc (.cells (bl33 a).toArray 61)=w1):=⟨_,rfl⟩
 rw[hw1.out] at B1
 have K:Hid (Row w1 w.heap.size (bl33 a)∧Below w.heap.size w w1):=by rw[← hw1.out];exact ⟨row_new w _ _,below1 w _⟩
 obtain ⟨va,hva⟩:∃ v,Hid (pvl a=v):=⟨_,rfl⟩
 have B1':Hid ((Instr.box 61 va).run Tryz.prog w=.ok (.pointer (some ⟨w.heap.size,0,none⟩)) w1):=by rw[← hva.out];exact B1
 rw[hva.out]
 clear B1 hw1
 go_enter Tryz.func26,Tryz.ntmps26
 go_wp2_with (first|(refine wpList_box (u:=va) (v:=.pointer (some ⟨w.heap.size,0,none⟩)) (w':=w1) rfl 61 (.tmp 0) rfl ?_ ?_ ?_;rfl;exact B1'.out)|fail)
 refine (RG.gwL [RG.pE (pvl a),RG.pE (nv 1),RG.pM (w.heap.size≤·) [(1,a)],RG.pM (w.heap.size≤·) [(1,a)]] (fun W=>Row W w.heap.size (bl33 a)∧Below w.heap.size w W) (fun W W' hb h=>⟨h.1.below hb,h.2.trans (hb.mono h.2.size)⟩)).draws (by kernel_rfl) (by kernel_rfl) ⟨
  RG.gw_lo 61 1 w.heap.size 0 (bl33 a) uCP (by rw[bl33_length ha];exact infoCP) rfl (fun W hB=>hB.1.2.1) (fun _=>rfl),
  RG.gw_c0 64 #[.int .u64 1] fun W hB=>(of1_c W).mono (by
   rintro e W' ⟨u,rfl,hb,rfl⟩
   exact ⟨_,rfl,hb,rfl⟩),
  RG.gw_c2 0 3 1 4 62 (fun x y=>#[x,y]) fun x y W hx hy hB=>by
   obtain rfl:x=pvl a:=hx
   obtain rfl:y=nv 1:=hy
   refine (ptTimes_c a ha 1 W).mono ?_
   rintro e W' ⟨u,rfl,hb,k,rfl,hk,hR⟩
   exact ⟨_,rfl,hb,Sm.one hR (Nat.le_trans hB.2.size hk) rfl⟩,
  RG.gw_m 2 5 id fun x W h=>h,trivial⟩ ⟨K.out.1,K.out.2.drew⟩ ?_
 intro V w2 hR hB
 have HS:Hid (Sm w.heap.size w2 (V 3) [(1,a)]):=hR 3 (Nat.lt_of_succ_le (Nat.le_of_ble_eq_true (by kernel_rfl)))
 have HB:Hid (Below w.heap.size w w2):=hB.2
 dsimp only[RG.putV,Nat.reduceAdd]
 simp only[Act.put,List.setIfInBounds_toArray,List.set_cons_succ,List.set_cons_zero]
 generalize V 3=s3 at HS ⊢
 clear hR hB
 go_wp2
 go_ret
 exact ⟨_,rfl,HB.out,HS.out⟩
theorem u9s:(Tryz.prog.underlying 9).map (·.isRow)=some false:=by kernel_rfl
def RG.pH (n:Nat) (b:Bs):RG.S1:=⟨fun v W=>∃ r,v=.slice (some ⟨r,0,none⟩) n n∧r<W.heap.size∧Holds encB W r 0 b,fun _ _ _ hb ⟨r,h1,h2,h3⟩=>⟨r,h1,Nat.lt_of_lt_of_le h2 hb.size,Holds.below h3 hb h2⟩⟩
noncomputable def hpN (P:Nat) [NeZero P] (lb:ByteArray) (i:Nat):Bs:=wr (.some (hpt P lb (num4 i).toList):EC.Pt P)
theorem hpN_size (lb:ByteArray) (i:Nat):(hpN P lb i).size=33:=wr_size _
theorem pof1_c (C:Fld P) (lb:ByteArray) (hlb:lb.size≤1000000) (i:Nat) (hi:i<4294967296) (k:Nat) (w:World) (hk:k<w.heap.size) (hc:w.cell? ⟨k,0,none⟩=some (.string lb)) :
 Calls Tryz.prog 99 #[.int .i64 i,.pointer (some ⟨k,0,none⟩)] w (Ret fun e w'=>Below w.heap.size w w'∧Sm w.heap.size w' e [(1,hpN P lb i)]):=by
 obtain ⟨T,hT⟩:∃ T,Hid (hpN P lb i=T):=⟨_,rfl⟩
 have hTs:T.size=33:=by rw[← hT.out];exact hpN_size _ _
 rw[hT.out]
 have hH:=fun (W:World) (ta:Option Addr) (tl tc:Nat) (hp:SP.PartOk W (.slice ta tl tc) (num4 i).toList)=>cHash_c C lb hlb ta tl tc (num4 i).toList W hp
 have e0:wr (.some (hpt P lb (num4 i).toList):EC.Pt P)=T:=hT.out
 rw[e0] at hH
 have HH:=Hid.mk' hH
 have HC:Hid (w.cell? ⟨k,0,none⟩=some (.string lb)):=hc
 have hNm:=Hid.mk' (fun W=>numeralS_c i hi W)
 clear hH e0 C hlb hc hi
 go_enter Tryz.func99,Tryz.ntmps99
 go_wp2_with fail
 refine (RG.gwL [RG.pE (.string lb),RG.pE (.int .i64 i),RG.pH 4 (num4 i),RG.pE (pvl T),RG.pM (w.heap.size≤·) [(1,T)],RG.pM (w.heap.size≤·) [(1,T)]] (fun W=>W.cell? ⟨k,0,none⟩=some (.string lb)∧Below w.heap.size w W) (fun W W' hb h=>⟨by rw[hb.cell (p:=⟨k,0,none⟩) (Nat.lt_of_lt_of_le hk h.2.size)];exact h.1,h.2.trans (hb.mono h.2.size)⟩)).draws (by kernel_rfl) (by kernel_rfl) ⟨
  RG.gw_lo1 9 1 k 0 (.string lb) u9s rfl (fun W hB=>hB.1) (fun _=>rfl),
  RG.gw_o 0 (.int .i64 i) (.int .i64 i) rfl (fun _=>rfl),
  RG.gw_c1 1 5 100 (fun x=>#[x]) (fun x W hx hB=>by
   obtain rfl:x=.int .i64 i:=hx
   refine (hNm.out W).mono ?_
   rintro e W' ⟨u,rfl,hb,r,rfl,h1,h2⟩
   exact ⟨_,rfl,hb,r,rfl,h1,h2⟩),
  RG.gw_c2 0 4 2 6 44 (fun x y=>#[x,y]) (fun x y W hx hy hB=>by
   obtain rfl:x=.string lb:=hx
   obtain ⟨r,rfl,h1,h2⟩:=hy
   refine (HH.out W _ _ _ (part_4 h2)).mono ?_
   rintro e W' ⟨u,rfl,hb,rfl⟩
   exact ⟨_,rfl,hb,rfl⟩),
  RG.gw_c1 3 7 26 (fun x=>#[x]) (fun x W hx hB=>by
   obtain rfl:x=pvl T:=hx
   refine (onceS_c T hTs W).mono ?_
   rintro e W' ⟨u,rfl,hb,hs⟩
   exact ⟨_,rfl,hb,hs.q.mono fun g hg=>Nat.le_trans hB.2.size hg⟩),
  RG.gw_m 4 8 id (fun x W h=>h),trivial⟩ ⟨HC.out,(Below.refl _ w).drew⟩ ?_
 intro V w2 hR hB
 have HS:Hid (Sm w.heap.size w2 (V 5) [(1,T)]):=hR 5 (Nat.lt_of_succ_le (Nat.le_of_ble_eq_true (by kernel_rfl)))
 have HB:Hid (Below w.heap.size w w2):=hB.2
 dsimp only[RG.putV,Nat.reduceAdd]
 simp only[Act.put,List.setIfInBounds_toArray,List.set_cons_succ,List.set_cons_zero]
 generalize V 5=s3 at HS ⊢
 clear hR hB
 go_wp2
 go_ret
 exact ⟨_,rfl,HB.out,HS.out⟩
theorem uSu:Tryz.prog.underlying 54=some (.slice 56):=by kernel_rfl
theorem iSu:(Tryz.prog.info? 56).map (fun i=>(i.size,decide (i.bytes≤4000),i.zero.isSome))=some (1,true,true):=by kernel_rfl
theorem iSu1:(Tryz.prog.info? 56).map (·.size)=some 1:=by kernel_rfl
structure LsI (w W:World) (K n i:Nat) (T:Nat→List (Nat × Bs)):Prop where
 bl:Below w.heap.size w W
 lt:K<W.heap.size
 th:W.there K 0 n
 ge:w.heap.size≤K
 el:∀ j,j<i→∃ x,W.cell? ⟨K,j,none⟩=some x∧SmQ (fun g=>w.heap.size≤g∧g≠K) W x (T j)
theorem LsI.grow {w W W':World} {K n i:Nat} {T:Nat→List (Nat × Bs)} (h:LsI w W K n i T) (hb:Below W.heap.size W W'):LsI w W' K n i T:=
 ⟨h.bl.trans (hb.mono h.bl.size),Nat.lt_of_lt_of_le h.lt hb.size,RG.there_below h.th hb h.lt,h.ge,fun j hj=>by
  obtain ⟨x,h1,h2⟩:=h.el j hj
  exact ⟨x,by rw[hb.cell (p:=⟨K,j,none⟩) h.lt];exact h1,h2.keep (Kq.of_below hb)⟩⟩
theorem Kq.set {Q:Nat→Prop} {W:World} {K o:Nat} {vs:List Value} (hQ:∀ g,Q g→g≠K):Kq Q W (W.setCells K o vs):=⟨by rw[RG.setCells_size];exact Nat.le_refl _,fun g hg _=>RG.setCells_other K vs o W g (hQ g hg)⟩
theorem LsI.put {w W:World} {K n i:Nat} {T:Nat→List (Nat × Bs)} {x:Value} (h:LsI w W K n i T) (hi:i<n) (hx:SmQ (fun g=>w.heap.size≤g∧g≠K) W x (T i)):LsI w (W.setCells K i [x]) K n (i+1) T:=by
 have hk:Kq (fun g=>w.heap.size≤g∧g≠K) W (W.setCells K i [x]):=Kq.set fun g hg=>hg.2
 refine ⟨RG.below_setCells h.ge _ _ _ h.bl,by rw[RG.setCells_size];exact h.lt,World.there_setCells h.th _ _ _,h.ge,fun j hj=>?_⟩
 by_cases e:j=i
 ·subst e
  refine ⟨x,?_,hx.keep hk⟩
  have:=World.rangeAt_setCells_same W K j [x] (fun t ht=>by
   have ht0:t=0:=by simp at ht;omega
   subst ht0
   have:=h.th j hi
   rwa[Nat.zero_add] at this) 0 x rfl
  exact this
 ·obtain ⟨y,h1,h2⟩:=h.el j (by omega)
  refine ⟨y,?_,h2.keep hk⟩
  have hr:W.rangeAt K j [y]:=fun t u hu=>by
   have ht0:t=0:=by have:=(List.getElem?_eq_some_iff.1 hu).1;simp at this;omega
   subst ht0
   obtain rfl:y=u:=by simpa using hu
   exact h1
  exact World.rangeAt_setCells_apart hr K i [x] (Or.inr (by simp;omega)) 0 y rfl
theorem LsI.gl {w W:World} {K n:Nat} {T:Nat→List (Nat × Bs)} (h:LsI w W K n n T):GLq (w.heap.size≤·) W (.slice (some ⟨K,0,none⟩) n n) n T:=
 ⟨K,0,n,rfl,Nat.le_refl _,h.ge,h.lt,fun j hj=>by
  obtain ⟨x,h1,h2⟩:=h.el j hj
  exact ⟨x,by rw[Nat.zero_add];exact h1,h2.mono fun g hg=>hg.1⟩⟩
theorem SmQ.one {Q:Nat→Prop} {W:World} {v:Value} {l:List (Nat × Bs)} (h:SmQ Q W v l):v.cells=#[v]∧v.oneCell'=true:=by
 obtain ⟨g,c,rfl,-⟩:=h
 exact ⟨rfl,rfl⟩
theorem listOfM_c (n:Nat) (hn:n≤512) (f:FuncId) (cap:Array Value) (hf:∀ args W,(callFunc f args).run Tryz.prog W=.ok (.enter f args) W) (T:Nat→List (Nat × Bs)) (w:World)
 (hc:∀ i W,i<n→Below w.heap.size w W→Calls Tryz.prog f (#[.int .i64 i]++cap) W (Ret fun e W'=>Below W.heap.size W W'∧Sm W.heap.size W' e (T i))) :
 Calls Tryz.prog 98 #[.int .i64 n,.func (.func f) #[] cap] w (Ret fun e w'=>Below w.heap.size w w'∧GLq (w.heap.size≤·) w' e n T):=by
 obtain ⟨C0,hC0,hmk⟩:=mkArr uSu iSu n hn
 have hmk':=hmk w
 obtain ⟨K,hK⟩:∃ K,Hid (w.heap.size=K):=⟨_,rfl⟩
 obtain ⟨w1,hw1⟩:∃ w1,Hid (w.alloc (.cells C0.toArray 56)=w1):=⟨_,rfl⟩
 have A0:Ar w w1 K 1 n 0 (fun _=>[]):=Ar.new _ hC0 hw1.out hK.out
 rw[hw1.out,hK.out] at hmk'
 have K1:Hid (LsI w w1 K n 0 T):=⟨A0.bl,A0.lt,by have:=A0.th;rwa[Nat.one_mul] at this,by rw[hK.out];exact Nat.le_refl _,fun j hj=>absurd hj (Nat.not_lt_zero _)⟩
 have HC:=Hid.mk' hc
 have HF:=Hid.mk' hf
 obtain ⟨fv,hfv⟩:∃ fv,Hid (Value.func (.func f) #[] cap=fv):=⟨_,rfl⟩
 rw[hfv.out]
 clear A0 hC0 hmk hc hf hw1 hK
 go_enter Tryz.func98,Tryz.ntmps98
 go_wp2
 clear hmk'
 go_loopg [11] n (fun m s11 W=>∃ i:Nat,i+m=n∧s11=.int .i64 i∧Hid (LsI w W K n i T))
 case atStart=>exact ⟨0,by omega,rfl,K1⟩
 case round =>
  clear K1
  obtain ⟨i,hik,rfl,KM⟩:=hrel
  by_cases hi:i<n
  ·have hi':(i:Int)<(n:Int):=by omega
   have hi5:(i:Int)≤600:=by omega
   have hix:=atS K 0 n n i hi
   rw[show 0+1*i=i by omega] at hix
   have HI:=Hid.mk' hi
   go_wp2_with (first|(refine wpList_cv rfl 16 17 _ rfl f cap (.int .i64 i) ?_ ?_ HF.out (HC.out i wr HI.out KM.out.bl) ?_;exact hfv.out.symm;rfl;intro e W' hR;refine Hid.out ?_)|fail)
   obtain ⟨hb,hS⟩:=hR
   have KN:=KM.out.grow hb
   have hS2:SmQ (fun g=>w.heap.size≤g∧g≠K) W' e (T i):=hS.q.mono fun g hg=>⟨Nat.le_trans (Nat.le_trans KM.out.bl.size (Nat.le_refl _)) hg,by have:=KM.out.lt;omega⟩
   have K4:Hid (LsI w (W'.setCells K i [e]) K n (i+1) T):=KN.put hi hS2
   have HT:Hid (W'.there K i 1):=fun t ht=>by
    have ht0:t=0:=by omega
    subst ht0
    have:=KN.th i hi
    rwa[Nat.zero_add] at this
   have HE:=Hid.mk' hS2.one
   obtain ⟨W4,hW4⟩:∃ W4,Hid (W'.setCells K i [e]=W4):=⟨_,rfl⟩
   rw[hW4.out] at K4
   clear hb hS KN hS2 KM
   show wpList _ _ _ _ _ _
   go_wp2_with (first|(refine wpList_st1 rfl 56 _ _ rfl K i e ?_ ?_ HE.out.1 HE.out.2 HT.out iSu1 ?_;rfl;rfl;rw[hW4.out])|fail)
   go_roundg (gk-1)
   case measure=>omega
   case rel=>exact ⟨i+1,by omega,rfl,K4⟩
  ·have hi':¬ (i:Int)<(n:Int):=by omega
   obtain rfl:i=n:=by omega
   have KS:Hid (Below w.heap.size w wr∧GLq (w.heap.size≤·) wr (.slice (some ⟨K,0,none⟩) i i) i T):=⟨KM.out.bl,KM.out.gl⟩
   clear KM
   go_wp2
   go_ret
   exact ⟨_,rfl,KS.out.1,KS.out.2⟩
theorem pointsOfS_c (C:Fld P) (lb:ByteArray) (hlb:lb.size≤1000000) (n:Nat) (hn:n≤512) (w:World) :
 Calls Tryz.prog 43 #[.string lb,.int .i64 n] w (Ret fun e w'=>Below w.heap.size w w'∧GLq (w.heap.size≤·) w' e n (fun i=>[(1,hpN P lb i)])):=by
 obtain ⟨w1,hw1⟩:∃ w1,Hid (w.alloc (.cells #[.string lb] 9)=w1):=⟨_,rfl⟩
 obtain ⟨k,hk⟩:∃ k,Hid (w.heap.size=k):=⟨_,rfl⟩
 have hb:Below w.heap.size w w1:=by rw[← hw1.out];exact below1 _ _
 have hR:Row w1 k [.string lb]:=by rw[← hw1.out,← hk.out];exact row_new w _ _
 have HL:=Hid.mk' (listOfM_c n hn 99 #[.pointer (some ⟨k,0,none⟩)] (fun _ _=>by kernel_rfl) (fun i=>[(1,hpN P lb i)]) w1 (fun i W hi hB=>pof1_c C lb hlb i (by omega) k W (Nat.lt_of_lt_of_le hR.1 hB.size) (by rw[hB.cell (p:=⟨k,0,none⟩) hR.1];exact hR.2.1 0 _ rfl)))
 have HB:=Hid.mk' hb
 clear hb hR C hlb hn
 go_enter Tryz.func43,Tryz.ntmps43
 go_wp2_with fail
 rw[hw1.out,hk.out]
 refine HL.out.mono ?_
 rintro e w2 ⟨v,rfl,hb2,hG⟩
 have K2:Hid (Below w.heap.size w w2∧GLq (w.heap.size≤·) w2 v n (fun i=>[(1,hpN P lb i)])):=⟨HB.out.trans (hb2.mono HB.out.size),hG.mono fun g hg=>Nat.le_trans HB.out.size hg⟩
 clear hb2 hG HL
 go_wp2
 go_ret
 exact ⟨_,rfl,K2.out⟩
noncomputable def hpU (P:Nat) [NeZero P]:Bs:=wr (.some (hpt P ⟨#[105,110,110,101,114]⟩ []):EC.Pt P)
theorem iGr:(Tryz.prog.info? 58).map (·.size)=some 3:=by kernel_rfl
theorem uGr:(Tryz.prog.underlying 58).map (·.isRow)=some true:=by kernel_rfl
noncomputable def gGT (P:Nat) [NeZero P] (i:Nat):List (Nat × Bs):=[(1,hpN P ⟨#[108,101,102,116]⟩ i)]
noncomputable def hGT (P:Nat) [NeZero P] (i:Nat):List (Nat × Bs):=[(1,hpN P ⟨#[114,105,103,104,116]⟩ i)]
noncomputable def uGT (P:Nat) [NeZero P]:List (Nat × Bs):=[(1,hpU P)]
theorem groundOf_c (C:Fld P) (n:Nat) (hn:n≤512) (w:World) :
 Calls Tryz.prog 17 #[.int .i64 n] w (Ret fun e w'=>Below w.heap.size w w'∧GRq (w.heap.size≤·) w' e n (gGT P) (hGT P) (uGT P)):=by
 have hG1:=fun W=>pointsOfS_c C ⟨#[108,101,102,116]⟩ (by decide) n hn W
 have hG2:=fun W=>pointsOfS_c C ⟨#[114,105,103,104,116]⟩ (by decide) n hn W
 have hU:=fun W:World=>cHash_c C ⟨#[105,110,110,101,114]⟩ (by decide) none 0 0 [] W ⟨none,0,0,0,#[],rfl,rfl,Nat.le_refl _,Nat.zero_le _,Or.inl rfl⟩
 have e0:wr (.some (hpt P ⟨#[105,110,110,101,114]⟩ []):EC.Pt P)=hpU P:=rfl
 rw[e0] at hU
 have hO:=fun W=>onceS_c (hpU P) (wr_size _) W
 obtain ⟨U,hUe⟩:∃ U,Hid (hpU P=U):=⟨_,rfl⟩
 have e1:uGT P=[(1,U)]:=by unfold uGT;rw[hUe.out]
 rw[e1]
 rw[hUe.out] at hU hO
 have HX:=Hid.mk' (And.intro hG1 (And.intro hG2 (And.intro hU hO)))
 have e2:(fun i=>[(1,hpN P ⟨#[108,101,102,116]⟩ i)])=gGT P:=rfl
 have e3:(fun i=>[(1,hpN P ⟨#[114,105,103,104,116]⟩ i)])=hGT P:=rfl
 rw[e2,e3] at HX
 generalize gGT P=G at HX ⊢
 generalize hGT P=H at HX ⊢
 clear hG1 hG2 hU hO e0 e1 e2 e3 C hn
 obtain ⟨w1,hw1⟩:∃ w1,Hid (w.alloc (.cells #[.slice none 0 0,.slice none 0 0,.slice none 0 0] 58)=w1):=⟨_,rfl⟩
 obtain ⟨k,hk⟩:∃ k,Hid (w.heap.size=k):=⟨_,rfl⟩
 have K1:Hid (Below w.heap.size w w1∧Row w1 k [.slice none 0 0,.slice none 0 0,.slice none 0 0]):=by rw[← hw1.out,← hk.out];exact ⟨below1 _ _,row_new w _ _⟩
 go_enter Tryz.func17,Tryz.ntmps17
 go_wp2_with fail
 rw[hw1.out,hk.out]
 refine (HX.out.1 w1).mono ?_
 rintro e w2 ⟨v1,rfl,hb2,hG⟩
 have K2:Hid (Below w.heap.size w w2∧Row w2 k [.slice none 0 0,.slice none 0 0,.slice none 0 0]∧GLq (k < ·) w2 v1 n G):=⟨K1.out.1.trans (hb2.mono K1.out.1.size),K1.out.2.below hb2,hG.mono fun g hg=>Nat.lt_of_lt_of_le K1.out.2.1 hg⟩
 clear hb2 hG K1
 go_wp2_with fail
 refine (HX.out.2.1 w2).mono ?_
 rintro e w3 ⟨v2,rfl,hb3,hG⟩
 have K3:Hid (Below w.heap.size w w3∧Row w3 k [.slice none 0 0,.slice none 0 0,.slice none 0 0]∧GLq (k < ·) w3 v1 n G∧GLq (k < ·) w3 v2 n H):=⟨K2.out.1.trans (hb3.mono K2.out.1.size),K2.out.2.1.below hb3,K2.out.2.2.keep (Kq.of_below hb3),hG.mono fun g hg=>Nat.lt_of_lt_of_le K2.out.2.1.1 hg⟩
 clear hb3 hG K2
 go_wp2_with fail
 refine (HX.out.2.2.1 w3).mono ?_
 rintro e w4 ⟨v,rfl,hb4,rfl⟩
 have K4:Hid (Below w.heap.size w w4∧Row w4 k [.slice none 0 0,.slice none 0 0,.slice none 0 0]∧GLq (k < ·) w4 v1 n G∧GLq (k < ·) w4 v2 n H):=⟨K3.out.1.trans (hb4.mono K3.out.1.size),K3.out.2.1.below hb4,K3.out.2.2.1.keep (Kq.of_below hb4),K3.out.2.2.2.keep (Kq.of_below hb4)⟩
 clear hb4 K3
 obtain ⟨vu,hvu⟩:∃ vu,Hid (pvl U=vu):=⟨_,rfl⟩
 have HO:Hid (∀ W:World,Calls Tryz.prog 26 #[vu] W (Ret fun e w'=>Below W.heap.size W w'∧Sm W.heap.size w' e [(1,U)])):=by rw[← hvu.out];exact HX.out.2.2.2
 rw[hvu.out]
 clear HX
 go_wp2_with fail
 refine (HO.out w4).mono ?_
 rintro e w5 ⟨v3,rfl,hb5,hS⟩
 have K5:Hid (Below w.heap.size w w5∧Row w5 k [.slice none 0 0,.slice none 0 0,.slice none 0 0]∧GLq (k < ·) w5 v1 n G∧GLq (k < ·) w5 v2 n H∧SmQ (k < ·) w5 v3 [(1,U)]):=⟨K4.out.1.trans (hb5.mono K4.out.1.size),K4.out.2.1.below hb5,K4.out.2.2.1.keep (Kq.of_below hb5),K4.out.2.2.2.keep (Kq.of_below hb5),hS.q.mono fun g hg=>Nat.lt_of_lt_of_le K4.out.2.1.1 hg⟩
 clear hb5 hS K4 HO
 obtain ⟨g1,o1,c1,rfl,-⟩:=K5.out.2.2.1
 obtain ⟨g2,o2,c2,rfl,-⟩:=K5.out.2.2.2.1
 obtain ⟨g3,c3,rfl,-⟩:=K5.out.2.2.2.2
 obtain ⟨w6,hw6⟩:∃ w6,Hid (w5.setCells k 0 [.slice (some ⟨g1,o1,none⟩) n c1,.slice (some ⟨g2,o2,none⟩) n c2,.slice (some ⟨g3,0,none⟩) [(1,U)].length c3]=w6):=⟨_,Hid.mk' rfl⟩
 have K6:Hid (Below w.heap.size w w6∧Row w6 k [.slice (some ⟨g1,o1,none⟩) n c1,.slice (some ⟨g2,o2,none⟩) n c2,.slice (some ⟨g3,0,none⟩) [(1,U)].length c3]∧GRq (w.heap.size≤·) w6 (.agg #[.slice (some ⟨g1,o1,none⟩) n c1,.slice (some ⟨g2,o2,none⟩) n c2,.slice (some ⟨g3,0,none⟩) [(1,U)].length c3]) n G H [(1,U)]):=by
  rw[← hw6.out]
  have hq:∀ g,k<g→w.heap.size≤g:=fun g hg=>by rw[hk.out];omega
  have kq:Kq (k < ·) w5 (w5.setCells k 0 [.slice (some ⟨g1,o1,none⟩) n c1,.slice (some ⟨g2,o2,none⟩) n c2,.slice (some ⟨g3,0,none⟩) [(1,U)].length c3]):=Kq.set fun g hg=>Nat.ne_of_gt hg
  exact ⟨RG.below_setCells (by rw[hk.out];exact Nat.le_refl _) _ _ _ K5.out.1,K5.out.2.1.put rfl,_,_,_,rfl,(K5.out.2.2.1.keep kq).mono hq,(K5.out.2.2.2.1.keep kq).mono hq,(K5.out.2.2.2.2.keep kq).mono hq⟩
 have HT:Hid (w5.there k 0 3):=K5.out.2.1.2.2
 clear K5
 go_wp2_with (refine wpList_op (v:=.agg #[.slice (some ⟨g1,o1,none⟩) n c1,.slice (some ⟨g2,o2,none⟩) n c2,.slice (some ⟨g3,0,none⟩) [(1,U)].length c3]) (w':=w5) rfl (.build 58 _) rfl ?_ ?_;kernel_rfl;refine Hid.out ?_)
 show wpList _ _ _ _ _ _
 refine wpList_store_mid rfl 58 _ _ rfl k 0 #[.slice (some ⟨g1,o1,none⟩) n c1,.slice (some ⟨g2,o2,none⟩) n c2,.slice (some ⟨g3,0,none⟩) [(1,U)].length c3] ?_ ?_ HT.out iGr ?_ ?_
 ·kernel_rfl
 ·kernel_rfl
 ·kernel_rfl
 rw[show (#[.slice (some ⟨g1,o1,none⟩) n c1,.slice (some ⟨g2,o2,none⟩) n c2,.slice (some ⟨g3,0,none⟩) [(1,U)].length c3]:Array Value).toList=[.slice (some ⟨g1,o1,none⟩) n c1,.slice (some ⟨g2,o2,none⟩) n c2,.slice (some ⟨g3,0,none⟩) [(1,U)].length c3] from rfl,hw6.out]
 go_wp2
 refine bodyPost_ret (results_cell 2 58 rfl K6.out.2.1 rfl uGr iGr) rfl ?_
 exact ⟨_,rfl,K6.out.1,K6.out.2.2⟩
theorem u22:(Tryz.prog.underlying 23).map (·.isRow)=some false:=by kernel_rfl
theorem at62 (k o n c i:Nat) (hi:i<n) (w:World):(Instr.indexAt 22 (.slice (some ⟨k,o,none⟩) n c) (.int .i64 i)).run Tryz.prog w=.ok (.pointer (some ⟨k,o+i,none⟩)) w:=by
 have h1:¬ (i:Int)<0:=by omega
 have h2:(i:Int)<n:=by omega
 go_simp
theorem at33 (k o n c i:Nat) (hi:i<n) (w:World):(Instr.indexAt 46 (.slice (some ⟨k,o,none⟩) n c) (.int .i64 i)).run Tryz.prog w=.ok (.pointer (some ⟨k,o+4*i,none⟩)) w:=by
 have h1:¬ (i:Int)<0:=by omega
 have h2:(i:Int)<n:=by omega
 go_simp
theorem mkSL (N:Nat) (hN:N≤512):∃ C0:List Value,C0.length=4*N∧∀ w:World,(Instr.makeSlice 46 (.int .i64 N) (.int .i64 N)).run Tryz.prog w=.ok (.slice (some ⟨w.heap.size,0,none⟩) N N) (w.alloc (.cells C0.toArray 52)):=by
 have hu:Tryz.prog.underlying 46=some (.slice 52):=by kernel_rfl
 have hi:(Tryz.prog.info? 52).map (fun i=>(i.size,decide (i.bytes≤4000),i.zero.isSome))=some (4,true,true):=by kernel_rfl
 obtain ⟨i,hi1,hi2⟩:=Option.map_eq_some_iff.1 hi
 simp only[Prod.mk.injEq,decide_eq_true_eq] at hi2
 obtain ⟨h1,h2,h3⟩:=hi2
 obtain ⟨z,hz⟩:=Option.isSome_iff_exists.1 h3
 refine ⟨(madeCells z.cells (N*4)).toList,by rw[Array.length_toList,size_madeCells,Nat.mul_comm],fun w=>?_⟩
 have hb:(i.bytes:Int)*(N:Int)≤281474976710656:=by
  have:i.bytes*N≤4000*512:=Nat.mul_le_mul h2 hN
  have h5:((i.bytes*N:Nat):Int)≤281474976710656:=by omega
  rwa[Int.natCast_mul] at h5
 have:=run_make (P:=Tryz.prog) w 46 52 i z hu hi1 hz .i64 .i64 (N:Int) (N:Int) (by omega) (by omega) hb (by omega)
 rw[Int.toNat_natCast,h1] at this
 rw[Array.toArray_toList]
 exact this
def AllQ (N:Nat) (w:World) (n:Nat) (L:Nat→Bs) (e:Value) (w':World):Prop:=
 ((∃ j,j<n∧rq N (L j)=none)∧Below w.heap.size w w'∧e=.tuple #[.slice none 0 0,.bool false]) ∨
 ((∀ j,j<n→(rq N (L j)).isSome=true)∧∃ k C,RG.Made w k C w'∧Rows 4 n (fun j=>wn ((rq N (L j)).getD 0)) n C∧e=.tuple #[.slice (some ⟨k,0,none⟩) n n,.bool true])
theorem allOf_c (O:Ord N) (n cap:Nat) (hn:n≤512) (q:Option Addr) (L:Nat→Bs) (w:World) (hA:Args w q n L):Calls Tryz.prog 15 #[(.func (.func 16) #[] #[]),.slice q n cap] w (Ret fun e w'=>AllQ N w n L e w'):=by
 obtain ⟨C,hCl,hmk⟩:=mkSL n hn
 go_enter Tryz.func15,Tryz.ntmps15
 refine RG.M.enter [(0,.v (.func (.func 16) #[] #[])),(1,.v (.slice q n cap))] 35 (by kernel_rfl) ?_
 intro a0 M0
 repeat refine wp_seq ?_
 refine M0.u [.x 4 [] (.slice none 0 0),.x 5 [] (.bool false)] [(0,(.v (.func (.func 16) #[] #[]))),(1,(.v (.slice q n cap)))] ⟨RG.st,RG.st,trivial⟩ ?_
 intro a1 w1 M1
 repeat refine wp_seq ?_
 refine M1.t [.x 11 [] (.slice q n cap),.x 12 [(11,0)] (.int .i64 n),⟨some 13,[(12,1)],(.s 0 n n),.make 0⟩,.s 6 [(13,2)] (.s 0 n n)] [(2,C)] [] [C] [(0,(.v (.func (.func 16) #[] #[]))),(1,(.v (.slice q n cap))),(6,(.s 0 n n))] ⟨RG.st,RG.st,RG.cert_makes 0 rfl _ rfl 46 52 12 12 n rfl rfl RG.sx RG.sx (hmk),RG.st,trivial⟩ ?_
 intro j2 a2 w2 M2
 repeat refine wp_seq ?_
 refine M2.u [.x 14 [] (.slice q n cap),.x 15 [(14,0)] (.int .i64 n),.x 16 [] (.int .i64 0)] [(0,(.v (.func (.func 16) #[] #[]))),(6,(.s 0 n n)),(14,(.v (.slice q n cap))),(15,(.v (.int .i64 n))),(16,(.v (.int .i64 0)))] ⟨RG.st,RG.st,RG.st,trivial⟩ ?_
 intro a3 w3 M3
 repeat refine wp_seq ?_
 refine wp_block ?_
 refine wp_loop_ghost (fun m a wr=>∃ (i:Nat) (C:List Value) (kt:Nat),i+m=n∧(∀ j,j<i→(rq N (L j)).isSome=true)∧Rows 4 n (fun j=>wn ((rq N (L j)).getD 0)) i C∧RG.M w w.heap.size [] 35 [C] [kt] [(0,.v (.func (.func 16) #[] #[])),(6,.s 0 n n),(14,.v (.slice q n cap)),(15,.v (.int .i64 n)),(16,.v (.int .i64 i))] a wr) n ⟨0,C,_,by omega,fun j hj=>by omega,⟨hCl,fun j r hj=>by omega⟩,M3⟩ ?_
 clear hmk
 intro m' a wr
 rintro ⟨i,C,kt,him,hall,hR,M20⟩
 by_cases hi:i<n
 ·obtain ⟨gg,hqe,hgg,hc⟩:=hA (by omega)
  subst hqe
  obtain ⟨v,hv,harg⟩:=hc i hi
  have hcell:w.cell? ⟨gg,0+i,none⟩=some v:=by rw[Nat.zero_add];exact hv
  have hrd0:=fun w' (hb:RG.BelX w.heap.size [] w w')=>sread_c O v (L i) w' (harg.below hb.below)
  obtain ⟨m,hm⟩:∃ m,m=(rq N (L i)).getD 0:=⟨_,rfl⟩
  cases hok:(rq N (L i)).isSome with
  | true =>
   have hrd:∀ w',RG.BelX w.heap.size [] w w'→Calls Tryz.prog 16 #[v] w' (Ret fun e w''=>Below w'.heap.size w' w''∧e=.tuple #[nv m,.bool true]):=fun w' hb=>by
    have h:=hrd0 w' hb
    rw[hok,← hm] at h
    exact h
   have hlen:=hR.len
   have hoff:0+4*i+(wn m).length≤C.length:=by rw[hlen];show 0+4*i+4≤4*n;omega
   obtain ⟨C2,hC2e⟩:∃ c,RG.rep C (0+4*i) (wn m)=c:=⟨_,rfl⟩
   have hC2:=hC2e ▸ RG.rep_at hoff
   have hcl:C2.length=C.length:=hC2e ▸ RG.rep_length hoff
   have hR2:Rows 4 n (fun j=>wn ((rq N (L j)).getD 0)) (i+1) C2:=by
    have:=hR.next hi rfl
    rw[← hC2e,hm]
    exact this
   repeat refine wp_seq ?_
   refine M20.u [.x 17 [] (.bool true)] [(0,(.v (.func (.func 16) #[] #[]))),(6,(.s 0 n n)),(14,(.v (.slice (some ⟨gg,0,none⟩) n cap))),(15,(.v (.int .i64 n))),(16,(.v (.int .i64 i))),(17,(.v (.bool true)))] ⟨RG.cert_bin rfl .lss 3 3 16 15 (.int .i64 i) (.int .i64 n) (.bool true) rfl rfl RG.sx RG.sx (fun w=>by kernel_rfl) (lssn_t hi),trivial⟩ ?_
   intro a21 w21 M21
   repeat refine wp_seq ?_
   refine wp_cond_true M21.ev ?_
   refine wp_skip ?_
   refine wp_seq ?_
   refine wp_block ?_
   repeat refine wp_seq ?_
   refine M21.u [.x 18 [] (.int .i64 i),.x 19 [] (.pointer (some ⟨gg,(0+i),none⟩)),.x 20 [(19,1)] v,.x 7 [(18,0)] (.int .i64 i),.x 8 [(20,2)] v] [(0,(.v (.func (.func 16) #[] #[]))),(6,(.s 0 n n)),(7,(.v (.int .i64 i))),(8,(.v v)),(14,(.v (.slice (some ⟨gg,0,none⟩) n cap))),(15,(.v (.int .i64 n))),(16,(.v (.int .i64 i)))] ⟨RG.st,RG.cert_idx rfl 22 14 16 rfl (.v (.slice (some ⟨gg,0,none⟩) n cap)) (.int .i64 i) RG.sx RG.sx (fun μ w=>at62 _ 0 _ _ i hi w),RG.cert_load1B rfl gg (0+i) hgg List.not_mem_nil 23 19 rfl v rfl RG.sx hcell u22,RG.st,RG.st,trivial⟩ ?_
   intro a22 w22 M22
   repeat refine wp_seq ?_
   refine M22.t [.x 22 [] (.func (.func 16) #[] #[]),.x 23 [] v,.c 24 [(22,0),(23,1)] (.tuple #[(nv m),(.bool true)]),.x 21 [(24,2)] (.tuple #[(nv m),(.bool true)]),.x 25 [(21,3)] (nv m),.x 26 [(21,3)] (.bool true),.m 9 [] 1,.u [(9,6),(25,4)] 1,.x 10 [(26,5)] (.bool true)] [(6,(RG.z 4))] [(1,7,(wn m))] [C,(wn m)] [(0,(.v (.func (.func 16) #[] #[]))),(6,(.s 0 n n)),(7,(.v (.int .i64 i))),(9,(.p 1 0)),(10,(.v (.bool true))),(14,(.v (.slice (some ⟨gg,0,none⟩) n cap))),(15,(.v (.int .i64 n))),(16,(.v (.int .i64 i)))] ⟨RG.st,RG.st,RG.clB (fun _ _=>by kernel_rfl) hrd,RG.st,RG.st,RG.st,RG.mk 1 52,RG.pt i40,RG.st,trivial⟩ ?_
   intro j23 a23 w23 M23
   repeat refine wp_seq ?_
   refine M23.u [.x 27 [] (.bool true),.x 28 [(27,0)] (.bool false)] [(0,(.v (.func (.func 16) #[] #[]))),(6,(.s 0 n n)),(7,(.v (.int .i64 i))),(9,(.p 1 0)),(14,(.v (.slice (some ⟨gg,0,none⟩) n cap))),(15,(.v (.int .i64 n))),(16,(.v (.int .i64 i))),(28,(.v (.bool false)))] ⟨RG.st,RG.st,trivial⟩ ?_
   intro a24 w24 M24
   repeat refine wp_seq ?_
   refine wp_cond_false M24.ev ?_
   refine wp_skip ?_
   repeat refine wp_seq ?_
   refine M24.tx [.s 29 [] (.s 0 n n),.x 30 [] (.int .i64 i),.x 31 [] (nv m),.s 32 [(29,0),(30,1)] (.p 0 (0+4*i)),.u [(32,3),(31,2)] 0] [] [(0,4,C2)] [C2,(wn m)] [(0,(.v (.func (.func 16) #[] #[]))),(6,(.s 0 n n)),(14,(.v (.slice (some ⟨gg,0,none⟩) n cap))),(15,(.v (.int .i64 n))),(16,(.v (.int .i64 i)))] (by kernel_rfl) (congrArg (fun n=>[n]) hcl) ⟨RG.st,RG.st,RG.ld u40 i40,RG.cert_idx rfl 46 29 30 rfl (.s 0 n n) (.int .i64 i) RG.sx RG.sx (fun μ w=>at33 _ 0 _ _ i hi w),RG.cert_putAt 0 (0+4*i) rfl _ rfl 52 (.tmp 32) (.tmp 31) (wn m) rfl rfl RG.sx RG.sx hoff hC2 i40 rfl,trivial⟩ ?_
   intro a25 w25 M25
   repeat refine wp_seq ?_
   refine M25.u [.x 33 [] (.int .i64 ((i+1:Nat):Int)),.x 16 [(33,0)] (.int .i64 ((i+1:Nat):Int))] [(0,(.v (.func (.func 16) #[] #[]))),(6,(.s 0 n n)),(14,(.v (.slice (some ⟨gg,0,none⟩) n cap))),(15,(.v (.int .i64 n))),(16,(.v (.int .i64 ((i+1:Nat):Int))))] ⟨RG.cert_binc rfl .add 3 3 16 (.int .i64 i) (.int .i64 1) (.int .i64 ((i+1:Nat):Int)) rfl rfl RG.sx (fun w=>by kernel_rfl) (addn i 1 (by omega) (by omega)),RG.st,trivial⟩ ?_
   intro a26 w26 M26
   show ∃ n',_
   exact ⟨m'-1,by omega,i+1,C2,kt,by omega,fun j hj=>(by
    by_cases hji:j=i
    ·rw[hji];exact hok
    ·exact hall j (by omega)),hR2,RG.M.drop (cs:=[C2]) (cs2:=[_]) (ks:=[kt]) (ks2:=[_]) M26 rfl rfl⟩
  | false =>
   have hrd:∀ w',RG.BelX w.heap.size [] w w'→Calls Tryz.prog 16 #[v] w' (Ret fun e w''=>Below w'.heap.size w' w''∧e=.tuple #[nv m,.bool false]):=fun w' hb=>by
    have h:=hrd0 w' hb
    rw[hok,← hm] at h
    exact h
   repeat refine wp_seq ?_
   refine M20.u [.x 17 [] (.bool true)] [(0,(.v (.func (.func 16) #[] #[]))),(14,(.v (.slice (some ⟨gg,0,none⟩) n cap))),(16,(.v (.int .i64 i))),(17,(.v (.bool true)))] ⟨RG.cert_bin rfl .lss 3 3 16 15 (.int .i64 i) (.int .i64 n) (.bool true) rfl rfl RG.sx RG.sx (fun w=>by kernel_rfl) (lssn_t hi),trivial⟩ ?_
   intro a21 w21 M21
   repeat refine wp_seq ?_
   refine wp_cond_true M21.ev ?_
   refine wp_skip ?_
   refine wp_seq ?_
   refine wp_block ?_
   repeat refine wp_seq ?_
   refine M21.u [.x 18 [] (.int .i64 i),.x 19 [] (.pointer (some ⟨gg,(0+i),none⟩)),.x 20 [(19,1)] v,.x 7 [(18,0)] (.int .i64 i),.x 8 [(20,2)] v] [(0,(.v (.func (.func 16) #[] #[]))),(8,(.v v))] ⟨RG.st,RG.cert_idx rfl 22 14 16 rfl (.v (.slice (some ⟨gg,0,none⟩) n cap)) (.int .i64 i) RG.sx RG.sx (fun μ w=>at62 _ 0 _ _ i hi w),RG.cert_load1B rfl gg (0+i) hgg List.not_mem_nil 23 19 rfl v rfl RG.sx hcell u22,RG.st,RG.st,trivial⟩ ?_
   intro a22 w22 M22
   repeat refine wp_seq ?_
   refine M22.t [.x 22 [] (.func (.func 16) #[] #[]),.x 23 [] v,.c 24 [(22,0),(23,1)] (.tuple #[(nv m),(.bool false)]),.x 21 [(24,2)] (.tuple #[(nv m),(.bool false)]),.x 25 [(21,3)] (nv m),.x 26 [(21,3)] (.bool false),.m 9 [] 1,.u [(9,6),(25,4)] 1,.x 10 [(26,5)] (.bool false)] [(6,(RG.z 4))] [(1,7,(wn m))] [C,(wn m)] [(10,(.v (.bool false)))] ⟨RG.st,RG.st,RG.clB (fun _ _=>by kernel_rfl) hrd,RG.st,RG.st,RG.st,RG.mk 1 52,RG.pt i40,RG.st,trivial⟩ ?_
   intro j23 a23 w23 M23
   repeat refine wp_seq ?_
   refine M23.u [.x 27 [] (.bool false),.x 28 [(27,0)] (.bool true)] [(28,(.v (.bool true)))] ⟨RG.st,RG.st,trivial⟩ ?_
   intro a24 w24 M24
   repeat refine wp_seq ?_
   refine wp_cond_true M24.ev ?_
   repeat refine wp_seq ?_
   refine M24.u [.x 4 [] (.slice none 0 0),.x 5 [] (.bool false)] [(4,(.v (.slice none 0 0))),(5,(.v (.bool false)))] ⟨RG.st,RG.st,trivial⟩ ?_
   intro a25 w25 M25
   refine wp_ret ?_
   refine bodyPost_ret (v:=.tuple #[.slice none 0 0,.bool false]) (RG.results_tt 4 5 rfl (.slice none 0 0) (.bool false) M25.av M25.av) M25.sl.defers ?_
   exact ⟨_,rfl,Or.inl ⟨⟨i,hi,by simpa using hok⟩,M25.st.bel.below,rfl⟩⟩
 ·have hiN:i=n:=by omega
  rw[hiN] at hall hR
  repeat refine wp_seq ?_
  refine M20.u [.x 17 [] (.bool false)] [(6,(.s 0 n n)),(17,(.v (.bool false)))] ⟨RG.cert_bin rfl .lss 3 3 16 15 (.int .i64 i) (.int .i64 n) (.bool false) rfl rfl RG.sx RG.sx (fun w=>by kernel_rfl) (lssn_f hi),trivial⟩ ?_
  intro a21 w21 M21
  repeat refine wp_seq ?_
  refine wp_cond_false M21.ev ?_
  refine wp_exit ?_
  dsimp only[Exit.then,Exit.inBlock]
  rw[if_pos rfl]
  repeat refine wp_seq ?_
  refine M21.u [.s 34 [] (.s 0 n n),.s 4 [(34,0)] (.s 0 n n),.x 5 [] (.bool true)] [(4,(.s 0 n n)),(5,(.v (.bool true)))] ⟨RG.st,RG.st,RG.st,trivial⟩ ?_
  intro a22 w22 M22
  refine wp_ret ?_
  refine bodyPost_ret (v:=_) (RG.results_tt 4 5 rfl _ (.bool true) (M22.at (s:=.s 0 n n)) M22.av) M22.sl.defers ?_
  exact ⟨_,rfl,Or.inr ⟨hall,_,C,M22.st.made (b:=0) rfl,hR,rfl⟩⟩
def prS (N:Nat) (a b:Nat→Nat):Nat→Nat
 | 0=>0
 | i+1=>sPl N (prS N a b i) (sTi N (b i) (a i))
theorem prS_lt (hN:0<N) (a b:Nat→Nat):∀ i,prS N a b i<N
 | 0=>hN
 | _+1=>Nat.mod_lt _ hN
structure CbS (w W:World) (N k4 k5 i:Nat) (a b:Nat→Nat):Prop where
 bl:Below w.heap.size w W
 r4:Row W k4 [.int .u64 0,.int .u64 0,.int .u64 0,.int .u64 0]
 r5:Row W k5 (wn (prS N a b i))
theorem CbS.grow {w W W':World} {k4 k5 i:Nat} {a b:Nat→Nat} (h:CbS w W N k4 k5 i a b) (hb:Below W.heap.size W W'):CbS w W' N k4 k5 i a b:=
 ⟨h.bl.trans (hb.mono h.bl.size),h.r4.below hb,h.r5.below hb⟩
theorem CbS.drew {w W:World} {k4 k5 i:Nat} {a b:Nat→Nat} (h:CbS w W N k4 k5 i a b):CbS w W.drew N k4 k5 i a b:=⟨h.bl.drew,h.r4,h.r5⟩
theorem wn0:wn 0=[.int .u64 0,.int .u64 0,.int .u64 0,.int .u64 0]:=by kernel_rfl
theorem row_set {W:World} {k K o:Nat} {vs us:List Value} (h:Row W k vs) (hne:k≠K):Row (W.setCells K o us) k vs:=row_same h (by rw[RG.setCells_size];exact Nat.le_refl _) (RG.setCells_other K us o W k hne)
theorem CbS.put {w W:World} {k4 k5 i:Nat} {a b:Nat→Nat} (h:CbS w W N k4 k5 i a b) (hk:w.heap.size≤k5) (hne:k4≠k5):CbS w (W.setCells k5 0 (wn (prS N a b (i+1)))) N k4 k5 (i+1) a b:=
 ⟨RG.below_setCells hk _ _ _ h.bl,row_set h.r4 hne,h.r5.put rfl⟩
theorem cmbS_c (O:Ord N) {Q:Nat→Prop} (n:Nat) (hn:n≤512) (a b:Nat→Nat) (ha:∀ i,i<n→a i<N) (hb:∀ i,i<n→b i<N) (va vb:Value) (w:World) (h1:SLq Q w va n a) (h2:SLq Q w vb n b) :
 Calls Tryz.prog 48 #[va,vb] w (Ret fun e w'=>Below w.heap.size w w'∧e=nv (prS N a b n)):=by
 obtain ⟨g1,o1,c1,rfl,-,-,hg1,hr1⟩:=h1
 obtain ⟨g2,o2,c2,rfl,-,-,hg2,hr2⟩:=h2
 obtain ⟨k4,hk4⟩:∃ k,Hid (w.heap.size=k):=⟨_,rfl⟩
 obtain ⟨w1,hw1⟩:∃ w1,Hid ((w.alloc (.cells #[.int .u64 0,.int .u64 0,.int .u64 0,.int .u64 0] 52)).alloc (.cells #[.int .u64 0,.int .u64 0,.int .u64 0,.int .u64 0] 52)=w1):=⟨_,rfl⟩
 have K1:Hid (CbS w w1 N k4 (k4+1) 0 a b):=by
  rw[← hw1.out,← hk4.out]
  have hR:=row_new (w.alloc (.cells #[.int .u64 0,.int .u64 0,.int .u64 0,.int .u64 0] 52)) [.int .u64 0,.int .u64 0,.int .u64 0,.int .u64 0] 52
  rw[World.size_alloc] at hR
  exact ⟨(below1 w _).alloc (by rw[World.size_alloc];omega) _,(row_new w _ _).alloc _,by show Row _ _ (wn 0);rw[wn0];exact hR⟩
 have HF:Hid (Ord N∧(∀ i,i<n→a i<N)∧(∀ i,i<n→b i<N)∧(∀ j,j<n→w.rangeAt g1 (o1+4*j) (wn (a j)))∧(∀ j,j<n→w.rangeAt g2 (o2+4*j) (wn (b j)))∧g1<w.heap.size∧g2<w.heap.size∧w.heap.size≤k4):=⟨O,ha,hb,hr1,hr2,hg1,hg2,by rw[hk4.out];exact Nat.le_refl _⟩
 obtain ⟨d,hd1,hd2⟩:=Option.map_eq_some_iff.1 u40
 have HD:Hid (Tryz.prog.underlying 52=some d∧d.isRow=true):=⟨hd1,hd2⟩
 clear O ha hb hr1 hr2 hg1 hg2 hd1 hd2
 go_enter Tryz.func48,Tryz.ntmps48
 go_wp2
 rw[hw1.out,hk4.out]
 clear hw1 hk4
 go_loopg [10] n (fun m s10 W=>∃ i:Nat,i+m=n∧s10=.int .i64 i∧Hid (CbS w W N k4 (k4+1) i a b))
 case atStart=>exact ⟨0,by omega,rfl,K1⟩
 case round =>
  clear K1
  obtain ⟨i,hik,rfl,KM⟩:=hrel
  by_cases hi:i<n
  ·have hi':(i:Int)<(n:Int):=by omega
   have hi5:(i:Int)≤600:=by omega
   have HL:=Hid.mk' hi
   have hix:=at33 g1 o1 n c1 i hi
   have B0:Hid (wr.rangeAt g1 (o1+4*i) (wn (a i))):=RG.range_below (HF.out.2.2.2.1 i hi) KM.out.bl HF.out.2.2.2.2.2.1
   obtain ⟨k7,hk7⟩:∃ k,Hid (wr.heap.size=k):=⟨_,rfl⟩
   obtain ⟨W1,hW1⟩:∃ W1,Hid (wr.alloc (.cells #[.int .u64 0,.int .u64 0,.int .u64 0,.int .u64 0] 52)=W1):=⟨_,rfl⟩
   obtain ⟨W2,hW2⟩:∃ W2,Hid (W1.setCells k7 0 (wn (a i))=W2):=⟨_,rfl⟩
   have F1:Hid (Row W1 k7 [.int .u64 0,.int .u64 0,.int .u64 0,.int .u64 0]∧Below wr.heap.size wr W1):=by rw[← hW1.out,← hk7.out];exact ⟨row_new wr _ _,below1 wr _⟩
   have F2:Hid (Row W2 k7 (wn (a i))∧CbS w W2 N k4 (k4+1) i a b):=by
    rw[← hW2.out]
    exact ⟨F1.out.1.put rfl,KM.out.grow (RG.below_setCells (by rw[hk7.out];exact Nat.le_refl _) _ _ _ F1.out.2)⟩
   obtain ⟨va,hva⟩:∃ v,Hid (Value.agg (wn (a i)).toArray=v):=⟨_,rfl⟩
   have HO:Hid ((wn (a i)).toArray.all (·.oneCell')=true):=wn_one _
   clear KM
   go_wp2_with (first|(refine wpList_load_mid rfl 52 _ rfl g1 (o1+4*i) ?_ (wn (a i)) d ?_ ?_ ?_ ?_ ?_;rfl;exact B0.out;exact HD.out.1;exact HD.out.2;exact i40;rw[hva.out])|(refine wpList_op (v:=.pointer (some ⟨k7,0,none⟩)) (w':=W1) rfl (.alloc 52) rfl ?_ ?_;(rw[← hW1.out,← hk7.out];kernel_rfl))|(refine wpList_store_mid rfl 52 _ _ rfl k7 0 (wn (a i)).toArray ?_ ?_ ?_ ?_ ?_ ?_;rfl;exact hva.out.symm;exact F1.out.1.2.2;exact i40;exact HO.out;rw[show (wn (a i)).toArray.toList=wn (a i) from rfl,hW2.out])|fail)
   clear hW1 hW2 hk7 F1 HO
   obtain ⟨s,hse⟩:∃ s,Hid (prS N a b i=s):=⟨_,rfl⟩
   have HN:Hid (s<N∧a i<N∧b i<N):=⟨by rw[← hse.out];exact prS_lt HF.out.1.pos a b i,HF.out.2.1 i hi,HF.out.2.2.1 i hi⟩
   obtain ⟨p,hpe⟩:∃ p,Hid (sTi N (b i) (a i)=p):=⟨_,rfl⟩
   obtain ⟨q,hqe⟩:∃ q,Hid (sPl N s p=q):=⟨_,rfl⟩
   have HP:Hid (p<N):=by show p<N;rw[← hpe.out];exact Nat.mod_lt _ HF.out.1.pos
   have HQ:Hid (prS N a b (i+1)=q):=by show _=_;rw[← hqe.out,← hpe.out,← hse.out];rfl
   have hT:=fun W=>sTim_c HF.out.1 (b i) (a i) HN.out.2.2 HN.out.2.1 W
   have hPl:=fun W=>sPlu_c HF.out.1 s p HN.out.1 HP.out W
   rw[hpe.out] at hT
   rw[hqe.out] at hPl
   have hR2:∀ W,Below w.heap.size w W→W.rangeAt g2 (o2+4*i) (wn (b i)):=fun W hB=>RG.range_below (HF.out.2.2.2.2.1 i hi) hB HF.out.2.2.2.2.2.2.1
   have r5s:∀ W,CbS w W N k4 (k4+1) i a b→W.rangeAt (k4+1) 0 (wn s):=fun W h=>by rw[← hse.out];exact h.r5.2.1
   refine (RG.gwL [RG.pE (nv s),RG.pE (.iface 52 (nv s)),RG.pE (.slice (some ⟨g2,o2,none⟩) n c2),RG.pE (.int .i64 i),RG.pE (.pointer (some ⟨g2,o2+4*i,none⟩)),RG.pE (nv (b i)),RG.pE (.iface 52 (nv (b i))),RG.pE (nv (a i)),RG.pE (nv p),RG.pE (nv q)] (fun W=>CbS w W N k4 (k4+1) i a b∧Row W k7 (wn (a i))) (fun W W' hb h=>⟨h.1.grow hb,h.2.below hb⟩)).last 10 (by kernel_rfl) (by kernel_rfl) (by kernel_rfl) ⟨
    RG.gw_lo 52 5 (k4+1) 0 (wn s) u40 i40 rfl (fun W hB=>r5s W hB.1) (fun _=>rfl),
    RG.gw_n 0 15 (nv s) (.iface 52 (nv s)) (fun x W h=>h) (fun _=>rfl),
    RG.gw_o 1 (.slice (some ⟨g2,o2,none⟩) n c2) (.slice (some ⟨g2,o2,none⟩) n c2) rfl (fun _=>rfl),
    RG.gw_o 6 (.int .i64 i) (.int .i64 i) rfl (fun _=>rfl),
    RG.gw_x 2 17 3 18 (.slice (some ⟨g2,o2,none⟩) n c2) (.int .i64 i) (.pointer (some ⟨g2,o2+4*i,none⟩)) (Instr.indexAt 46 (.slice (some ⟨g2,o2,none⟩) n c2) (.int .i64 i)) (at33 g2 o2 n c2 i HL.out) (fun x W h=>h) (fun x W h=>h) (fun _=>rfl),
    RG.gw_lr 52 4 19 g2 (o2+4*i) (wn (b i)) u40 i40 (fun x W h=>h) (fun W hB=>hR2 W hB.1.bl) (fun _=>rfl),
    RG.gw_n 5 20 (nv (b i)) (.iface 52 (nv (b i))) (fun x W h=>h) (fun _=>rfl),
    RG.gw_lo 52 7 k7 0 (wn (a i)) u40 i40 rfl (fun W hB=>hB.2.2.1) (fun _=>rfl),
    RG.gw_iv 52 6 21 7 22 (RG.pE (nv (b i))) 61 (fun x W h=>⟨_,h,rfl⟩) (fun x y W hx hy hB=>by
     obtain rfl:x=nv (b i):=hx
     obtain rfl:y=nv (a i):=hy
     refine (hT W).mono ?_
     rintro e W' ⟨u,rfl,hb,rfl⟩
     exact ⟨_,rfl,hb,rfl⟩),
    RG.gw_iv 52 1 16 8 23 (RG.pE (nv s)) 88 (fun x W h=>⟨_,h,rfl⟩) (fun x y W hx hy hB=>by
     obtain rfl:x=nv s:=hx
     obtain rfl:y=nv p:=hy
     refine (hPl W).mono ?_
     rintro e W' ⟨u,rfl,hb,rfl⟩
     exact ⟨_,rfl,hb,rfl⟩),trivial⟩ ⟨F2.out.2.drew,F2.out.1⟩ ?_
   intro V W3 hR3 hB3
   have hV9:V 9=nv q:=hR3 9 (by decide)
   obtain ⟨W4,hW4⟩:∃ W4,Hid (W3.setCells (k4+1) 0 (wn q)=W4):=⟨_,rfl⟩
   have K4:Hid (CbS w W4 N k4 (k4+1) (i+1) a b):=by
    have h:=hB3.1.put (by have:=HF.out.2.2.2.2.2.2.2;omega) (by omega)
    rw[HQ.out,hW4.out] at h
    exact h
   have HT:Hid (W3.there (k4+1) 0 4):=hB3.1.r5.2.2
   dsimp only[RG.putV,Nat.reduceAdd,List.take,List.drop]
   simp only[Act.put,List.setIfInBounds_toArray,List.set_cons_succ,List.set_cons_zero]
   obtain ⟨vq,hvq⟩:∃ v,Hid (nv q=v):=⟨_,rfl⟩
   rw[hV9,hvq.out]
   clear hR3 hB3 hV9 F2 hT hPl hR2 r5s
   generalize V 0=s0
   generalize V 1=s1
   generalize V 2=s2
   generalize V 3=s3
   generalize V 4=s4
   generalize V 5=s5
   generalize V 6=s6
   generalize V 7=s7
   generalize V 8=s8
   go_wp2_with (first|(refine wpList_store_mid rfl 52 _ _ rfl (k4+1) 0 (wn q).toArray ?_ ?_ ?_ ?_ ?_ ?_;rfl;exact hvq.out.symm;exact HT.out;exact i40;exact wn_one q;rw[show (wn q).toArray.toList=wn q from rfl,hW4.out])|fail)
   go_roundg (gk-1)
   case measure=>omega
   case rel=>exact ⟨i+1,by omega,rfl,K4⟩
  ·have hi':¬ (i:Int)<(n:Int):=by omega
   obtain rfl:i=n:=by omega
   obtain ⟨q,hqe⟩:∃ q,Hid (prS N a b i=q):=⟨_,rfl⟩
   obtain ⟨W4,hW4⟩:∃ W4,Hid (wr.setCells k4 0 (wn q)=W4):=⟨_,rfl⟩
   have R5:Hid (wr.rangeAt (k4+1) 0 (wn q)∧wr.there k4 0 4):=⟨by rw[← hqe.out];exact KM.out.r5.2.1,KM.out.r4.2.2⟩
   have K4:Hid (Below w.heap.size w W4∧Row W4 k4 (wn q)):=by
    rw[← hW4.out]
    exact ⟨RG.below_setCells HF.out.2.2.2.2.2.2.2 _ _ _ KM.out.bl,KM.out.r4.put rfl⟩
   obtain ⟨vq,hvq⟩:∃ v,Hid (nv q=v):=⟨_,rfl⟩
   clear KM
   go_wp2_with (first|(refine wpList_load_mid rfl 52 _ rfl (k4+1) 0 ?_ (wn q) d ?_ ?_ ?_ ?_ ?_;rfl;exact R5.out.1;exact HD.out.1;exact HD.out.2;exact i40;rw[show Value.agg (wn q).toArray=vq from hvq.out])|(refine wpList_store_mid rfl 52 _ _ rfl k4 0 (wn q).toArray ?_ ?_ ?_ ?_ ?_ ?_;rfl;exact hvq.out.symm;exact R5.out.2;exact i40;exact wn_one q;rw[show (wn q).toArray.toList=wn q from rfl,hW4.out])|fail)
   refine bodyPost_ret (results_cell 4 52 rfl K4.out.2 rfl u40 i40) rfl ?_
   exact ⟨_,rfl,K4.out.1,by rw[hqe.out];rfl⟩
theorem uSum:(Tryz.prog.underlying 56).map (·.isRow)=some false:=by kernel_rfl
structure CbM (w W:World) (v:Value) (l:List (Nat × Bs)):Prop where
 bl:Below w.heap.size w W
 sm:SmZ w.heap.size W v l
theorem CbM.grow {w W W':World} {v:Value} {l:List (Nat × Bs)} (h:CbM w W v l) (hb:Below W.heap.size W W'):CbM w W' v l:=⟨h.bl.trans (hb.mono h.bl.size),h.sm.grow hb⟩
theorem CbM.drew {w W:World} {v:Value} {l:List (Nat × Bs)} (h:CbM w W v l):CbM w W.drew v l:=⟨h.bl.drew,h.sm.grow ⟨rfl,rfl,rfl,Nat.le_refl _,fun _ _=>rfl⟩⟩
theorem smz_zero {B:Nat} {W:World} {v:Value} {l:List (Nat × Bs)} (h:SmZ B W v l):SmZ 0 W v l:=by
 rcases h with h|⟨g,c,h1,h2,-,h3⟩
 ·exact Or.inl h
 ·exact Or.inr ⟨g,c,h1,h2,Nat.zero_le _,h3⟩
theorem cmbM_c (O:Ord N) {Q:Nat→Prop} (n c:Nat) (hn0:0<n) (hc0:0<c) (hn:n≤512) (hcn:c*n≤400) (a:Nat→Nat) (T:Nat→List (Nat × Bs)) (ha:∀ i,i<n→a i<N) (hT:∀ i,i<n→TOk N (T i)) (hl:∀ i,i<n→(T i).length=c) (va vb:Value) (w:World) (h1:SLq Q w va n a) (h2:GLq Q w vb n T) :
 Calls Tryz.prog 102 #[va,vb] w (Ret fun e w'=>Below w.heap.size w w'∧Sm w.heap.size w' e (cmbT N a T n)):=by
 obtain ⟨g1,o1,c1,rfl,-,-,hg1,hr1⟩:=h1
 obtain ⟨g2,o2,c2,rfl,-,-,hg2,hr2⟩:=h2
 have K1:Hid (CbM w w (.slice none 0 0) (cmbT N a T 0)):=⟨Below.refl _ _,Or.inl ⟨rfl,rfl⟩⟩
 have HF:Hid (Ord N∧(∀ i,i<n→a i<N)∧(∀ i,i<n→TOk N (T i))∧(∀ i,i<n→(T i).length=c)∧(∀ j,j<n→w.rangeAt g1 (o1+4*j) (wn (a j)))∧(∀ j,j<n→∃ x,w.cell? ⟨g2,o2+j,none⟩=some x∧SmQ Q w x (T j))∧g1<w.heap.size∧g2<w.heap.size∧0<c∧c*n≤400∧0<n):=⟨O,ha,hT,hl,hr1,hr2,hg1,hg2,hc0,hcn,hn0⟩
 obtain ⟨d,hd1,hd2⟩:=Option.map_eq_some_iff.1 u40
 have HD:Hid (Tryz.prog.underlying 52=some d∧d.isRow=true):=⟨hd1,hd2⟩
 clear O ha hT hl hr1 hr2 hg1 hg2 hd1 hd2 hc0 hcn hn0
 go_enter Tryz.func102,Tryz.ntmps102
 go_wp2
 go_loopg [5,10] n (fun m s5 s10 W=>∃ i:Nat,i+m=n∧s10=.int .i64 i∧Hid (CbM w W s5 (cmbT N a T i)))
 case atStart=>exact ⟨0,by omega,rfl,K1⟩
 case round =>
  clear K1
  obtain ⟨i,hik,rfl,KM⟩:=hrel
  by_cases hi:i<n
  ·have hi':(i:Int)<(n:Int):=by omega
   have hi5:(i:Int)≤600:=by omega
   have HL:=Hid.mk' hi
   have hix:=at33 g1 o1 n c1 i hi
   have B0:Hid (wr.rangeAt g1 (o1+4*i) (wn (a i))):=RG.range_below (HF.out.2.2.2.2.1 i hi) KM.out.bl HF.out.2.2.2.2.2.2.1
   obtain ⟨k7,hk7⟩:∃ k,Hid (wr.heap.size=k):=⟨_,rfl⟩
   obtain ⟨W1,hW1⟩:∃ W1,Hid (wr.alloc (.cells #[.int .u64 0,.int .u64 0,.int .u64 0,.int .u64 0] 52)=W1):=⟨_,rfl⟩
   obtain ⟨W2,hW2⟩:∃ W2,Hid (W1.setCells k7 0 (wn (a i))=W2):=⟨_,rfl⟩
   have F1:Hid (Row W1 k7 [.int .u64 0,.int .u64 0,.int .u64 0,.int .u64 0]∧Below wr.heap.size wr W1):=by rw[← hW1.out,← hk7.out];exact ⟨row_new wr _ _,below1 wr _⟩
   have F2:Hid (Row W2 k7 (wn (a i))∧CbM w W2 u5 (cmbT N a T i)):=by
    rw[← hW2.out]
    exact ⟨F1.out.1.put rfl,KM.out.grow (RG.below_setCells (by rw[hk7.out];exact Nat.le_refl _) _ _ _ F1.out.2)⟩
   obtain ⟨va,hva⟩:∃ v,Hid (Value.agg (wn (a i)).toArray=v):=⟨_,rfl⟩
   have HO:Hid ((wn (a i)).toArray.all (·.oneCell')=true):=wn_one _
   clear KM
   go_wp2_with (first|(refine wpList_load_mid rfl 52 _ rfl g1 (o1+4*i) ?_ (wn (a i)) d ?_ ?_ ?_ ?_ ?_;rfl;exact B0.out;exact HD.out.1;exact HD.out.2;exact i40;rw[hva.out])|(refine wpList_op (v:=.pointer (some ⟨k7,0,none⟩)) (w':=W1) rfl (.alloc 52) rfl ?_ ?_;(rw[← hW1.out,← hk7.out];kernel_rfl))|(refine wpList_store_mid rfl 52 _ _ rfl k7 0 (wn (a i)).toArray ?_ ?_ ?_ ?_ ?_ ?_;rfl;exact hva.out.symm;exact F1.out.1.2.2;exact i40;exact HO.out;rw[show (wn (a i)).toArray.toList=wn (a i) from rfl,hW2.out])|fail)
   clear hW1 hW2 hk7 F1 HO
   obtain ⟨x,hxc,hxs⟩:=HF.out.2.2.2.2.2.1 i hi
   have HX:Hid (w.cell? ⟨g2,o2+i,none⟩=some x∧SmQ Q w x (T i)):=⟨hxc,hxs⟩
   clear hxc hxs
   obtain ⟨l,hle⟩:∃ l,Hid (cmbT N a T i=l):=⟨_,rfl⟩
   have hle1:cmbT N a T (i+1)=l++(T i).map (tmT N (a i)):=by rw[← hle.out];rfl
   have hlen:l.length=c*i:=by rw[← hle.out];exact cmbT_len N a i fun j hj=>HF.out.2.2.2.1 j (by omega)
   have hcm:c*i+c≤c*n:=by have:=Nat.mul_le_mul_left c (Nat.succ_le_of_lt hi);rwa[Nat.mul_succ] at this
   have HB:Hid (l.length≤500∧(T i).length≤500∧0<(T i).length∧TOk N l):=⟨by have:=HF.out.2.2.2.2.2.2.2.2.2.1;omega,by rw[HF.out.2.2.2.1 i hi];have:=HF.out.2.2.2.2.2.2.2.2.2.1;omega,by rw[HF.out.2.2.2.1 i hi];exact HF.out.2.2.2.2.2.2.2.2.1,by rw[← hle.out];exact cmbT_ok HF.out.1.pos i fun j hj=>HF.out.2.2.1 j (by omega)⟩
   have HE:Hid (cmbT N a T (i+1)=l++(T i).map (tmT N (a i))):=hle1
   rw[hle.out] at F2
   clear hle1 hlen hcm
   refine (RG.gwL [RG.pE u5,RG.pE (.iface 56 u5),RG.pE (.slice (some ⟨g2,o2,none⟩) n c2),RG.pE (.int .i64 i),RG.pE (.pointer (some ⟨g2,o2+1*i,none⟩)),RG.pE x,RG.pE (.iface 56 x),RG.pE (nv (a i)),RG.pM (w.heap.size≤·) ((T i).map (tmT N (a i))),RG.pM (w.heap.size≤·) (l++(T i).map (tmT N (a i))),RG.pM (w.heap.size≤·) (l++(T i).map (tmT N (a i)))] (fun W=>CbM w W u5 l∧Row W k7 (wn (a i))) (fun W W' hb h=>⟨h.1.grow hb,h.2.below hb⟩)).draws (by kernel_rfl) (by kernel_rfl) ⟨
    RG.gw_o 5 u5 u5 rfl (fun _=>rfl),
    RG.gw_n 0 15 u5 (.iface 56 u5) (fun x W h=>h) (fun _=>rfl),
    RG.gw_o 1 (.slice (some ⟨g2,o2,none⟩) n c2) (.slice (some ⟨g2,o2,none⟩) n c2) rfl (fun _=>rfl),
    RG.gw_o 6 (.int .i64 i) (.int .i64 i) rfl (fun _=>rfl),
    RG.gw_x 2 17 3 18 (.slice (some ⟨g2,o2,none⟩) n c2) (.int .i64 i) (.pointer (some ⟨g2,o2+1*i,none⟩)) (Instr.indexAt 54 (.slice (some ⟨g2,o2,none⟩) n c2) (.int .i64 i)) (atS g2 o2 n c2 i HL.out) (fun x W h=>h) (fun x W h=>h) (fun _=>rfl),
    RG.gw_l1 56 4 19 g2 (o2+1*i) x uSum (fun x W h=>h) (fun W hB=>by rw[Nat.one_mul,hB.1.bl.cell (p:=⟨g2,o2+i,none⟩) HF.out.2.2.2.2.2.2.2.1];exact HX.out.1) (fun _=>rfl),
    RG.gw_n 5 20 x (.iface 56 x) (fun x W h=>h) (fun _=>rfl),
    RG.gw_lo 52 7 k7 0 (wn (a i)) u40 i40 rfl (fun W hB=>hB.2.2.1) (fun _=>rfl),
    RG.gw_iv 56 6 21 7 22 (RG.pE x) 47 (fun x W h=>⟨_,h,rfl⟩) (fun z y W hx hy hB=>by
     obtain rfl:z=x:=hx
     obtain rfl:y=nv (a i):=hy
     refine (sumTimes_c HF.out.1 (HF.out.2.1 i HL.out) 0 z (T i) (by have:=HB.out.2.1;omega) (HF.out.2.2.1 i HL.out).szm (HF.out.2.2.1 i HL.out).lt W (HX.out.2.sm.grow hB.1.bl)).mono ?_
     rintro e W' ⟨u,rfl,hb,hs⟩
     exact ⟨_,rfl,hb,hs.q.mono fun g hg=>Nat.le_trans hB.1.bl.size hg⟩),
    RG.gw_iv 56 1 16 8 23 (RG.pE u5) 46 (fun x W h=>⟨_,h,rfl⟩) (fun z y W hx hy hB=>by
     obtain rfl:z=u5:=hx
     have hy:SmQ (w.heap.size≤·) W y ((T i).map (tmT N (a i))):=hy
     refine (sumPlusZ_c 0 z y l ((T i).map (tmT N (a i))) (by rw[List.length_append,List.length_map];have:=HB.out.2.2.1;omega) HB.out.1 (by rw[List.length_map];exact HB.out.2.1) HB.out.2.2.2.sz ((HF.out.2.2.1 i HL.out).tm HF.out.1.pos (a i)).sz W (smz_zero hB.1.sm) (Or.inr hy.sm)).mono ?_
     rintro e W' ⟨u,rfl,hb,hs⟩
     exact ⟨_,rfl,hb,hs.q.mono fun g hg=>Nat.le_trans hB.1.bl.size hg⟩),
    RG.gw_m 9 24 id (fun x W h=>h),trivial⟩ ⟨F2.out.2.drew,F2.out.1⟩ ?_
   intro V W3 hR3 hB3
   have K4:Hid (CbM w W3 (V 10) (cmbT N a T (i+1))):=⟨hB3.1.bl,Or.inr (by rw[HE.out];exact hR3 10 (Nat.lt_of_succ_le (Nat.le_of_ble_eq_true (by kernel_rfl))))⟩
   dsimp only[RG.putV,Nat.reduceAdd]
   simp only[Act.put,List.setIfInBounds_toArray,List.set_cons_succ,List.set_cons_zero]
   generalize V 10=s10 at K4 ⊢
   clear hR3 hB3 F2
   generalize V 0=s0
   generalize V 1=s1
   generalize V 2=s2
   generalize V 3=s3
   generalize V 4=s4
   generalize V 5=s5
   generalize V 6=s6
   generalize V 7=s7
   generalize V 8=s8
   generalize V 9=s9
   go_wp2
   go_roundg (gk-1)
   case measure=>omega
   case rel=>exact ⟨i+1,by omega,rfl,K4⟩
  ·have hi':¬ (i:Int)<(n:Int):=by omega
   obtain rfl:i=n:=by omega
   have K4:Hid (Below w.heap.size w wr∧Sm w.heap.size wr u5 (cmbT N a T i)):=⟨KM.out.bl,by
    rcases KM.out.sm with ⟨-,h⟩|h
    ·exfalso
     have:=cmbT_len N a i HF.out.2.2.2.1
     rw[h] at this
     have h2:=Nat.mul_pos HF.out.2.2.2.2.2.2.2.2.1 HF.out.2.2.2.2.2.2.2.2.2.2
     rw[← this] at h2
     exact absurd h2 (Nat.lt_irrefl _)
    ·exact h⟩
   clear KM
   go_wp2
   go_ret
   exact ⟨_,rfl,K4.out.1,K4.out.2⟩
theorem rSc:(Tryz.prog.underlying 52).map (·.isRow)=some true:=u40
theorem nSc:(Tryz.prog.info? 52).map (·.size)=some 4:=i40
def fldS (N x y n:Nat) (a:Nat→Nat) (i:Nat):Nat:=sPl N (sTi N (a i) x) (sTi N (a (n+i)) y)
structure FdS (w W:World) (K k4 k5 n i x y:Nat) (f:Nat→Nat):Prop where
 ar:Ar w W K 4 n i (fun j=>wn (f j))
 r4:Row W k4 (wn x)
 r5:Row W k5 (wn y)
theorem FdS.grow {w W W':World} {K k4 k5 n i x y:Nat} {f:Nat→Nat} (h:FdS w W K k4 k5 n i x y f) (hb:Below W.heap.size W W'):FdS w W' K k4 k5 n i x y f:=⟨h.ar.grow hb,h.r4.below hb,h.r5.below hb⟩
theorem FdS.drew {w W:World} {K k4 k5 n i x y:Nat} {f:Nat→Nat} (h:FdS w W K k4 k5 n i x y f):FdS w W.drew K k4 k5 n i x y f:=h.grow ⟨rfl,rfl,rfl,Nat.le_refl _,fun _ _=>rfl⟩
theorem FdS.put {w W:World} {K k4 k5 n i x y:Nat} {f:Nat→Nat} (h:FdS w W K k4 k5 n i x y f) (hK:w.heap.size≤K) (hi:i<n) (h4:k4≠K) (h5:k5≠K):FdS w (W.setCells K (4*i) (wn (f i))) K k4 k5 n (i+1) x y f:=
 ⟨h.ar.put hK hi (fun _ _=>rfl),row_set h.r4 h4,row_set h.r5 h5⟩
theorem addII (a b:Nat) (h:a+b<4611686018427387904) (w:World):(binOp .add 3 (.int .i64 a) (.int .i64 b)).run Tryz.prog w=.ok (.int .i64 ((a+b:Nat):Int)) w:=by
 have h1:(a:Int)+(b:Int)<4611686018427387904:=by omega
 have h2:-4611686018427387904<(a:Int)+(b:Int):=by omega
 have h3:IntKind.i64.wrap ((a:Int)+(b:Int))=((a+b:Nat):Int):=by rw[IntKind.wrap_i64];omega
 go_simp
theorem box2 (w:World) (x y:Nat):∃ w2,Hid ((w.alloc (.cells (wn x).toArray 52)).alloc (.cells (wn y).toArray 52)=w2)∧Below w.heap.size w w2∧Row w2 w.heap.size (wn x)∧Row w2 (w.heap.size+1) (wn y)∧w2.heap.size=w.heap.size+2:=by
 have hR:=row_new (w.alloc (.cells (wn x).toArray 52)) (wn y) 52
 rw[World.size_alloc] at hR
 exact ⟨_,Hid.mk' rfl,(below1 w _).alloc (by rw[World.size_alloc];omega) _,(row_new w _ _).alloc _,hR,by rw[World.size_alloc,World.size_alloc]⟩
theorem fldS_c (O:Ord N) {Q:Nat→Prop} (n:Nat) (hn:n≤500) (a:Nat→Nat) (x y:Nat) (hx:x<N) (hy:y<N) (ha:∀ i,i<n+n→a i<N) (va:Value) (w:World) (h1:SLq Q w va (n+n) a) :
 Calls Tryz.prog 55 #[va,nv x,nv y] w (Ret fun e w'=>Below w.heap.size w w'∧SLq (w.heap.size≤·) w' e n (fldS N x y n a)):=by
 obtain ⟨g1,o1,c1,rfl,-,-,hg1,hr1⟩:=h1
 obtain ⟨m,hm⟩:∃ m,Hid (n+n=m):=⟨_,rfl⟩
 have hq:(m:Int).tdiv 2=(n:Int):=by rw[← hm.out,Int.tdiv_eq_ediv_of_nonneg (by omega)];omega
 obtain ⟨w2,hw2,hb2,hR4,hR5,hs2⟩:=box2 w x y
 obtain ⟨C0,hC0,hmk⟩:=mkArr uS4 iS4 n (by omega)
 have hmk':=hmk w2
 obtain ⟨K,hK⟩:∃ K,Hid (w2.heap.size=K):=⟨_,rfl⟩
 obtain ⟨w3,hw3⟩:∃ w3,Hid (w2.alloc (.cells C0.toArray 52)=w3):=⟨_,rfl⟩
 have A0:Ar w2 w3 K 4 n 0 (fun j=>wn (fldS N x y n a j)):=Ar.new _ hC0 hw3.out hK.out
 rw[hw3.out,hK.out] at hmk'
 obtain ⟨k4,hk4⟩:∃ k,Hid (w.heap.size=k):=⟨_,rfl⟩
 rw[hk4.out] at hR4 hR5 hs2
 have HK:Hid (K=k4+2∧w.heap.size≤k4):=⟨by rw[← hK.out,hs2],by rw[hk4.out];exact Nat.le_refl _⟩
 have K1:Hid (FdS w w3 K k4 (k4+1) n 0 x y (fldS N x y n a)):=⟨⟨hb2.trans (A0.bl.mono hb2.size),A0.lt,A0.th,fun j hj=>absurd hj (Nat.not_lt_zero _)⟩,hR4.below A0.bl,hR5.below A0.bl⟩
 have HF:Hid (Ord N∧x<N∧y<N∧(∀ i,i<n+n→a i<N)∧(∀ j,j<n+n→w.rangeAt g1 (o1+4*j) (wn (a j)))∧g1<w.heap.size):=⟨O,hx,hy,ha,hr1,hg1⟩
 obtain ⟨vx,hvx⟩:∃ v,Hid (nv x=v):=⟨_,rfl⟩
 obtain ⟨vy,hvy⟩:∃ v,Hid (nv y=v):=⟨_,rfl⟩
 obtain ⟨w1,hw1⟩:∃ w1,Hid (w.alloc (.cells (wn x).toArray 52)=w1):=⟨_,rfl⟩
 have B1:Hid ((Instr.box 52 vx).run Tryz.prog w=.ok (.pointer (some ⟨k4,0,none⟩)) w1):=by rw[← hvx.out,← hw1.out,← hk4.out];exact boxS x w
 have B2:Hid ((Instr.box 52 vy).run Tryz.prog w1=.ok (.pointer (some ⟨k4+1,0,none⟩)) w2):=by
  have h:=boxS y w1
  rw[show w1.heap.size=k4+1 by rw[← hw1.out,World.size_alloc,hk4.out]] at h
  have e:w1.alloc (.cells (wn y).toArray 52)=w2:=by rw[← hw1.out];exact hw2.out
  rw[e] at h
  rw[← hvy.out];exact h
 rw[hvx.out,hvy.out,hm.out]
 clear O hx hy ha hr1 hg1 hb2 hR4 hR5 hs2 A0 hC0 hmk hK hw3 hk4 hw2
 go_enter Tryz.func55,Tryz.ntmps55
 go_wp2_with (first|(refine wpList_box (u:=vx) (v:=.pointer (some ⟨k4,0,none⟩)) (w':=w1) rfl 52 (.tmp 1) rfl ?_ ?_ ?_;rfl;exact B1.out)|(refine wpList_box (u:=vy) (v:=.pointer (some ⟨k4+1,0,none⟩)) (w':=w2) rfl 52 (.tmp 2) rfl ?_ ?_ ?_;rfl;exact B2.out)|fail)
 clear hmk' B1 B2 hq
 go_loopg [15] n (fun m s15 W=>∃ i:Nat,i+m=n∧s15=.int .i64 i∧Hid (FdS w W K k4 (k4+1) n i x y (fldS N x y n a)))
 case atStart=>exact ⟨0,by omega,rfl,K1⟩
 case round =>
  clear K1
  obtain ⟨i,hik,rfl,KM⟩:=hrel
  by_cases hi:i<n
  ·have hi':(i:Int)<(n:Int):=by omega
   have hi5:(i:Int)≤600:=by omega
   have HL:=Hid.mk' hi
   have KP:=KM
   clear KM
   go_wp2_with fail
   obtain ⟨p1,hp1⟩:∃ p,Hid (sTi N (a i) x=p):=⟨_,rfl⟩
   obtain ⟨p2,hp2⟩:∃ p,Hid (sTi N (a (n+i)) y=p):=⟨_,rfl⟩
   obtain ⟨q,hqe⟩:∃ q,Hid (sPl N p1 p2=q):=⟨_,rfl⟩
   have HP:Hid (p1<N∧p2<N):=⟨by rw[← hp1.out];exact Nat.mod_lt _ HF.out.1.pos,by rw[← hp2.out];exact Nat.mod_lt _ HF.out.1.pos⟩
   have HQ:Hid (fldS N x y n a i=q):=by show _=_;rw[← hqe.out,← hp1.out,← hp2.out];rfl
   have hT1:=fun W=>sTim_c HF.out.1 (a i) x (HF.out.2.2.2.1 i (by omega)) HF.out.2.1 W
   have hT2:=fun W=>sTim_c HF.out.1 (a (n+i)) y (HF.out.2.2.2.1 (n+i) (by omega)) HF.out.2.2.1 W
   have hPl:=fun W=>sPlu_c HF.out.1 p1 p2 HP.out.1 HP.out.2 W
   rw[hp1.out] at hT1
   rw[hp2.out] at hT2
   rw[hqe.out] at hPl
   have hR1:∀ W,Below w.heap.size w W→W.rangeAt g1 (o1+4*i) (wn (a i)):=fun W hB=>RG.range_below (HF.out.2.2.2.2.1 i (by omega)) hB HF.out.2.2.2.2.2
   have hR2:∀ W,Below w.heap.size w W→W.rangeAt g1 (o1+4*(n+i)) (wn (a (n+i))):=fun W hB=>RG.range_below (HF.out.2.2.2.2.1 (n+i) (by omega)) hB HF.out.2.2.2.2.2
   have him:i<m:=by rw[← hm.out];omega
   have him2:n+i<m:=by rw[← hm.out];omega
   refine (RG.gwL [RG.pE (.slice (some ⟨K,0,none⟩) n n),RG.pE (.int .i64 i),RG.pE (.slice (some ⟨g1,o1,none⟩) m c1),RG.pE (.int .i64 i),RG.pE (.pointer (some ⟨g1,o1+4*i,none⟩)),RG.pE (nv (a i)),RG.pE (.iface 52 (nv (a i))),RG.pE (nv x),RG.pE (nv p1),RG.pE (.iface 52 (nv p1)),RG.pE (.slice (some ⟨g1,o1,none⟩) m c1),RG.pE (.slice (some ⟨K,0,none⟩) n n),RG.pE (.int .i64 n),RG.pE (.int .i64 i),RG.pE (.int .i64 ((n+i:Nat):Int)),RG.pE (.pointer (some ⟨g1,o1+4*(n+i),none⟩)),RG.pE (nv (a (n+i))),RG.pE (.iface 52 (nv (a (n+i)))),RG.pE (nv y),RG.pE (nv p2),RG.pE (nv q),RG.pE (.pointer (some ⟨K,0+4*i,none⟩))] (fun W=>FdS w W K k4 (k4+1) n i x y (fldS N x y n a)) (fun W W' hb h=>h.grow hb)).last 22 (by kernel_rfl) (by kernel_rfl) (by kernel_rfl) ⟨
    RG.gw_o 7 (.slice (some ⟨K,0,none⟩) n n) (.slice (some ⟨K,0,none⟩) n n) rfl (fun _=>rfl),
    RG.gw_o 8 (.int .i64 i) (.int .i64 i) rfl (fun _=>rfl),
    RG.gw_o 0 (.slice (some ⟨g1,o1,none⟩) m c1) (.slice (some ⟨g1,o1,none⟩) m c1) rfl (fun _=>rfl),
    RG.gw_o 8 (.int .i64 i) (.int .i64 i) rfl (fun _=>rfl),
    RG.gw_x 2 20 3 21 (.slice (some ⟨g1,o1,none⟩) m c1) (.int .i64 i) (.pointer (some ⟨g1,o1+4*i,none⟩)) (Instr.indexAt 46 (.slice (some ⟨g1,o1,none⟩) m c1) (.int .i64 i)) (at33 g1 o1 m c1 i him) (fun x W h=>h) (fun x W h=>h) (fun _=>rfl),
    RG.gw_lr 52 4 22 g1 (o1+4*i) (wn (a i)) rSc nSc (fun x W h=>h) (fun W hB=>hR1 W hB.ar.bl) (fun _=>rfl),
    RG.gw_n 5 23 (nv (a i)) (.iface 52 (nv (a i))) (fun x W h=>h) (fun _=>rfl),
    RG.gw_lo 52 4 k4 0 (wn x) rSc nSc rfl (fun W hB=>hB.r4.2.1) (fun _=>rfl),
    RG.gw_iv 52 6 24 7 25 (RG.pE (nv (a i))) 61 (fun x W h=>⟨_,h,rfl⟩) (fun z u W hx hy hB=>by
     obtain rfl:z=nv (a i):=hx
     obtain rfl:u=nv x:=hy
     refine (hT1 W).mono ?_
     rintro e W' ⟨u,rfl,hb,rfl⟩
     exact ⟨_,rfl,hb,rfl⟩),
    RG.gw_n 8 26 (nv p1) (.iface 52 (nv p1)) (fun x W h=>h) (fun _=>rfl),
    RG.gw_o 0 (.slice (some ⟨g1,o1,none⟩) m c1) (.slice (some ⟨g1,o1,none⟩) m c1) rfl (fun _=>rfl),
    RG.gw_o 7 (.slice (some ⟨K,0,none⟩) n n) (.slice (some ⟨K,0,none⟩) n n) rfl (fun _=>rfl),
    RG.gw_n 11 29 (.slice (some ⟨K,0,none⟩) n n) (.int .i64 n) (fun x W h=>h) (fun _=>rfl),
    RG.gw_o 8 (.int .i64 i) (.int .i64 i) rfl (fun _=>rfl),
    RG.gw_bin .add 3 3 30 31 rfl (fun a W hp=>⟨_,_,.int .i64 ((n+i:Nat):Int),hp.n 12 30 (by kernel_rfl) (by kernel_rfl),hp.n 13 31 (by kernel_rfl) (by kernel_rfl),by kernel_rfl,addII n i (by omega) W,rfl⟩),
    RG.gw_x 10 28 14 32 (.slice (some ⟨g1,o1,none⟩) m c1) (.int .i64 ((n+i:Nat):Int)) (.pointer (some ⟨g1,o1+4*(n+i),none⟩)) (Instr.indexAt 46 (.slice (some ⟨g1,o1,none⟩) m c1) (.int .i64 ((n+i:Nat):Int))) (at33 g1 o1 m c1 (n+i) him2) (fun x W h=>h) (fun x W h=>h) (fun _=>rfl),
    RG.gw_lr 52 15 33 g1 (o1+4*(n+i)) (wn (a (n+i))) rSc nSc (fun x W h=>h) (fun W hB=>hR2 W hB.ar.bl) (fun _=>rfl),
    RG.gw_n 16 34 (nv (a (n+i))) (.iface 52 (nv (a (n+i)))) (fun x W h=>h) (fun _=>rfl),
    RG.gw_lo 52 5 (k4+1) 0 (wn y) rSc nSc rfl (fun W hB=>hB.r5.2.1) (fun _=>rfl),
    RG.gw_iv 52 17 35 18 36 (RG.pE (nv (a (n+i)))) 61 (fun x W h=>⟨_,h,rfl⟩) (fun z u W hx hy hB=>by
     obtain rfl:z=nv (a (n+i)):=hx
     obtain rfl:u=nv y:=hy
     refine (hT2 W).mono ?_
     rintro e W' ⟨u,rfl,hb,rfl⟩
     exact ⟨_,rfl,hb,rfl⟩),
    RG.gw_iv 52 9 27 19 37 (RG.pE (nv p1)) 88 (fun x W h=>⟨_,h,rfl⟩) (fun z u W hx hy hB=>by
     obtain rfl:z=nv p1:=hx
     obtain rfl:u=nv p2:=hy
     refine (hPl W).mono ?_
     rintro e W' ⟨u,rfl,hb,rfl⟩
     exact ⟨_,rfl,hb,rfl⟩),
    RG.gw_x 0 18 1 19 (.slice (some ⟨K,0,none⟩) n n) (.int .i64 i) (.pointer (some ⟨K,0+4*i,none⟩)) (Instr.indexAt 46 (.slice (some ⟨K,0,none⟩) n n) (.int .i64 i)) (at33 K 0 n n i HL.out) (fun x W h=>h) (fun x W h=>h) (fun _=>rfl),trivial⟩ KP.out.drew ?_
   intro V W3 hR3 hB3
   have hV20:V 20=nv q:=hR3 20 (by decide)
   have hV21:V 21=.pointer (some ⟨K,0+4*i,none⟩):=hR3 21 (by decide)
   obtain ⟨W4,hW4⟩:∃ W4,Hid (W3.setCells K (4*i) (wn q)=W4):=⟨_,rfl⟩
   have K4:Hid (FdS w W4 K k4 (k4+1) n (i+1) x y (fldS N x y n a)):=by
    have h:=hB3.put (by have:=HK.out;omega) hi (by have:=HK.out;omega) (by have:=HK.out;omega)
    rw[HQ.out,hW4.out] at h
    exact h
   have HT:Hid (W3.there K (4*i) 4):=fun t ht=>by
    have:=hB3.ar.th (4*i+t) (by omega)
    rwa[Nat.zero_add] at this
   dsimp only[RG.putV,Nat.reduceAdd,List.take,List.drop]
   simp only[Act.put,List.setIfInBounds_toArray,List.set_cons_succ,List.set_cons_zero]
   obtain ⟨vq,hvq⟩:∃ v,Hid (nv q=v):=⟨_,rfl⟩
   rw[hV20,hV21,hvq.out,Nat.zero_add]
   clear hR3 hB3 hV20 hV21 KP hT1 hT2 hPl hR2 hR1
   generalize V 0=s0
   generalize V 1=s1
   generalize V 2=s2
   generalize V 3=s3
   generalize V 4=s4
   generalize V 5=s5
   generalize V 6=s6
   generalize V 7=s7
   generalize V 8=s8
   generalize V 9=s9
   generalize V 10=s10
   generalize V 11=s11
   generalize V 12=s12
   generalize V 13=s13
   generalize V 14=s14
   generalize V 15=s15
   generalize V 16=s16
   generalize V 17=s17
   generalize V 18=s18
   generalize V 19=s19
   go_wp2_with (first|(refine wpList_store_mid rfl 52 _ _ rfl K (4*i) (wn q).toArray ?_ ?_ ?_ ?_ ?_ ?_;rfl;exact hvq.out.symm;exact HT.out;exact i40;exact wn_one q;rw[show (wn q).toArray.toList=wn q from rfl,hW4.out])|fail)
   go_roundg (gk-1)
   case measure=>omega
   case rel=>exact ⟨i+1,by omega,rfl,K4⟩
  ·have hi':¬ (i:Int)<(n:Int):=by omega
   obtain rfl:i=n:=by omega
   have K4:Hid (Below w.heap.size w wr∧SLq (w.heap.size≤·) wr (.slice (some ⟨K,0,none⟩) i i) i (fldS N x y i a)):=⟨KM.out.ar.bl,K,0,i,rfl,Nat.le_refl _,by have:=HK.out;omega,KM.out.ar.lt,fun j hj=>by rw[Nat.zero_add];exact KM.out.ar.rw j hj⟩
   clear KM
   go_wp2
   go_ret
   exact ⟨_,rfl,K4.out.1,K4.out.2⟩
structure FdM (w W:World) (K k4 k5 n i x y:Nat) (f:Nat→List (Nat × Bs)):Prop where
 ls:LsI w W K n i f
 r4:Row W k4 (wn x)
 r5:Row W k5 (wn y)
theorem FdM.grow {w W W':World} {K k4 k5 n i x y:Nat} {f:Nat→List (Nat × Bs)} (h:FdM w W K k4 k5 n i x y f) (hb:Below W.heap.size W W'):FdM w W' K k4 k5 n i x y f:=⟨h.ls.grow hb,h.r4.below hb,h.r5.below hb⟩
theorem FdM.drew {w W:World} {K k4 k5 n i x y:Nat} {f:Nat→List (Nat × Bs)} (h:FdM w W K k4 k5 n i x y f):FdM w W.drew K k4 k5 n i x y f:=h.grow ⟨rfl,rfl,rfl,Nat.le_refl _,fun _ _=>rfl⟩
theorem FdM.put {w W:World} {K k4 k5 n i x y:Nat} {f:Nat→List (Nat × Bs)} {v:Value} (h:FdM w W K k4 k5 n i x y f) (hi:i<n) (h4:k4≠K) (h5:k5≠K) (hv:SmQ (fun g=>w.heap.size≤g∧g≠K) W v (f i)):FdM w (W.setCells K i [v]) K k4 k5 n (i+1) x y f:=
 ⟨h.ls.put hi hv,row_set h.r4 h4,row_set h.r5 h5⟩
theorem fldM_c (O:Ord N) {Q:Nat→Prop} (n:Nat) (hn:n≤500) (c:Nat) (hc:c≤200) (hc0:0<c) (a:Nat→List (Nat × Bs)) (x y:Nat) (hx:x<N) (hy:y<N) (ha:∀ i,i<n+n→TOk N (a i)∧(a i).length=c) (va:Value) (w:World) (h1:GLq Q w va (n+n) a) :
 Calls Tryz.prog 109 #[va,nv x,nv y] w (Ret fun e w'=>Below w.heap.size w w'∧GLq (w.heap.size≤·) w' e n (fldT N x y n a)):=by
 obtain ⟨g1,o1,c1,rfl,-,-,hg1,hr1⟩:=h1
 obtain ⟨m,hm⟩:∃ m,Hid (n+n=m):=⟨_,rfl⟩
 have hq:(m:Int).tdiv 2=(n:Int):=by rw[← hm.out,Int.tdiv_eq_ediv_of_nonneg (by omega)];omega
 obtain ⟨w2,hw2,hb2,hR4,hR5,hs2⟩:=box2 w x y
 obtain ⟨C0,hC0,hmk⟩:=mkArr uSu iSu n (by omega)
 have hmk':=hmk w2
 obtain ⟨K,hK⟩:∃ K,Hid (w2.heap.size=K):=⟨_,rfl⟩
 obtain ⟨w3,hw3⟩:∃ w3,Hid (w2.alloc (.cells C0.toArray 56)=w3):=⟨_,rfl⟩
 have A0:Ar w2 w3 K 1 n 0 (fun _=>[]):=Ar.new _ hC0 hw3.out hK.out
 rw[hw3.out,hK.out] at hmk'
 obtain ⟨k4,hk4⟩:∃ k,Hid (w.heap.size=k):=⟨_,rfl⟩
 rw[hk4.out] at hR4 hR5 hs2
 have HK:Hid (K=k4+2∧w.heap.size≤k4):=⟨by rw[← hK.out,hs2],by rw[hk4.out];exact Nat.le_refl _⟩
 have K1:Hid (FdM w w3 K k4 (k4+1) n 0 x y (fldT N x y n a)):=⟨⟨hb2.trans (A0.bl.mono hb2.size),A0.lt,by have:=A0.th;rwa[Nat.one_mul] at this,by have:=HK.out;omega,fun j hj=>absurd hj (Nat.not_lt_zero _)⟩,hR4.below A0.bl,hR5.below A0.bl⟩
 have HF:Hid (Ord N∧x<N∧y<N∧(∀ i,i<n+n→TOk N (a i)∧(a i).length=c)∧(∀ j,j<n+n→∃ x,w.cell? ⟨g1,o1+j,none⟩=some x∧SmQ Q w x (a j))∧g1<w.heap.size∧c≤200∧0<c):=⟨O,hx,hy,ha,hr1,hg1,hc,hc0⟩
 obtain ⟨vx,hvx⟩:∃ v,Hid (nv x=v):=⟨_,rfl⟩
 obtain ⟨vy,hvy⟩:∃ v,Hid (nv y=v):=⟨_,rfl⟩
 obtain ⟨w1,hw1⟩:∃ w1,Hid (w.alloc (.cells (wn x).toArray 52)=w1):=⟨_,rfl⟩
 have B1:Hid ((Instr.box 52 vx).run Tryz.prog w=.ok (.pointer (some ⟨k4,0,none⟩)) w1):=by rw[← hvx.out,← hw1.out,← hk4.out];exact boxS x w
 have B2:Hid ((Instr.box 52 vy).run Tryz.prog w1=.ok (.pointer (some ⟨k4+1,0,none⟩)) w2):=by
  have h:=boxS y w1
  rw[show w1.heap.size=k4+1 by rw[← hw1.out,World.size_alloc,hk4.out]] at h
  have e:w1.alloc (.cells (wn y).toArray 52)=w2:=by rw[← hw1.out];exact hw2.out
  rw[e] at h
  rw[← hvy.out];exact h
 rw[hvx.out,hvy.out,hm.out]
 clear O hx hy ha hr1 hg1 hc hc0 hb2 hR4 hR5 hs2 A0 hC0 hmk hK hw3 hk4 hw2
 go_enter Tryz.func109,Tryz.ntmps109
 go_wp2_with (first|(refine wpList_box (u:=vx) (v:=.pointer (some ⟨k4,0,none⟩)) (w':=w1) rfl 52 (.tmp 1) rfl ?_ ?_ ?_;rfl;exact B1.out)|(refine wpList_box (u:=vy) (v:=.pointer (some ⟨k4+1,0,none⟩)) (w':=w2) rfl 52 (.tmp 2) rfl ?_ ?_ ?_;rfl;exact B2.out)|fail)
 clear hmk' B1 B2 hq
 go_loopg [15] n (fun m s15 W=>∃ i:Nat,i+m=n∧s15=.int .i64 i∧Hid (FdM w W K k4 (k4+1) n i x y (fldT N x y n a)))
 case atStart=>exact ⟨0,by omega,rfl,K1⟩
 case round =>
  clear K1
  obtain ⟨i,hik,rfl,KM⟩:=hrel
  by_cases hi:i<n
  ·have hi':(i:Int)<(n:Int):=by omega
   have hi5:(i:Int)≤600:=by omega
   have HL:=Hid.mk' hi
   have KP:=KM
   clear KM
   go_wp2_with fail
   obtain ⟨x1,hx1,hs1⟩:=HF.out.2.2.2.2.1 i (by omega)
   obtain ⟨x2,hx2,hs2⟩:=HF.out.2.2.2.2.1 (n+i) (by omega)
   have HX:Hid (w.cell? ⟨g1,o1+i,none⟩=some x1∧SmQ Q w x1 (a i)∧w.cell? ⟨g1,o1+(n+i),none⟩=some x2∧SmQ Q w x2 (a (n+i))):=⟨hx1,hs1,hx2,hs2⟩
   have HA:Hid ((TOk N (a i)∧(a i).length=c)∧TOk N (a (n+i))∧(a (n+i)).length=c):=⟨HF.out.2.2.2.1 i (by omega),HF.out.2.2.2.1 (n+i) (by omega)⟩
   have HZ:Hid (c≤200∧0<c):=HF.out.2.2.2.2.2.2
   clear hx1 hs1 hx2 hs2
   obtain ⟨l1,hl1⟩:∃ l,Hid ((a i).map (tmT N x)=l):=⟨_,rfl⟩
   obtain ⟨l2,hl2⟩:∃ l,Hid ((a (n+i)).map (tmT N y)=l):=⟨_,rfl⟩
   have HQ:Hid (fldT N x y n a i=l1++l2):=by show _=_;rw[← hl1.out,← hl2.out];rfl
   have HY:Hid (l1.length=c∧l2.length=c∧TOk N l1∧TOk N l2):=⟨by rw[← hl1.out,List.length_map];exact HA.out.1.2,by rw[← hl2.out,List.length_map];exact HA.out.2.2,by rw[← hl1.out];exact HA.out.1.1.tm HF.out.1.pos x,by rw[← hl2.out];exact HA.out.2.1.tm HF.out.1.pos y⟩
   have hT1:=fun (W:World) (hB:Below w.heap.size w W)=>sumTimes_c HF.out.1 HF.out.2.1 0 x1 (a i) (by rw[HA.out.1.2];have:=HZ.out;omega) HA.out.1.1.szm HA.out.1.1.lt W (HX.out.2.1.sm.grow hB)
   have hT2:=fun (W:World) (hB:Below w.heap.size w W)=>sumTimes_c HF.out.1 HF.out.2.2.1 0 x2 (a (n+i)) (by rw[HA.out.2.2];have:=HZ.out;omega) HA.out.2.1.szm HA.out.2.1.lt W (HX.out.2.2.2.sm.grow hB)
   have hPl:=fun (W:World) (u v:Value) (hu:Sm 0 W u l1) (hv:Sm 0 W v l2)=>sumPlusZ_c 0 u v l1 l2 (by rw[List.length_append];have:=HY.out.1;have:=HZ.out;omega) (by have:=HY.out.1;have:=HZ.out;omega) (by have:=HY.out.2.1;have:=HZ.out;omega) HY.out.2.2.1.sz HY.out.2.2.2.sz W (Or.inr hu) (Or.inr hv)
   rw[hl1.out] at hT1
   rw[hl2.out] at hT2
   have hR1:∀ W,Below w.heap.size w W→W.cell? ⟨g1,o1+1*i,none⟩=some x1:=fun W hB=>by rw[Nat.one_mul,hB.cell (p:=⟨g1,o1+i,none⟩) HF.out.2.2.2.2.2.1];exact HX.out.1
   have hR2:∀ W,Below w.heap.size w W→W.cell? ⟨g1,o1+1*(n+i),none⟩=some x2:=fun W hB=>by rw[Nat.one_mul,hB.cell (p:=⟨g1,o1+(n+i),none⟩) HF.out.2.2.2.2.2.1];exact HX.out.2.2.1
   have him:i<m:=by rw[← hm.out];omega
   have him2:n+i<m:=by rw[← hm.out];omega
   refine (RG.gwL [RG.pE (.slice (some ⟨K,0,none⟩) n n),RG.pE (.int .i64 i),RG.pE (.slice (some ⟨g1,o1,none⟩) m c1),RG.pE (.int .i64 i),RG.pE (.pointer (some ⟨g1,o1+1*i,none⟩)),RG.pE x1,RG.pE (.iface 56 x1),RG.pE (nv x),RG.pM (fun g=>w.heap.size≤g∧g≠K) l1,RG.pI 56 (RG.pM (fun g=>w.heap.size≤g∧g≠K) l1),RG.pE (.slice (some ⟨g1,o1,none⟩) m c1),RG.pE (.slice (some ⟨K,0,none⟩) n n),RG.pE (.int .i64 n),RG.pE (.int .i64 i),RG.pE (.int .i64 ((n+i:Nat):Int)),RG.pE (.pointer (some ⟨g1,o1+1*(n+i),none⟩)),RG.pE x2,RG.pE (.iface 56 x2),RG.pE (nv y),RG.pM (fun g=>w.heap.size≤g∧g≠K) l2,RG.pM (fun g=>w.heap.size≤g∧g≠K) (l1++l2),RG.pE (.pointer (some ⟨K,0+1*i,none⟩))] (fun W=>FdM w W K k4 (k4+1) n i x y (fldT N x y n a)) (fun W W' hb h=>h.grow hb)).last 22 (by kernel_rfl) (by kernel_rfl) (by kernel_rfl) ⟨
    RG.gw_o 7 (.slice (some ⟨K,0,none⟩) n n) (.slice (some ⟨K,0,none⟩) n n) rfl (fun _=>rfl),
    RG.gw_o 8 (.int .i64 i) (.int .i64 i) rfl (fun _=>rfl),
    RG.gw_o 0 (.slice (some ⟨g1,o1,none⟩) m c1) (.slice (some ⟨g1,o1,none⟩) m c1) rfl (fun _=>rfl),
    RG.gw_o 8 (.int .i64 i) (.int .i64 i) rfl (fun _=>rfl),
    RG.gw_x 2 20 3 21 (.slice (some ⟨g1,o1,none⟩) m c1) (.int .i64 i) (.pointer (some ⟨g1,o1+1*i,none⟩)) (Instr.indexAt 54 (.slice (some ⟨g1,o1,none⟩) m c1) (.int .i64 i)) (atS g1 o1 m c1 i him) (fun x W h=>h) (fun x W h=>h) (fun _=>rfl),
    RG.gw_l1 56 4 22 g1 (o1+1*i) x1 uSum (fun x W h=>h) (fun W hB=>hR1 W hB.ls.bl) (fun _=>rfl),
    RG.gw_n 5 23 x1 (.iface 56 x1) (fun x W h=>h) (fun _=>rfl),
    RG.gw_lo 52 4 k4 0 (wn x) rSc nSc rfl (fun W hB=>hB.r4.2.1) (fun _=>rfl),
    RG.gw_iv 56 6 24 7 25 (RG.pE x1) 47 (fun x W h=>⟨_,h,rfl⟩) (fun z u W hx hy hB=>by
     obtain rfl:z=x1:=hx
     obtain rfl:u=nv x:=hy
     refine (hT1 W hB.ls.bl).mono ?_
     rintro e W' ⟨u,rfl,hb,hs⟩
     exact ⟨_,rfl,hb,hs.q.mono fun g hg=>⟨Nat.le_trans hB.ls.bl.size hg,by have:=hB.ls.lt;omega⟩⟩),
    RG.gw_m 8 26 (fun v=>.iface 56 v) (fun x W h=>⟨x,rfl,h⟩),
    RG.gw_o 0 (.slice (some ⟨g1,o1,none⟩) m c1) (.slice (some ⟨g1,o1,none⟩) m c1) rfl (fun _=>rfl),
    RG.gw_o 7 (.slice (some ⟨K,0,none⟩) n n) (.slice (some ⟨K,0,none⟩) n n) rfl (fun _=>rfl),
    RG.gw_n 11 29 (.slice (some ⟨K,0,none⟩) n n) (.int .i64 n) (fun x W h=>h) (fun _=>rfl),
    RG.gw_o 8 (.int .i64 i) (.int .i64 i) rfl (fun _=>rfl),
    RG.gw_bin .add 3 3 30 31 rfl (fun a W hp=>⟨_,_,(.int .i64 ((n+i:Nat):Int)),hp.n 12 30 (by kernel_rfl) (by kernel_rfl),hp.n 13 31 (by kernel_rfl) (by kernel_rfl),by kernel_rfl,addII n i (by omega) W,rfl⟩),
    RG.gw_x 10 28 14 32 (.slice (some ⟨g1,o1,none⟩) m c1) (.int .i64 ((n+i:Nat):Int)) (.pointer (some ⟨g1,o1+1*(n+i),none⟩)) (Instr.indexAt 54 (.slice (some ⟨g1,o1,none⟩) m c1) (.int .i64 ((n+i:Nat):Int))) (atS g1 o1 m c1 (n+i) him2) (fun x W h=>h) (fun x W h=>h) (fun _=>rfl),
    RG.gw_l1 56 15 33 g1 (o1+1*(n+i)) x2 uSum (fun x W h=>h) (fun W hB=>hR2 W hB.ls.bl) (fun _=>rfl),
    RG.gw_n 16 34 x2 (.iface 56 x2) (fun x W h=>h) (fun _=>rfl),
    RG.gw_lo 52 5 (k4+1) 0 (wn y) rSc nSc rfl (fun W hB=>hB.r5.2.1) (fun _=>rfl),
    RG.gw_iv 56 17 35 18 36 (RG.pE x2) 47 (fun x W h=>⟨_,h,rfl⟩) (fun z u W hx hy hB=>by
     obtain rfl:z=x2:=hx
     obtain rfl:u=nv y:=hy
     refine (hT2 W hB.ls.bl).mono ?_
     rintro e W' ⟨u,rfl,hb,hs⟩
     exact ⟨_,rfl,hb,hs.q.mono fun g hg=>⟨Nat.le_trans hB.ls.bl.size hg,by have:=hB.ls.lt;omega⟩⟩),
    RG.gw_iv 56 9 27 19 37 (RG.pM (fun g=>w.heap.size≤g∧g≠K) l1) 46 (fun x W h=>h) (fun z u W hx hy hB=>by
     have hx:SmQ (fun g=>w.heap.size≤g∧g≠K) W z l1:=hx
     have hy:SmQ (fun g=>w.heap.size≤g∧g≠K) W u l2:=hy
     refine (hPl W z u hx.sm hy.sm).mono ?_
     rintro e W' ⟨u,rfl,hb,hs⟩
     exact ⟨_,rfl,hb,hs.q.mono fun g hg=>⟨Nat.le_trans hB.ls.bl.size hg,by have:=hB.ls.lt;omega⟩⟩),
    RG.gw_x 0 18 1 19 (.slice (some ⟨K,0,none⟩) n n) (.int .i64 i) (.pointer (some ⟨K,0+1*i,none⟩)) (Instr.indexAt 54 (.slice (some ⟨K,0,none⟩) n n) (.int .i64 i)) (atS K 0 n n i HL.out) (fun x W h=>h) (fun x W h=>h) (fun _=>rfl),trivial⟩ KP.out.drew ?_
   intro V W3 hR3 hB3
   have hS:SmQ (fun g=>w.heap.size≤g∧g≠K) W3 (V 20) (l1++l2):=hR3 20 (by decide)
   have hV21:V 21=.pointer (some ⟨K,0+1*i,none⟩):=hR3 21 (by decide)
   dsimp only[RG.putV,Nat.reduceAdd,List.take,List.drop]
   simp only[Act.put,List.setIfInBounds_toArray,List.set_cons_succ,List.set_cons_zero]
   generalize V 20=vq at hS ⊢
   obtain ⟨W4,hW4⟩:∃ W4,Hid (W3.setCells K i [vq]=W4):=⟨_,rfl⟩
   have K4:Hid (FdM w W4 K k4 (k4+1) n (i+1) x y (fldT N x y n a)):=by
    have h:=hB3.put (v:=vq) hi (by have:=HK.out;omega) (by have:=HK.out;omega) (by rw[HQ.out];exact hS)
    rw[hW4.out] at h
    exact h
   have HT:Hid (W3.there K i 1):=fun t ht=>by
    have ht0:t=0:=by omega
    subst ht0
    have:=hB3.ls.th i hi
    rwa[Nat.zero_add] at this
   have HE:=Hid.mk' hS.one
   rw[hV21,Nat.zero_add,Nat.one_mul]
   clear hR3 hB3 hS hV21 KP hT1 hT2 hPl hR2 hR1
   generalize V 0=s0
   generalize V 1=s1
   generalize V 2=s2
   generalize V 3=s3
   generalize V 4=s4
   generalize V 5=s5
   generalize V 6=s6
   generalize V 7=s7
   generalize V 8=s8
   generalize V 9=s9
   generalize V 10=s10
   generalize V 11=s11
   generalize V 12=s12
   generalize V 13=s13
   generalize V 14=s14
   generalize V 15=s15
   generalize V 16=s16
   generalize V 17=s17
   generalize V 18=s18
   generalize V 19=s19
   go_wp2_with (first|(refine wpList_st1 rfl 56 _ _ rfl K i vq ?_ ?_ HE.out.1 HE.out.2 HT.out iSu1 ?_;rfl;rfl;rw[hW4.out])|fail)
   go_roundg (gk-1)
   case measure=>omega
   case rel=>exact ⟨i+1,by omega,rfl,K4⟩
  ·have hi':¬ (i:Int)<(n:Int):=by omega
   obtain rfl:i=n:=by omega
   have K4:Hid (Below w.heap.size w wr∧GLq (w.heap.size≤·) wr (.slice (some ⟨K,0,none⟩) i i) i (fldT N x y i a)):=⟨KM.out.ls.bl,KM.out.ls.gl⟩
   clear KM
   go_wp2
   go_ret
   exact ⟨_,rfl,K4.out.1,K4.out.2⟩
structure GOk (N n c:Nat) (G H:Nat→List (Nat × Bs)) (U:List (Nat × Bs)):Prop where
 n0:0<n
 c0:0<c
 cn:c*n≤64
 g:∀ i,i<n→TOk N (G i)∧(G i).length=c
 h:∀ i,i<n→TOk N (H i)∧(H i).length=c
 u:TOk N U
 u0:0<U.length
 u9:U.length≤16
theorem GOk.nle {n c:Nat} {G H:Nat→List (Nat × Bs)} {U:List (Nat × Bs)} (h:GOk N n c G H U):n≤64:=by
 have h1:=h.cn
 have:=Nat.mul_le_mul_right n h.c0
 omega
theorem GOk.cle {n c:Nat} {G H:Nat→List (Nat × Bs)} {U:List (Nat × Bs)} (h:GOk N n c G H U):c≤64:=by
 have h1:=h.cn
 have:=Nat.mul_le_mul_left c h.n0
 omega
theorem boxG (vg vh vu:Value) (w:World):(Instr.box 58 (.agg #[vg,vh,vu])).run Tryz.prog w=.ok (.pointer (some ⟨w.heap.size,0,none⟩)) (w.alloc (.cells #[vg,vh,vu] 58)):=by kernel_rfl
theorem uGL:(Tryz.prog.underlying 54).map (·.isRow)=some false:=by kernel_rfl
theorem listsG_c (O:Ord N) {Q:Nat→Prop} (n c:Nat) (G H:Nat→List (Nat × Bs)) (U:List (Nat × Bs)) (hG:GOk N n c G H U) (a b:Nat→Nat) (ha:∀ i,i<n→a i<N) (hb:∀ i,i<n→b i<N) (v va vb:Value) (w:World) (h0:GRq Q w v n G H U) (h1:SLq Q w va n a) (h2:SLq Q w vb n b) :
 Calls Tryz.prog 45 #[v,va,vb] w (Ret fun e w'=>Below w.heap.size w w'∧Sm w.heap.size w' e (cmbT N a G n++cmbT N b H n)):=by
 obtain ⟨vg,vh,vu,rfl,h3,h4,-⟩:=h0.ex
 have hcA:=fun (W:World) (hB:Below w.heap.size w W)=>cmbM_c O n c hG.n0 hG.c0 (by have:=hG.nle;omega) (by have:=hG.cn;omega) a G ha (fun i hi=>(hG.g i hi).1) (fun i hi=>(hG.g i hi).2) va vg W (h1.keep (Kq.of_below hB)) (h3.keep (Kq.of_below hB))
 have hcB:=fun (W:World) (hB:Below w.heap.size w W)=>cmbM_c O n c hG.n0 hG.c0 (by have:=hG.nle;omega) (by have:=hG.cn;omega) b H hb (fun i hi=>(hG.h i hi).1) (fun i hi=>(hG.h i hi).2) vb vh W (h2.keep (Kq.of_below hB)) (h4.keep (Kq.of_below hB))
 have l1:(cmbT N a G n).length=c*n:=cmbT_len N a n fun i hi=>(hG.g i hi).2
 have l2:(cmbT N b H n).length=c*n:=cmbT_len N b n fun i hi=>(hG.h i hi).2
 have t1:TOk N (cmbT N a G n):=cmbT_ok O.pos n fun i hi=>(hG.g i hi).1
 have t2:TOk N (cmbT N b H n):=cmbT_ok O.pos n fun i hi=>(hG.h i hi).1
 have hp0:0<c*n:=Nat.mul_pos hG.c0 hG.n0
 have hp1:=hG.cn
 generalize cmbT N a G n=la at hcA l1 t1 ⊢
 generalize cmbT N b H n=lb at hcB l2 t2 ⊢
 have hPl:=fun (W:World) (u z:Value) (hu:Sm 0 W u la) (hz:Sm 0 W z lb)=>sumPlusZ_c 0 u z la lb (by rw[List.length_append];omega) (by omega) (by omega) t1.sz t2.sz W (Or.inr hu) (Or.inr hz)
 have HX:=Hid.mk' (And.intro hcA (And.intro hcB hPl))
 obtain ⟨w1,hw1⟩:∃ w1,Hid (w.alloc (.cells #[vg,vh,vu] 58)=w1):=⟨_,rfl⟩
 obtain ⟨k,hk⟩:∃ k,Hid (w.heap.size=k):=⟨_,rfl⟩
 have K1:Hid (Row w1 k [vg,vh,vu]∧Below w.heap.size w w1):=by rw[← hw1.out,← hk.out];exact ⟨row_new w _ _,below1 w _⟩
 obtain ⟨v0,hv0⟩:∃ v,Hid (Value.agg #[vg,vh,vu]=v):=⟨_,rfl⟩
 have B1:Hid ((Instr.box 58 v0).run Tryz.prog w=.ok (.pointer (some ⟨k,0,none⟩)) w1):=by rw[← hv0.out,← hw1.out,← hk.out];exact boxG _ _ _ _
 rw[hv0.out]
 clear hcA hcB hPl l1 l2 t1 t2 hp0 hp1 h0 h1 h2 h3 h4 ha hb hG O hw1
 go_enter Tryz.func45,Tryz.ntmps45
 go_wp2_with (first|(refine wpList_box (u:=v0) (v:=.pointer (some ⟨k,0,none⟩)) (w':=w1) rfl 58 (.tmp 0) rfl ?_ ?_ ?_;rfl;exact B1.out)|fail)
 refine (RG.gwL [RG.pE va,RG.pE (.pointer (some ⟨k,0,none⟩)),RG.pE vg,RG.pM (w.heap.size≤·) la,RG.pE vb,RG.pE (.pointer (some ⟨k,1,none⟩)),RG.pE vh,RG.pM (w.heap.size≤·) lb,RG.pM (w.heap.size≤·) (la++lb),RG.pM (w.heap.size≤·) (la++lb)] (fun W=>Row W k [vg,vh,vu]∧Below w.heap.size w W) (fun W W' hb h=>⟨h.1.below hb,h.2.trans (hb.mono h.2.size)⟩)).draws (by kernel_rfl) (by kernel_rfl) ⟨
  RG.gw_o 1 va va rfl (fun _=>rfl),
  RG.gw_o 3 (.pointer (some ⟨k,0,none⟩)) (.pointer (some ⟨k,0,none⟩)) rfl (fun _=>rfl),
  RG.gw_l1 54 1 8 k 0 vg uGL (fun x W h=>h) (fun W hB=>hB.1.2.1 0 _ rfl) (fun _=>rfl),
  RG.gw_c2 0 7 2 9 102 (fun x y=>#[x,y]) (fun x y W hx hy hB=>by
   obtain rfl:x=va:=hx
   obtain rfl:y=vg:=hy
   refine (HX.out.1 W hB.2).mono ?_
   rintro e W' ⟨u,rfl,hb,hs⟩
   exact ⟨_,rfl,hb,hs.q.mono fun g hg=>Nat.le_trans hB.2.size hg⟩),
  RG.gw_o 2 vb vb rfl (fun _=>rfl),
  RG.gw_o 3 (.pointer (some ⟨k,0,none⟩)) (.pointer (some ⟨k,1,none⟩)) rfl (fun _=>rfl),
  RG.gw_l1 54 5 12 k 1 vh uGL (fun x W h=>h) (fun W hB=>hB.1.2.1 1 _ rfl) (fun _=>rfl),
  RG.gw_c2 4 11 6 13 102 (fun x y=>#[x,y]) (fun x y W hx hy hB=>by
   obtain rfl:x=vb:=hx
   obtain rfl:y=vh:=hy
   refine (HX.out.2.1 W hB.2).mono ?_
   rintro e W' ⟨u,rfl,hb,hs⟩
   exact ⟨_,rfl,hb,hs.q.mono fun g hg=>Nat.le_trans hB.2.size hg⟩),
  RG.gw_c2 3 10 7 14 46 (fun x y=>#[x,y]) (fun x y W hx hy hB=>by
   have hx:SmQ (w.heap.size≤·) W x la:=hx
   have hy:SmQ (w.heap.size≤·) W y lb:=hy
   refine (HX.out.2.2 W x y hx.sm hy.sm).mono ?_
   rintro e W' ⟨u,rfl,hb,hs⟩
   exact ⟨_,rfl,hb,hs.q.mono fun g hg=>Nat.le_trans hB.2.size hg⟩),
  RG.gw_m 8 15 id (fun x W h=>h),trivial⟩ ⟨K1.out.1,K1.out.2.drew⟩ ?_
 intro V w2 hR hB
 have HS:Hid (Sm w.heap.size w2 (V 9) (la++lb)):=hR 9 (Nat.lt_of_succ_le (Nat.le_of_ble_eq_true (by kernel_rfl)))
 have HB:Hid (Below w.heap.size w w2):=hB.2
 dsimp only[RG.putV,Nat.reduceAdd]
 simp only[Act.put,List.setIfInBounds_toArray,List.set_cons_succ,List.set_cons_zero]
 generalize V 9=s9 at HS ⊢
 clear hR hB
 go_wp2
 go_ret
 exact ⟨_,rfl,HB.out,HS.out⟩
theorem hideG_c (O:Ord N) {Q:Nat→Prop} (n c:Nat) (G H:Nat→List (Nat × Bs)) (U:List (Nat × Bs)) (hG:GOk N n c G H U) (a b:Nat→Nat) (ha:∀ i,i<n→a i<N) (hb:∀ i,i<n→b i<N) (v va vb:Value) (w:World) (h0:GRq Q w v n G H U) (h1:SLq Q w va n a) (h2:SLq Q w vb n b) :
 Calls Tryz.prog 18 #[v,va,vb] w (Ret fun e w'=>Below w.heap.size w w'∧Sm w.heap.size w' e (hidT N a b (prS N a b n) G H U n)):=by
 have hLs:=fun (W:World) (hB:Below w.heap.size w W)=>listsG_c O n c G H U hG a b ha hb v va vb W (h0.keep (Kq.of_below hB)) (h1.keep (Kq.of_below hB)) (h2.keep (Kq.of_below hB))
 have hPr:=fun (W:World) (hB:Below w.heap.size w W)=>cmbS_c O n (by have:=hG.nle;omega) a b ha hb va vb W (h1.keep (Kq.of_below hB)) (h2.keep (Kq.of_below hB))
 obtain ⟨vg,vh,vu,rfl,-,-,h5⟩:=h0.ex
 have l1:(cmbT N a G n).length=c*n:=cmbT_len N a n fun i hi=>(hG.g i hi).2
 have l2:(cmbT N b H n).length=c*n:=cmbT_len N b n fun i hi=>(hG.h i hi).2
 have t1:TOk N (cmbT N a G n):=cmbT_ok O.pos n fun i hi=>(hG.g i hi).1
 have t2:TOk N (cmbT N b H n):=cmbT_ok O.pos n fun i hi=>(hG.h i hi).1
 have hp0:0<c*n:=Nat.mul_pos hG.c0 hG.n0
 have hp1:=hG.cn
 unfold hidT
 have pl:=prS_lt O.pos a b n
 have t3:=hG.u.tm O.pos (prS N a b n)
 have l3:(U.map (tmT N (prS N a b n))).length≤16:=by rw[List.length_map];exact hG.u9
 generalize prS N a b n=p at hPr pl t3 l3 ⊢
 have hTi:=fun (W:World) (hB:Below w.heap.size w W)=>sumTimes_c O pl 0 vu U (by have:=hG.u9;omega) hG.u.szm hG.u.lt W (h5.sm.grow hB)
 generalize U.map (tmT N p)=lu at hTi t3 l3 ⊢
 have t4:=t1.app t2
 have l4:(cmbT N a G n++cmbT N b H n).length=c*n+c*n:=by rw[List.length_append,l1,l2]
 generalize cmbT N a G n++cmbT N b H n=lab at hLs t4 l4 ⊢
 have hPl:=fun (W:World) (u z:Value) (hu:Sm 0 W u lab) (hz:Sm 0 W z lu)=>sumPlusZ_c 0 u z lab lu (by rw[List.length_append];omega) (by omega) (by omega) t4.sz t3.sz W (Or.inr hu) (Or.inr hz)
 have HX:=Hid.mk' (And.intro hLs (And.intro hPr (And.intro hTi hPl)))
 obtain ⟨w1,hw1⟩:∃ w1,Hid (w.alloc (.cells #[vg,vh,vu] 58)=w1):=⟨_,rfl⟩
 obtain ⟨k,hk⟩:∃ k,Hid (w.heap.size=k):=⟨_,rfl⟩
 have K1:Hid (Row w1 k [vg,vh,vu]∧Below w.heap.size w w1):=by rw[← hw1.out,← hk.out];exact ⟨row_new w _ _,below1 w _⟩
 obtain ⟨v0,hv0⟩:∃ v,Hid (Value.agg #[vg,vh,vu]=v):=⟨_,rfl⟩
 have B1:Hid ((Instr.box 58 v0).run Tryz.prog w=.ok (.pointer (some ⟨k,0,none⟩)) w1):=by rw[← hv0.out,← hw1.out,← hk.out];exact boxG _ _ _ _
 rw[hv0.out]
 clear hLs hPr hTi hPl l1 l2 l3 l4 t1 t2 t3 t4 pl hp0 hp1 h0 h1 h2 h5 ha hb hG O hw1
 go_enter Tryz.func18,Tryz.ntmps18
 go_wp2_with (first|(refine wpList_box (u:=v0) (v:=.pointer (some ⟨k,0,none⟩)) (w':=w1) rfl 58 (.tmp 0) rfl ?_ ?_ ?_;rfl;exact B1.out)|fail)
 refine (RG.gwL [RG.pE (.agg #[vg,vh,vu]),RG.pE va,RG.pE vb,RG.pM (w.heap.size≤·) lab,RG.pE (.pointer (some ⟨k,2,none⟩)),RG.pE vu,RG.pE va,RG.pE vb,RG.pE (nv p),RG.pM (w.heap.size≤·) lu,RG.pM (w.heap.size≤·) (lab++lu),RG.pM (w.heap.size≤·) (lab++lu)] (fun W=>Row W k [vg,vh,vu]∧Below w.heap.size w W) (fun W W' hb h=>⟨h.1.below hb,h.2.trans (hb.mono h.2.size)⟩)).draws (by kernel_rfl) (by kernel_rfl) ⟨
  RG.gw_lo 58 3 k 0 [vg,vh,vu] uGr iGr rfl (fun W hB=>hB.1.2.1) (fun _=>rfl),
  RG.gw_o 1 va va rfl (fun _=>rfl),
  RG.gw_o 2 vb vb rfl (fun _=>rfl),
  RG.gw_c3 0 7 1 8 2 9 45 (fun x y z=>#[x,y,z]) (fun x y z W hx hy hz hB=>by
   obtain rfl:x=.agg #[vg,vh,vu]:=hx
   obtain rfl:y=va:=hy
   obtain rfl:z=vb:=hz
   refine (HX.out.1 W hB.2).mono ?_
   rintro e W' ⟨u,rfl,hb,hs⟩
   exact ⟨_,rfl,hb,hs.q.mono fun g hg=>Nat.le_trans hB.2.size hg⟩),
  RG.gw_o 3 (.pointer (some ⟨k,0,none⟩)) (.pointer (some ⟨k,2,none⟩)) rfl (fun _=>rfl),
  RG.gw_l1 56 4 11 k 2 vu uSum (fun x W h=>h) (fun W hB=>hB.1.2.1 2 _ rfl) (fun _=>rfl),
  RG.gw_o 1 va va rfl (fun _=>rfl),
  RG.gw_o 2 vb vb rfl (fun _=>rfl),
  RG.gw_c2 6 13 7 14 48 (fun x y=>#[x,y]) (fun x y W hx hy hB=>by
   obtain rfl:x=va:=hx
   obtain rfl:y=vb:=hy
   refine (HX.out.2.1 W hB.2).mono ?_
   rintro e W' ⟨u,rfl,hb,rfl⟩
   exact ⟨_,rfl,hb,rfl⟩),
  RG.gw_c2 5 12 8 15 47 (fun x y=>#[x,y]) (fun x y W hx hy hB=>by
   obtain rfl:x=vu:=hx
   obtain rfl:y=nv p:=hy
   refine (HX.out.2.2.1 W hB.2).mono ?_
   rintro e W' ⟨u,rfl,hb,hs⟩
   exact ⟨_,rfl,hb,hs.q.mono fun g hg=>Nat.le_trans hB.2.size hg⟩),
  RG.gw_c2 3 10 9 16 46 (fun x y=>#[x,y]) (fun x y W hx hy hB=>by
   have hx:SmQ (w.heap.size≤·) W x lab:=hx
   have hy:SmQ (w.heap.size≤·) W y lu:=hy
   refine (HX.out.2.2.2 W x y hx.sm hy.sm).mono ?_
   rintro e W' ⟨u,rfl,hb,hs⟩
   exact ⟨_,rfl,hb,hs.q.mono fun g hg=>Nat.le_trans hB.2.size hg⟩),
  RG.gw_m 10 17 id (fun x W h=>h),trivial⟩ ⟨K1.out.1,K1.out.2.drew⟩ ?_
 intro V w2 hR hB
 have HS:Hid (Sm w.heap.size w2 (V 11) (lab++lu)):=hR 11 (Nat.lt_of_succ_le (Nat.le_of_ble_eq_true (by kernel_rfl)))
 have HB:Hid (Below w.heap.size w w2):=hB.2
 dsimp only[RG.putV,Nat.reduceAdd]
 simp only[Act.put,List.setIfInBounds_toArray,List.set_cons_succ,List.set_cons_zero]
 generalize V 11=s11 at HS ⊢
 clear hR hB
 go_wp2
 go_ret
 exact ⟨_,rfl,HB.out,HS.out⟩
end
namespace RG
open Go Go.RowKit
variable {P:Program} {ops:Array Oper} {Q:Exit→Act→World→Prop} {w:World} {a0:Act} {G:Gw} {S:World→World→Prop} {m k:Nat} {o:Oper}
def Gw.st (G:Gw) (m:Nat) (S:World→World→Prop):Flow:=⟨G.R,fun _=>G.B,fun i w w'=>(i=m∧S w w')∨Below w.heap.size w w',fun _=>[],fun _=>[]⟩
theorem st_c (h:CertF P Q G.flow ops a0 k o):CertF P Q (G.st m S) ops a0 k o:=fun a w K h1 h2 h3 h4=>h a w K h1 h2 h3 fun v w' hE hR=>h4 v w' (Or.inr hE) hR
theorem st_v (h:∀ (a:Act) (w:World),PreG G ops a0 m o a w→∃ w',(execOp a.eval o).run P w=.ok .skip w'∧S w w'∧G.R m undef w'):CertF P Q (G.st m S) ops a0 m o:=by
 intro a w K h1 h2 h3 hK
 obtain ⟨w',hr,hS,hR⟩:=h a w ⟨fun j d hj hd=>h1 j d hj rfl hd,h2,h3 0 rfl⟩
 unfold Oper.wp
 rw[hr]
 exact hK _ _ (Or.inl ⟨rfl,hS⟩) hR
theorem Gw.tailS {id:Nat} (G:Gw) (m:Nat) (S:World→World→Prop) (n:Nat) (hSR:∀ j v w w',j≠m→S w w'→G.R j v w→G.R j v w') (hSB:∀ w w',S w w'→G.B w→G.B w') (hn:(decide (n<ops.size) && chain ops n)=true) (hm:P.follows .mixedOrders=true) (hc:chkF ops a0.tmps.size=true) (h:CertsF P Q (G.st m S) ops a0 0 (ops.toList.take n)) (hB:G.B w.drew)
 (hp:∀ (V:Nat→Value) (w':World),(∀ i,i<n→G.R i (V i) w')→G.B w'→wpList P ops Q (ops.toList.drop n) (putV V (ops.toList.take n) 0 a0) w'):(Code.region id ops true).wp P Q a0 w:=by
 rw[Bool.and_eq_true,decide_eq_true_eq] at hn
 refine flow_tail (G.st m S) n hn.1 hn.2 hm ⟨hc,certs_but h,fun i j _ _ hne _ _ v w w' hE hR=>?_,fun i b _ _ w w' hE hB=>?_⟩ (fun _=>hB) fun V w' h1 h2=>hp V w' (fun i hi=>h1 i hi rfl) (h2 0 rfl)
 ·rcases hE with ⟨hi,hS⟩|hE
  ·exact hSR j v w w' (fun e=>hne (hi.trans e.symm)) hS hR
  ·exact G.sR j v w w' hE hR
 ·rcases hE with ⟨-,hS⟩|hE
  ·exact hSB w w' hS hB
  ·exact G.sB w w' hE hB
end RG
section
open Go.RowKit Go.Sort Go.Deep
variable {P:Nat} [NeZero P] {N:Nat}
theorem results_cc {P:Program} {fn:Func} {tmps:Array Value} {W:World} {k k':Nat} {vs us:List Value} (t t':Tmp) (T T':TypeId) (hr:fn.results=#[.cell t T,.cell t' T']) (h:Row W k vs) (h':Row W k' us) (ht:tmps[t]? = some (.pointer (some ⟨k,0,none⟩))) (ht':tmps[t']? = some (.pointer (some ⟨k',0,none⟩)))
 (hu:(P.underlying T).map (·.isRow)=some true) (hi:(P.info? T).map (·.size)=some vs.length) (hu':(P.underlying T').map (·.isRow)=some true) (hi':(P.info? T').map (·.size)=some us.length):(results fn tmps).run P W=.ok (.tuple #[.agg vs.toArray,.agg us.toArray]) W:=by
 obtain ⟨d,hu,hd⟩:=Option.map_eq_some_iff.1 hu
 obtain ⟨d',hu',hd'⟩:=Option.map_eq_some_iff.1 hu'
 have h1:=run_loadVar_mid (P:=P) W k 0 T vs d h.2.1 hu hd hi
 have h3:=run_loadVar_mid (P:=P) W k' 0 T' us d' h'.2.1 hu' hd' hi'
 have h2:tmps.getD t undef=.pointer (some ⟨k,0,none⟩):=by rw[Array.getD_eq_getD_getElem?,ht];rfl
 have h4:tmps.getD t' undef=.pointer (some ⟨k',0,none⟩):=by rw[Array.getD_eq_getD_getElem?,ht'];rfl
 unfold results
 rw[hr]
 simp only[Array.mapM_eq_mapM_toList,List.mapM_cons,List.mapM_nil,h2,h4,asAddr]
 simp[Sem.run_bind,h1,h3]
section
variable {P:Program} {ops:Array Oper} {rest:List Oper} {op:Oper} {a:Act} {w w':World} {v:Value} {Q:Exit→Act→World→Prop}
theorem wpList_al (hgd:op.guard=none) (T:TypeId) (t:Tmp) (_:op.op=.alloc T) (_:op.dst=some t) (hr:(execOp a.eval op).run P w=.ok (.value v) w') (h:wpList P ops Q rest (a.put op.dst v) w'):wpList P ops Q (op :: rest) a w:=
 wpList_plain hgd fun K hK=>by
  unfold Oper.wp
  rw[hr]
  exact hK _ _ h
end
theorem addQ0 (g o j:Nat):(⟨g,o,none⟩:Addr).add j=⟨g,o+j,none⟩:=by
 unfold Addr.add
 by_cases h0:j=0
 ·subst h0;rw[if_pos rfl];rfl
 ·rw[if_neg h0]
theorem slM_hi (b o n c k:Nat) (hk:k≤c) (w:World):(Instr.sliceAt 54 (.slice (some ⟨b,o,none⟩) n c) none (some (.int .i64 k)) none).run Tryz.prog w=.ok (.slice (some ⟨b,o,none⟩) k c) w:=by
 have h1:¬ (k:Int)<0:=by omega
 have h2:(k:Int)≤(c:Int):=by omega
 go_simp
theorem slM_lo (b o n c k:Nat) (hk:k<n) (hc:n≤c) (w:World):(Instr.sliceAt 54 (.slice (some ⟨b,o,none⟩) n c) (some (.int .i64 k)) none none).run Tryz.prog w=.ok (.slice (some ⟨b,o+k,none⟩) (n-k) (c-k)) w:=by
 have h1:¬ (k:Int)<0:=by omega
 have h2:(k:Int)≤(n:Int):=by omega
 have h3:¬ c=k:=by omega
 have e:=addQ0 b o (1*k)
 rw[Nat.one_mul] at e
 go_simp
theorem slS_hi (b o n c k:Nat) (hk:k≤c) (w:World):(Instr.sliceAt 46 (.slice (some ⟨b,o,none⟩) n c) none (some (.int .i64 k)) none).run Tryz.prog w=.ok (.slice (some ⟨b,o,none⟩) k c) w:=by
 have h1:¬ (k:Int)<0:=by omega
 have h2:(k:Int)≤(c:Int):=by omega
 go_simp
theorem slS_lo (b o n c k:Nat) (hk:k<n) (hc:n≤c) (w:World):(Instr.sliceAt 46 (.slice (some ⟨b,o,none⟩) n c) (some (.int .i64 k)) none none).run Tryz.prog w=.ok (.slice (some ⟨b,o+k*4,none⟩) (n-k) (c-k)) w:=by
 have h1:¬ (k:Int)<0:=by omega
 have h2:(k:Int)≤(n:Int):=by omega
 have h3:¬ c=k:=by omega
 have e:=addQ0 b o (k*4)
 rw[Nat.mul_comm] at e
 rw[Nat.mul_comm k 4]
 go_simp
theorem GLq.high {Q:Nat→Prop} {W:World} {g o n c:Nat} {T:Nat→List (Nat × Bs)} (h:GLq Q W (.slice (some ⟨g,o,none⟩) (n+n) c) (n+n) T):GLq Q W (.slice (some ⟨g,o+n,none⟩) n (c-n)) n (fun i=>T (n+i)):=by
 obtain ⟨g',o',c',e,h1,h2,h3,h4⟩:=h
 injection e with e1 e2 e3
 injection e1 with e1
 injection e1 with e1 e4
 subst e1 e3 e4
 refine ⟨g,o+n,c-n,rfl,by omega,h2,h3,fun j hj=>?_⟩
 obtain ⟨x,h5,h6⟩:=h4 (n+j) (by omega)
 exact ⟨x,by rw[Nat.add_assoc];exact h5,h6⟩
theorem GLq.low {Q:Nat→Prop} {W:World} {g o n c:Nat} {T:Nat→List (Nat × Bs)} (h:GLq Q W (.slice (some ⟨g,o,none⟩) (n+n) c) (n+n) T):GLq Q W (.slice (some ⟨g,o,none⟩) n c) n T:=by
 obtain ⟨g',o',c',e,h1,h2,h3,h4⟩:=h
 injection e with e1 e2 e3
 injection e1 with e1
 injection e1 with e1 e4
 subst e1 e3 e4
 exact ⟨g,o,c,rfl,by omega,h2,h3,fun j hj=>h4 j (by omega)⟩
theorem SLq.high {Q:Nat→Prop} {W:World} {g o n c:Nat} {T:Nat→Nat} (h:SLq Q W (.slice (some ⟨g,o,none⟩) (n+n) c) (n+n) T):SLq Q W (.slice (some ⟨g,o+n*4,none⟩) n (c-n)) n (fun i=>T (n+i)):=by
 obtain ⟨g',o',c',e,h1,h2,h3,h4⟩:=h
 injection e with e1 e2 e3
 injection e1 with e1
 injection e1 with e1 e4
 subst e1 e3 e4
 refine ⟨g,o+n*4,c-n,rfl,by omega,h2,h3,fun j hj=>?_⟩
 have:=h4 (n+j) (by omega)
 rw[show o+4*(n+j)=o+n*4+4*j by omega] at this
 exact this
theorem SLq.low {Q:Nat→Prop} {W:World} {g o n c:Nat} {T:Nat→Nat} (h:SLq Q W (.slice (some ⟨g,o,none⟩) (n+n) c) (n+n) T):SLq Q W (.slice (some ⟨g,o,none⟩) n c) n T:=by
 obtain ⟨g',o',c',e,h1,h2,h3,h4⟩:=h
 injection e with e1 e2 e3
 injection e1 with e1
 injection e1 with e1 e4
 subst e1 e3 e4
 exact ⟨g,o,c,rfl,by omega,h2,h3,fun j hj=>h4 j (by omega)⟩
def CrR (Q:Nat→Prop) (w:World) (n:Nat) (G H:Nat→List (Nat × Bs)) (U:List (Nat × Bs)) (e:Value) (w':World):Prop:=Below w.heap.size w w'∧∃ e1 e2,e=.tuple #[.agg e1,.agg e2]∧e1.size=3∧e2.size=3∧e1.all (·.oneCell')=true∧e2.all (·.oneCell')=true∧GRq Q w' (.agg e1) n (fun i=>G (n+i)) H U∧GRq Q w' (.agg e2) n G (fun i=>H (n+i)) U
theorem crossed_c {Q:Nat→Prop} (n:Nat) (hn0:0<n) (hn:n≤500) (G H:Nat→List (Nat × Bs)) (U:List (Nat × Bs)) (v:Value) (w:World) (h0:GRq Q w v (n+n) G H U) :
 Calls Tryz.prog 52 #[v] w (Ret (CrR Q w n G H U)):=by
 obtain ⟨vg,vh,vu,rfl,h3,h4,h5⟩:=h0.ex
 obtain ⟨g1,o1,c1,rfl,hc1,-⟩:=id h3
 obtain ⟨g2,o2,c2,rfl,hc2,-⟩:=id h4
 obtain ⟨g3,c3,rfl,-⟩:=id h5
 have HG:Hid (GLq Q w (.slice (some ⟨g1,o1+n,none⟩) n (c1-n)) n (fun i=>G (n+i))∧GLq Q w (.slice (some ⟨g2,o2,none⟩) n c2) n H∧GLq Q w (.slice (some ⟨g1,o1,none⟩) n c1) n G∧GLq Q w (.slice (some ⟨g2,o2+n,none⟩) n (c2-n)) n (fun i=>H (n+i))∧SmQ Q w (.slice (some ⟨g3,0,none⟩) U.length c3) U):=⟨h3.high,h4.low,h3.low,h4.high,h5⟩
 have hs1:=slM_lo g1 o1 (n+n) c1 n (by omega) hc1
 have hs2:=slM_hi g2 o2 (n+n) c2 n (by omega)
 have hs3:=slM_hi g1 o1 (n+n) c1 n (by omega)
 have hs4:=slM_lo g2 o2 (n+n) c2 n (by omega) hc2
 rw[Nat.add_sub_cancel] at hs1 hs4
 obtain ⟨m,hm⟩:∃ m,Hid (n+n=m):=⟨_,rfl⟩
 have hq:(m:Int).tdiv 2=(n:Int):=by rw[← hm.out,Int.tdiv_eq_ediv_of_nonneg (by omega)];omega
 rw[hm.out] at hs1 hs2 hs3 hs4
 rw[hm.out]
 obtain ⟨vu,hvu⟩:∃ v,Hid (Value.slice (some ⟨g3,0,none⟩) U.length c3=v):=⟨_,rfl⟩
 have hvo:vu.oneCell'=true:=by rw[← hvu.out];rfl
 rw[hvu.out] at HG
 rw[hvu.out]
 obtain ⟨k,hk⟩:∃ k,Hid (w.heap.size=k):=⟨_,rfl⟩
 obtain ⟨w1,hw1⟩:∃ w1,Hid (w.alloc (.cells #[.slice (some ⟨g1,o1,none⟩) m c1,.slice (some ⟨g2,o2,none⟩) m c2,vu] 58)=w1):=⟨_,rfl⟩
 obtain ⟨wa,hwa⟩:∃ wa,Hid (w1.alloc (.cells #[.slice none 0 0,.slice none 0 0,.slice none 0 0] 58)=wa):=⟨_,rfl⟩
 obtain ⟨w2,hw2⟩:∃ w2,Hid (wa.alloc (.cells #[.slice none 0 0,.slice none 0 0,.slice none 0 0] 58)=w2):=⟨_,rfl⟩
 have hza:wa.heap.size=k+2:=by rw[← hwa.out,World.size_alloc,← hw1.out,World.size_alloc,hk.out]
 have hz1:w1.heap.size=k+1:=by rw[← hw1.out,World.size_alloc,hk.out]
 have K2:Hid (Below w.heap.size w w2∧Row w2 k [.slice (some ⟨g1,o1,none⟩) m c1,.slice (some ⟨g2,o2,none⟩) m c2,vu]∧Row w2 (k+1) [.slice none 0 0,.slice none 0 0,.slice none 0 0]∧Row w2 (k+2) [.slice none 0 0,.slice none 0 0,.slice none 0 0]):=by
  have b1:Below w.heap.size w w1:=by rw[← hw1.out];exact below1 _ _
  have r1:Row w1 k [.slice (some ⟨g1,o1,none⟩) m c1,.slice (some ⟨g2,o2,none⟩) m c2,vu]:=by rw[← hw1.out,← hk.out];exact row_new w _ _
  have r2:=row_new w1 [.slice none 0 0,.slice none 0 0,.slice none 0 0] 58
  have r3:=row_new (w1.alloc (.cells #[.slice none 0 0,.slice none 0 0,.slice none 0 0] 58)) [.slice none 0 0,.slice none 0 0,.slice none 0 0] 58
  rw[World.size_alloc,hz1] at r3
  rw[hz1] at r2
  rw[← hw2.out,← hwa.out]
  exact ⟨(b1.alloc b1.size _).alloc (by rw[World.size_alloc];have:=b1.size;omega) _,(r1.alloc _).alloc _,r2.alloc _,r3⟩
 obtain ⟨v0,hv0⟩:∃ v,Hid (Value.agg #[.slice (some ⟨g1,o1,none⟩) m c1,.slice (some ⟨g2,o2,none⟩) m c2,vu]=v):=⟨_,rfl⟩
 have B1:Hid ((Instr.box 58 v0).run Tryz.prog w=.ok (.pointer (some ⟨k,0,none⟩)) w1):=by rw[← hv0.out,← hw1.out,← hk.out];exact boxG _ _ _ _
 rw[hv0.out]
 have HK:Hid (w.heap.size=k):=hk
 have HV:Hid (vu.oneCell'=true):=hvo
 have HZ:Hid (w1.heap.size=k+1∧wa.heap.size=k+2):=⟨hz1,hza⟩
 have cK:w2.cell? ⟨k,0,none⟩=some (.slice (some ⟨g1,o1,none⟩) m c1):=K2.out.2.1.2.1 0 _ rfl
 clear h0 h3 h4 h5 hc1 hc2 hvo hk hz1 hza
 go_enter Tryz.func52,Tryz.ntmps52
 go_wp2_with (first|(refine wpList_box (u:=v0) (v:=.pointer (some ⟨k,0,none⟩)) (w':=w1) rfl 58 (.tmp 0) rfl ?_ ?_ ?_;rfl;exact B1.out)|(refine wpList_al (v:=.pointer (some ⟨k+1,0,none⟩)) (w':=wa) rfl 58 2 rfl rfl ?_ ?_;(rw[← hwa.out,← HZ.out.1];kernel_rfl))|(refine wpList_al (v:=.pointer (some ⟨k+2,0,none⟩)) (w':=w2) rfl 58 3 rfl rfl ?_ ?_;(rw[← hw2.out,← HZ.out.2];kernel_rfl))|fail)
 clear cK hq
 obtain ⟨sg,hsg⟩:∃ s,Hid (Value.slice (some ⟨g1,o1,none⟩) m c1=s):=⟨_,rfl⟩
 obtain ⟨sh,hsh⟩:∃ s,Hid (Value.slice (some ⟨g2,o2,none⟩) m c2=s):=⟨_,rfl⟩
 rw[hsg.out] at hs1 hs3 K2
 rw[hsh.out] at hs2 hs4 K2
 obtain ⟨e1,he1⟩:∃ e,Hid ((#[.slice (some ⟨g1,o1+n,none⟩) n (c1-n),.slice (some ⟨g2,o2,none⟩) n c2,vu]:Array Value)=e):=⟨_,rfl⟩
 obtain ⟨e2,he2⟩:∃ e,Hid ((#[.slice (some ⟨g1,o1,none⟩) n c1,.slice (some ⟨g2,o2+n,none⟩) n (c2-n),vu]:Array Value)=e):=⟨_,rfl⟩
 have HE:Hid (e1.size=3∧e2.size=3∧e1.all (·.oneCell')=true∧e2.all (·.oneCell')=true):=by
  rw[← he1.out,← he2.out,← hvu.out]
  exact ⟨rfl,rfl,by kernel_rfl,by kernel_rfl⟩
 have HI:Hid ((Tryz.prog.info? 58).map (·.size)=some e1.size∧(Tryz.prog.info? 58).map (·.size)=some e2.size∧(Tryz.prog.info? 58).map (·.size)=some e1.toList.length∧(Tryz.prog.info? 58).map (·.size)=some e2.toList.length):=by
  rw[Array.length_toList,Array.length_toList,HE.out.1,HE.out.2.1]
  exact ⟨iGr,iGr,iGr,iGr⟩
 refine (RG.gwL [RG.pE (.pointer (some ⟨k,0,none⟩)),RG.pE sg,RG.pE (.int .i64 n),RG.pE (.slice (some ⟨g1,o1+n,none⟩) n (c1-n)),RG.pE (.pointer (some ⟨k,1,none⟩)),RG.pE sh,RG.pE (.int .i64 n),RG.pE (.slice (some ⟨g2,o2,none⟩) n c2),RG.pE (.pointer (some ⟨k,2,none⟩)),RG.pE vu,RG.pE (.agg #[.slice (some ⟨g1,o1+n,none⟩) n (c1-n),.slice (some ⟨g2,o2,none⟩) n c2,vu]),
  RG.pE (.pointer (some ⟨k,0,none⟩)),RG.pE sg,RG.pE (.int .i64 n),RG.pE (.slice (some ⟨g1,o1,none⟩) n c1),RG.pE (.pointer (some ⟨k,1,none⟩)),RG.pE sh,RG.pE (.int .i64 n),RG.pE (.slice (some ⟨g2,o2+n,none⟩) n (c2-n)),RG.pE (.pointer (some ⟨k,2,none⟩)),RG.pE vu,RG.pE (.agg #[.slice (some ⟨g1,o1,none⟩) n c1,.slice (some ⟨g2,o2+n,none⟩) n (c2-n),vu]),⟨fun _ W=>Row W (k+1) e1.toList,fun _ _ _ hb h=>h.below hb⟩] (fun W=>Below w.heap.size w W∧Row W k [sg,sh,vu]∧(k+1<W.heap.size∧W.there (k+1) 0 3)∧Row W (k+2) [.slice none 0 0,.slice none 0 0,.slice none 0 0]) (fun W W' hb h=>⟨h.1.trans (hb.mono h.1.size),h.2.1.below hb,⟨Nat.lt_of_lt_of_le h.2.2.1.1 hb.size,RG.there_below h.2.2.1.2 hb h.2.2.1.1⟩,h.2.2.2.below hb⟩)).tailS 22 (fun W W'=>W'=W.setCells (k+1) 0 e1.toList) 23 (fun j v W W' hj hS hR=>by
  subst hS
  match j,hR,hj with
  | 0,hR,_=>exact hR
  | 1,hR,_=>exact hR
  | 2,hR,_=>exact hR
  | 3,hR,_=>exact hR
  | 4,hR,_=>exact hR
  | 5,hR,_=>exact hR
  | 6,hR,_=>exact hR
  | 7,hR,_=>exact hR
  | 8,hR,_=>exact hR
  | 9,hR,_=>exact hR
  | 10,hR,_=>exact hR
  | 11,hR,_=>exact hR
  | 12,hR,_=>exact hR
  | 13,hR,_=>exact hR
  | 14,hR,_=>exact hR
  | 15,hR,_=>exact hR
  | 16,hR,_=>exact hR
  | 17,hR,_=>exact hR
  | 18,hR,_=>exact hR
  | 19,hR,_=>exact hR
  | 20,hR,_=>exact hR
  | 21,hR,_=>exact hR
  | 22,_,hj=>exact absurd rfl hj
  | _+23,_,_=>trivial) (fun W W' hS h=>by subst hS;exact ⟨RG.below_setCells (by rw[HK.out];omega) _ _ _ h.1,row_set h.2.1 (by omega),⟨by rw[RG.setCells_size];exact h.2.2.1.1,World.there_setCells h.2.2.1.2 _ _ _⟩,row_set h.2.2.2 (by omega)⟩) (by kernel_rfl) (by kernel_rfl) (by kernel_rfl) ⟨
  RG.st_c (RG.gw_o 1 (.pointer (some ⟨k,0,none⟩)) (.pointer (some ⟨k,0,none⟩)) rfl (fun _=>rfl)),
  RG.st_c (RG.gw_l1 54 0 9 k 0 sg uGL (fun x W h=>h) (fun W hB=>hB.2.1.2.1 0 _ rfl) (fun _=>rfl)),
  RG.st_c (RG.gw_o 4 (.int .i64 n) (.int .i64 n) rfl (fun _=>rfl)),
  RG.st_c (RG.gw_x 1 10 2 11 sg (.int .i64 n) (.slice (some ⟨g1,o1+n,none⟩) n (c1-n)) (Instr.sliceAt 54 sg (some (.int .i64 n)) none none) hs1 (fun x W h=>h) (fun x W h=>h) (fun _=>rfl)),
  RG.st_c (RG.gw_o 1 (.pointer (some ⟨k,0,none⟩)) (.pointer (some ⟨k,1,none⟩)) rfl (fun _=>rfl)),
  RG.st_c (RG.gw_l1 54 4 13 k 1 sh uGL (fun x W h=>h) (fun W hB=>hB.2.1.2.1 1 _ rfl) (fun _=>rfl)),
  RG.st_c (RG.gw_o 4 (.int .i64 n) (.int .i64 n) rfl (fun _=>rfl)),
  RG.st_c (RG.gw_x 5 14 6 15 sh (.int .i64 n) (.slice (some ⟨g2,o2,none⟩) n c2) (Instr.sliceAt 54 sh none (some (.int .i64 n)) none) hs2 (fun x W h=>h) (fun x W h=>h) (fun _=>rfl)),
  RG.st_c (RG.gw_o 1 (.pointer (some ⟨k,0,none⟩)) (.pointer (some ⟨k,2,none⟩)) rfl (fun _=>rfl)),
  RG.st_c (RG.gw_l1 56 8 17 k 2 vu uSum (fun x W h=>h) (fun W hB=>hB.2.1.2.1 2 _ rfl) (fun _=>rfl)),
  RG.st_c (RG.gw_v [(12,.slice (some ⟨g1,o1+n,none⟩) n (c1-n)),(16,.slice (some ⟨g2,o2,none⟩) n c2),(18,vu)] (.agg #[.slice (some ⟨g1,o1+n,none⟩) n (c1-n),.slice (some ⟨g2,o2,none⟩) n c2,vu]) (fun a W hp=>⟨hp.n 3 12 (by kernel_rfl) (by kernel_rfl),hp.n 7 16 (by kernel_rfl) (by kernel_rfl),hp.n 9 18 (by kernel_rfl) (by kernel_rfl),trivial⟩) (fun _=>rfl) (fun W=>by
   rw[← hvu.out]
   kernel_rfl)),
  RG.st_c (RG.gw_o 1 (.pointer (some ⟨k,0,none⟩)) (.pointer (some ⟨k,0,none⟩)) rfl (fun _=>rfl)),
  RG.st_c (RG.gw_l1 54 11 20 k 0 sg uGL (fun x W h=>h) (fun W hB=>hB.2.1.2.1 0 _ rfl) (fun _=>rfl)),
  RG.st_c (RG.gw_o 4 (.int .i64 n) (.int .i64 n) rfl (fun _=>rfl)),
  RG.st_c (RG.gw_x 12 21 13 22 sg (.int .i64 n) (.slice (some ⟨g1,o1,none⟩) n c1) (Instr.sliceAt 54 sg none (some (.int .i64 n)) none) hs3 (fun x W h=>h) (fun x W h=>h) (fun _=>rfl)),
  RG.st_c (RG.gw_o 1 (.pointer (some ⟨k,0,none⟩)) (.pointer (some ⟨k,1,none⟩)) rfl (fun _=>rfl)),
  RG.st_c (RG.gw_l1 54 15 24 k 1 sh uGL (fun x W h=>h) (fun W hB=>hB.2.1.2.1 1 _ rfl) (fun _=>rfl)),
  RG.st_c (RG.gw_o 4 (.int .i64 n) (.int .i64 n) rfl (fun _=>rfl)),
  RG.st_c (RG.gw_x 16 25 17 26 sh (.int .i64 n) (.slice (some ⟨g2,o2+n,none⟩) n (c2-n)) (Instr.sliceAt 54 sh (some (.int .i64 n)) none none) hs4 (fun x W h=>h) (fun x W h=>h) (fun _=>rfl)),
  RG.st_c (RG.gw_o 1 (.pointer (some ⟨k,0,none⟩)) (.pointer (some ⟨k,2,none⟩)) rfl (fun _=>rfl)),
  RG.st_c (RG.gw_l1 56 19 28 k 2 vu uSum (fun x W h=>h) (fun W hB=>hB.2.1.2.1 2 _ rfl) (fun _=>rfl)),
  RG.st_c (RG.gw_v [(23,.slice (some ⟨g1,o1,none⟩) n c1),(27,.slice (some ⟨g2,o2+n,none⟩) n (c2-n)),(29,vu)] (.agg #[.slice (some ⟨g1,o1,none⟩) n c1,.slice (some ⟨g2,o2+n,none⟩) n (c2-n),vu]) (fun a W hp=>⟨hp.n 14 23 (by kernel_rfl) (by kernel_rfl),hp.n 18 27 (by kernel_rfl) (by kernel_rfl),hp.n 20 29 (by kernel_rfl) (by kernel_rfl),trivial⟩) (fun _=>rfl) (fun W=>by
   rw[← hvu.out]
   kernel_rfl)),
  RG.st_v fun a W hp=>⟨_,by
   have h1:a.eval (.tmp 19)=.agg e1:=by
    have:=hp.n 10 19 (by kernel_rfl) (by kernel_rfl)
    rw[← he1.out];exact this
   have h2:a.eval (.tmp 2)=.pointer (some ⟨k+1,0,none⟩):=(hp.o 2 (by kernel_rfl)).trans rfl
   have hT:W.there (k+1) 0 e1.size:=by rw[HE.out.1];exact hp.b.2.2.1.2
   unfold execOp
   simp only[h1,h2,Instr.storeAt,Instr.sureAddr,Sem.run_bind,Sem.run_pure,Result.andThen_ok,run_storeVar_mid W (k+1) 0 58 e1 hT HI.out.1 HE.out.2.2.1],rfl,⟨by rw[RG.setCells_size];exact hp.b.2.2.1.1,World.rangeAt_setCells_same W (k+1) 0 e1.toList (by rw[Array.length_toList,HE.out.1];exact hp.b.2.2.1.2),World.there_setCells (by rw[Array.length_toList,HE.out.1];exact hp.b.2.2.1.2) _ _ _⟩⟩,trivial⟩ ⟨K2.out.1.drew,K2.out.2.1,⟨K2.out.2.2.1.1,K2.out.2.2.1.2.2⟩,K2.out.2.2.2⟩ ?_
 intro V w3 hR hB
 have hV21:V 21=.agg #[.slice (some ⟨g1,o1,none⟩) n c1,.slice (some ⟨g2,o2+n,none⟩) n (c2-n),vu]:=hR 21 (by decide)
 have hR22:Row w3 (k+1) e1.toList:=hR 22 (by decide)
 rw[he2.out] at hV21
 obtain ⟨w5,hw5⟩:∃ w5,Hid (w3.setCells (k+2) 0 e2.toList=w5):=⟨_,rfl⟩
 have K5:Hid (Row w5 (k+1) e1.toList∧Row w5 (k+2) e2.toList∧Below w.heap.size w w5):=by
  rw[← hw5.out]
  exact ⟨row_set hR22 (by omega),hB.2.2.2.put (by rw[Array.length_toList,HE.out.2.1];rfl),RG.below_setCells (by rw[HK.out];omega) _ _ _ hB.1⟩
 have HT:Hid (w3.there (k+2) 0 e2.size):=by
  rw[HE.out.2.1]
  exact hB.2.2.2.2.2
 have HP:Hid (CrR Q w n G H U (.tuple #[.agg e1.toList.toArray,.agg e2.toList.toArray]) w5):=by
  have kq:∀ {Q:Nat→Prop},Kq Q w w5:=Kq.of_below K5.out.2.2
  refine ⟨K5.out.2.2,e1,e2,rfl,HE.out.1,HE.out.2.1,HE.out.2.2.1,HE.out.2.2.2,?_,?_⟩
  ·rw[← he1.out];exact ⟨_,_,_,rfl,HG.out.1.keep kq,HG.out.2.1.keep kq,HG.out.2.2.2.2.keep kq⟩
  ·rw[← he2.out];exact ⟨_,_,_,rfl,HG.out.2.2.1.keep kq,HG.out.2.2.2.1.keep kq,HG.out.2.2.2.2.keep kq⟩
 dsimp only[RG.putV,Nat.reduceAdd,List.take,List.drop]
 simp only[Act.put,List.setIfInBounds_toArray,List.set_cons_succ,List.set_cons_zero]
 obtain ⟨x2,hx2⟩:∃ x,Hid (Value.agg e2=x):=⟨_,rfl⟩
 rw[hV21,hx2.out]
 clear hR hB hV21 hR22 hs1 hs2 hs3 hs4
 generalize V 0=s0
 generalize V 1=s1
 generalize V 2=s2
 generalize V 3=s3
 generalize V 4=s4
 generalize V 5=s5
 generalize V 6=s6
 generalize V 7=s7
 generalize V 8=s8
 generalize V 9=s9
 generalize V 10=s10
 generalize V 11=s11
 generalize V 12=s12
 generalize V 13=s13
 generalize V 14=s14
 generalize V 15=s15
 generalize V 16=s16
 generalize V 17=s17
 generalize V 18=s18
 generalize V 19=s19
 generalize V 20=s20
 go_wp2_with (first|(refine wpList_store_mid rfl 58 (.tmp 3) _ rfl (k+2) 0 e2 ?_ ?_ ?_ ?_ ?_ ?_;rfl;exact hx2.out.symm;exact HT.out;exact HI.out.2.1;exact HE.out.2.2.2;rw[hw5.out])|fail)
 refine bodyPost_ret (results_cc 2 3 58 58 rfl K5.out.1 K5.out.2.1 rfl rfl uGr HI.out.2.2.1 uGr HI.out.2.2.2) rfl ?_
 exact ⟨_,rfl,HP.out⟩
end
section
open Go.RowKit Go.Sort Go.Deep
variable {P:Nat} [NeZero P] {N:Nat}
theorem GRq.ar {Q:Nat→Prop} {W:World} {v:Value} {n:Nat} {G H:Nat→List (Nat × Bs)} {U:List (Nat × Bs)} (h:GRq Q W v n G H U):∃ e:Array Value,v=.agg e∧e.size=3∧e.all (·.oneCell')=true:=by
 obtain ⟨vg,vh,vu,rfl,⟨g1,o1,c1,rfl,-⟩,⟨g2,o2,c2,rfl,-⟩,⟨g3,c3,rfl,-⟩⟩:=h.ex
 exact ⟨_,rfl,rfl,by kernel_rfl⟩
structure FgI (w W:World) (k x xi:Nat) (vg vh vu:Value):Prop where
 bl:Below w.heap.size w W
 r2:Row W k [vg,vh,vu]
 r3:Row W (k+1) (wn x)
 r4:Row W (k+2) [.slice none 0 0,.slice none 0 0,.slice none 0 0]
theorem FgI.grow {w W W':World} {k x xi:Nat} {vg vh vu:Value} (h:FgI w W k x xi vg vh vu) (hb:Below W.heap.size W W'):FgI w W' k x xi vg vh vu:=⟨h.bl.trans (hb.mono h.bl.size),h.r2.below hb,h.r3.below hb,h.r4.below hb⟩
theorem FgI.drew {w W:World} {k x xi:Nat} {vg vh vu:Value} (h:FgI w W k x xi vg vh vu):FgI w W.drew k x xi vg vh vu:=h.grow ⟨rfl,rfl,rfl,Nat.le_refl _,fun _ _=>rfl⟩
theorem foldG_c (O:Ord N) {Q:Nat→Prop} (n c:Nat) (hn0:0<n) (G H:Nat→List (Nat × Bs)) (U:List (Nat × Bs)) (hG:GOk N (n+n) c G H U) (x:Nat) (hx:x<N) (v:Value) (w:World) (hQ:∀ g,w.heap.size≤g→Q g) (h0:GRq Q w v (n+n) G H U) :
 Calls Tryz.prog 56 #[v,nv x] w (Ret fun e w'=>Below w.heap.size w w'∧GRq Q w' e n (fldT N (sIn N x) x n G) (fldT N x (sIn N x) n H) U):=by
 obtain ⟨vg,vh,vu,rfl,h3,h4,h5⟩:=h0.ex
 have hxi:sIn N x<N:=Nat.mod_lt _ O.pos
 have hIn:=fun W=>sInv2_c O x hx W
 have hF1:=fun (W:World) (hB:Below w.heap.size w W)=>fldM_c O n (by have:=hG.nle;omega) c (by have:=hG.cle;omega) hG.c0 G (sIn N x) x hxi hx hG.g vg W (h3.keep (Kq.of_below hB))
 have hF2:=fun (W:World) (hB:Below w.heap.size w W)=>fldM_c O n (by have:=hG.nle;omega) c (by have:=hG.cle;omega) hG.c0 H x (sIn N x) hx hxi hG.h vh W (h4.keep (Kq.of_below hB))
 generalize fldT N (sIn N x) x n G=G' at hF1 ⊢
 generalize fldT N x (sIn N x) n H=H' at hF2 ⊢
 generalize sIn N x=xi at hIn hF1 hF2
 have HX:Hid ((∀ W,Calls Tryz.prog 54 #[nv x] W (Ret fun e w'=>Below W.heap.size W w'∧e=nv xi))∧(∀ W,Below w.heap.size w W→Calls Tryz.prog 109 #[vg,nv xi,nv x] W (Ret fun e w'=>Below W.heap.size W w'∧GLq (W.heap.size≤·) w' e n G'))∧(∀ W,Below w.heap.size w W→Calls Tryz.prog 109 #[vh,nv x,nv xi] W (Ret fun e w'=>Below W.heap.size W w'∧GLq (W.heap.size≤·) w' e n H'))):=⟨hIn,hF1,hF2⟩
 have HU:Hid (SmQ Q w vu U∧(∀ g,w.heap.size≤g→Q g)):=⟨h5,hQ⟩
 clear h0 h3 h4 h5 hG hxi hIn hF1 hF2 hQ hx O
 obtain ⟨k,hk⟩:∃ k,Hid (w.heap.size=k):=⟨_,rfl⟩
 obtain ⟨w1,hw1⟩:∃ w1,Hid (w.alloc (.cells #[vg,vh,vu] 58)=w1):=⟨_,rfl⟩
 obtain ⟨w2,hw2⟩:∃ w2,Hid (w1.alloc (.cells (wn x).toArray 52)=w2):=⟨_,rfl⟩
 obtain ⟨w3,hw3⟩:∃ w3,Hid (w2.alloc (.cells #[.slice none 0 0,.slice none 0 0,.slice none 0 0] 58)=w3):=⟨_,rfl⟩
 have hz1:w1.heap.size=k+1:=by rw[← hw1.out,World.size_alloc,hk.out]
 have hz2:w2.heap.size=k+2:=by rw[← hw2.out,World.size_alloc,hz1]
 have K3:Hid (FgI w w3 k x xi vg vh vu):=by
  have b1:Below w.heap.size w w1:=by rw[← hw1.out];exact below1 _ _
  have b2:Below w1.heap.size w1 w2:=by rw[← hw2.out];exact below1 _ _
  have b3:Below w2.heap.size w2 w3:=by rw[← hw3.out];exact below1 _ _
  have r1:Row w1 k [vg,vh,vu]:=by rw[← hw1.out,← hk.out];exact row_new w _ _
  have r2:Row w2 (k+1) (wn x):=by rw[← hw2.out,← hz1];exact row_new w1 _ _
  have r3:Row w3 (k+2) [.slice none 0 0,.slice none 0 0,.slice none 0 0]:=by rw[← hw3.out,← hz2];exact row_new w2 _ _
  exact ⟨(b1.trans (b2.mono b1.size)).trans (b3.mono (Nat.le_trans b1.size b2.size)),(r1.below b2).below b3,r2.below b3,r3⟩
 obtain ⟨v0,hv0⟩:∃ v,Hid (Value.agg #[vg,vh,vu]=v):=⟨_,rfl⟩
 obtain ⟨vx,hvx⟩:∃ v,Hid (nv x=v):=⟨_,rfl⟩
 have B1:Hid ((Instr.box 58 v0).run Tryz.prog w=.ok (.pointer (some ⟨k,0,none⟩)) w1):=by rw[← hv0.out,← hw1.out,← hk.out];exact boxG _ _ _ _
 have B2:Hid ((Instr.box 52 vx).run Tryz.prog w1=.ok (.pointer (some ⟨k+1,0,none⟩)) w2):=by rw[← hvx.out,← hw2.out,← hz1];exact boxS x w1
 have HZ:Hid (w2.heap.size=k+2):=hz2
 obtain ⟨d,hd1,hd2⟩:=Option.map_eq_some_iff.1 u40
 have HD:Hid (Tryz.prog.underlying 52=some d∧d.isRow=true):=⟨hd1,hd2⟩
 rw[hv0.out,hvx.out]
 clear hz1 hz2 hd1 hd2 hw1 hw2
 go_enter Tryz.func56,Tryz.ntmps56
 go_wp2_with (first|(refine wpList_box (u:=v0) (v:=.pointer (some ⟨k,0,none⟩)) (w':=w1) rfl 58 (.tmp 0) rfl ?_ ?_ ?_;rfl;exact B1.out)|(refine wpList_box (u:=vx) (v:=.pointer (some ⟨k+1,0,none⟩)) (w':=w2) rfl 52 (.tmp 1) rfl ?_ ?_ ?_;rfl;exact B2.out)|(refine wpList_al (v:=.pointer (some ⟨k+2,0,none⟩)) (w':=w3) rfl 58 4 rfl rfl ?_ ?_;(rw[← hw3.out,← HZ.out];kernel_rfl))|(refine wpList_load_mid rfl 52 (.tmp 3) rfl (k+1) 0 ?_ (wn x) d ?_ ?_ ?_ ?_ ?_;rfl;exact K3.out.r3.2.1;exact HD.out.1;exact HD.out.2;exact nSc;rw[show Value.agg (wn x).toArray=vx from hvx.out])|fail)
 rw[← hvx.out]
 refine (HX.out.1 w3).mono ?_
 rintro e w4 ⟨u,rfl,hb4,rfl⟩
 obtain ⟨k5,hk5⟩:∃ k,Hid (w4.heap.size=k):=⟨_,rfl⟩
 obtain ⟨w5,hw5⟩:∃ w5,Hid (w4.alloc (.cells #[.int .u64 0,.int .u64 0,.int .u64 0,.int .u64 0] 52)=w5):=⟨_,rfl⟩
 obtain ⟨w6,hw6⟩:∃ w6,Hid (w5.setCells k5 0 (wn xi)=w6):=⟨_,rfl⟩
 have F5:Hid (Row w5 k5 [.int .u64 0,.int .u64 0,.int .u64 0,.int .u64 0]∧Below w4.heap.size w4 w5):=by rw[← hw5.out,← hk5.out];exact ⟨row_new w4 _ _,below1 _ _⟩
 have K6:Hid (FgI w w6 k x xi vg vh vu∧Row w6 k5 (wn xi)):=by
  rw[← hw6.out]
  exact ⟨(K3.out.grow hb4).grow (RG.below_setCells (by rw[hk5.out];exact Nat.le_refl _) _ _ _ F5.out.2),F5.out.1.put rfl⟩
 obtain ⟨vi,hvi⟩:∃ v,Hid (nv xi=v):=⟨_,rfl⟩
 rw[hvi.out]
 clear hb4 K3
 go_wp2_with (first|(refine wpList_al (v:=.pointer (some ⟨k5,0,none⟩)) (w':=w5) rfl 52 5 rfl rfl ?_ ?_;(rw[← hw5.out,← hk5.out];kernel_rfl))|(refine wpList_store_mid rfl 52 (.tmp 5) _ rfl k5 0 (wn xi).toArray ?_ ?_ ?_ ?_ ?_ ?_;rfl;exact hvi.out.symm;exact F5.out.1.2.2;exact nSc;exact wn_one xi;rw[show (wn xi).toArray.toList=wn xi from rfl,hw6.out])|fail)
 clear F5 hw5 hw6 hk5
 refine (RG.gwL [RG.pE (.pointer (some ⟨k,0,none⟩)),RG.pE vg,RG.pE (nv xi),RG.pE (nv x),RG.pG (fun g=>w.heap.size≤g∧g≠k+2) n G',RG.pE (.pointer (some ⟨k,1,none⟩)),RG.pE vh,RG.pE (nv x),RG.pE (nv xi),RG.pG (fun g=>w.heap.size≤g∧g≠k+2) n H',RG.pE (.pointer (some ⟨k,2,none⟩)),RG.pE vu,⟨fun v W=>∃ x y,v=.agg #[x,y,vu]∧GLq (fun g=>w.heap.size≤g∧g≠k+2) W x n G'∧GLq (fun g=>w.heap.size≤g∧g≠k+2) W y n H',fun _ _ _ hb ⟨x,y,h1,h2,h3⟩=>⟨x,y,h1,h2.keep (Kq.of_below hb),h3.keep (Kq.of_below hb)⟩⟩] (fun W=>FgI w W k x xi vg vh vu∧Row W k5 (wn xi)) (fun W W' hb h=>⟨h.1.grow hb,h.2.below hb⟩)).last 13 (by kernel_rfl) (by kernel_rfl) (by kernel_rfl) ⟨
  RG.gw_o 2 (.pointer (some ⟨k,0,none⟩)) (.pointer (some ⟨k,0,none⟩)) rfl (fun _=>rfl),
  RG.gw_l1 54 0 8 k 0 vg uGL (fun x W h=>h) (fun W hB=>hB.1.r2.2.1 0 _ rfl) (fun _=>rfl),
  RG.gw_lo 52 5 k5 0 (wn xi) rSc nSc rfl (fun W hB=>hB.2.2.1) (fun _=>rfl),
  RG.gw_lo 52 3 (k+1) 0 (wn x) rSc nSc rfl (fun W hB=>hB.1.r3.2.1) (fun _=>rfl),
  RG.gw_c3 1 9 2 10 3 11 109 (fun x y z=>#[x,y,z]) (fun a b c W ha hb hc hB=>by
   obtain rfl:a=vg:=ha
   obtain rfl:b=nv xi:=hb
   obtain rfl:c=nv x:=hc
   refine (HX.out.2.1 W hB.1.bl).mono ?_
   rintro e W' ⟨u,rfl,hb,hs⟩
   exact ⟨_,rfl,hb,hs.mono fun g hg=>⟨Nat.le_trans hB.1.bl.size hg,by have:=hB.1.r4.1;omega⟩⟩),
  RG.gw_o 2 (.pointer (some ⟨k,0,none⟩)) (.pointer (some ⟨k,1,none⟩)) rfl (fun _=>rfl),
  RG.gw_l1 54 5 13 k 1 vh uGL (fun x W h=>h) (fun W hB=>hB.1.r2.2.1 1 _ rfl) (fun _=>rfl),
  RG.gw_lo 52 3 (k+1) 0 (wn x) rSc nSc rfl (fun W hB=>hB.1.r3.2.1) (fun _=>rfl),
  RG.gw_lo 52 5 k5 0 (wn xi) rSc nSc rfl (fun W hB=>hB.2.2.1) (fun _=>rfl),
  RG.gw_c3 6 14 7 15 8 16 109 (fun x y z=>#[x,y,z]) (fun a b c W ha hb hc hB=>by
   obtain rfl:a=vh:=ha
   obtain rfl:b=nv x:=hb
   obtain rfl:c=nv xi:=hc
   refine (HX.out.2.2 W hB.1.bl).mono ?_
   rintro e W' ⟨u,rfl,hb,hs⟩
   exact ⟨_,rfl,hb,hs.mono fun g hg=>⟨Nat.le_trans hB.1.bl.size hg,by have:=hB.1.r4.1;omega⟩⟩),
  RG.gw_o 2 (.pointer (some ⟨k,0,none⟩)) (.pointer (some ⟨k,2,none⟩)) rfl (fun _=>rfl),
  RG.gw_l1 56 10 18 k 2 vu uSum (fun x W h=>h) (fun W hB=>hB.1.r2.2.1 2 _ rfl) (fun _=>rfl),
  RG.gw_val (fun a W hp=>by
   have h1:GLq (fun g=>w.heap.size≤g∧g≠k+2) W (a.eval (.tmp 12)) n G':=hp.n 4 12 (by kernel_rfl) (by kernel_rfl)
   have h2:GLq (fun g=>w.heap.size≤g∧g≠k+2) W (a.eval (.tmp 17)) n H':=hp.n 9 17 (by kernel_rfl) (by kernel_rfl)
   have h3:a.eval (.tmp 19)=vu:=hp.n 11 19 (by kernel_rfl) (by kernel_rfl)
   obtain ⟨g1,o1,c1,e1,-⟩:=id h1
   obtain ⟨g2,o2,c2,e2,-⟩:=id h2
   obtain ⟨g3,c3,e3,-⟩:=HU.out.1
   rw[e1] at h1
   rw[e2] at h2
   refine ⟨[(12,.slice (some ⟨g1,o1,none⟩) n c1),(17,.slice (some ⟨g2,o2,none⟩) n c2),(19,vu)],.agg #[.slice (some ⟨g1,o1,none⟩) n c1,.slice (some ⟨g2,o2,none⟩) n c2,vu],W,⟨e1,e2,h3,trivial⟩,?_,Below.refl _ _,⟨_,_,rfl,h1,h2⟩⟩
   rw[e3]
   kernel_rfl),trivial⟩ ⟨K6.out.1.drew,K6.out.2⟩ ?_
 intro V w7 hR hB
 obtain ⟨x1,y1,hV,hG1,hH1⟩:∃ x y,V 12=.agg #[x,y,vu]∧GLq (fun g=>w.heap.size≤g∧g≠k+2) w7 x n G'∧GLq (fun g=>w.heap.size≤g∧g≠k+2) w7 y n H':=hR 12 (by decide)
 have hU7:SmQ Q w7 vu U:=HU.out.1.keep (Kq.of_below hB.1.bl)
 have hqq:∀ g,w.heap.size≤g∧g≠k+2→Q g:=fun g hg=>HU.out.2 g hg.1
 have gr:GRq Q w7 (.agg #[x1,y1,vu]) n G' H' U:=⟨_,_,_,rfl,hG1.mono hqq,hH1.mono hqq,hU7⟩
 obtain ⟨e,he,hes,hea⟩:=gr.ar
 obtain rfl:#[x1,y1,vu]=e:=by injection he
 obtain ⟨w8,hw8⟩:∃ w8,Hid (w7.setCells (k+2) 0 [x1,y1,vu]=w8):=⟨_,rfl⟩
 have K8:Hid (Below w.heap.size w w8∧Row w8 (k+2) [x1,y1,vu]∧GRq Q w8 (.agg #[x1,y1,vu]) n G' H' U):=by
  rw[← hw8.out]
  have kq:Kq (fun g=>w.heap.size≤g∧g≠k+2) w7 (w7.setCells (k+2) 0 [x1,y1,vu]):=Kq.set fun g hg=>hg.2
  have hb8:Below w.heap.size w (w7.setCells (k+2) 0 [x1,y1,vu]):=RG.below_setCells (by rw[hk.out];omega) _ _ _ hB.1.bl
  exact ⟨hb8,hB.1.r4.put rfl,_,_,_,rfl,(hG1.keep kq).mono hqq,(hH1.keep kq).mono hqq,HU.out.1.keep (Kq.of_below hb8)⟩
 have HT:Hid (w7.there (k+2) 0 3∧(#[x1,y1,vu]:Array Value).all (·.oneCell')=true):=⟨hB.1.r4.2.2,hea⟩
 dsimp only[RG.putV,Nat.reduceAdd,List.take,List.drop]
 simp only[Act.put,List.setIfInBounds_toArray,List.set_cons_succ,List.set_cons_zero]
 obtain ⟨ve,hve⟩:∃ v,Hid (Value.agg #[x1,y1,vu]=v):=⟨_,rfl⟩
 rw[hV,hve.out]
 clear hR hB hV hG1 hH1 hU7 gr he hes hea K6 hqq
 generalize V 0=s0
 generalize V 1=s1
 generalize V 2=s2
 generalize V 3=s3
 generalize V 4=s4
 generalize V 5=s5
 generalize V 6=s6
 generalize V 7=s7
 generalize V 8=s8
 generalize V 9=s9
 generalize V 10=s10
 generalize V 11=s11
 go_wp2_with (first|(refine wpList_store_mid rfl 58 (.tmp 4) _ rfl (k+2) 0 #[x1,y1,vu] ?_ ?_ ?_ ?_ ?_ ?_;rfl;exact hve.out.symm;exact HT.out.1;exact iGr;exact HT.out.2;rw[show (#[x1,y1,vu]:Array Value).toList=[x1,y1,vu] from rfl,hw8.out])|fail)
 refine bodyPost_ret (results_cell 4 58 rfl K8.out.2.1 rfl uGr iGr) rfl ?_
 exact ⟨_,rfl,K8.out.1,K8.out.2.2⟩
def lgV (r:Nat):Value:=.agg #[.pointer (some ⟨r,0,none⟩)]
theorem uLg:(Tryz.prog.underlying 70).map (·.isRow)=some true:=by kernel_rfl
theorem iLg:(Tryz.prog.info? 70).map (·.size)=some 1:=by kernel_rfl
theorem uLp:(Tryz.prog.underlying 66).map (·.isRow)=some false:=by kernel_rfl
theorem boxL (r:Nat) (w:World):(Instr.box 70 (lgV r)).run Tryz.prog w=.ok (.pointer (some ⟨w.heap.size,0,none⟩)) (w.alloc (.cells #[.pointer (some ⟨r,0,none⟩)] 70)):=by kernel_rfl
theorem holds_set {W:World} {r K o:Nat} {vs:List Value} {L:Bs} (h:Holds encB W r 0 L) (hne:r≠K):Holds encB (W.setCells K o vs) r 0 L:=fun j hj=>by
 have e:=RG.setCells_other K vs o W r hne
 rw[World.cell?_of_block (a:=⟨r,0+j,none⟩) e,World.frozen?_of_block (a:=⟨r,0+j,none⟩) e]
 exact h j hj
theorem newLogS_c (label:ByteArray) (w:World) (hlab:label.size≤1048576):Calls Tryz.prog 57 #[.string label] w (Ret fun e w'=>Below w.heap.size w w'∧∃ r,e=lgV r∧w.heap.size≤r∧r<w'.heap.size∧Holds encB w' r 0 (SP.newL label.data.toList)):=by
 obtain ⟨L,hL⟩:∃ L,Hid (SP.newL label.data.toList=L):=⟨_,rfl⟩
 rw[hL.out]
 obtain ⟨w1,hw1⟩:∃ w1,Hid (w.alloc (.cells #[.pointer none] 70)=w1):=⟨_,rfl⟩
 have K1:Hid (Row w1 w.heap.size [.pointer none]∧Below w.heap.size w w1):=by rw[← hw1.out];exact ⟨row_new w _ _,below1 w _⟩
 go_enter Tryz.func57,Tryz.ntmps57
 go_wp2_with fail
 rw[hw1.out]
 clear hw1
 refine (sNewLog_c label w1 hlab).mono ?_
 rintro e w2 ⟨vv,rfl,hb2,r,rfl,hr1,hr2,hH2⟩
 rw[hL.out] at hH2
 have hle:w.heap.size<r:=Nat.lt_of_lt_of_le K1.out.1.1 hr1
 have K2:Hid (Row w2 w.heap.size [.pointer none]∧Below w.heap.size w w2∧Holds encB w2 r 0 L∧r<w2.heap.size):=⟨K1.out.1.below hb2,K1.out.2.trans (hb2.mono K1.out.2.size),hH2,hr2⟩
 clear hb2 hH2 K1 hr1 hr2
 obtain ⟨w5,hw5⟩:∃ w5,Hid (w2.setCells w.heap.size 0 [.pointer (some ⟨r,0,none⟩)]=w5):=⟨_,rfl⟩
 have K5:Hid (Row w5 w.heap.size [.pointer (some ⟨r,0,none⟩)]∧Below w.heap.size w w5∧Holds encB w5 r 0 L∧r<w5.heap.size):=by
  rw[← hw5.out]
  exact ⟨K2.out.1.put rfl,RG.below_setCells (Nat.le_refl _) _ _ _ K2.out.2.1,holds_set K2.out.2.2.1 (by omega),by rw[RG.setCells_size];exact K2.out.2.2.2⟩
 go_wp2_with (refine wpList_op (v:=.agg #[.pointer (some ⟨r,0,none⟩)]) (w':=w2) rfl (.build 70 _) rfl ?_ ?_;kernel_rfl;refine Hid.out ?_)
 show wpList _ _ _ _ _ _
 refine wpList_store_mid rfl 70 _ _ rfl w.heap.size 0 #[.pointer (some ⟨r,0,none⟩)] ?_ ?_ ?_ ?_ ?_ ?_
 ·kernel_rfl
 ·kernel_rfl
 ·exact K2.out.1.2.2
 ·exact iLg
 ·kernel_rfl
 rw[show (#[Value.pointer (some ⟨r,0,none⟩)]).toList=[.pointer (some ⟨r,0,none⟩)] from rfl,hw5.out]
 go_wp2
 refine bodyPost_ret (results_cell 2 70 rfl K5.out.1 rfl uLg iLg) rfl ?_
 exact ⟨_,rfl,K5.out.2.1,r,rfl,by omega,K5.out.2.2.2,K5.out.2.2.1⟩
theorem sChallengeK_c (O:Ord N) (r:Nat) (L:Bs) (w:World) (hL:Holds encB w r 0 L) (hl:L.size=32) :
 Calls Tryz.prog 149 #[.agg #[.pointer (some ⟨r,0,none⟩)]] w (Ret fun e w'=>SP.Only r 0 32 w w'∧Holds encB w' r 0 (wentF L)∧e=nv (cha N L)):=by
 have hr:=Holds.lt hL (by omega)
 obtain ⟨w1,hw1⟩:∃ w1,Hid ((w.alloc (.cells #[.pointer (some ⟨r,0,none⟩)] 68)).alloc (.cells #[.int .u64 0,.int .u64 0,.int .u64 0,.int .u64 0] 52)=w1):=⟨_,rfl⟩
 have K1:Hid (Row w1 (w.heap.size+1) [.int .u64 0,.int .u64 0,.int .u64 0,.int .u64 0]∧Below w.heap.size w w1∧Holds encB w1 r 0 L∧w1.rangeAt w.heap.size 0 [.pointer (some ⟨r,0,none⟩)]):=by
  rw[← hw1.out]
  have hb:Below w.heap.size w ((w.alloc (.cells #[.pointer (some ⟨r,0,none⟩)] 68)).alloc (.cells #[.int .u64 0,.int .u64 0,.int .u64 0,.int .u64 0] 52)):=(below1 w _).alloc (by rw[World.size_alloc];omega) _
  have hR:=row_new (w.alloc (.cells #[.pointer (some ⟨r,0,none⟩)] 68)) [.int .u64 0,.int .u64 0,.int .u64 0,.int .u64 0] 52
  rw[World.size_alloc] at hR
  exact ⟨hR,hb,Holds.below hL hb hr,((row_new w [.pointer (some ⟨r,0,none⟩)] 68).alloc _).2.1⟩
 clear hL
 obtain ⟨d,hd1,hd2⟩:=Option.map_eq_some_iff.1 u124
 have HD:Hid (Tryz.prog.underlying 68=some d∧d.isRow=true):=⟨hd1,hd2⟩
 clear hd1 hd2
 have hS:=sScalarK_c O r L ⟨#[99,104,97,108,108,101,110,103,101]⟩ w1 (by decide) K1.out.2.2.1 hl
 have hcha:redu N (SP.askL L (⟨#[99,104,97,108,108,101,110,103,101]⟩:ByteArray).data.toList 64)=cha N L:=rfl
 have hwen:SP.askedL L (⟨#[99,104,97,108,108,101,110,103,101]⟩:ByteArray).data.toList=wentF L:=rfl
 rw[hcha,hwen] at hS
 have hws:(wentF L).size=32:=SP.askedL_size _ _
 clear hcha hwen
 have HS:=Hid.mk' hS
 clear hS
 obtain ⟨m,hm⟩:∃ m,Hid (cha N L=m):=⟨_,rfl⟩
 obtain ⟨L',hL'⟩:∃ m,Hid (wentF L=m):=⟨_,rfl⟩
 rw[hm.out,hL'.out] at HS
 rw[hL'.out] at hws
 rw[hm.out,hL'.out]
 go_enter Tryz.func149,Tryz.ntmps149
 go_wp2_with (refine wpList_load_mid rfl 68 _ rfl w.heap.size 0 ?_ [.pointer (some ⟨r,0,none⟩)] d ?_ ?_ ?_ ?_ ?_;kernel_rfl;(rw[hw1.out];exact K1.out.2.2.2);exact HD.out.1;exact HD.out.2;exact i124;rw[hw1.out])
 refine HS.out.mono ?_
 rintro e w4 ⟨v,rfl,hO,hH,rfl⟩
 have hr4:=Holds.lt hH (by omega)
 have K4:Hid (Row w4 (w.heap.size+1) [.int .u64 0,.int .u64 0,.int .u64 0,.int .u64 0]∧SP.Only r 0 32 w w4∧Holds encB w4 r 0 L'):=⟨K1.out.1.only hO (by omega),(SP.Only.of_below K1.out.2.1 rfl hr).trans hO,hH⟩
 clear hO K1 HS hw1 hH
 obtain ⟨w5,hw5⟩:∃ w5,Hid (w4.setCells (w.heap.size+1) 0 (wn m)=w5):=⟨_,rfl⟩
 have K5:Hid (Row w5 (w.heap.size+1) (wn m)∧SP.Only r 0 32 w w5∧Holds encB w5 r 0 L'):=by rw[← hw5.out];exact ⟨K4.out.1.put rfl,only_setCells K4.out.2.1 hr (by omega) _,holds_set K4.out.2.2 (by omega)⟩
 obtain ⟨vm,hvm⟩:∃ vm,Hid (nv m=vm):=⟨_,rfl⟩
 rw[hvm.out]
 go_wp2_with (refine wpList_store_mid rfl 52 _ _ rfl (w.heap.size+1) 0 (wn m).toArray ?_ ?_ ?_ ?_ ?_ ?_;rfl;exact hvm.out.symm;exact K4.out.1.2.2;exact i40;exact wn_one m;rw[show (wn m).toArray.toList=wn m from rfl,hw5.out])
 refine bodyPost_ret (results_cell 2 52 rfl K5.out.1 rfl u40 i40) rfl ?_
 exact ⟨_,rfl,K5.out.2.1,K5.out.2.2,rfl⟩
def chS (N:Nat) (L:Bs):Nat:=orOne (cha N L)
theorem chS_ask [NeZero N] (h1:1<N) (L:Bs) (hc:cha N L<N):chS N L=(askF N L).val:=by
 unfold chS askF oneF orOne
 generalize cha N L=c at hc
 have hv:(ofF N c).val=c:=Nat.mod_eq_of_lt hc
 by_cases h0:c=0
 ·subst h0
  rw[if_pos rfl,if_pos ofF_zero]
  exact (Nat.mod_eq_of_lt h1).symm
 ·rw[if_neg h0,if_neg (fun e=>h0 (by rw[← hv,e];exact Nat.zero_mod N)),hv]
theorem challS_c (O:Ord N) (r:Nat) (L:Bs) (w:World) (hL:Holds encB w r 0 L) (hl:L.size=32) :
 Calls Tryz.prog 107 #[lgV r] w (Ret fun e w'=>SP.Only r 0 32 w w'∧Holds encB w' r 0 (wentF L)∧e=nv (chS N L)):=by
 have hr:=Holds.lt hL (by omega)
 obtain ⟨w1,hw1⟩:∃ w1,Hid ((w.alloc (.cells #[.pointer (some ⟨r,0,none⟩)] 70)).alloc (.cells #[.int .u64 0,.int .u64 0,.int .u64 0,.int .u64 0] 52)=w1):=⟨_,rfl⟩
 have K1:Hid (Row w1 (w.heap.size+1) [.int .u64 0,.int .u64 0,.int .u64 0,.int .u64 0]∧Below w.heap.size w w1∧Holds encB w1 r 0 L∧w1.rangeAt w.heap.size 0 [.pointer (some ⟨r,0,none⟩)]):=by
  rw[← hw1.out]
  have hb:Below w.heap.size w ((w.alloc (.cells #[.pointer (some ⟨r,0,none⟩)] 70)).alloc (.cells #[.int .u64 0,.int .u64 0,.int .u64 0,.int .u64 0] 52)):=(below1 w _).alloc (by rw[World.size_alloc];omega) _
  have hR:=row_new (w.alloc (.cells #[.pointer (some ⟨r,0,none⟩)] 70)) [.int .u64 0,.int .u64 0,.int .u64 0,.int .u64 0] 52
  rw[World.size_alloc] at hR
  exact ⟨hR,hb,Holds.below hL hb hr,((row_new w [.pointer (some ⟨r,0,none⟩)] 70).alloc _).2.1⟩
 clear hL
 obtain ⟨d,hd1,hd2⟩:=Option.map_eq_some_iff.1 u124
 have HD:Hid (Tryz.prog.underlying 68=some d∧d.isRow=true):=⟨hd1,hd2⟩
 clear hd1 hd2
 have hS:=sChallengeK_c O r L w1 K1.out.2.2.1 hl
 have hcl:cha N L<N:=redu_lt O _
 have hOr:=fun W=>orOne_c O hcl W
 have hcs:orOne (cha N L)=chS N L:=rfl
 rw[hcs] at hOr
 have hws:(wentF L).size=32:=SP.askedL_size _ _
 obtain ⟨m,hm⟩:∃ m,Hid (cha N L=m):=⟨_,rfl⟩
 obtain ⟨q,hq⟩:∃ m,Hid (chS N L=m):=⟨_,rfl⟩
 obtain ⟨L',hL'⟩:∃ m,Hid (wentF L=m):=⟨_,rfl⟩
 have HS:=Hid.mk' hS
 have HO:=Hid.mk' hOr
 clear hS hcl hcs hOr O
 rw[hm.out,hL'.out] at HS
 rw[hm.out,hq.out] at HO
 rw[hL'.out] at hws
 rw[hq.out,hL'.out]
 unfold lgV
 go_enter Tryz.func107,Tryz.ntmps107
 go_wp2_with (refine wpList_load_mid rfl 68 _ rfl w.heap.size 0 ?_ [.pointer (some ⟨r,0,none⟩)] d ?_ ?_ ?_ ?_ ?_;kernel_rfl;(rw[hw1.out];exact K1.out.2.2.2);exact HD.out.1;exact HD.out.2;exact i124;rw[hw1.out])
 refine HS.out.mono ?_
 rintro e w4 ⟨v,rfl,hO,hH,rfl⟩
 have hr4:=Holds.lt hH (by omega)
 have K4:Hid (Row w4 (w.heap.size+1) [.int .u64 0,.int .u64 0,.int .u64 0,.int .u64 0]∧SP.Only r 0 32 w w4∧Holds encB w4 r 0 L'):=⟨K1.out.1.only hO (by omega),(SP.Only.of_below K1.out.2.1 rfl hr).trans hO,hH⟩
 clear hO K1 HS hw1 hH
 go_wp2_with fail
 refine (HO.out w4).mono ?_
 rintro e w6 ⟨v6,rfl,hb6,rfl⟩
 have K6:Hid (Row w6 (w.heap.size+1) [.int .u64 0,.int .u64 0,.int .u64 0,.int .u64 0]∧SP.Only r 0 32 w w6∧Holds encB w6 r 0 L'):=⟨K4.out.1.below hb6,K4.out.2.1.trans (SP.Only.of_below hb6 rfl hr4),Holds.below K4.out.2.2 hb6 hr4⟩
 clear hb6 K4 HO hr4
 obtain ⟨w5,hw5⟩:∃ w5,Hid (w6.setCells (w.heap.size+1) 0 (wn q)=w5):=⟨_,rfl⟩
 have K5:Hid (Row w5 (w.heap.size+1) (wn q)∧SP.Only r 0 32 w w5∧Holds encB w5 r 0 L'):=by rw[← hw5.out];exact ⟨K6.out.1.put rfl,only_setCells K6.out.2.1 hr (by omega) _,holds_set K6.out.2.2 (by omega)⟩
 obtain ⟨vm,hvm⟩:∃ vm,Hid (nv q=vm):=⟨_,rfl⟩
 rw[hvm.out]
 go_wp2_with (refine wpList_store_mid rfl 52 _ _ rfl (w.heap.size+1) 0 (wn q).toArray ?_ ?_ ?_ ?_ ?_ ?_;rfl;exact hvm.out.symm;exact K6.out.1.2.2;exact i40;exact wn_one q;rw[show (wn q).toArray.toList=wn q from rfl,hw5.out])
 refine bodyPost_ret (results_cell 2 52 rfl K5.out.1 rfl u40 i40) rfl ?_
 exact ⟨_,rfl,K5.out.2.1,K5.out.2.2,rfl⟩
end
end Go.Proofs.YtnfpdihkjkimiaaGreat
