import Derived.Deep.LoopGhost
import Derived.Deep.AppendSrc
import Derived.Lib.ConvBytes
import Derived.Test.YtmfodnkinmnopaaGreatSc5
set_option linter.unusedVariables false
set_option linter.constructorNameAsVariable false
set_option linter.unusedSimpArgs false
set_option maxRecDepth 1000000
set_option maxHeartbeats 4000000
namespace Go.Proofs.YtmfodnkinmnopaaGreat
section
open Go.RowKit Go.Sort Go.Deep
variable {P:Nat} [NeZero P] {N:Nat}
theorem slHi (g n c i:Nat) (hi:i≤n) (hn:n≤c) (w:World):(Instr.sliceAt 71 (.slice (some ⟨g,0,none⟩) n c) none (some (.int .i64 i)) none).run Tryz.prog w=.ok (.slice (some ⟨g,0,none⟩) i c) w:=by
 have h1:¬ (i:Int)<0:=by omega
 have h2:(i:Int)≤(c:Int):=by omega
 go_simp
theorem slLo (g n c i:Nat) (hi:i<n) (hn:n≤c) (w:World):(Instr.sliceAt 71 (.slice (some ⟨g,0,none⟩) n c) (some (.int .i64 i)) none none).run Tryz.prog w=.ok (.slice (some ⟨g,37*i,none⟩) (n-i) (c-i)) w:=by
 have h1:¬ (i:Int)<0:=by omega
 have h2:(i:Int)≤(n:Int):=by omega
 have h3:(n:Int)≤(c:Int):=by omega
 go_simp
 rw[if_neg (by omega),Nat.mul_comm]
def TmL (W:World) (q:Option Addr) (l:List (Nat × Bs)):Prop:=0<l.length→∃ g,q=some ⟨g,0,none⟩∧g<W.heap.size∧∀ j (hj:j<l.length),W.rangeAt g (37*j) (wn (l[j]).1++bl33 (l[j]).2)
def DelR (base:Nat) (l:List (Nat × Bs)) (w:World) (e:Value) (w':World):Prop:=Below base w w'∧∃ q cap,e=.slice q (LF l).length cap∧TmL w' q (LF l)
theorem LF_full {l:List (Nat × Bs)} (h:∀ x∈l,x.1≠0):LF l=l:=List.filter_eq_self.2 fun x hx=>by simpa using h x hx
theorem LF_lt {l:List (Nat × Bs)} {i0:Nat} (hi:i0<l.length) (h0:(l[i0]).1=0):∀ j,i0<j→j≤l.length→(LF (l.take j)).length<j
 | 0,h,_=>by omega
 | j+1,h,hj=>by
  rw[LF_snoc (by omega),List.length_append]
  rcases Nat.lt_or_ge i0 j with h1|h1
  ·have:=LF_lt hi h0 j h1 (by omega)
   split<;>simp<;>omega
  ·obtain rfl:j=i0:=by omega
   rw[if_pos h0]
   have:=LF_le l j
   simp;omega
theorem delete_c (l:List (Nat × Bs)) (hl0:0<l.length) (hlk:l.length≤1000) (hs:∀ x∈l.map (·.2),x.size=33) (hn:∀ x∈l,x.1<top) (base:Nat) (v:Value) (w:World) (hb:base≤w.heap.size) (ho:w.ownsRow base 150 37 v l.length (cellsT l)) :
 Calls Tryz.prog 143 #[v,.func (.func 144) #[] #[]] w (Ret (DelR base l w)):=by
 obtain ⟨g,c,rfl,hg1,hg2,hr⟩:=owns_rows ho hs hl0
 have hsz:∀ (j:Nat) (hj:j<l.length),(l[j]).2.size=33:=fun j hj=>hs _ (List.mem_map.2 ⟨_,List.getElem_mem hj,rfl⟩)
 have hcap:l.length≤c∧w.there g 0 (37*l.length):=by
  rcases ho.2 with ⟨h,-⟩|⟨g2,cap2,cur,he,-,hc,hn',-,hs',-⟩
  ·cases h
  ·injection he with he1 he2 he3
   injection he1 with he1
   injection he1 with he1
   subst he1
   subst he3
   refine ⟨hn',fun t ht=>?_⟩
   have hlt:0+t<cur.size:=by
    rw[hs']
    have:l.length*37≤c*37:=Nat.mul_le_mul_right 37 hn'
    omega
   exact ⟨by simp only[World.cell?,hc];simp;omega,by simp[World.frozen?,hc]⟩
 by_cases hall:∀ x∈l,x.1≠0
 ·have eL:=LF_full hall
  refine (delete_none g l.length c (by omega) (fun j=>((l[j]?).getD (0,#[])).1) (fun j=>((l[j]?).getD (0,#[])).2) (fun j hj=>by rw[List.getElem?_eq_getElem hj];exact hn _ (List.getElem_mem hj)) (fun j hj=>by rw[List.getElem?_eq_getElem hj];exact hall _ (List.getElem_mem hj)) (fun j hj=>by rw[List.getElem?_eq_getElem hj];exact hsz j hj) w hg2 (fun j hj=>by rw[List.getElem?_eq_getElem hj];exact hr j hj)).mono ?_
  rintro e w9 ⟨vv,rfl,hb9,rfl⟩
  refine ⟨_,rfl,hb9.mono hb,some ⟨g,0,none⟩,c,by rw[eL],?_⟩
  rw[eL]
  exact fun _=>⟨g,rfl,Nat.lt_of_lt_of_le hg2 hb9.size,fun j hj=>RG.range_below (hr j hj) hb9 hg2⟩
 ·have hI:=index_c g l.length c (by omega) (fun j=>((l[j]?).getD (0,#[])).1) (fun j=>((l[j]?).getD (0,#[])).2) (fun j hj=>by rw[List.getElem?_eq_getElem hj];exact hn _ (List.getElem_mem hj)) (fun j hj=>by rw[List.getElem?_eq_getElem hj];exact hsz j hj) w hg2 (fun j hj=>by rw[List.getElem?_eq_getElem hj];exact hr j hj)
  obtain ⟨i0,e1,-,e3,e4,e5⟩:=firstZ_some (ns:=fun j=>((l[j]?).getD (0,#[])).1) l.length 0 (by
   have:∃ x,x∈l∧x.1=0:=Classical.byContradiction fun h=>hall fun x hx h0=>h ⟨x,hx,h0⟩
   obtain ⟨x,hx,hx0⟩:=this
   obtain ⟨j,hj⟩:=List.getElem?_of_mem hx
   exact ⟨j,Nat.zero_le _,by have:=(List.getElem?_eq_some_iff.1 hj).1;omega,by show ((l[j]?).getD (0,#[])).1=0;rw[hj];exact hx0⟩)
  rw[e1] at hI
  have hi0:i0<l.length:=by omega
  have hz0:(l[i0]).1=0:=by
   have:((l[i0]?).getD (0,#[])).1=0:=e4
   rw[List.getElem?_eq_getElem hi0] at this
   exact this
  have hpre:LF (l.take i0)=l.take i0:=LF_full fun x hx=>by
   obtain ⟨j,hj⟩:=List.getElem?_of_mem hx
   rw[List.getElem?_take] at hj
   split at hj
   ·rename_i hji
    have:=e5 j (Nat.zero_le _) hji
    have h6:((l[j]?).getD (0,#[])).1≠0:=this
    rw[hj] at h6
    exact h6
   ·cases hj
  have hlen0:(LF (l.take i0)).length=i0:=by rw[hpre,List.length_take];omega
  have D0:Dz base w w g l i0:=⟨Below.refl _ _,hb,hg2,hcap.2,fun a ha=>by
   simp only[hpre] at ha ⊢
   rw[List.getElem_take]
   exact hr a _,fun b hb' _=>hr b hb'⟩
  have D1:Dz base w w g l (i0+1):=D0.skip hi0 hz0
  have e6:(LF (l.take (i0+1))).length=i0:=by rw[LF_snoc hi0,if_pos hz0,List.append_nil];exact hlen0
  have HI:=Hid.mk' hI
  have HZ:Hid (∀ j,i0<j→j≤l.length→(LF (l.take j)).length<j):=LF_lt hi0 hz0
  have HD1:=Hid.mk' D1
  have HF:Hid (base≤g∧l.length≤c∧(∀ x∈l.map (·.2),x.size=33)∧(∀ x∈l,x.1<top)∧∀ (j:Nat) (hj:j<l.length),(l[j]).2.size=33):=⟨hg1,hcap.1,hs,hn,hsz⟩
  obtain ⟨d',hd3,hd4⟩:=Option.map_eq_some_iff.1 uT
  have HD:Hid (Tryz.prog.underlying 150=some d'∧d'.isRow=true):=⟨hd3,hd4⟩
  have hi1:¬ ((i0:Int) = -1):=by omega
  clear hd3 hd4 hI D0 D1 hs hn ho hr hsz hcap hall e1 e4 e5 hpre hlen0 hz0 hg1 hg2
  go_enter Tryz.func143,Tryz.ntmps143
  go_wp2_with fail
  refine HI.out.mono ?_
  rintro e w1 ⟨vv,rfl,hb1,rfl⟩
  have K1:Hid (Dz base w w1 g l (i0+1)):=HD1.out.grow hb1
  clear hb1 HI HD1
  go_wp2_with fail
  go_loopg [5,6] (l.length-(i0+1)) (fun m s5 s6 W=>∃ j:Nat,i0<j∧j+m=l.length∧s6=.int .i64 j∧s5=.int .i64 ((LF (l.take j)).length:Int)∧Hid (Dz base w W g l j))
  case atStart=>exact ⟨i0+1,by omega,by omega,rfl,by rw[e6],K1⟩
  case round =>
   clear K1
   obtain ⟨j,hij,hjk,rfl,rfl,KM⟩:=hrel
   by_cases hj:j<l.length
   ·have hj':(j:Int)<(l.length:Int):=by omega
    obtain ⟨n,hne⟩:∃ n,Hid ((l[j]'hj).1=n):=⟨(l[j]'hj).1,(rfl:(l[j]'hj).1=(l[j]'hj).1)⟩
    obtain ⟨p,hpe⟩:∃ p,Hid ((l[j]'hj).2=p):=⟨(l[j]'hj).2,(rfl:(l[j]'hj).2=(l[j]'hj).2)⟩
    obtain ⟨i,hie⟩:∃ i,Hid ((LF (l.take j)).length=i):=⟨_,rfl⟩
    have hilt:i<l.length:=by have:=HZ.out j hij (by omega);rw[hie.out] at this;omega
    rw[hie.out]
    have hps:Hid (p.size=33):=by rw[← hpe.out];exact HF.out.2.2.2.2 j hj
    have hnt:Hid (n<top):=by rw[← hne.out];exact HF.out.2.2.2.1 _ (List.getElem_mem hj)
    have B0:Hid (wr.rangeAt g (37*j) (wn n++bl33 p)):=by
     have h:=KM.out.hi j hj (Nat.le_refl _)
     unfold Rw at h
     rw[hne.out,hpe.out] at h
     exact h
    obtain ⟨W1,hW1⟩:∃ W1,Hid (wr.alloc (.cells zT.toArray 150)=W1):=⟨_,rfl⟩
    obtain ⟨W2,hW2⟩:∃ W2,Hid (W1.setCells wr.heap.size 0 (wn n++bl33 p)=W2):=⟨_,rfl⟩
    have hlen:(wn n++bl33 p).length=37:=row_len hps.out
    have F1:Hid (Row W1 wr.heap.size zT∧Below wr.heap.size wr W1∧W1.heap.size=wr.heap.size+1):=by rw[← hW1.out];exact ⟨row_new wr _ _,below1 wr _,World.size_alloc _ _⟩
    have F2:Hid (Row W2 wr.heap.size (wn n++bl33 p)∧Below wr.heap.size wr W2):=by rw[← hW2.out];exact ⟨F1.out.1.put (by rw[hlen];rfl),RG.below_setCells (Nat.le_refl _) _ _ _ F1.out.2.1⟩
    have HLT:Hid ((Tryz.prog.info? 150).map (·.size)=some (wn n++bl33 p).length):=by show _=_;rw[hlen];exact iT
    have HLS:Hid ((Tryz.prog.info? 150).map (·.size)=some (wn n++bl33 p).toArray.size∧W1.there wr.heap.size 0 (wn n++bl33 p).toArray.size):=by
     have e:(wn n++bl33 p).toArray.size=37:=by rw[List.size_toArray];exact hlen
     rw[e];exact ⟨iT,F1.out.1.2.2⟩
    have HAL:Hid ((wn n++bl33 p).toArray.all (·.oneCell')=true):=by
     show _=_
     rw[Array.all_eq_true']
     intro u hu
     exact cells_one n p u (List.mem_toArray.1 hu)
    have hix:=atT g 0 l.length c j hj
    obtain ⟨vt,hvt⟩:∃ v,Hid (tvl n p=v):=⟨_,rfl⟩
    have hvt':Hid (Value.agg (wn n++bl33 p).toArray=vt):=hvt
    have K2:Hid (Dz base w W2 g l j):=KM.out.grow F2.out.2
    have HN:=Hid.mk' (none_c hnt.out hps.out W2)
    rw[hvt.out] at HN
    clear KM
    go_wp2_with (first|(refine wpList_load_mid rfl 150 _ rfl g (37*j) ?_ (wn n++bl33 p) d' ?_ ?_ ?_ ?_ ?_;rfl;exact B0.out;exact HD.out.1;exact HD.out.2;exact HLT.out;rw[hvt'.out])|(refine wpList_op (v:=.pointer (some ⟨wr.heap.size,0,none⟩)) (w':=W1) rfl (.alloc 150) rfl ?_ ?_;(rw[← hW1.out];kernel_rfl))|(refine wpList_store_mid rfl 150 _ _ rfl wr.heap.size 0 (wn n++bl33 p).toArray ?_ ?_ ?_ ?_ ?_ ?_;rfl;exact hvt'.out.symm;exact HLS.out.2;exact HLS.out.1;exact HAL.out;rw[show (wn n++bl33 p).toArray.toList=wn n++bl33 p from rfl,hW2.out])|(refine wpList_load_mid rfl 150 _ rfl wr.heap.size 0 ?_ (wn n++bl33 p) d' ?_ ?_ ?_ ?_ ?_;rfl;exact F2.out.1.2.1;exact HD.out.1;exact HD.out.2;exact HLT.out;rw[hvt'.out])|fail)
    refine HN.out.mono ?_
    rintro e W3 ⟨vv,rfl,hb3,rfl⟩
    have K3:Hid (Dz base w W3 g l j∧Row W3 wr.heap.size (wn n++bl33 p)):=⟨K2.out.grow hb3,F2.out.1.below hb3⟩
    clear hb3 K2 HN F2 F1
    by_cases h0:n=0
    ·rw[show decide (n=0)=true by simp[h0]]
     have K4:Hid (Dz base w W3 g l (j+1)):=K3.out.1.skip hj (by rw[hne.out];exact h0)
     have e4:Hid ((LF (l.take (j+1))).length=i):=by
      show _=_
      rw[LF_snoc hj,if_pos (by rw[hne.out];exact h0),List.append_nil]
      exact hie.out
     go_wp2
     go_roundg (gk-1)
     case measure=>omega
     case rel=>exact ⟨j+1,by omega,by omega,rfl,by rw[e4.out],K4⟩
    ·rw[show decide (n=0)=false by simp[h0]]
     obtain ⟨W4,hW4⟩:∃ W4,Hid (W3.setCells g (37*i) (wn n++bl33 p)=W4):=⟨_,rfl⟩
     have K4:Hid (Dz base w W4 g l (j+1)):=by
      have h:=K3.out.1.put HF.out.1 HF.out.2.2.1 hj (by rw[hne.out];exact h0)
      rw[hie.out,hne.out,hpe.out,hW4.out] at h
      exact h
     have e4:Hid ((LF (l.take (j+1))).length=i+1):=by
      show _=_
      rw[LF_snoc hj,if_neg (by rw[hne.out];exact h0),List.length_append,hie.out]
      rfl
     have HTH:Hid (W3.there g (37*i) (wn n++bl33 p).toArray.size):=by
      have e:(wn n++bl33 p).toArray.size=37:=by rw[List.size_toArray];exact hlen
      rw[e]
      intro t ht
      have:=K3.out.1.th (37*i+t) (by omega)
      rwa[Nat.zero_add] at this
     have hix2:=atT g 0 l.length c i hilt
     go_wp2_with (first|(refine wpList_load_mid rfl 150 _ rfl wr.heap.size 0 ?_ (wn n++bl33 p) d' ?_ ?_ ?_ ?_ ?_;rfl;exact K3.out.2.2.1;exact HD.out.1;exact HD.out.2;exact HLT.out;rw[hvt'.out])|(refine wpList_store_mid rfl 150 _ _ rfl g (37*i) (wn n++bl33 p).toArray ?_ ?_ ?_ ?_ ?_ ?_;rfl;exact hvt'.out.symm;exact HTH.out;exact HLS.out.1;exact HAL.out;rw[show (wn n++bl33 p).toArray.toList=wn n++bl33 p from rfl,hW4.out])|fail)
     go_roundg (gk-1)
     case measure=>omega
     case rel=>exact ⟨j+1,by omega,by omega,rfl,by rw[e4.out];rfl,K4⟩
   ·have hj':¬ (j:Int)<(l.length:Int):=by omega
    obtain rfl:j=l.length:=by omega
    have eL:LF (l.take l.length)=LF l:=by rw[List.take_length]
    rw[eL]
    have hilt:(LF l).length<l.length:=by have:=HZ.out l.length hij (Nat.le_refl _);rw[eL] at this;exact this
    have hlo:∀ a (ha:a<(LF l).length),Rw wr g a ((LF l)[a]):=fun a ha=>by
     have:=KM.out.lo a (by rw[eL];exact ha)
     simp only[eL] at this
     exact this
    have hszL:∀ x∈LF l,(wn x.1++bl33 x.2).length=37:=fun x hx=>row_len (HF.out.2.2.1 _ (List.mem_map.2 ⟨x,LF_mem hx,rfl⟩))
    obtain ⟨Z,hZ⟩:=clear_n g (LF l).length (l.length-(LF l).length) (c-(LF l).length) wr (by omega) (by rw[show (LF l).length+(l.length-(LF l).length)=l.length by omega];exact KM.out.th)
    obtain ⟨W5,hW5⟩:∃ W5,Hid (wr.setCells g (37*(LF l).length) Z=W5):=⟨_,rfl⟩
    rw[hW5.out] at hZ
    have K5:Hid (Below base w W5∧TmL W5 (some ⟨g,0,none⟩) (LF l)):=by
     rw[← hW5.out]
     refine ⟨RG.below_setCells HF.out.1 _ _ _ KM.out.bl,fun _=>⟨g,rfl,by rw[RG.setCells_size];exact KM.out.lt,fun a ha=>?_⟩⟩
     exact World.rangeAt_setCells_apart (hlo a ha) g _ _ (Or.inr (Or.inl (by rw[hszL _ (List.getElem_mem ha)];omega)))
    have hs1:=slLo g l.length c (LF l).length hilt HF.out.2.1
    have hs2:=slHi g l.length c (LF l).length (by omega) HF.out.2.1
    clear KM hlo hszL eL hW5
    obtain ⟨i,hie⟩:∃ i,Hid ((LF l).length=i):=⟨_,rfl⟩
    rw[hie.out] at hs1 hs2 hZ hilt ⊢
    go_wp2
    go_ret
    exact ⟨_,rfl,K5.out.1,some ⟨g,0,none⟩,c,by rw[hie.out];rfl,K5.out.2⟩
end
namespace EC
variable {P:Nat} [NeZero P]
def pts (P:Nat) [NeZero P]:List (Pt P):=
 none :: (List.finRange P).flatMap fun x=>((List.finRange P).filter fun y=>decide (y^2=x^3+7)).map fun y=>some (x,y)
theorem mem_pts (a:Pt P):a∈pts P↔On a:=by
 unfold pts
 rcases a with _|⟨x,y⟩
 ·exact ⟨fun _=>trivial,fun _=>List.mem_cons_self⟩
 ·rw[List.mem_cons,List.mem_flatMap]
  constructor
  ·rintro (h|⟨u,-,h⟩)
   ·cases h
   ·obtain ⟨v,hv,e⟩:=List.mem_map.1 h
    cases e
    have h2:=(List.mem_filter.1 hv).2
    exact (decide_eq_true_iff (p:=y^2=x^3+7)).1 h2
  ·intro h
   have h:y^2=x^3+7:=h
   exact Or.inr ⟨x,List.mem_finRange x,List.mem_map.2 ⟨y,List.mem_filter.2 ⟨List.mem_finRange y,decide_eq_true h⟩,rfl⟩⟩
theorem nodup_pts:(pts P).Nodup:=by
 unfold pts
 refine List.nodup_cons.2 ⟨fun h=>?_,?_⟩
 ·obtain ⟨u,-,h⟩:=List.mem_flatMap.1 h
  obtain ⟨v,-,e⟩:=List.mem_map.1 h
  cases e
 ·refine List.pairwise_flatMap.2 ⟨fun x _=>List.pairwise_map.2 ?_,?_⟩
  ·refine List.Pairwise.imp ?_ ((List.nodup_finRange P).sublist List.filter_sublist)
   intro a b h e
   exact h (by cases e;rfl)
  ·refine List.Pairwise.imp ?_ (List.nodup_finRange P)
   intro a b h u hu v hv e
   obtain ⟨c,-,rfl⟩:=List.mem_map.1 hu
   obtain ⟨d,-,rfl⟩:=List.mem_map.1 hv
   exact h (by cases e;rfl)
theorem sq_diff {u v c:Fin P} (hu:u^2=c) (hv:v^2=c):(u-v)*(u+v)=0:=by grobner
theorem opp_one {a b d:Fin P} (e1:a+b=0) (e2:a+d=0):b=d:=by grobner
theorem two_roots (C:Cur P) {c:Fin P}:∀ l:List (Fin P),l.Nodup→(∀ y,y∈l→y^2=c)→l.length≤2
 | [],_,_=>Nat.zero_le _
 | [_],_,_=>Nat.le_succ _
 | [_,_],_,_=>Nat.le_refl _
 | a :: b :: d :: l,hn,h=>by
  exfalso
  have ha:a^2=c:=h a (by simp)
  have hb:b^2=c:=h b (by simp)
  have hd:d^2=c:=h d (by simp)
  have n1:a≠b:=fun e=>(List.nodup_cons.1 hn).1 (by rw[e];simp)
  have n2:a≠d:=fun e=>(List.nodup_cons.1 hn).1 (by rw[e];simp)
  have n3:b≠d:=fun e=>(List.nodup_cons.1 (List.nodup_cons.1 hn).2).1 (by rw[e];simp)
  have f:∀ u v:Fin P,u^2=c→v^2=c→u≠v→u+v=0:=fun u v hu hv hn=>by
   exact Classical.byContradiction fun hs=>mul_ne C.pr (sub_ne hn) hs (sq_diff hu hv)
  have e1:=f a b ha hb n1
  have e2:=f a d ha hd n2
  exact n3 (opp_one e1 e2)
theorem flat_len {α β:Type} (f:α→List β) (k:Nat) (h:∀ a,(f a).length≤k):∀ l:List α,(l.flatMap f).length≤k*l.length
 | []=>Nat.zero_le _
 | a :: l=>by
  rw[List.flatMap_cons,List.length_append,List.length_cons,Nat.mul_succ,Nat.add_comm]
  exact Nat.add_le_add (flat_len f k h l) (h a)
theorem len_pts (C:Cur P):(pts P).length≤2*P+1:=by
 unfold pts
 rw[List.length_cons]
 refine Nat.succ_le_succ (Nat.le_trans (flat_len _ 2 (fun x=>?_) _) (by rw[List.length_finRange];exact Nat.le_refl _))
 rw[List.length_map]
 exact two_roots C (c:=x^3+7) _ ((List.nodup_finRange P).sublist List.filter_sublist) fun y hy=>of_decide_eq_true (List.mem_filter.1 hy).2
theorem pts_pos:0<(pts P).length:=Nat.succ_pos _
def lsum:List (Pt P)→Pt P
 | []=>none
 | a :: l=>add a (lsum l)
theorem lsum_on (C:Cur P):∀ l:List (Pt P),(∀ a,a∈l→On a)→On (lsum l)
 | [],_=>none_on
 | a :: l,h=>C.on (h a List.mem_cons_self) (lsum_on C l fun b hb=>h b (List.mem_cons_of_mem _ hb))
theorem lsum_perm (C:Cur P) {l m:List (Pt P)} (p:l.Perm m):(∀ a,a∈l→On a)→lsum l=lsum m:=by
 induction p with
 | nil=>intro _;rfl
 | cons x _ ih =>
  intro h
  show add x _=add x _
  rw[ih fun b hb=>h b (List.mem_cons_of_mem _ hb)]
 | swap x y l =>
  intro h
  have hy:=h y List.mem_cons_self
  have hx:=h x (List.mem_cons_of_mem _ List.mem_cons_self)
  have hl:=lsum_on C l fun b hb=>h b (List.mem_cons_of_mem _ (List.mem_cons_of_mem _ hb))
  show add y (add x (lsum l))=add x (add y (lsum l))
  rw[← C.assoc hy hx hl,C.comm hy hx,C.assoc hx hy hl]
 | trans p _ ih1 ih2 =>
  intro h
  rw[ih1 h,ih2 fun a ha=>h a (p.mem_iff.2 ha)]
theorem lsum_shift (C:Cur P) {r:Pt P} (hr:On r):∀ l:List (Pt P),(∀ a,a∈l→On a)→lsum (l.map fun a=>add a r)=add (lsum l) (mul l.length r)
 | [],_=>rfl
 | a :: l,h=>by
  have ha:=h a List.mem_cons_self
  have hl:∀ b,b∈l→On b:=fun b hb=>h b (List.mem_cons_of_mem _ hb)
  show add (add a r) (lsum (l.map _))=add (add a (lsum l)) (add (mul l.length r) r)
  rw[lsum_shift C hr l hl,C.comm (mul_on C hr _) hr,C.swap ha hr (lsum_on C l hl) (mul_on C hr _)]
theorem add_cancel (C:Cur P) {a b r:Pt P} (ha:On a) (hb:On b) (hr:On r) (e:add a r=add b r):a=b:=by
 have:add (add a r) (neg r)=add (add b r) (neg r):=by rw[e]
 rwa[C.assoc ha hr (neg_on hr),C.assoc hb hr (neg_on hr),add_neg,add_none,add_none] at this
theorem shift_perm (C:Cur P) {r:Pt P} (hr:On r):((pts P).map fun a=>add a r).Perm (pts P):=by
 refine (List.perm_ext_iff_of_nodup ?_ nodup_pts).2 fun a=>?_
 ·refine List.pairwise_map.2 (List.Pairwise.imp_of_mem ?_ (nodup_pts (P:=P)))
  intro a b ha hb h e
  exact h (add_cancel C ((mem_pts a).1 ha) ((mem_pts b).1 hb) hr e)
 ·rw[mem_pts,List.mem_map]
  constructor
  ·rintro ⟨b,hb,rfl⟩
   exact C.on ((mem_pts b).1 hb) hr
  ·intro ha
   refine ⟨add a (neg r),(mem_pts _).2 (C.on ha (neg_on hr)),?_⟩
   rw[C.assoc ha (neg_on hr) hr,C.neg_l hr,add_none]
theorem mul_pts (C:Cur P) {r:Pt P} (hr:On r):mul (pts P).length r=none:=by
 have h0:∀ a,a∈pts P→On a:=fun a ha=>(mem_pts a).1 ha
 have h1:=lsum_shift C hr (pts P) h0
 rw[lsum_perm C (shift_perm C hr) fun a ha=>(mem_pts a).1 ((shift_perm C hr).mem_iff.1 ha)] at h1
 have hs:=lsum_on C (pts P) h0
 have hm:=mul_on C hr (pts P).length
 have h2:add (mul (pts P).length r) (lsum (pts P))=add none (lsum (pts P)):=by
  rw[C.comm hm hs,← h1,none_add]
 exact add_cancel C hm none_on hs h2
theorem mul_mul (C:Cur P) {a:Pt P} (ha:On a) (m:Nat):∀ n,mul (m*n) a=mul n (mul m a)
 | 0=>rfl
 | n+1=>by
  rw[Nat.mul_succ,mul_add C ha,mul_mul C ha m n]
  rfl
theorem mul_none:∀ n,mul n (none:Pt P)=none
 | 0=>rfl
 | n+1=>by
  show add (mul n none) none=none
  rw[mul_none n]
  rfl
theorem twice_none (C:Cur P) {a:Pt P} (ha:On a) (e:add a a=none):a=none:=by
 rcases a with _|⟨x,y⟩
 ·rfl
 ·exfalso
  have ho:=C.opp_ne ha
  rw[add_line C.pr C.two ha ha ho (slope_line C.pr C.two ha ha ho)] at e
  cases e
theorem order_of (C:Cur P) {n:Nat} (hn:NT.IsP n) (h3:2*P+1<3*n) {g:Pt P} (hg:On g) (h0:g≠none) (hz:mul n g=none) {r:Pt P} (hr:On r):mul n r=none:=by
 have hd:n ∣ (pts P).length:=Classical.byContradiction fun hd=>by
  have h1:=hn.fermat1 _ hd
  have h2:mul ((pts P).length^(n-1)) g=none:=by
   have:n-1=(n-2)+1:=by have:=hn.1;omega
   rw[this,Nat.pow_succ,Nat.mul_comm,mul_mul C hg,mul_pts C hg,mul_none]
  have h4:=Nat.div_add_mod ((pts P).length^(n-1)) n
  rw[h1] at h4
  rw[← h4,mul_add C hg,mul_mul C hg,hz,mul_none,none_add] at h2
  exact h0 h2
 obtain ⟨c,hc⟩:=hd
 have hl:=len_pts C
 have hp:=pts_pos (P:=P)
 have hm:=mul_pts C hr
 rw[hc] at hl hp hm
 have hc3:c<3:=Nat.lt_of_mul_lt_mul_left (a:=n) (by omega)
 match c,hc3 with
 | 0,_=>omega
 | 1,_=>rwa[Nat.mul_one] at hm
 | 2,_ =>
  rw[mul_mul C hr] at hm
  exact twice_none C (mul_on C hr n) hm
end EC
section
open Go.RowKit Go.Sort Go.Deep
variable {P:Nat} [NeZero P] {N:Nat}
def unwr (P:Nat) [NeZero P] (b:Bs):EC.Pt P:=match rd P b with|some p=>pt p|none=>none
theorem unwr_wr (C:Fld P) {X:EC.Pt P} (h:EC.On X):unwr P (wr X)=X:=by
 obtain ⟨p,h1,h2⟩:=rd_wr C h
 unfold unwr
 rw[h1]
 exact h2
def sumL (P:Nat) [NeZero P]:List (Nat × Bs)→EC.Pt P
 | []=>none
 | x :: r=>EC.add (EC.mul x.1 (unwr P x.2)) (sumL P r)
def PtsL (P:Nat) [NeZero P] (l:List (Nat × Bs)):Prop:=∀ x∈l,∃ X:EC.Pt P,EC.On X∧x.2=wr X
theorem PtsL.on (C:Fld P) {l:List (Nat × Bs)} (h:PtsL P l) {x:Nat × Bs} (hx:x∈l):EC.On (unwr P x.2):=by
 obtain ⟨X,h1,h2⟩:=h x hx
 rw[h2,unwr_wr C h1];exact h1
theorem sumL_on (C:Fld P):∀ {l:List (Nat × Bs)},PtsL P l→EC.On (sumL P l)
 | [],_=>EC.none_on
 | x :: r,h=>C.cur.on (EC.mul_on C.cur (h.on C List.mem_cons_self) _) (sumL_on C fun y hy=>h y (List.mem_cons_of_mem _ hy))
theorem sumL_snoc (C:Fld P) (y:Nat × Bs) (hy:EC.On (unwr P y.2)):∀ {l:List (Nat × Bs)},PtsL P l→sumL P (l++[y])=EC.add (sumL P l) (EC.mul y.1 (unwr P y.2))
 | [],_=>EC.add_none _
 | x :: r,h=>by
  have hr:PtsL P r:=fun z hz=>h z (List.mem_cons_of_mem _ hz)
  show EC.add (EC.mul x.1 (unwr P x.2)) (sumL P (r++[y]))=_
  rw[sumL_snoc C y hy hr]
  exact (C.cur.assoc (EC.mul_on C.cur (h.on C List.mem_cons_self) _) (sumL_on C hr) (EC.mul_on C.cur hy _)).symm
theorem sumL_LF:∀ l:List (Nat × Bs),sumL P (LF l)=sumL P l
 | []=>rfl
 | x :: r=>by
  unfold LF
  rw[List.filter_cons]
  by_cases h:x.1=0
  ·rw[if_neg (by simp[h])]
   show sumL P (LF r)=EC.add (EC.mul x.1 (unwr P x.2)) (sumL P r)
   rw[h,sumL_LF r]
   rfl
  ·rw[if_pos (by simp[h])]
   show EC.add _ (sumL P (LF r))=EC.add _ (sumL P r)
   rw[sumL_LF r]
theorem mul_mod (C:Fld P) (hord:∀ r:EC.Pt P,EC.On r→EC.mul N r=none) {X:EC.Pt P} (hX:EC.On X) (n:Nat):EC.mul (n%N) X=EC.mul n X:=by
 have h:=EC.mul_add C.cur hX (N*(n/N)) (n%N)
 rw[Nat.div_add_mod,EC.mul_mul C.cur hX N (n/N),hord X hX,EC.mul_none,EC.none_add] at h
 exact h.symm
theorem sumL_addT (C:Fld P) (hord:∀ r:EC.Pt P,EC.On r→EC.mul N r=none) (n:Nat) (p:Bs) (hp:EC.On (unwr P p)):∀ {l:List (Nat × Bs)},PtsL P l→sumL P (addT N l n p)=EC.add (sumL P l) (EC.mul n (unwr P p))
 | [],_=>EC.add_none _
 | (s,q) :: r,h=>by
  have hr:PtsL P r:=fun z hz=>h z (List.mem_cons_of_mem _ hz)
  have hq:=h.on C (x:=(s,q)) List.mem_cons_self
  have h1:=EC.mul_on C.cur hq s
  have h2:=sumL_on C hr
  have h3:=EC.mul_on C.cur hp n
  unfold addT
  by_cases e:p=q
  ·rw[if_pos e]
   subst e
   show EC.add (EC.mul (sPl N s n) (unwr P p)) (sumL P r)=EC.add (EC.add (EC.mul s (unwr P p)) (sumL P r)) (EC.mul n (unwr P p))
   unfold sPl
   rw[mul_mod C hord hp,EC.mul_add C.cur hp,C.cur.assoc h1 h3 h2,C.cur.assoc h1 h2 h3,C.cur.comm h3 h2]
  ·rw[if_neg e]
   show EC.add (EC.mul s (unwr P q)) (sumL P (addT N r n p))=EC.add (EC.add (EC.mul s (unwr P q)) (sumL P r)) (EC.mul n (unwr P p))
   rw[sumL_addT C hord n p hp hr,C.cur.assoc h1 h2 h3]
theorem addT_pt {n:Nat} {p:Bs} (hp:∃ X:EC.Pt P,EC.On X∧p=wr X):∀ {l:List (Nat × Bs)},PtsL P l→PtsL P (addT N l n p)
 | [],_=>fun x hx=>by
  have:x=(n,p):=by simpa[addT] using hx
  rw[this];exact hp
 | (s,q) :: r,h=>by
  have hr:PtsL P r:=fun z hz=>h z (List.mem_cons_of_mem _ hz)
  unfold addT
  split
  ·intro x hx
   rcases List.mem_cons.1 hx with rfl|hx
   ·exact h (s,q) List.mem_cons_self
   ·exact hr x hx
  ·intro x hx
   rcases List.mem_cons.1 hx with rfl|hx
   ·exact h (s,q) List.mem_cons_self
   ·exact addT_pt hp hr x hx
theorem mrg_pts (ns:Nat→Nat) (X:Nat→EC.Pt P) {k:Nat} (hX:∀ j,j<k→EC.On (X j)):∀ i,i≤k→PtsL P (mrg N ns (fun j=>wr (X j)) i)
 | 0,_=>fun x hx=>by cases hx
 | i+1,hi=>addT_pt ⟨X i,hX i (by omega),rfl⟩ (mrg_pts ns X hX i (by omega))
theorem mrg_sum (C:Fld P) (hord:∀ r:EC.Pt P,EC.On r→EC.mul N r=none) (ns:Nat→Nat) (X:Nat→EC.Pt P) {k:Nat} (hX:∀ j,j<k→EC.On (X j)):∀ i,i≤k→sumL P (mrg N ns (fun j=>wr (X j)) i)=EC.tot X i (fun j=>(ns j:Int))
 | 0,_=>rfl
 | i+1,hi=>by
  have hi':=hX i (by omega)
  show sumL P (addT N (mrg N ns (fun j=>wr (X j)) i) (ns i) (wr (X i)))=EC.add (EC.tot X i (fun j=>(ns j:Int))) (EC.mul (ns i) (X i))
  rw[sumL_addT C hord _ _ (by rw[unwr_wr C hi'];exact hi') (mrg_pts ns X hX i (by omega)),mrg_sum C hord ns X hX i (by omega),unwr_wr C hi']
theorem tot_sumL (C:Fld P) (l:List (Nat × Bs)) (h:PtsL P l):∀ i,i≤l.length→EC.tot (fun j=>unwr P ((l[j]?).getD (0,#[])).2) i (fun j=>(((l[j]?).getD (0,#[])).1:Int))=sumL P (l.take i)
 | 0,_=>by rw[List.take_zero];rfl
 | i+1,hi=>by
  have hlt:i<l.length:=by omega
  show EC.add (EC.tot _ i _) (EC.mul ((l[i]?).getD (0,#[])).1 (unwr P ((l[i]?).getD (0,#[])).2))=_
  rw[tot_sumL C l h i (by omega),List.take_add_one,List.getElem?_eq_getElem hlt]
  exact (sumL_snoc C (l[i]) (h.on C (List.getElem_mem hlt)) fun x hx=>h x (List.mem_of_mem_take hx)).symm
theorem sumPoint_c (C:Fld P) (O:Ord N) (hord:∀ r:EC.Pt P,EC.On r→EC.mul N r=none) (g k c:Nat) (hk0:0<k) (hk:k≤512) (ns:Nat→Nat) (X:Nat→EC.Pt P) (hn:∀ j,j<k→ns j<N) (hX:∀ j,j<k→EC.On (X j)) (w:World) (hg:g<w.heap.size) (hr:∀ j,j<k→w.rangeAt g (37*j) (wn (ns j)++bl33 (wr (X j)))) :
 Calls Tryz.prog 39 #[.slice (some ⟨g,0,none⟩) k c] w (Ret fun e w'=>Below w.heap.size w w'∧e=pvl (wr (EC.tot X k (fun j=>(ns j:Int))))):=by
 have hM:=mrg_pts (N:=N) ns X hX k (Nat.le_refl _)
 have hlt:=mrg_lt O ns (fun j=>wr (X j)) hn k (Nat.le_refl _)
 have hsz:=mrg_size (N:=N) ns (fun j=>wr (X j)) (k:=k) (fun j _=>wr_size _) k (Nat.le_refl _)
 have hle:=mrg_len (N:=N) ns (fun j=>wr (X j)) k
 have hsum:=mrg_sum C hord ns X hX k (Nat.le_refl _)
 have hpos:0<(mrg N ns (fun j=>wr (X j)) k).length:=by
  obtain ⟨k',rfl⟩:∃ k',k=k'+1:=⟨k-1,by omega⟩
  show 0<(addT N _ _ _).length
  cases mrg N ns (fun j=>wr (X j)) k' with
  | nil=>exact Nat.lt_succ_self 0
  | cons x r=>unfold addT;split<;>simp
 have hmer:=fun W (hb:Below w.heap.size w W)=>merged_a O (fun e w'=>Below W.heap.size W w'∧∃ q cap,e=.slice q (LF (mrg N ns (fun j=>wr (X j)) k)).length cap∧TmL w' q (LF (mrg N ns (fun j=>wr (X j)) k))) g k c (by omega) ns (fun j=>wr (X j)) (fun j _=>wr_size _) hn W (Nat.lt_of_lt_of_le hg hb.size) (fun j hj=>RG.range_below (hr j hj) hb hg) (fun W' v hMx=>by
  refine (delete_c _ hpos (by omega) hsz (fun x hx=>Nat.lt_of_lt_of_le (hlt x hx) O.le) W.heap.size v W' hMx.bl.size hMx.ow).mono ?_
  rintro e w' ⟨u,rfl,hb',hT⟩
  exact ⟨_,rfl,hMx.bl.trans hb',hT⟩)
 generalize mrg N ns (fun j=>wr (X j)) k=L at hM hlt hsz hle hsum hpos hmer
 have hF:PtsL P (LF L):=fun x hx=>hM x (LF_mem hx)
 have hFl:(LF L).length≤L.length:=List.length_filter_le _ _
 refine (sumPoint_g C O _ w (LF L).length (by omega) (fun j=>(((LF L)[j]?).getD (0,#[])).1) (fun j=>unwr P (((LF L)[j]?).getD (0,#[])).2) (fun j hj=>by rw[List.getElem?_eq_getElem hj];exact hlt _ (LF_mem (List.getElem_mem hj))) (fun j hj=>by rw[List.getElem?_eq_getElem hj];exact hF.on C (List.getElem_mem hj)) fun W hb=>?_).mono ?_
 ·refine (hmer W hb).mono ?_
  rintro e w' ⟨u,rfl,hb',q,cap,rfl,hT⟩
  refine ⟨_,rfl,hb',q,cap,rfl,fun h0=>?_⟩
  obtain ⟨g',e1,e2,e3⟩:=hT h0
  refine ⟨g',e1,e2,fun j hj=>?_⟩
  have h5:=e3 j hj
  obtain ⟨Y,y1,y2⟩:=hF _ (List.getElem_mem hj)
  show w'.rangeAt g' (37*j) (wn (((LF L)[j]?).getD (0,#[])).1++bl33 (wr (unwr P (((LF L)[j]?).getD (0,#[])).2)))
  rw[List.getElem?_eq_getElem hj]
  show w'.rangeAt g' (37*j) (wn ((LF L)[j]).1++bl33 (wr (unwr P ((LF L)[j]).2)))
  rw[y2,unwr_wr C y1,← y2]
  exact h5
 ·rintro e w' ⟨u,rfl,hb',rfl⟩
  refine ⟨_,rfl,hb',?_⟩
  rw[tot_sumL C (LF L) hF _ (Nat.le_refl _),List.take_length,sumL_LF,hsum]
end
section
open Go.RowKit Go.Sort Go.Deep
variable {P:Nat} [NeZero P] {N:Nat}
theorem rq_bxO (O:Ord N) {n:Nat} (hn:n<N):rq N (bx n)=some n:=by
 have hv:beV (bx n).toList=n:=bx_val (Nat.lt_of_lt_of_le hn O.le)
 unfold rq
 rw[hv,if_pos ⟨bx_size n,hn⟩]
def Ez (W:World) (v:Value) (T:Bs):Prop:=∃ g c,v=.slice (some ⟨g,0,none⟩) 33 c∧33≤c∧g<W.heap.size∧Holds encB W g 0 T
theorem Ez.grow {W W':World} {v:Value} {T:Bs} (h:Ez W v T) (hb:Below W.heap.size W W'):Ez W' v T:=by
 obtain ⟨g,c,h1,h2,h3,h4⟩:=h
 exact ⟨g,c,h1,h2,Nat.lt_of_lt_of_le h3 hb.size,Holds.below h4 hb h3⟩
def Et (W:World) (v:Value) (T:Bs):Prop:=∃ u,v=.tuple #[u,.int .i64 0]∧Ez W u T
section
variable (w:World) (k2 k3 k4 a b:Nat) (T:Bs)
def RC1:Nat→Value→World→Prop
 | 0,v,_=>v=nv a
 | 1,v,W=>El 32 W v (bx a)
 | 2,v,_=>v=nv b
 | 3,v,W=>El 32 W v (bx b)
 | 4,v,W=>Et W v T
 | 5,v,W=>Et W v T
 | 6,v,W=>Ez W v T
 | 7,v,_=>v=.int .i64 0
 | 8,v,W=>Ez W v T
 | 9,v,_=>v=.int .i64 0
 | _,_,_=>True
def GC1:RG.Gw:=⟨RC1 a b T,fun W=>Kp w W [(k4,z33),(k3,wn b),(k2,wn a)],fun i v W W' hb h=>by
 match i,h with
 | 0,h=>exact h
 | 1,h=>exact El.below h hb (Nat.le_refl _)
 | 2,h=>exact h
 | 3,h=>exact El.below h hb (Nat.le_refl _)
 | 4,h=>obtain ⟨u,h1,h2⟩:=h;exact ⟨u,h1,h2.grow hb⟩
 | 5,h=>obtain ⟨u,h1,h2⟩:=h;exact ⟨u,h1,h2.grow hb⟩
 | 6,h=>exact Ez.grow h hb
 | 7,h=>exact h
 | 8,h=>exact Ez.grow h hb
 | 9,h=>exact h
 | _+10,_=>trivial,fun W W' hb h=>h.grow hb⟩
end
theorem cCommit_c (C:Fld P) (O:Ord N) {a b:Nat} (ha:a<N) (hb:b<N):Gives 20 #[nv a,nv b] (pvl (wr (cmt P a b))):=by
 intro w
 obtain ⟨T,hT⟩:∃ T,Hid (wr (cmt P a b)=T):=⟨_,rfl⟩
 have hTs:T.size=33:=by rw[← hT.out];exact wr_size _
 have HO:Hid (Ord N∧a<N∧b<N):=⟨O,ha,hb⟩
 have HC:Hid (∀ (v0 v1:Value) (W:World),El 32 W v0 (bx a)→El 32 W v1 (bx b)→Calls Tryz.prog 16 #[v0,v1] W (Ret fun e w'=>Below W.heap.size W w'∧Et w' e T)):=fun v0 v1 W h0 h1=>by
  refine (Commit_c (N:=N) C O.gap O.le v0 v1 (bx a) (bx b) W h0.arg h1.arg).mono ?_
  rintro e W' ⟨u,rfl,hbl,hR⟩
  unfold ComR at hR
  rw[rq_bxO O ha,rq_bxO O hb] at hR
  obtain ⟨g,c,rfl,q1,q2,q3,q4⟩:=hR
  rw[hT.out] at q4
  exact ⟨_,rfl,hbl,_,rfl,g,c,rfl,q1,q3,q4⟩
 rw[hT.out]
 clear C O hT ha hb
 obtain ⟨va,hva⟩:∃ v,Hid (nv a=v):=⟨_,rfl⟩
 obtain ⟨vb,hvb⟩:∃ v,Hid (nv b=v):=⟨_,rfl⟩
 have bA:=boxS a w
 obtain ⟨w1,hw1⟩:∃ w1,Hid (w.alloc (.cells (wn a).toArray 43)=w1):=⟨_,rfl⟩
 have bB:=boxS b w1
 obtain ⟨w2,hw2⟩:∃ w2,Hid (w1.alloc (.cells (wn b).toArray 43)=w2):=⟨_,rfl⟩
 obtain ⟨w3,hw3⟩:∃ w3,Hid (w2.alloc (.cells z33.toArray 47)=w3):=⟨_,rfl⟩
 rw[hva.out,hw1.out] at bA
 rw[hvb.out,hw2.out] at bB
 rw[hva.out,hvb.out]
 have e1:w1.heap.size=w.heap.size+1:=by rw[← hw1.out,World.size_alloc]
 have e2:w2.heap.size=w.heap.size+2:=by rw[← hw2.out,World.size_alloc,e1]
 rw[e1] at bB
 have K3:Hid (Kp w w3 [(w.heap.size+2,z33),(w.heap.size+1,wn b),(w.heap.size,wn a)]):=by
  have q1:Row w1 w.heap.size (wn a):=by rw[← hw1.out];exact row_new w _ _
  have q2:Row w2 (w.heap.size+1) (wn b):=by rw[← hw2.out,← e1];exact row_new w1 _ _
  have q3:Row w3 (w.heap.size+2) z33:=by rw[← hw3.out,← e2];exact row_new w2 _ _
  have b1:Below w.heap.size w w1:=by rw[← hw1.out];exact below1 w _
  have b2:Below w1.heap.size w1 w2:=by rw[← hw2.out];exact below1 w1 _
  have b3:Below w2.heap.size w2 w3:=by rw[← hw3.out];exact below1 w2 _
  refine ⟨(b1.trans (b2.mono (by omega))).trans (b3.mono (by omega)),fun x hx=>?_⟩
  simp only[List.mem_cons,List.not_mem_nil,or_false] at hx
  rcases hx with rfl|rfl|rfl
  ·exact q3
  ·exact q2.below b3
  ·exact (q1.below b2).below b3
 have BA:=Hid.mk' bA
 have BB:=Hid.mk' bB
 have E2:=Hid.mk' e2
 clear bA bB e1 e2
 go_enter Tryz.func20,Tryz.ntmps20
 go_wp2_with (first|(refine wpList_box (u:=va) (v:=.pointer (some ⟨w.heap.size,0,none⟩)) (w':=w1) rfl 43 (.tmp 0) rfl ?_ ?_ ?_;rfl;exact BA.out)|(refine wpList_box (u:=vb) (v:=.pointer (some ⟨w.heap.size+1,0,none⟩)) (w':=w2) rfl 43 (.tmp 1) rfl ?_ ?_ ?_;rfl;exact BB.out)|(refine wpList_op (v:=.pointer (some ⟨w.heap.size+2,0,none⟩)) (w:=w2) (w':=w3) rfl (.alloc 47) rfl ?_ ?_;(rw[← hw3.out,← E2.out];kernel_rfl))|fail)
 clear BA BB hw1 hw2 hw3 E2
 refine (GC1 w w.heap.size (w.heap.size+1) (w.heap.size+2) a b T).draws (by kernel_rfl) (by kernel_rfl) ⟨
  RG.gw_load 43 2 rfl u40 fun x W hp=>⟨w.heap.size,0,wn a,hp.o 2 (by kernel_rfl),(hp.b.at 2 rfl).2.1,i40,rfl⟩,
  RG.gw_call fun x W hp=>⟨[(8,nv a)],24,#[nv a],⟨hp.n 0 8 (by kernel_rfl) (by kernel_rfl),trivial⟩,by kernel_rfl,by
   refine (sbytes_c HO.out.1 HO.out.2.1 W).mono ?_
   rintro e W' ⟨u,rfl,k',hm,rfl⟩
   exact ⟨_,rfl,hm.bel,El.of_made hm (bx_size a)⟩⟩,
  RG.gw_load 43 3 rfl u40 fun x W hp=>⟨w.heap.size+1,0,wn b,hp.o 3 (by kernel_rfl),(hp.b.at 1 rfl).2.1,i40,rfl⟩,
  RG.gw_call fun x W hp=>⟨[(10,nv b)],24,#[nv b],⟨hp.n 2 10 (by kernel_rfl) (by kernel_rfl),trivial⟩,by kernel_rfl,by
   refine (sbytes_c HO.out.1 HO.out.2.2 W).mono ?_
   rintro e W' ⟨u,rfl,k',hm,rfl⟩
   exact ⟨_,rfl,hm.bel,El.of_made hm (bx_size b)⟩⟩,
  RG.gw_call fun x W hp=>⟨[(9,x.eval (.tmp 9)),(11,x.eval (.tmp 11))],16,#[x.eval (.tmp 9),x.eval (.tmp 11)],⟨rfl,rfl,trivial⟩,by kernel_rfl,HC.out _ _ W (hp.n 1 9 (by kernel_rfl) (by kernel_rfl)) (hp.n 3 11 (by kernel_rfl) (by kernel_rfl))⟩,
  RG.gw_val fun x W hp=>⟨[(12,x.eval (.tmp 12))],x.eval (.tmp 12),W,⟨rfl,trivial⟩,by kernel_rfl,Below.refl _ _,hp.n 4 12 (by kernel_rfl) (by kernel_rfl)⟩,
  RG.gw_val fun x W hp=>by
   obtain ⟨u,he,hu⟩:=show Et W (x.eval (.tmp 7)) T from hp.n 5 7 (by kernel_rfl) (by kernel_rfl)
   exact ⟨[(7,.tuple #[u,.int .i64 0])],u,W,⟨he,trivial⟩,by kernel_rfl,Below.refl _ _,hu⟩,
  RG.gw_val fun x W hp=>by
   obtain ⟨u,he,hu⟩:=show Et W (x.eval (.tmp 7)) T from hp.n 5 7 (by kernel_rfl) (by kernel_rfl)
   exact ⟨[(7,.tuple #[u,.int .i64 0])],.int .i64 0,W,⟨he,trivial⟩,by kernel_rfl,Below.refl _ _,rfl⟩,
  RG.gw_val fun x W hp=>⟨[(13,x.eval (.tmp 13))],x.eval (.tmp 13),W,⟨rfl,trivial⟩,by kernel_rfl,Below.refl _ _,hp.n 6 13 (by kernel_rfl) (by kernel_rfl)⟩,
  RG.gw_val fun x W hp=>⟨[(14,.int .i64 0)],.int .i64 0,W,⟨hp.n 7 14 (by kernel_rfl) (by kernel_rfl),trivial⟩,by kernel_rfl,Below.refl _ _,rfl⟩,trivial⟩ K3.out.drew ?_
 intro V wc hRc hBc
 obtain ⟨g,cg,hV8,-,k3,k4⟩:=show Ez wc (V 8) T from hRc 8 (Nat.lt_of_succ_le (Nat.le_of_ble_eq_true (by kernel_rfl)))
 have hB':Kp w wc [(w.heap.size+2,z33),(w.heap.size+1,wn b),(w.heap.size,wn a)]:=hBc
 have K2:Hid (Row wc (w.heap.size+2) z33∧Below w.heap.size w wc∧Row wc g (bl33 T)):=⟨hB'.at 0 rfl,hB'.bl,row_cp k4 k3⟩
 dsimp only[RG.putV,Nat.reduceAdd]
 simp only[Act.put,List.setIfInBounds_toArray,List.set_cons_succ,List.set_cons_zero]
 rw[hV8]
 clear hRc hBc hV8 hB' K3 k3 k4 HO HC
 have harr:=arrCP g cg
 obtain ⟨w3,hw3⟩:∃ w3,Hid (wc.setCells (w.heap.size+2) 0 (bl33 T)=w3):=⟨_,rfl⟩
 have hlen:(bl33 T).length=33:=bl33_length hTs
 have K3:Hid (Row w3 (w.heap.size+2) (bl33 T)∧Below w.heap.size w w3):=by rw[← hw3.out];exact ⟨K2.out.1.put (by rw[hlen];rfl),RG.below_setCells (by omega) _ _ _ K2.out.2.1⟩
 obtain ⟨vt,hvt⟩:∃ vt,Hid (Value.agg (bl33 T).toArray=vt):=⟨_,rfl⟩
 obtain ⟨d,hd1,hd2⟩:=Option.map_eq_some_iff.1 uCP
 have HD:Hid (Tryz.prog.underlying 47=some d∧d.isRow=true):=⟨hd1,hd2⟩
 have HI:Hid ((Tryz.prog.info? 47).map (·.size)=some (bl33 T).length∧wc.there (w.heap.size+2) 0 (bl33 T).toArray.size∧(Tryz.prog.info? 47).map (·.size)=some (bl33 T).toArray.size):=by
  have e:(bl33 T).toArray.size=33:=by rw[List.size_toArray];exact hlen
  refine ⟨by rw[hlen];exact infoCP,by rw[e];exact K2.out.1.2.2,by rw[e];exact infoCP⟩
 clear hlen hd1 hd2
 generalize V 0=s0
 generalize V 1=s1
 generalize V 2=s2
 generalize V 3=s3
 generalize V 4=s4
 generalize V 5=s5
 generalize V 6=s6
 generalize V 7=s7
 generalize V 9=s9
 go_wp2_with (first|(refine wpList_load_mid rfl 47 _ rfl g 0 ?_ (bl33 T) d ?_ ?_ ?_ ?_ ?_;rfl;exact K2.out.2.2.2.1;exact HD.out.1;exact HD.out.2;exact HI.out.1;rw[hvt.out])|(refine wpList_store_mid rfl 47 _ _ rfl (w.heap.size+2) 0 (bl33 T).toArray ?_ ?_ ?_ ?_ ?_ ?_;rfl;exact hvt.out.symm;exact HI.out.2.1;exact HI.out.2.2;exact bl33_one T;rw[show (bl33 T).toArray.toList=bl33 T from rfl,hw3.out])|fail)
 refine bodyPost_ret (results_cell 4 47 rfl K3.out.1 rfl uCP HI.out.1) rfl ?_
 exact ⟨_,rfl,K3.out.2,rfl⟩
end
section
open Go.RowKit Go.Sort Go.Deep
variable {P:Nat} [NeZero P] {N:Nat}
theorem u22:(Tryz.prog.underlying 22).map (·.isRow)=some false:=by kernel_rfl
theorem at62 (k o n c i:Nat) (hi:i<n) (w:World):(Instr.indexAt 82 (.slice (some ⟨k,o,none⟩) n c) (.int .i64 i)).run Tryz.prog w=.ok (.pointer (some ⟨k,o+i,none⟩)) w:=by
 have h1:¬ (i:Int)<0:=by omega
 have h2:(i:Int)<n:=by omega
 go_simp
theorem at33 (k o n c i:Nat) (hi:i<n) (w:World):(Instr.indexAt 36 (.slice (some ⟨k,o,none⟩) n c) (.int .i64 i)).run Tryz.prog w=.ok (.pointer (some ⟨k,o+4*i,none⟩)) w:=by
 have h1:¬ (i:Int)<0:=by omega
 have h2:(i:Int)<n:=by omega
 go_simp
theorem mkSL (N:Nat) (hN:N≤512):∃ C0:List Value,C0.length=4*N∧∀ w:World,(Instr.makeSlice 36 (.int .i64 N) (.int .i64 N)).run Tryz.prog w=.ok (.slice (some ⟨w.heap.size,0,none⟩) N N) (w.alloc (.cells C0.toArray 43)):=by
 have hu:Tryz.prog.underlying 36=some (.slice 43):=by kernel_rfl
 have hi:(Tryz.prog.info? 43).map (fun i=>(i.size,decide (i.bytes≤4000),i.zero.isSome))=some (4,true,true):=by kernel_rfl
 obtain ⟨i,hi1,hi2⟩:=Option.map_eq_some_iff.1 hi
 simp only[Prod.mk.injEq,decide_eq_true_eq] at hi2
 obtain ⟨h1,h2,h3⟩:=hi2
 obtain ⟨z,hz⟩:=Option.isSome_iff_exists.1 h3
 refine ⟨(madeCells z.cells (N*4)).toList,by rw[Array.length_toList,size_madeCells,Nat.mul_comm],fun w=>?_⟩
 have hb:(i.bytes:Int)*(N:Int)≤281474976710656:=by
  have:i.bytes*N≤4000*512:=Nat.mul_le_mul h2 hN
  have h5:((i.bytes*N:Nat):Int)≤281474976710656:=by omega
  rwa[Int.natCast_mul] at h5
 have:=run_make (P:=Tryz.prog) w 36 43 i z hu hi1 hz .i64 .i64 (N:Int) (N:Int) (by omega) (by omega) hb (by omega)
 rw[Int.toNat_natCast,h1] at this
 rw[Array.toArray_toList]
 exact this
def AllQ (N:Nat) (w:World) (n:Nat) (L:Nat→Bs) (e:Value) (w':World):Prop:=
 ((∃ j,j<n∧rq N (L j)=none)∧Below w.heap.size w w'∧e=.tuple #[.slice none 0 0,.bool false]) ∨
 ((∀ j,j<n→(rq N (L j)).isSome=true)∧∃ k C,RG.Made w k C w'∧Rows 4 n (fun j=>wn ((rq N (L j)).getD 0)) n C∧e=.tuple #[.slice (some ⟨k,0,none⟩) n n,.bool true])
theorem allOf_c (O:Ord N) (n cap:Nat) (hn:n≤512) (q:Option Addr) (L:Nat→Bs) (w:World) (hA:Args w q n L):Calls Tryz.prog 17 #[(.func (.func 18) #[] #[]),.slice q n cap] w (Ret fun e w'=>AllQ N w n L e w'):=by
 obtain ⟨C,hCl,hmk⟩:=mkSL n hn
 go_enter Tryz.func17,Tryz.ntmps17
 refine RG.M.enter [(0,.v (.func (.func 18) #[] #[])),(1,.v (.slice q n cap))] 35 (by kernel_rfl) ?_
 intro a0 M0
 repeat refine wp_seq ?_
 refine M0.u [.x 4 [] (.slice none 0 0),.x 5 [] (.bool false)] [(0,(.v (.func (.func 18) #[] #[]))),(1,(.v (.slice q n cap)))] ⟨RG.st,RG.st,trivial⟩ ?_
 intro a1 w1 M1
 repeat refine wp_seq ?_
 refine M1.t [.x 11 [] (.slice q n cap),.x 12 [(11,0)] (.int .i64 n),⟨some 13,[(12,1)],(.s 0 n n),.make 0⟩,.s 6 [(13,2)] (.s 0 n n)] [(2,C)] [] [C] [(0,(.v (.func (.func 18) #[] #[]))),(1,(.v (.slice q n cap))),(6,(.s 0 n n))] ⟨RG.st,RG.st,RG.cert_makes 0 rfl _ rfl 36 43 12 12 n rfl rfl RG.sx RG.sx (hmk),RG.st,trivial⟩ ?_
 intro j2 a2 w2 M2
 repeat refine wp_seq ?_
 refine M2.u [.x 14 [] (.slice q n cap),.x 15 [(14,0)] (.int .i64 n),.x 16 [] (.int .i64 0)] [(0,(.v (.func (.func 18) #[] #[]))),(6,(.s 0 n n)),(14,(.v (.slice q n cap))),(15,(.v (.int .i64 n))),(16,(.v (.int .i64 0)))] ⟨RG.st,RG.st,RG.st,trivial⟩ ?_
 intro a3 w3 M3
 repeat refine wp_seq ?_
 refine wp_block ?_
 refine wp_loop_ghost (fun m a wr=>∃ (i:Nat) (C:List Value) (kt:Nat),i+m=n∧(∀ j,j<i→(rq N (L j)).isSome=true)∧Rows 4 n (fun j=>wn ((rq N (L j)).getD 0)) i C∧RG.M w w.heap.size [] 35 [C] [kt] [(0,.v (.func (.func 18) #[] #[])),(6,.s 0 n n),(14,.v (.slice q n cap)),(15,.v (.int .i64 n)),(16,.v (.int .i64 i))] a wr) n ⟨0,C,_,by omega,fun j hj=>by omega,⟨hCl,fun j r hj=>by omega⟩,M3⟩ ?_
 clear hmk
 intro m' a wr
 rintro ⟨i,C,kt,him,hall,hR,M20⟩
 by_cases hi:i<n
 ·obtain ⟨gg,hqe,hgg,hc⟩:=hA (by omega)
  subst hqe
  obtain ⟨v,hv,harg⟩:=hc i hi
  have hcell:w.cell? ⟨gg,0+i,none⟩=some v:=by rw[Nat.zero_add];exact hv
  have hrd0:=fun w' (hb:RG.BelX w.heap.size [] w w')=>sread_c O v (L i) w' (harg.below hb.below)
  obtain ⟨m,hm⟩:∃ m,m=(rq N (L i)).getD 0:=⟨_,rfl⟩
  cases hok:(rq N (L i)).isSome with
  | true =>
   have hrd:∀ w',RG.BelX w.heap.size [] w w'→Calls Tryz.prog 18 #[v] w' (Ret fun e w''=>Below w'.heap.size w' w''∧e=.tuple #[nv m,.bool true]):=fun w' hb=>by
    have h:=hrd0 w' hb
    rw[hok,← hm] at h
    exact h
   have hlen:=hR.len
   have hoff:0+4*i+(wn m).length≤C.length:=by rw[hlen];show 0+4*i+4≤4*n;omega
   obtain ⟨C2,hC2e⟩:∃ c,RG.rep C (0+4*i) (wn m)=c:=⟨_,rfl⟩
   have hC2:=hC2e ▸ RG.rep_at hoff
   have hcl:C2.length=C.length:=hC2e ▸ RG.rep_length hoff
   have hR2:Rows 4 n (fun j=>wn ((rq N (L j)).getD 0)) (i+1) C2:=by
    have:=hR.next hi rfl
    rw[← hC2e,hm]
    exact this
   repeat refine wp_seq ?_
   refine M20.u [.x 17 [] (.bool true)] [(0,(.v (.func (.func 18) #[] #[]))),(6,(.s 0 n n)),(14,(.v (.slice (some ⟨gg,0,none⟩) n cap))),(15,(.v (.int .i64 n))),(16,(.v (.int .i64 i))),(17,(.v (.bool true)))] ⟨RG.cert_bin rfl .lss 3 3 16 15 (.int .i64 i) (.int .i64 n) (.bool true) rfl rfl RG.sx RG.sx (fun w=>by kernel_rfl) (lssn_t hi),trivial⟩ ?_
   intro a21 w21 M21
   repeat refine wp_seq ?_
   refine wp_cond_true M21.ev ?_
   refine wp_skip ?_
   refine wp_seq ?_
   refine wp_block ?_
   repeat refine wp_seq ?_
   refine M21.u [.x 18 [] (.int .i64 i),.x 19 [] (.pointer (some ⟨gg,(0+i),none⟩)),.x 20 [(19,1)] v,.x 7 [(18,0)] (.int .i64 i),.x 8 [(20,2)] v] [(0,(.v (.func (.func 18) #[] #[]))),(6,(.s 0 n n)),(7,(.v (.int .i64 i))),(8,(.v v)),(14,(.v (.slice (some ⟨gg,0,none⟩) n cap))),(15,(.v (.int .i64 n))),(16,(.v (.int .i64 i)))] ⟨RG.st,RG.cert_idx rfl 82 14 16 rfl (.v (.slice (some ⟨gg,0,none⟩) n cap)) (.int .i64 i) RG.sx RG.sx (fun μ w=>at62 _ 0 _ _ i hi w),RG.cert_load1B rfl gg (0+i) hgg List.not_mem_nil 22 19 rfl v rfl RG.sx hcell u22,RG.st,RG.st,trivial⟩ ?_
   intro a22 w22 M22
   repeat refine wp_seq ?_
   refine M22.t [.x 22 [] (.func (.func 18) #[] #[]),.x 23 [] v,.c 24 [(22,0),(23,1)] (.tuple #[(nv m),(.bool true)]),.x 21 [(24,2)] (.tuple #[(nv m),(.bool true)]),.x 25 [(21,3)] (nv m),.x 26 [(21,3)] (.bool true),.m 9 [] 1,.u [(9,6),(25,4)] 1,.x 10 [(26,5)] (.bool true)] [(6,(RG.z 4))] [(1,7,(wn m))] [C,(wn m)] [(0,(.v (.func (.func 18) #[] #[]))),(6,(.s 0 n n)),(7,(.v (.int .i64 i))),(9,(.p 1 0)),(10,(.v (.bool true))),(14,(.v (.slice (some ⟨gg,0,none⟩) n cap))),(15,(.v (.int .i64 n))),(16,(.v (.int .i64 i)))] ⟨RG.st,RG.st,RG.clB (fun _ _=>by kernel_rfl) hrd,RG.st,RG.st,RG.st,RG.mk 1 43,RG.pt i40,RG.st,trivial⟩ ?_
   intro j23 a23 w23 M23
   repeat refine wp_seq ?_
   refine M23.u [.x 27 [] (.bool true),.x 28 [(27,0)] (.bool false)] [(0,(.v (.func (.func 18) #[] #[]))),(6,(.s 0 n n)),(7,(.v (.int .i64 i))),(9,(.p 1 0)),(14,(.v (.slice (some ⟨gg,0,none⟩) n cap))),(15,(.v (.int .i64 n))),(16,(.v (.int .i64 i))),(28,(.v (.bool false)))] ⟨RG.st,RG.st,trivial⟩ ?_
   intro a24 w24 M24
   repeat refine wp_seq ?_
   refine wp_cond_false M24.ev ?_
   refine wp_skip ?_
   repeat refine wp_seq ?_
   refine M24.tx [.s 29 [] (.s 0 n n),.x 30 [] (.int .i64 i),.x 31 [] (nv m),.s 32 [(29,0),(30,1)] (.p 0 (0+4*i)),.u [(32,3),(31,2)] 0] [] [(0,4,C2)] [C2,(wn m)] [(0,(.v (.func (.func 18) #[] #[]))),(6,(.s 0 n n)),(14,(.v (.slice (some ⟨gg,0,none⟩) n cap))),(15,(.v (.int .i64 n))),(16,(.v (.int .i64 i)))] (by kernel_rfl) (congrArg (fun n=>[n]) hcl) ⟨RG.st,RG.st,RG.ld u40 i40,RG.cert_idx rfl 36 29 30 rfl (.s 0 n n) (.int .i64 i) RG.sx RG.sx (fun μ w=>at33 _ 0 _ _ i hi w),RG.cert_putAt 0 (0+4*i) rfl _ rfl 43 (.tmp 32) (.tmp 31) (wn m) rfl rfl RG.sx RG.sx hoff hC2 i40 rfl,trivial⟩ ?_
   intro a25 w25 M25
   repeat refine wp_seq ?_
   refine M25.u [.x 33 [] (.int .i64 ((i+1:Nat):Int)),.x 16 [(33,0)] (.int .i64 ((i+1:Nat):Int))] [(0,(.v (.func (.func 18) #[] #[]))),(6,(.s 0 n n)),(14,(.v (.slice (some ⟨gg,0,none⟩) n cap))),(15,(.v (.int .i64 n))),(16,(.v (.int .i64 ((i+1:Nat):Int))))] ⟨RG.cert_binc rfl .add 3 3 16 (.int .i64 i) (.int .i64 1) (.int .i64 ((i+1:Nat):Int)) rfl rfl RG.sx (fun w=>by kernel_rfl) (addn i 1 (by omega) (by omega)),RG.st,trivial⟩ ?_
   intro a26 w26 M26
   show ∃ n',_
   exact ⟨m'-1,by omega,i+1,C2,kt,by omega,fun j hj=>(by
    by_cases hji:j=i
    ·rw[hji];exact hok
    ·exact hall j (by omega)),hR2,RG.M.drop (cs:=[C2]) (cs2:=[_]) (ks:=[kt]) (ks2:=[_]) M26 rfl rfl⟩
  | false =>
   have hrd:∀ w',RG.BelX w.heap.size [] w w'→Calls Tryz.prog 18 #[v] w' (Ret fun e w''=>Below w'.heap.size w' w''∧e=.tuple #[nv m,.bool false]):=fun w' hb=>by
    have h:=hrd0 w' hb
    rw[hok,← hm] at h
    exact h
   repeat refine wp_seq ?_
   refine M20.u [.x 17 [] (.bool true)] [(0,(.v (.func (.func 18) #[] #[]))),(14,(.v (.slice (some ⟨gg,0,none⟩) n cap))),(16,(.v (.int .i64 i))),(17,(.v (.bool true)))] ⟨RG.cert_bin rfl .lss 3 3 16 15 (.int .i64 i) (.int .i64 n) (.bool true) rfl rfl RG.sx RG.sx (fun w=>by kernel_rfl) (lssn_t hi),trivial⟩ ?_
   intro a21 w21 M21
   repeat refine wp_seq ?_
   refine wp_cond_true M21.ev ?_
   refine wp_skip ?_
   refine wp_seq ?_
   refine wp_block ?_
   repeat refine wp_seq ?_
   refine M21.u [.x 18 [] (.int .i64 i),.x 19 [] (.pointer (some ⟨gg,(0+i),none⟩)),.x 20 [(19,1)] v,.x 7 [(18,0)] (.int .i64 i),.x 8 [(20,2)] v] [(0,(.v (.func (.func 18) #[] #[]))),(8,(.v v))] ⟨RG.st,RG.cert_idx rfl 82 14 16 rfl (.v (.slice (some ⟨gg,0,none⟩) n cap)) (.int .i64 i) RG.sx RG.sx (fun μ w=>at62 _ 0 _ _ i hi w),RG.cert_load1B rfl gg (0+i) hgg List.not_mem_nil 22 19 rfl v rfl RG.sx hcell u22,RG.st,RG.st,trivial⟩ ?_
   intro a22 w22 M22
   repeat refine wp_seq ?_
   refine M22.t [.x 22 [] (.func (.func 18) #[] #[]),.x 23 [] v,.c 24 [(22,0),(23,1)] (.tuple #[(nv m),(.bool false)]),.x 21 [(24,2)] (.tuple #[(nv m),(.bool false)]),.x 25 [(21,3)] (nv m),.x 26 [(21,3)] (.bool false),.m 9 [] 1,.u [(9,6),(25,4)] 1,.x 10 [(26,5)] (.bool false)] [(6,(RG.z 4))] [(1,7,(wn m))] [C,(wn m)] [(10,(.v (.bool false)))] ⟨RG.st,RG.st,RG.clB (fun _ _=>by kernel_rfl) hrd,RG.st,RG.st,RG.st,RG.mk 1 43,RG.pt i40,RG.st,trivial⟩ ?_
   intro j23 a23 w23 M23
   repeat refine wp_seq ?_
   refine M23.u [.x 27 [] (.bool false),.x 28 [(27,0)] (.bool true)] [(28,(.v (.bool true)))] ⟨RG.st,RG.st,trivial⟩ ?_
   intro a24 w24 M24
   repeat refine wp_seq ?_
   refine wp_cond_true M24.ev ?_
   repeat refine wp_seq ?_
   refine M24.u [.x 4 [] (.slice none 0 0),.x 5 [] (.bool false)] [(4,(.v (.slice none 0 0))),(5,(.v (.bool false)))] ⟨RG.st,RG.st,trivial⟩ ?_
   intro a25 w25 M25
   refine wp_ret ?_
   refine bodyPost_ret (v:=.tuple #[.slice none 0 0,.bool false]) (RG.results_tt 4 5 rfl (.slice none 0 0) (.bool false) M25.av M25.av) M25.sl.defers ?_
   exact ⟨_,rfl,Or.inl ⟨⟨i,hi,by simpa using hok⟩,M25.st.bel.below,rfl⟩⟩
 ·have hiN:i=n:=by omega
  rw[hiN] at hall hR
  repeat refine wp_seq ?_
  refine M20.u [.x 17 [] (.bool false)] [(6,(.s 0 n n)),(17,(.v (.bool false)))] ⟨RG.cert_bin rfl .lss 3 3 16 15 (.int .i64 i) (.int .i64 n) (.bool false) rfl rfl RG.sx RG.sx (fun w=>by kernel_rfl) (lssn_f hi),trivial⟩ ?_
  intro a21 w21 M21
  repeat refine wp_seq ?_
  refine wp_cond_false M21.ev ?_
  refine wp_exit ?_
  dsimp only[Exit.then,Exit.inBlock]
  rw[if_pos rfl]
  repeat refine wp_seq ?_
  refine M21.u [.s 34 [] (.s 0 n n),.s 4 [(34,0)] (.s 0 n n),.x 5 [] (.bool true)] [(4,(.s 0 n n)),(5,(.v (.bool true)))] ⟨RG.st,RG.st,RG.st,trivial⟩ ?_
  intro a22 w22 M22
  refine wp_ret ?_
  refine bodyPost_ret (v:=_) (RG.results_tt 4 5 rfl _ (.bool true) (M22.at (s:=.s 0 n n)) M22.av) M22.sl.defers ?_
  exact ⟨_,rfl,Or.inr ⟨hall,_,C,M22.st.made (b:=0) rfl,hR,rfl⟩⟩
def fl33 (f:Nat→UInt8):List Value:=(List.range 33).map fun i=>.int .u8 (ub (f i))
theorem bl33_fl {a:Bs} (ha:a.size=33):bl33 a=fl33 fun i=>a[i]!:=(bl33_lit ha).trans rfl
def prv (a b:Bs):Value:=.agg (bl33 a++bl33 b).toArray
def fpv (f:Nat→UInt8):Value:=.agg (fl33 f).toArray
def fpr (f g:Nat→UInt8):Value:=.agg (fl33 f++fl33 g).toArray
theorem pvl_fl {a:Bs} (ha:a.size=33):pvl a=fpv fun i=>a[i]!:=by unfold pvl fpv;rw[bl33_fl ha]
theorem prv_fl {a b:Bs} (ha:a.size=33) (hb:b.size=33):prv a b=fpr (fun i=>a[i]!) (fun i=>b[i]!):=by unfold prv fpr;rw[bl33_fl ha,bl33_fl hb]
theorem uPr:(Tryz.prog.underlying 96).map (·.isRow)=some true:=by kernel_rfl
theorem iPr:(Tryz.prog.info? 96).map (·.size)=some 66:=by kernel_rfl
def zz (n:Nat):List Value:=(List.replicate n (Value.int .u8 0))
theorem pairOf_c (C:Fld P) (O:Ord N) {n:Nat} (hn:n<N) {X:EC.Pt P} (hX:EC.On X):Gives 55 #[nv n,pvl (wr X)] (prv (wr (EC.mul n (gG P))) (wr (EC.mul n X))):=by
 intro w
 have hG:=gen_c C
 have h1:=times_c C O hn (gG_on C)
 have h2:=times_c C O hn hX
 rw[pvl_fl (wr_size _)] at hG h1 h2 ⊢
 rw[pvl_fl (wr_size (EC.mul n _))] at h1 h2
 rw[prv_fl (wr_size _) (wr_size _)]
 generalize (fun i:Nat=>(wr (gG P))[i]!)=g at hG h1
 generalize (fun i:Nat=>(wr (EC.mul n (gG P)))[i]!)=h at h1 ⊢
 generalize (fun i:Nat=>(wr (EC.mul n X))[i]!)=k at h2 ⊢
 generalize (fun i:Nat=>(wr X)[i]!)=f at h2 ⊢
 go_enter Tryz.func55,Tryz.ntmps55
 refine RG.M.enter [(0,.v (nv n)),(1,.v (fpv f))] 12 (by kernel_rfl) ?_
 intro a0 M0
 repeat refine wp_seq ?_
 refine M0.t [.m 2 [] 0,.m 3 [] 1,.m 4 [] 2] [(0,wn n),(1,fl33 f),(2,zz 66)] [] [wn n,fl33 f,zz 66] [(2,.p 0 0),(3,.p 1 0),(4,.p 2 0)] ⟨RG.mk 0 43,RG.mk 1 47,RG.mk 2 96,trivial⟩ ?_
 intro j1 j2 j3 a1 w1 M1
 repeat refine wp_seq ?_
 refine M1.d [.x 5 [] (nv n),.c 6 [] (fpv g),.c 7 [(5,0),(6,1)] (fpv h),.x 8 [] (nv n),.x 9 [] (fpv f),.c 10 [(8,3),(9,4)] (fpv k),.x 11 [(7,2),(10,5)] (fpr h k),.u [(11,6)] 2] [] [(2,7,fl33 h++fl33 k)] [wn n,fl33 f,fl33 h++fl33 k] [(4,.p 2 0)] ⟨RG.ld u40 i40,RG.cl hG,RG.cl h1,RG.ld u40 i40,RG.ld uCP infoCP,RG.cl h2,RG.st,RG.pt iPr,trivial⟩ ?_
 intro a2 w2 M2
 refine wp_ret ?_
 refine bodyPost_ret (v:=fpr h k) (RG.results_row M2.st 4 96 rfl 2 _ rfl (M2.at (s:=(.p 2 0))) uPr iPr) M2.sl.defers ?_
 exact ⟨_,rfl,M2.st.bel.below,rfl⟩
theorem row_holds2 {W:World} {k:Nat} {a b:Bs} (h:Row W k (bl33 a++bl33 b)):Holds encB W k 0 (a++b):=by
 have e:bl33 a++bl33 b=cb (a++b):=by unfold bl33 cb;rw[Array.toList_append,List.map_append]
 rw[e] at h
 exact cb_holds h.2.1 h.2.2
theorem row_partA {W:World} {k:Nat} {a b:Bs} (ha:a.size=33) (hb:b.size=33) (h:Row W k (bl33 a++bl33 b)):SP.PartOk W (.slice (some ⟨k,0,none⟩) 33 33) a.toList:=
 ⟨_,k,0,33,a,by rw[ha],rfl,by omega,by omega,Or.inr ⟨rfl,by
  have:=Holds.part (p:=0) (e:=a) (row_holds2 h) (by rw[Array.size_append];omega) (fun j hj=>by
   rw[Nat.zero_add,getElem!_pos a j hj,getElem!_pos (a++b) j (by rw[Array.size_append];omega),Array.getElem_append_left])
  exact this⟩⟩
theorem row_partB {W:World} {k:Nat} {a b:Bs} (ha:a.size=33) (hb:b.size=33) (h:Row W k (bl33 a++bl33 b)):SP.PartOk W (.slice (some ⟨k,33,none⟩) 33 33) b.toList:=
 ⟨_,k,33,33,b,by rw[hb],rfl,by omega,by omega,Or.inr ⟨rfl,by
  have:=Holds.part (p:=33) (e:=b) (row_holds2 h) (by rw[Array.size_append];omega) (fun j hj=>by
   rw[getElem!_pos b j hj,getElem!_pos (a++b) (33+j) (by rw[Array.size_append];omega),Array.getElem_append_right (by omega)]
   congr 1
   omega)
  rwa[Nat.zero_add] at this⟩⟩
theorem boxPr {a b:Bs} (ha:a.size=33) (hb:b.size=33) (w:World):(Instr.box 96 (.agg (bl33 a++bl33 b).toArray)).run Tryz.prog w=.ok (.pointer (some ⟨w.heap.size,0,none⟩)) (w.alloc (.cells (bl33 a++bl33 b).toArray 96)):=by
 rw[bl33_fl ha,bl33_fl hb]
 kernel_rfl
theorem slCP2 (k o:Nat) (w:World):(Instr.sliceAt 47 (.pointer (some ⟨k,o,none⟩)) none none none).run Tryz.prog w=.ok (.slice (some ⟨k,o,none⟩) 33 33) w:=by kernel_rfl
structure Sy (w W:World) (k3 k4 k5 k6 k7 r:Nat) (a pa pb fa fb L:Bs):Prop where
 bl:Below w.heap.size w W
 r3:Row W k3 (bl33 a)
 r4:Row W k4 (bl33 pa++bl33 pb)
 r5:Row W k5 (bl33 fa++bl33 fb)
 r6:Row W k6 [.int .u64 0,.int .u64 0,.int .u64 0,.int .u64 0]
 r7:Row W k7 [.pointer (some ⟨r,0,none⟩)]
 lg:Holds encB W r 0 L
structure Sz (w:World) (k3 k4 k5 k6 k7 r:Nat):Prop where
 lr:w.heap.size≤r
 n3:k3≠r
 n4:k4≠r
 n5:k5≠r
 n6:k6≠r
 n7:k7≠r
theorem Sy.say {w W W':World} {k3 k4 k5 k6 k7 r:Nat} {a pa pb fa fb L L':Bs} (h:Sy w W k3 k4 k5 k6 k7 r a pa pb fa fb L) (n:Sz w k3 k4 k5 k6 k7 r) (hO:SP.Only r 0 32 W W') (hL:Holds encB W' r 0 L'):Sy w W' k3 k4 k5 k6 k7 r a pa pb fa fb L':=
 ⟨h.bl.trans (hO.below h.bl.size n.lr),h.r3.only hO n.n3,h.r4.only hO n.n4,h.r5.only hO n.n5,h.r6.only hO n.n6,h.r7.only hO n.n7,hL⟩
theorem Sy.drew {w W:World} {k3 k4 k5 k6 k7 r:Nat} {a pa pb fa fb L:Bs} (h:Sy w W k3 k4 k5 k6 k7 r a pa pb fa fb L):Sy w W.drew k3 k4 k5 k6 k7 r a pa pb fa fb L:=⟨h.bl.drew,h.r3,h.r4,h.r5,h.r6,h.r7,h.lg⟩
theorem Sy.cell {w W:World} {k3 k4 k5 k6 k7 r:Nat} {a pa pb fa fb L:Bs} (h:Sy w W k3 k4 k5 k6 k7 r a pa pb fa fb L):W.cell? ⟨k7,0,none⟩=some (.pointer (some ⟨r,0,none⟩)):=h.r7.2.1 0 _ rfl
def logM (a pa pb fa fb:List UInt8):Bs:=SP.sayL (SP.sayL (SP.sayL (SP.sayL (SP.sayL (SP.newL [115,97,109,101]) [98,97,115,101] a) [97] pa) [98] pb) [102,105,114,115,116] fa) [115,101,99,111,110,100] fb
def asm (N:Nat) (a pa pb fa fb:List UInt8):Nat:=cha N (logM a pa pb fa fb)
theorem asm_lt (O:Ord N) (a pa pb fa fb:List UInt8):asm N a pa pb fa fb<N:=redu_lt O _
theorem sSame_c (O:Ord N) (a pa pb fa fb:Bs) (ha:a.size=33) (hpa:pa.size=33) (hpb:pb.size=33) (hfa:fa.size=33) (hfb:fb.size=33):Gives 54 #[pvl a,prv pa pb,prv fa fb] (nv (asm N a.toList pa.toList pb.toList fa.toList fb.toList)):=by
 intro w
 unfold pvl prv
 obtain ⟨L0,h0⟩:∃ L,Hid (SP.newL [115,97,109,101]=L):=⟨_,rfl⟩
 obtain ⟨L1,h1⟩:∃ L,Hid (SP.sayL L0 [98,97,115,101] a.toList=L):=⟨_,rfl⟩
 obtain ⟨L2,h2⟩:∃ L,Hid (SP.sayL L1 [97] pa.toList=L):=⟨_,rfl⟩
 obtain ⟨L3,h3⟩:∃ L,Hid (SP.sayL L2 [98] pb.toList=L):=⟨_,rfl⟩
 obtain ⟨L4,h4⟩:∃ L,Hid (SP.sayL L3 [102,105,114,115,116] fa.toList=L):=⟨_,rfl⟩
 obtain ⟨L5,h5⟩:∃ L,Hid (SP.sayL L4 [115,101,99,111,110,100] fb.toList=L):=⟨_,rfl⟩
 have s0:L0.size=32:=by rw[← h0.out];exact SP.newL_size _
 have s1:L1.size=32:=by rw[← h1.out];exact SP.sayL_size _ _ _
 have s2:L2.size=32:=by rw[← h2.out];exact SP.sayL_size _ _ _
 have s3:L3.size=32:=by rw[← h3.out];exact SP.sayL_size _ _ _
 have s4:L4.size=32:=by rw[← h4.out];exact SP.sayL_size _ _ _
 have s5:L5.size=32:=by rw[← h5.out];exact SP.sayL_size _ _ _
 have hr:asm N a.toList pa.toList pb.toList fa.toList fb.toList=cha N L5:=by unfold asm logM;rw[h0.out,h1.out,h2.out,h3.out,h4.out,h5.out]
 rw[hr]
 clear hr
 obtain ⟨va,hva⟩:∃ v,Hid (Value.agg (bl33 a).toArray=v):=⟨_,rfl⟩
 obtain ⟨vp,hvp⟩:∃ v,Hid (Value.agg (bl33 pa++bl33 pb).toArray=v):=⟨_,rfl⟩
 obtain ⟨vf,hvf⟩:∃ v,Hid (Value.agg (bl33 fa++bl33 fb).toArray=v):=⟨_,rfl⟩
 have bA:=boxCP ha w
 obtain ⟨w1,hw1⟩:∃ w1,Hid (w.alloc (.cells (bl33 a).toArray 47)=w1):=⟨_,rfl⟩
 have bB:=boxPr hpa hpb w1
 obtain ⟨w2,hw2⟩:∃ w2,Hid (w1.alloc (.cells (bl33 pa++bl33 pb).toArray 96)=w2):=⟨_,rfl⟩
 have bC:=boxPr hfa hfb w2
 obtain ⟨w3,hw3⟩:∃ w3,Hid (w2.alloc (.cells (bl33 fa++bl33 fb).toArray 96)=w3):=⟨_,rfl⟩
 obtain ⟨w4,hw4⟩:∃ w4,Hid (w3.alloc (.cells #[.int .u64 0,.int .u64 0,.int .u64 0,.int .u64 0] 43)=w4):=⟨_,rfl⟩
 rw[hva.out,hw1.out] at bA
 rw[hvp.out,hw2.out] at bB
 rw[hvf.out,hw3.out] at bC
 rw[hva.out,hvp.out,hvf.out]
 have e1:w1.heap.size=w.heap.size+1:=by rw[← hw1.out,World.size_alloc]
 have e2:w2.heap.size=w.heap.size+2:=by rw[← hw2.out,World.size_alloc,e1]
 have e3:w3.heap.size=w.heap.size+3:=by rw[← hw3.out,World.size_alloc,e2]
 have e4:w4.heap.size=w.heap.size+4:=by rw[← hw4.out,World.size_alloc,e3]
 rw[e1] at bB
 rw[e2] at bC
 have K4:Hid (Row w4 w.heap.size (bl33 a)∧Row w4 (w.heap.size+1) (bl33 pa++bl33 pb)∧Row w4 (w.heap.size+2) (bl33 fa++bl33 fb)∧Row w4 (w.heap.size+3) [.int .u64 0,.int .u64 0,.int .u64 0,.int .u64 0]∧Below w.heap.size w w4):=by
  have q1:Row w1 w.heap.size (bl33 a):=by rw[← hw1.out];exact row_new w _ _
  have q2:Row w2 (w.heap.size+1) (bl33 pa++bl33 pb):=by rw[← hw2.out,← e1];exact row_new w1 _ _
  have q3:Row w3 (w.heap.size+2) (bl33 fa++bl33 fb):=by rw[← hw3.out,← e2];exact row_new w2 _ _
  have q4:Row w4 (w.heap.size+3) [.int .u64 0,.int .u64 0,.int .u64 0,.int .u64 0]:=by rw[← hw4.out,← e3];exact row_new w3 _ _
  have b1:Below w.heap.size w w1:=by rw[← hw1.out];exact below1 w _
  have b2:Below w1.heap.size w1 w2:=by rw[← hw2.out];exact below1 w1 _
  have b3:Below w2.heap.size w2 w3:=by rw[← hw3.out];exact below1 w2 _
  have b4:Below w3.heap.size w3 w4:=by rw[← hw4.out];exact below1 w3 _
  exact ⟨((q1.below b2).below b3).below b4,(q2.below b3).below b4,q3.below b4,q4,((b1.trans (b2.mono (by omega))).trans (b3.mono (by omega))).trans (b4.mono (by omega))⟩
 clear hw1 hw2 hw3
 have BA:=Hid.mk' bA
 have BB:=Hid.mk' bB
 have BC:=Hid.mk' bC
 clear bA bB bC
 go_enter Tryz.func54,Tryz.ntmps54
 go_wp2_with (first|(refine wpList_box (u:=va) (v:=.pointer (some ⟨w.heap.size,0,none⟩)) (w':=w1) rfl 47 (.tmp 0) rfl ?_ ?_ ?_;rfl;exact BA.out)|(refine wpList_box (u:=vp) (v:=.pointer (some ⟨w.heap.size+1,0,none⟩)) (w':=w2) rfl 96 (.tmp 1) rfl ?_ ?_ ?_;rfl;exact BB.out)|(refine wpList_box (u:=vf) (v:=.pointer (some ⟨w.heap.size+2,0,none⟩)) (w':=w3) rfl 96 (.tmp 2) rfl ?_ ?_ ?_;rfl;exact BC.out))
 rw[hw4.out]
 clear hw4 BA BB BC
 refine (sNewLog_c ⟨#[115,97,109,101]⟩ w4 (by decide)).mono ?_
 rintro e w5 ⟨v,rfl,hb5,r,rfl,hr1,hr2,hL⟩
 rw[show SP.newL (⟨#[115,97,109,101]⟩:ByteArray).data.toList=L0 from h0.out] at hL
 have hb05:Below w.heap.size w w5:=K4.out.2.2.2.2.trans (hb5.mono K4.out.2.2.2.2.size)
 obtain ⟨k7,hk7⟩:∃ k,Hid (w5.heap.size=k):=⟨_,rfl⟩
 have hk7r:r<k7:=by rw[← hk7.out];exact hr2
 have hb05s:=hb05.size
 have HN:Hid (Sz w w.heap.size (w.heap.size+1) (w.heap.size+2) (w.heap.size+3) k7 r):=⟨by omega,by omega,by omega,by omega,by omega,by omega⟩
 obtain ⟨w6,hw6⟩:∃ w6,Hid ((w5.alloc (.cells #[.pointer none] 121)).setCells k7 0 [.pointer (some ⟨r,0,none⟩)]=w6):=⟨_,rfl⟩
 have KS:Hid (Sy w w6 w.heap.size (w.heap.size+1) (w.heap.size+2) (w.heap.size+3) k7 r a pa pb fa fb L0):=by
  rw[← hw6.out,← hk7.out]
  have hR:=row_new w5 [.pointer none] 121
  have hlt:w5.heap.size=k7:=hk7.out
  refine ⟨RG.below_setCells hb05.size _ _ _ (hb05.alloc hb05.size _),((K4.out.1.below hb5).alloc _).other (by omega),((K4.out.2.1.below hb5).alloc _).other (by omega),((K4.out.2.2.1.below hb5).alloc _).other (by omega),((K4.out.2.2.2.1.below hb5).alloc _).other (by omega),hR.put rfl,fun j hj=>?_⟩
  have e:=RG.setCells_other w5.heap.size [.pointer (some ⟨r,0,none⟩)] 0 (w5.alloc (.cells #[.pointer none] 121)) r (by omega)
  have e2:=Below.heap_alloc w5 (.cells #[.pointer none] 121) r hr2
  rw[World.cell?_of_block (a:=⟨r,0+j,none⟩) e,World.frozen?_of_block (a:=⟨r,0+j,none⟩) e,World.cell?_of_block (a:=⟨r,0+j,none⟩) e2,World.frozen?_of_block (a:=⟨r,0+j,none⟩) e2]
  exact hL j hj
 have HTH:Hid ((w5.alloc (.cells #[.pointer none] 121)).there k7 0 1):=by rw[← hk7.out];exact (row_new w5 [.pointer none] 121).2.2
 clear hb5 hL hb05 hr1 hr2 K4 hk7r hb05s
 go_wp2_with (refine wpList_op (v:=.pointer (some ⟨k7,0,none⟩)) (w':=w5.alloc (.cells #[.pointer none] 121)) rfl (.alloc 121) rfl ?_ ?_;(rw[← hk7.out];kernel_rfl);refine Hid.out ?_)
 show wpList _ _ _ _ _ _
 refine wpList_store_mid rfl 121 _ _ rfl k7 0 #[.pointer (some ⟨r,0,none⟩)] ?_ ?_ ?_ ?_ ?_ ?_
 ·kernel_rfl
 ·kernel_rfl
 ·exact HTH.out
 ·exact i124
 ·kernel_rfl
 rw[show (#[Value.pointer (some ⟨r,0,none⟩)]).toList=[.pointer (some ⟨r,0,none⟩)] from rfl,hw6.out]
 clear HTH hw6 hk7
 have KP:=KS.out
 clear KS
 have hsl:=slCP2 w.heap.size 0
 go_wp2_with fail
 go_region_held3 (fun W=>W.cell? ⟨k7,0,none⟩=some (.pointer (some ⟨r,0,none⟩))∧∃ L,Sy w W w.heap.size (w.heap.size+1) (w.heap.size+2) (w.heap.size+3) k7 r a pa pb fa fb L) (first|(with_reducible exact ⟨KP.cell,_,KP⟩)|(with_reducible exact ⟨KP.drew.cell,_,KP.drew⟩)|fail) (first|(go_at_call 67;(first|(with_reducible refine (SP.Say_any r L0 ⟨#[98,97,115,101]⟩ (some ⟨w.heap.size,0,none⟩) 33 33 a.toList _ (by decide) (sp_h KP.lg) s0 (row_part ha KP.r3)).mono ?_)|(with_reducible refine (SP.Say_any r L0 ⟨#[98,97,115,101]⟩ (some ⟨w.heap.size,0,none⟩) 33 33 a.toList _ (by decide) (sp_h KP.drew.lg) s0 (row_part ha KP.drew.r3)).mono ?_));rintro e w7 ⟨rfl,hO,hL⟩;rw[show SP.sayL L0 (⟨#[98,97,115,101]⟩:ByteArray).data.toList a.toList=L1 from h1.out] at hL;(first|(with_reducible (have KP1:=KP.drew.say HN.out hO (sp_k hL)))|(with_reducible (have KP1:=KP.say HN.out hO (sp_k hL)))|fail);clear KP hO hL;have KP:=KP1;clear KP1))
 clear hsl
 have hsl:=slCP2 (w.heap.size+1) 0
 go_wp2_with fail
 go_region_held3 (fun W=>W.cell? ⟨k7,0,none⟩=some (.pointer (some ⟨r,0,none⟩))∧∃ L,Sy w W w.heap.size (w.heap.size+1) (w.heap.size+2) (w.heap.size+3) k7 r a pa pb fa fb L) (first|(with_reducible exact ⟨KP.cell,_,KP⟩)|(with_reducible exact ⟨KP.drew.cell,_,KP.drew⟩)|fail) (first|(go_at_call 67;(first|(with_reducible refine (SP.Say_any r L1 ⟨#[97]⟩ (some ⟨w.heap.size+1,0,none⟩) 33 33 pa.toList _ (by decide) (sp_h KP.lg) s1 (row_partA hpa hpb KP.r4)).mono ?_)|(with_reducible refine (SP.Say_any r L1 ⟨#[97]⟩ (some ⟨w.heap.size+1,0,none⟩) 33 33 pa.toList _ (by decide) (sp_h KP.drew.lg) s1 (row_partA hpa hpb KP.drew.r4)).mono ?_));rintro e w8 ⟨rfl,hO,hL⟩;rw[show SP.sayL L1 (⟨#[97]⟩:ByteArray).data.toList pa.toList=L2 from h2.out] at hL;(first|(with_reducible (have KP1:=KP.drew.say HN.out hO (sp_k hL)))|(with_reducible (have KP1:=KP.say HN.out hO (sp_k hL)))|fail);clear KP hO hL;have KP:=KP1;clear KP1))
 clear hsl
 have hsl:=slCP2 (w.heap.size+1) 33
 go_wp2_with fail
 go_region_held3 (fun W=>W.cell? ⟨k7,0,none⟩=some (.pointer (some ⟨r,0,none⟩))∧∃ L,Sy w W w.heap.size (w.heap.size+1) (w.heap.size+2) (w.heap.size+3) k7 r a pa pb fa fb L) (first|(with_reducible exact ⟨KP.cell,_,KP⟩)|(with_reducible exact ⟨KP.drew.cell,_,KP.drew⟩)|fail) (first|(go_at_call 67;(first|(with_reducible refine (SP.Say_any r L2 ⟨#[98]⟩ (some ⟨w.heap.size+1,33,none⟩) 33 33 pb.toList _ (by decide) (sp_h KP.lg) s2 (row_partB hpa hpb KP.r4)).mono ?_)|(with_reducible refine (SP.Say_any r L2 ⟨#[98]⟩ (some ⟨w.heap.size+1,33,none⟩) 33 33 pb.toList _ (by decide) (sp_h KP.drew.lg) s2 (row_partB hpa hpb KP.drew.r4)).mono ?_));rintro e w9 ⟨rfl,hO,hL⟩;rw[show SP.sayL L2 (⟨#[98]⟩:ByteArray).data.toList pb.toList=L3 from h3.out] at hL;(first|(with_reducible (have KP1:=KP.drew.say HN.out hO (sp_k hL)))|(with_reducible (have KP1:=KP.say HN.out hO (sp_k hL)))|fail);clear KP hO hL;have KP:=KP1;clear KP1))
 clear hsl
 have hsl:=slCP2 (w.heap.size+2) 0
 go_wp2_with fail
 go_region_held3 (fun W=>W.cell? ⟨k7,0,none⟩=some (.pointer (some ⟨r,0,none⟩))∧∃ L,Sy w W w.heap.size (w.heap.size+1) (w.heap.size+2) (w.heap.size+3) k7 r a pa pb fa fb L) (first|(with_reducible exact ⟨KP.cell,_,KP⟩)|(with_reducible exact ⟨KP.drew.cell,_,KP.drew⟩)|fail) (first|(go_at_call 67;(first|(with_reducible refine (SP.Say_any r L3 ⟨#[102,105,114,115,116]⟩ (some ⟨w.heap.size+2,0,none⟩) 33 33 fa.toList _ (by decide) (sp_h KP.lg) s3 (row_partA hfa hfb KP.r5)).mono ?_)|(with_reducible refine (SP.Say_any r L3 ⟨#[102,105,114,115,116]⟩ (some ⟨w.heap.size+2,0,none⟩) 33 33 fa.toList _ (by decide) (sp_h KP.drew.lg) s3 (row_partA hfa hfb KP.drew.r5)).mono ?_));rintro e w10 ⟨rfl,hO,hL⟩;rw[show SP.sayL L3 (⟨#[102,105,114,115,116]⟩:ByteArray).data.toList fa.toList=L4 from h4.out] at hL;(first|(with_reducible (have KP1:=KP.drew.say HN.out hO (sp_k hL)))|(with_reducible (have KP1:=KP.say HN.out hO (sp_k hL)))|fail);clear KP hO hL;have KP:=KP1;clear KP1))
 clear hsl
 have hsl:=slCP2 (w.heap.size+2) 33
 go_wp2_with fail
 go_region_held3 (fun W=>W.cell? ⟨k7,0,none⟩=some (.pointer (some ⟨r,0,none⟩))∧∃ L,Sy w W w.heap.size (w.heap.size+1) (w.heap.size+2) (w.heap.size+3) k7 r a pa pb fa fb L) (first|(with_reducible exact ⟨KP.cell,_,KP⟩)|(with_reducible exact ⟨KP.drew.cell,_,KP.drew⟩)|fail) (first|(go_at_call 67;(first|(with_reducible refine (SP.Say_any r L4 ⟨#[115,101,99,111,110,100]⟩ (some ⟨w.heap.size+2,33,none⟩) 33 33 fb.toList _ (by decide) (sp_h KP.lg) s4 (row_partB hfa hfb KP.r5)).mono ?_)|(with_reducible refine (SP.Say_any r L4 ⟨#[115,101,99,111,110,100]⟩ (some ⟨w.heap.size+2,33,none⟩) 33 33 fb.toList _ (by decide) (sp_h KP.drew.lg) s4 (row_partB hfa hfb KP.drew.r5)).mono ?_));rintro e w11 ⟨rfl,hO,hL⟩;rw[show SP.sayL L4 (⟨#[115,101,99,111,110,100]⟩:ByteArray).data.toList fb.toList=L5 from h5.out] at hL;(first|(with_reducible (have KP1:=KP.drew.say HN.out hO (sp_k hL)))|(with_reducible (have KP1:=KP.say HN.out hO (sp_k hL)))|fail);clear KP hO hL;have KP:=KP1;clear KP1))
 clear hsl
 have KT:=Hid.mk' KP
 clear KP
 obtain ⟨d,hd1,hd2⟩:=Option.map_eq_some_iff.1 u124
 have HD:Hid (Tryz.prog.underlying 121=some d∧d.isRow=true):=⟨hd1,hd2⟩
 clear hd1 hd2
 go_wp2_with (refine wpList_load_mid rfl 121 _ rfl k7 0 ?_ [.pointer (some ⟨r,0,none⟩)] d ?_ ?_ ?_ ?_ ?_;kernel_rfl;exact KT.out.r7.2.1;exact HD.out.1;exact HD.out.2;exact i124)
 refine (sChallenge_c O r L5 w11 KT.out.lg s5).mono ?_
 rintro e w12 ⟨v,rfl,hO,rfl⟩
 have K9:Hid (Row w12 (w.heap.size+3) [.int .u64 0,.int .u64 0,.int .u64 0,.int .u64 0]∧Below w.heap.size w w12):=⟨KT.out.r6.only hO HN.out.n6,KT.out.bl.trans (hO.below KT.out.bl.size HN.out.lr)⟩
 clear hO KT HN
 obtain ⟨m,hm⟩:∃ m,Hid (cha N L5=m):=⟨_,rfl⟩
 rw[hm.out]
 obtain ⟨wa,hwa⟩:∃ wa,Hid (w12.setCells (w.heap.size+3) 0 (wn m)=wa):=⟨_,rfl⟩
 have KA:Hid (Row wa (w.heap.size+3) (wn m)∧Below w.heap.size w wa):=by rw[← hwa.out];exact ⟨K9.out.1.put rfl,RG.below_setCells (by omega) _ _ _ K9.out.2⟩
 obtain ⟨vm,hvm⟩:∃ vm,Hid (nv m=vm):=⟨_,rfl⟩
 rw[hvm.out]
 go_wp2_with (refine wpList_store_mid rfl 43 _ _ rfl (w.heap.size+3) 0 (wn m).toArray ?_ ?_ ?_ ?_ ?_ ?_;rfl;exact hvm.out.symm;exact K9.out.1.2.2;exact i40;exact wn_one m;rw[show (wn m).toArray.toList=wn m from rfl,hwa.out])
 refine bodyPost_ret (results_cell 6 43 rfl KA.out.1 rfl u40 i40) rfl ?_
 exact ⟨_,rfl,KA.out.2,by rw[hm.out];rfl⟩
end
section
open Go.RowKit Go.Sort Go.Deep
variable {P:Nat} [NeZero P] {N:Nat}
theorem of1_c:Gives 37 #[.int .u64 1] (nv 1):=by
 intro w
 go_enter Tryz.func37,Tryz.ntmps37
 refine RG.M.enter [(0,.v (.int .u64 1))] 6 (by kernel_rfl) ?_
 intro a0 M0
 repeat refine wp_seq ?_
 refine M0.t [.m 2 [] 0] [(0,RG.z 4)] [] [RG.z 4] [(0,.v (.int .u64 1)),(2,.p 0 0)] ⟨RG.mk 0 43,trivial⟩ ?_
 intro k a1 w1 M1
 repeat refine wp_seq ?_
 refine M1.t [.x 3 [] (.int .u64 1),.x 4 [(3,0)] (nv 1),.x 5 [(4,1)] (nv 1),.u [(5,2)] 0] [] [(0,3,wn 1)] [wn 1] [(2,.p 0 0)] ⟨RG.st,RG.st,RG.st,RG.pt i40,trivial⟩ ?_
 intro a2 w2 M2
 refine wp_ret ?_
 refine bodyPost_ret (v:=nv 1) (RG.results_row M2.st 2 43 rfl 0 _ rfl (M2.at (s:=(.p 0 0))) u40 i40) M2.sl.defers ?_
 exact ⟨_,rfl,M2.st.bel.below,rfl⟩
def Sm (B:Nat) (W:World) (v:Value) (l:List (Nat × Bs)):Prop:=∃ g c,v=.slice (some ⟨g,0,none⟩) l.length c∧l.length≤c∧B≤g∧g<W.heap.size∧W.rangeAt g 0 (cellsT l)
theorem Sm.grow {B:Nat} {W W':World} {v:Value} {l:List (Nat × Bs)} (h:Sm B W v l) (hb:Below W.heap.size W W'):Sm B W' v l:=by
 obtain ⟨g,c,h1,h2,h3,h4,h5⟩:=h
 exact ⟨g,c,h1,h2,h3,Nat.lt_of_lt_of_le h4 hb.size,RG.range_below h5 hb h4⟩
theorem cellsT_one' (n:Nat) (a:Bs):cellsT [(n,a)]=wn n++bl33 a:=by rw[cellsT_cons];exact List.append_nil _
theorem Sm.one {B W k n} {w:World} {a:Bs} (h:Row w k (wn n++bl33 a)) (hB:B≤k) (hW:w=W):Sm B W (.slice (some ⟨k,0,none⟩) 1 1) [(n,a)]:=by
 subst hW
 exact ⟨k,1,rfl,Nat.le_refl _,hB,h.1,by rw[cellsT_one'];exact h.2.1⟩
section
variable (a:Bs) (w:World) (k1:Nat)
end
theorem infoT':(Tryz.prog.info? 150).map (fun i=>(i.size,i.bytes,i.zero.map fun z=>z.cells.size))=some (37,72,some 37):=by kernel_rfl
theorem growT_c (n:Nat) (hn:n≤10000000) (w:World):Calls Tryz.prog 142 #[.slice none 0 0,.int .i64 n] w (Ret fun e w'=>Below w.heap.size w w'∧w'.ownsRow w.heap.size 150 37 e 0 []):=by
 by_cases h0:n=0
 ·subst h0
  go_enter Tryz.func142,Tryz.ntmps142
  go_wp2
  go_ret
  exact ⟨_,rfl,Below.refl _ _,World.ownsRow_nil _ _ _ _⟩
 ·obtain ⟨i,hi,he⟩:=Option.map_eq_some_iff.1 infoT'
  simp only[Prod.mk.injEq] at he
  obtain ⟨h1,h2,h3⟩:=he
  obtain ⟨z,hz,hz2⟩:=Option.map_eq_some_iff.1 h3
  have hr:=Lib.run_append_nil_zeros (P:=Tryz.prog) w 71 3 71 150 i z .i64 .i64 undS undI hi hz n (by omega) (by omega) (by omega) (by rw[h2];omega)
  have hcap:=grownCap_ge w n 0 150
  have hcap2:=grownCap_le_maxLen w n 0 150 (by unfold maxLen;omega)
  have hcs:(Builtin.zeroCells z.cells n++Builtin.zeroCells z.cells (grownCap w n 0 150-n)).size=grownCap w n 0 150*37:=by rw[Array.size_append,size_zeroCells,size_zeroCells,hz2];omega
  generalize grownCap w n 0 150=cp at hr hcap hcap2 hcs
  generalize Builtin.zeroCells z.cells n++Builtin.zeroCells z.cells (cp-n)=cur at hr hcs
  obtain ⟨w1,hw1⟩:∃ w1,Hid (w.drew.alloc (.cells cur 150)=w1):=⟨_,rfl⟩
  rw[hw1.out] at hr
  have HR:=Hid.mk' hr
  have K:Hid (Below w.heap.size w w1∧w1.ownsRow w.heap.size 150 37 (.slice (some ⟨w.heap.size,0,none⟩) 0 cp) 0 []):=by
   rw[← hw1.out]
   exact ⟨(Below.refl _ _).drew.alloc (Nat.le_refl _) _,World.ownsRow_made w.drew cur cp (Nat.le_refl _) hcap2 hcs⟩
  clear hr hw1 hcs hi hz hz2 h1 h2 h3
  have hn1:(0:Int)<(n:Int):=by omega
  have hn2:¬ ((n:Int)<0):=by omega
  have hw:IntKind.i64.wrap (n:Int)=n:=by rw[IntKind.wrap_i64];omega
  go_enter Tryz.func142,Tryz.ntmps142
  go_wp2_with (at_builtin;refine Lib.wpList_append_run _ rfl _ _ _ _ rfl _ _ rfl rfl _ _ HR.out ?_)
  go_ret
  exact ⟨_,rfl,K.out.1,K.out.2⟩
theorem cellsT_app (l m:List (Nat × Bs)):cellsT (l++m)=cellsT l++cellsT m:=by unfold cellsT;rw[List.flatMap_append]
theorem cellsT_ok (l:List (Nat × Bs)):∀ u∈cellsT l,u.oneCell'=true:=fun u hu=>by
 unfold cellsT at hu
 obtain ⟨x,-,hx⟩:=List.mem_flatMap.1 hu
 exact cells_one x.1 x.2 u hx
theorem cellsT_len:∀ {l:List (Nat × Bs)},(∀ x∈l,x.2.size=33)→(cellsT l).length=l.length*37
 | [],_=>rfl
 | x :: r,h=>by
  rw[cellsT_cons,List.length_append,row_len (h x List.mem_cons_self),cellsT_len fun y hy=>h y (List.mem_cons_of_mem _ hy),List.length_cons]
  omega
theorem own_appT {base B:Nat} {W:World} {v x:Value} {l m:List (Nat × Bs)} (hown:W.ownsRow base 150 37 v l.length (cellsT l)) (hm:∀ y∈m,y.2.size=33) (hx:Sm B W x m) (hn:l.length+m.length≤1000000) (hb:base≤W.heap.size) :
 ∃ v' W',(Builtin.append_ #[71,71] 71 #[v,x]).run Tryz.prog W=.ok v' W'∧W'.ownsRow base 150 37 v' (l++m).length (cellsT (l++m))∧W.grownBy W' v.ownBlock:=by
 obtain ⟨i,hi,he⟩:=Option.map_eq_some_iff.1 infoT'
 simp only[Prod.mk.injEq] at he
 obtain ⟨h1,h2,h3⟩:=he
 obtain ⟨z,hz,hz2⟩:=Option.map_eq_some_iff.1 h3
 obtain ⟨k,c,rfl,e1,e2,e3,e4⟩:=hx
 obtain ⟨v',W',r1,r2,r3,-⟩:=run_append_own (P:=Tryz.prog) W base 71 71 150 i z 37 72 undS hi hz h1 h2 hz2 (by decide) v l.length (cellsT l) hown ⟨k,0,none⟩ m.length c (cellsT m) (cellsT_len hm)
  (fun j u hj=>by
   have:=e4 j u hj
   rw[Nat.zero_add] at this
   rw[add0];exact this) (cellsT_ok m) (by unfold maxLen;omega) (by omega) hb
 exact ⟨v',W',r1,by rw[List.length_append,cellsT_app];exact r2,r3⟩
end
section
open Go.RowKit Go.Sort Go.Deep
variable {P:Nat} [NeZero P] {N:Nat}
theorem atS (k o n c i:Nat) (hi:i<n) (w:World):(Instr.indexAt 208 (.slice (some ⟨k,o,none⟩) n c) (.int .i64 i)).run Tryz.prog w=.ok (.pointer (some ⟨k,o+1*i,none⟩)) w:=by
 have h1:¬ (i:Int)<0:=by omega
 have h2:(i:Int)<n:=by omega
 go_simp
def catT (L:Nat→List (Nat × Bs)) (k:Nat):List (Nat × Bs):=(List.range k).flatMap L
theorem catT_succ (L:Nat→List (Nat × Bs)) (i:Nat):catT L (i+1)=catT L i++L i:=by
 unfold catT
 rw[List.range_succ,List.flatMap_append]
 simp
theorem catT_le (L:Nat→List (Nat × Bs)) {k m:Nat} (hs:∀ j,j<k→(L j).length≤m):∀ i,i≤k→(catT L i).length≤m*i
 | 0,_=>Nat.le_refl _
 | i+1,hi=>by
  have h1:=catT_le L hs i (by omega)
  have h2:=hs i (by omega)
  rw[catT_succ,List.length_append,Nat.mul_succ]
  omega
theorem concatT_c (g k c:Nat) (L:Nat→List (Nat × Bs)) (hk:k≤1000) (hs:∀ j,j<k→(L j).length≤600) (h33:∀ j,j<k→∀ x∈L j,x.2.size=33) (w:World) (hg:g<w.heap.size) (hL:∀ j,j<k→∃ x,w.cell? ⟨g,j,none⟩=some x∧Sm 0 w x (L j)) :
 Calls Tryz.prog 92 #[.slice (some ⟨g,0,none⟩) k c] w (Ret fun e w'=>Below w.heap.size w w'∧w'.ownsRow w.heap.size 150 37 e (catT L k).length (cellsT (catT L k))):=by
 have HL:=Hid.mk' hL
 have HS:Hid (∀ i,i≤k→(catT L i).length≤600*i):=catT_le L hs
 have HG:=Hid.mk' hg
 have H3:=Hid.mk' h33
 clear hL hs hg h33
 go_enter Tryz.func92,Tryz.ntmps92
 go_wp2_with fail
 go_loopg [3,11] k (fun m s3 s11 W=>∃ i:Nat,i+m=k∧s11=.int .i64 i∧s3=.int .i64 ((catT L i).length:Int)∧w=W)
 case atStart=>exact ⟨0,by omega,rfl,rfl,rfl⟩
 case round =>
  obtain ⟨i,hik,rfl,rfl,rfl⟩:=hrel
  by_cases hi:i<k
  ·have hi':(i:Int)<(k:Int):=by omega
   obtain ⟨x,hc,hE⟩:=HL.out i hi
   obtain ⟨kx,cx,rfl,h1,-⟩:=hE
   have hix:=atS g 0 k c i hi
   rw[show 0+1*i=i by omega] at hix
   have hlen:(catT L (i+1)).length=(catT L i).length+(L i).length:=by rw[catT_succ,List.length_append]
   have hb1:=HS.out i (by omega)
   have hb2:=HS.out (i+1) (by omega)
   obtain ⟨a,ha⟩:∃ a,Hid ((catT L i).length=a):=⟨_,rfl⟩
   obtain ⟨b,hb⟩:∃ b,Hid ((L i).length=b):=⟨_,rfl⟩
   rw[ha.out] at hlen hb1
   rw[hb.out] at hlen h1
   rw[ha.out]
   have hwr:IntKind.i64.wrap ((a:Int)+(b:Int))=((a+b:Nat):Int):=by rw[IntKind.wrap_i64];omega
   have hng:¬ (((a+b:Nat):Int)<0):=by omega
   rw[hb.out] at hc
   go_wp2
   go_roundg (gk-1)
   case measure=>omega
   case rel=>exact ⟨i+1,by omega,rfl,by rw[hlen,Int.natCast_add],rfl⟩
  ·have hi':¬ (i:Int)<(k:Int):=by omega
   obtain rfl:i=k:=by omega
   go_wp2_with fail
   refine (growT_c (catT L i).length (by have:=HS.out i (Nat.le_refl _);omega) w).mono ?_
   rintro e w1 ⟨v,rfl,hb1,ho1⟩
   have K1:Hid (Below w.heap.size w w1∧w1.ownsRow w.heap.size 150 37 v (catT L 0).length (cellsT (catT L 0))):=⟨hb1,ho1⟩
   clear hb1 ho1
   go_wp2_with fail
   go_loopg [6,27] i (fun m s6 s27 W=>∃ j:Nat,j+m=i∧s27=.int .i64 j∧Hid (Below w.heap.size w W∧W.ownsRow w.heap.size 150 37 s6 (catT L j).length (cellsT (catT L j))))
   case atStart=>exact ⟨0,by omega,rfl,K1⟩
   case round =>
    clear K1
    obtain ⟨j,hjk,rfl,KM⟩:=hrel
    by_cases hj:j<i
    ·have hj':(j:Int)<(i:Int):=by omega
     obtain ⟨x,hc0,hE0⟩:=HL.out j hj
     have hc:wr.cell? ⟨g,j,none⟩=some x:=by rw[KM.out.1.cell (p:=⟨g,j,none⟩) HG.out];exact hc0
     have hE:=hE0.grow KM.out.1
     have hb2:=HS.out (j+1) (by omega)
     have hlen:(catT L (j+1)).length=(catT L j).length+(L j).length:=by rw[catT_succ,List.length_append]
     obtain ⟨v',W',r1,r2,r3⟩:=own_appT KM.out.2 (H3.out j hj) hE (by rw[← hlen];omega) KM.out.1.size
     rw[← catT_succ] at r2
     have KN:Hid (Below w.heap.size w W'∧W'.ownsRow w.heap.size 150 37 v' (catT L (j+1)).length (cellsT (catT L (j+1)))):=⟨KM.out.1.grown r3 KM.out.1.size (fun k hk=>(KM.out.2.lt k hk).1),r2⟩
     have HAP:=Hid.mk' r1
     obtain ⟨kx,cx,rfl,-⟩:=hE
     have hix:=atS g 0 i c j hj
     rw[show 0+1*j=j by omega] at hix
     clear r1 r2 r3 hlen hb2 KM hE0 hc0
     go_wp2_with (first|(refine wpList_app (x:=u6) (y:=.slice (some ⟨kx,0,none⟩) (L j).length cx) (v:=v') (w':=W') rfl _ _ 71 rfl ?_ ?_ ?_ ?_;rfl;rfl;exact HAP.out)|fail)
     go_roundg (gk-1)
     case measure=>omega
     case rel=>exact ⟨j+1,by omega,rfl,KN⟩
    ·have hj':¬ (j:Int)<(i:Int):=by omega
     obtain rfl:j=i:=by omega
     go_wp2
     go_ret
     exact ⟨_,rfl,KM.out.1,KM.out.2⟩
theorem owns_sm {W:World} {base:Nat} {v:Value} {l:List (Nat × Bs)} (h:W.ownsRow base 150 37 v l.length (cellsT l)) (hl:0<l.length):Sm base W v l:=by
 have h0:=fun {g:Nat}=>h.cells (g:=g)
 rcases h.2 with ⟨-,h2⟩|⟨g,cap,cur,rfl,h1,hc,hn,-⟩
 ·omega
 ·refine ⟨g,cap,rfl,hn,h1,(Array.getElem?_eq_some_iff.1 hc).1,fun j u hu=>?_⟩
  have:=h0 (g:=g) rfl j u hu
  rw[add0] at this
  rw[Nat.zero_add]
  exact this
theorem sumPlus_c (B:Nat) (s t:Value) (l m:List (Nat × Bs)) (hl0:0<l.length) (hl:l.length≤500) (hm:m.length≤500) (hl3:∀ x∈l,x.2.size=33) (hm3:∀ x∈m,x.2.size=33) (w:World) (h1:Sm B w s l) (h2:Sm B w t m) :
 Calls Tryz.prog 38 #[s,t] w (Ret fun e w'=>Below w.heap.size w w'∧Sm w.heap.size w' e (l++m)):=by
 have hb0:=hl0
 obtain ⟨g1,c1,e1,-⟩:=id h1
 obtain ⟨g2,c2,e2,-⟩:=id h2
 subst e1
 subst e2
 obtain ⟨w1,hw1⟩:∃ w1,Hid (w.alloc (.cells #[.slice (some ⟨g1,0,none⟩) l.length c1,.slice (some ⟨g2,0,none⟩) m.length c2] 71)=w1):=⟨_,rfl⟩
 have hb:Below w.heap.size w w1:=by rw[← hw1.out];exact below1 _ _
 have hlt:w.heap.size<w1.heap.size:=by rw[← hw1.out,World.size_alloc];omega
 have hM:w1.rangeAt w.heap.size 0 [.slice (some ⟨g1,0,none⟩) l.length c1,.slice (some ⟨g2,0,none⟩) m.length c2]:=by rw[← hw1.out];exact (RG.Made.alloc w [.slice (some ⟨g1,0,none⟩) l.length c1,.slice (some ⟨g2,0,none⟩) m.length c2] 71).range
 have HC:=Hid.mk' (concatT_c w.heap.size 2 2 (fun j=>if j=0 then l else m) (by decide) (fun j _=>by show (if j=0 then l else m).length≤600;split<;>omega) (fun j _=>by
  show ∀ x∈(if j=0 then l else m),x.2.size=33
  split
  ·exact hl3
  ·exact hm3) w1 hlt (fun j hj=>by
  have hz:∀ {v:Value} {l:List (Nat × Bs)},Sm B w v l→Sm 0 w1 v l:=fun h=>by
   obtain ⟨g,c,q1,q2,-,q4,q5⟩:=h.grow hb
   exact ⟨g,c,q1,q2,Nat.zero_le _,q4,q5⟩
  have hj2:j=0∨j=1:=by omega
  rcases hj2 with rfl|rfl
  ·exact ⟨_,hM 0 _ rfl,hz h1⟩
  ·exact ⟨_,hM 1 _ rfl,hz h2⟩))
 have hcat:catT (fun j=>if j=0 then l else m) 2=l++m:=by rw[catT_succ,catT_succ];rfl
 have HB:=Hid.mk' hb
 have HK:Hid (catT (fun j=>if j=0 then l else m) 2=l++m∧0<(l++m).length):=⟨hcat,by rw[List.length_append];omega⟩
 clear h1 h2 hM hlt hb hcat hl3 hm3
 go_enter Tryz.func38,Tryz.ntmps38
 go_wp2_with fail
 rw[hw1.out]
 refine HC.out.mono ?_
 rintro e w2 ⟨vv,rfl,hb2,ho⟩
 rw[HK.out.1] at ho
 have K2:Hid (Below w.heap.size w w2∧Sm w.heap.size w2 vv (l++m)):=by
  obtain ⟨g,c,q1,q2,q3,q4,q5⟩:=owns_sm ho HK.out.2
  exact ⟨HB.out.trans (hb2.mono HB.out.size),g,c,q1,q2,Nat.le_trans HB.out.size q3,q4,q5⟩
 clear hb2 ho HC
 go_wp2
 go_ret
 exact ⟨_,rfl,K2.out.1,K2.out.2⟩
theorem Sm.point (C:Fld P) (O:Ord N) (hord:∀ r:EC.Pt P,EC.On r→EC.mul N r=none) {B:Nat} {w:World} {v:Value} {l:List (Nat × Bs)} (h:Sm B w v l) (hl0:0<l.length) (hl:l.length≤512) (hn:∀ x∈l,x.1<N) (hp:PtsL P l) :
 Calls Tryz.prog 39 #[v] w (Ret fun e w'=>Below w.heap.size w w'∧e=pvl (wr (sumL P l))):=by
 obtain ⟨g,c,rfl,-,-,hg,hr⟩:=h
 have h33:∀ x∈l.map (·.2),x.size=33:=fun x hx=>by
  obtain ⟨y,hy,rfl⟩:=List.mem_map.1 hx
  obtain ⟨X,-,e⟩:=hp y hy
  rw[e];exact wr_size _
 have hm:∀ j (hj:j<l.length),((l[j]?).getD (0,#[]))=l[j]:=fun j hj=>by rw[List.getElem?_eq_getElem hj];rfl
 have hX:∀ j,j<l.length→EC.On (unwr P ((l[j]?).getD (0,#[])).2):=fun j hj=>by rw[hm j hj];exact hp.on C (List.getElem_mem hj)
 refine (sumPoint_c C O hord g l.length c hl0 hl (fun j=>((l[j]?).getD (0,#[])).1) (fun j=>unwr P ((l[j]?).getD (0,#[])).2) (fun j hj=>by rw[hm j hj];exact hn _ (List.getElem_mem hj)) hX w hg (fun j hj=>?_)).mono ?_
 ·rw[hm j hj]
  obtain ⟨X,x1,x2⟩:=hp _ (List.getElem_mem hj)
  rw[x2,unwr_wr C x1,← x2]
  intro t u hu
  have ht:t<37:=by
   have:=(List.getElem?_eq_some_iff.1 hu).1
   rw[row_len (h33 _ (List.mem_map.2 ⟨_,List.getElem_mem hj,rfl⟩))] at this
   exact this
  have:=hr (37*j+t) u (by rw[cellsT_at l h33 j hj t ht];exact hu)
  rw[Nat.zero_add] at this
  exact this
 ·rintro e w' ⟨u,rfl,hb,rfl⟩
  refine ⟨_,rfl,hb,?_⟩
  rw[tot_sumL C l hp _ (Nat.le_refl _),List.take_length]
theorem results_ct {P:Program} {fn:Func} {tmps:Array Value} {W:World} {k:Nat} {vs:List Value} {v:Value} (t u:Tmp) (T:TypeId) (hr:fn.results=#[.cell t T,.tmp u]) (h:Row W k vs) (ht:tmps[t]? = some (.pointer (some ⟨k,0,none⟩))) (hv:tmps[u]? = some v)
 (hu:(P.underlying T).map (·.isRow)=some true) (hi:(P.info? T).map (·.size)=some vs.length):(results fn tmps).run P W=.ok (.tuple #[.agg vs.toArray,v]) W:=by
 obtain ⟨d,hu,hd⟩:=Option.map_eq_some_iff.1 hu
 have h1:=run_loadVar_mid (P:=P) W k 0 T vs d h.2.1 hu hd hi
 have h2:tmps.getD t undef=.pointer (some ⟨k,0,none⟩):=by rw[Array.getD_eq_getD_getElem?,ht];rfl
 have h3:tmps.getD u undef=v:=by rw[Array.getD_eq_getD_getElem?,hv];rfl
 unfold results
 rw[hr]
 simp only[Array.mapM_eq_mapM_toList,List.mapM_cons,List.mapM_nil,h2,h3,asAddr]
 simp[Sem.run_bind,h1]
theorem bldCP (w:World):(Instr.build 47 #[]).run Tryz.prog w=.ok (.agg z33.toArray) w:=by kernel_rfl
theorem arrCPo (g o cg:Nat) (w:World):(Instr.arrayAt 47 (.slice (some ⟨g,o,none⟩) 33 cg)).run Tryz.prog w=.ok (.pointer (some ⟨g,o,none⟩)) w:=by kernel_rfl
theorem rd_33 {bs:Bs} {p:Fin P × Fin P} (h:rd P bs=some p):bs.size=33:=by
 unfold rd at h
 split at h
 ·assumption
 ·cases h
theorem holds_rng {W:World} {g o:Nat} {b:Bs} (h:Holds encB W g o b):W.rangeAt g o (bl33 b):=fun j u hu=>by
 unfold bl33 at hu
 rw[List.getElem?_map] at hu
 obtain ⟨x,hx,rfl⟩:=Option.map_eq_some_iff.1 hu
 have hj:j<b.size:=by have:=(List.getElem?_eq_some_iff.1 hx).1;simpa using this
 rw[(h j hj).1,getElem!_pos b j hj]
 rw[Array.getElem?_toList,Array.getElem?_eq_getElem hj] at hx
 rw[Option.some.inj hx]
theorem cRead_y (C:Fld P) (v:Value) (bs:Bs) (p:Fin P × Fin P) (w:World) (hv:Arg33 w v bs) (hr:rd P bs=some p):Calls Tryz.prog 34 #[v] w (Ret fun e w'=>Below w.heap.size w w'∧e=.tuple #[pvl bs,.bool true]):=by
 have hs:=rd_33 hr
 have HG:Hid (∀ W,Below w.heap.size w W→Calls Tryz.prog 89 #[v] W (Ret fun e w'=>Below W.heap.size W w'∧e=.bool true)):=fun W hb=>by
  have h:=gPoint_c C v bs W (hv.below hb)
  rw[hr] at h
  exact h
 obtain ⟨q,n,cap,rfl,e1,e2⟩:=hv
 rw[hs] at e1
 subst e1
 obtain ⟨g,o,rfl,-,hg,hH⟩:=e2 rfl
 have HH:Hid (w.rangeAt g o (bl33 bs)∧g<w.heap.size):=⟨holds_rng hH,hg⟩
 obtain ⟨w1,hw1⟩:∃ w1,Hid (w.alloc (.cells z33.toArray 47)=w1):=⟨_,rfl⟩
 have K1:Hid (Row w1 w.heap.size z33∧Below w.heap.size w w1):=by rw[← hw1.out];exact ⟨row_new w _ _,below1 w _⟩
 obtain ⟨d,hd1,hd2⟩:=Option.map_eq_some_iff.1 uCP
 have HD:Hid (Tryz.prog.underlying 47=some d∧d.isRow=true):=⟨hd1,hd2⟩
 have HS:=Hid.mk' hs
 have harr:=arrCPo g o cap
 clear hd1 hd2 C hr hs hH hg e2
 go_enter Tryz.func34,Tryz.ntmps34
 go_wp2_with (first|(refine wpList_op (v:=.pointer (some ⟨w.heap.size,0,none⟩)) (w':=w1) rfl (.alloc 47) rfl ?_ ?_;(rw[← hw1.out];kernel_rfl))|fail)
 refine (HG.out w1 K1.out.2).mono ?_
 rintro e w2 ⟨vv,rfl,hb2,rfl⟩
 have K2:Hid (Row w2 w.heap.size z33∧Below w.heap.size w w2∧w2.rangeAt g o (bl33 bs)):=⟨K1.out.1.below hb2,K1.out.2.trans (hb2.mono K1.out.2.size),RG.range_below HH.out.1 (K1.out.2.trans (hb2.mono K1.out.2.size)) HH.out.2⟩
 clear hb2 K1 hw1 HG
 obtain ⟨w3,hw3⟩:∃ w3,Hid (w2.setCells w.heap.size 0 (bl33 bs)=w3):=⟨_,rfl⟩
 have hlen:(bl33 bs).length=33:=bl33_length HS.out
 have K3:Hid (Row w3 w.heap.size (bl33 bs)∧Below w.heap.size w w3):=by rw[← hw3.out];exact ⟨K2.out.1.put (by rw[hlen];rfl),RG.below_setCells (Nat.le_refl _) _ _ _ K2.out.2.1⟩
 obtain ⟨vt,hvt⟩:∃ vt,Hid (Value.agg (bl33 bs).toArray=vt):=⟨_,rfl⟩
 have HI:Hid ((Tryz.prog.info? 47).map (·.size)=some (bl33 bs).length∧w2.there w.heap.size 0 (bl33 bs).toArray.size∧(Tryz.prog.info? 47).map (·.size)=some (bl33 bs).toArray.size):=by
  have e:(bl33 bs).toArray.size=33:=by rw[List.size_toArray];exact hlen
  refine ⟨by rw[hlen];exact infoCP,by rw[e];exact K2.out.1.2.2,by rw[e];exact infoCP⟩
 clear hlen
 go_wp2_with (first|(refine wpList_load_mid rfl 47 _ rfl g o ?_ (bl33 bs) d ?_ ?_ ?_ ?_ ?_;rfl;exact K2.out.2.2;exact HD.out.1;exact HD.out.2;exact HI.out.1;rw[hvt.out])|(refine wpList_store_mid rfl 47 _ _ rfl w.heap.size 0 (bl33 bs).toArray ?_ ?_ ?_ ?_ ?_ ?_;rfl;exact hvt.out.symm;exact HI.out.2.1;exact HI.out.2.2;exact bl33_one bs;rw[show (bl33 bs).toArray.toList=bl33 bs from rfl,hw3.out])|fail)
 refine bodyPost_ret (results_ct 2 3 47 rfl K3.out.1 rfl rfl uCP HI.out.1) rfl ?_
 exact ⟨_,rfl,K3.out.2,rfl⟩
theorem cRead_n (C:Fld P) (v:Value) (bs:Bs) (w:World) (hv:Arg33 w v bs) (hr:rd P bs=none):Calls Tryz.prog 34 #[v] w (Ret fun e w'=>Below w.heap.size w w'∧e=.tuple #[.agg z33.toArray,.bool false]):=by
 have HG:Hid (∀ W,Below w.heap.size w W→Calls Tryz.prog 89 #[v] W (Ret fun e w'=>Below W.heap.size W w'∧e=.bool false)):=fun W hb=>by
  have h:=gPoint_c C v bs W (hv.below hb)
  rw[hr] at h
  exact h
 clear hv hr C
 obtain ⟨w1,hw1⟩:∃ w1,Hid (w.alloc (.cells z33.toArray 47)=w1):=⟨_,rfl⟩
 have K1:Hid (Row w1 w.heap.size z33∧Below w.heap.size w w1):=by rw[← hw1.out];exact ⟨row_new w _ _,below1 w _⟩
 obtain ⟨vt,hvt⟩:∃ vt,Hid (Value.agg z33.toArray=vt):=⟨_,rfl⟩
 have HO:Hid (z33.toArray.all (·.oneCell')=true):=by show _=_;decide +kernel
 go_enter Tryz.func34,Tryz.ntmps34
 go_wp2_with (first|(refine wpList_op (v:=.pointer (some ⟨w.heap.size,0,none⟩)) (w':=w1) rfl (.alloc 47) rfl ?_ ?_;(rw[← hw1.out];kernel_rfl))|fail)
 refine (HG.out w1 K1.out.2).mono ?_
 rintro e w2 ⟨vv,rfl,hb2,rfl⟩
 have K2:Hid (Row w2 w.heap.size z33∧Below w.heap.size w w2):=⟨K1.out.1.below hb2,K1.out.2.trans (hb2.mono K1.out.2.size)⟩
 clear hb2 K1 hw1 HG
 obtain ⟨w3,hw3⟩:∃ w3,Hid (w2.setCells w.heap.size 0 z33=w3):=⟨_,rfl⟩
 have K3:Hid (Row w3 w.heap.size z33∧Below w.heap.size w w3):=by rw[← hw3.out];exact ⟨K2.out.1.put rfl,RG.below_setCells (Nat.le_refl _) _ _ _ K2.out.2⟩
 have HB:=Hid.mk' (bldCP w2)
 rw[hvt.out] at HB
 go_wp2_with (first|(refine wpList_bld (v:=vt) (w':=w2) rfl 47 _ rfl #[] ?_ ?_ ?_;kernel_rfl;exact HB.out)|(refine wpList_store_mid rfl 47 _ _ rfl w.heap.size 0 z33.toArray ?_ ?_ ?_ ?_ ?_ ?_;rfl;exact hvt.out.symm;exact K2.out.1.2.2;exact infoCP;exact HO.out;rw[show z33.toArray.toList=z33 from rfl,hw3.out])|fail)
 refine bodyPost_ret (results_ct 2 3 47 rfl K3.out.1 rfl rfl uCP infoCP) rfl ?_
 exact ⟨_,rfl,K3.out.2,rfl⟩
def o33:Bs:=Array.replicate 33 0
theorem o33_pvl:(.agg z33.toArray:Value)=pvl o33:=by
 unfold pvl z33 o33 bl33
 rw[Array.toList_replicate,List.map_replicate]
 rfl
theorem nePt {a b:Bs} (ha:a.size=33) (hb:b.size=33) (w:World):(binOp .neq 47 (pvl a) (pvl b)).run Tryz.prog w=.ok (.bool (!decide (a=b))) w:=by
 have h:=eqCP ha hb w
 have h2:(binOp .neq 47 (pvl a) (pvl b)).run Tryz.prog w=(Op.equal 47 (pvl a) (pvl b) >>= fun b=>pure (Value.bool (!b))).run Tryz.prog w:=rfl
 rw[h2,Sem.run_bind]
 have h3:(Op.equal 47 (pvl a) (pvl b)).run Tryz.prog w=.ok (decide (a=b)) w:=h
 rw[h3]
 rfl
noncomputable def rdB (P:Nat) [NeZero P] (b:Bs):Bs:=if (rd P b).isSome then b else o33
theorem rdB_size (b:Bs):(rdB P b).size=33:=by
 unfold rdB
 split
 ·rename_i h
  obtain ⟨p,hp⟩:=Option.isSome_iff_exists.1 h
  exact rd_33 hp
 ·rfl
theorem cRead_c (C:Fld P) (v:Value) (b:Bs) (w:World) (hv:Arg33 w v b):Calls Tryz.prog 34 #[v] w (Ret fun e w'=>Below w.heap.size w w'∧e=.tuple #[pvl (rdB P b),.bool (rd P b).isSome]):=by
 unfold rdB
 cases hr:rd P b with
 | none =>
  have:=cRead_n C v b w hv hr
  rw[o33_pvl] at this
  exact this
 | some p=>exact cRead_y C v b p w hv hr
noncomputable def real (P:Nat) [NeZero P] (b:Bs):Bool:=(rd P b).isSome && !decide (rdB P b=o33)
def FCs_2t (f g:Nat→UInt8) (z:Bool):List RG.It:=[.x 11 [] (fpv f),.x 12 [] (.bool true),.x 13 [(12,1)] (.bool true),.x 14 [] (fpv f),.x 15 [] (fpv fun _=>0),.x 16 [(14,3),(15,4)] (.bool z),.x 17 [(13,2),(16,5)] (.bool z),.u [(11,0)] 0,.x 3 [(17,6)] (.bool z)]
theorem o33_fpv:pvl o33=fpv fun _=>0:=o33_pvl.symm.trans rfl
theorem rsome_c (C:Fld P) (v:Value) (b:Bs) (w:World) (hv:Arg33 w v b):Calls Tryz.prog 53 #[v] w (Ret fun e w'=>Below w.heap.size w w'∧e=.tuple #[pvl (rdB P b),.bool (real P b)]):=by
 have hR:∀ w',RG.BelX w.heap.size [] w w'→Calls Tryz.prog 34 #[v] w' (Ret fun e w''=>Below w'.heap.size w' w''∧e=.tuple #[pvl (rdB P b),.bool (rd P b).isSome]):=fun w' hb=>cRead_c C v b w' (hv.below hb.below)
 have hne:=nePt (rdB_size (P:=P) b) (show o33.size=33 from rfl)
 unfold real
 rw[pvl_fl (rdB_size b)] at hR hne ⊢
 rw[o33_fpv] at hne
 generalize (fun i:Nat=>(rdB P b)[i]!)=f at hR hne ⊢
 generalize (rd P b).isSome=ok at hR ⊢
 generalize (!decide (rdB P b=o33))=z at hne ⊢
 go_enter Tryz.func53,Tryz.ntmps53
 refine RG.M.enter [(0,.v v)] 18 (by kernel_rfl) ?_
 intro a0 M0
 repeat refine wp_seq ?_
 refine M0.t [.m 2 [] 0,.x 3 [] (.bool false)] [(0,zz 33)] [] [zz 33] [(0,.v v),(2,.p 0 0),(3,.v (.bool false))] ⟨RG.mk 0 47,RG.st,trivial⟩ ?_
 intro j1 a1 w1 M1
 repeat refine wp_seq ?_
 refine M1.t [.x 7 [] v,.c 8 [(7,0)] (.tuple #[fpv f,.bool ok]),.x 6 [(8,1)] (.tuple #[fpv f,.bool ok]),.x 9 [(6,2)] (fpv f),.x 10 [(6,2)] (.bool ok),.m 4 [] 1,.u [(4,5),(9,3)] 1,.x 5 [(10,4)] (.bool ok)] [(5,zz 33)] [(1,6,fl33 f)] [zz 33,fl33 f] [(2,.p 0 0),(4,.p 1 0),(5,.v (.bool ok))] ⟨RG.st,RG.clB (fun _ _=>by kernel_rfl) hR,RG.st,RG.st,RG.st,RG.mk 1 47,RG.pt infoCP,RG.st,trivial⟩ ?_
 intro j2 a2 w2 M2
 repeat refine wp_seq ?_
 cases ok with
 | true =>
  refine M2.d (FCs_2t f f z) [] [(0,7,fl33 f)] [fl33 f,fl33 f] [(2,.p 0 0),(3,.v (.bool z))] ⟨RG.ld uCP infoCP,RG.st,RG.st,RG.ld uCP infoCP,RG.st,RG.cert_bin rfl .neq 47 47 14 15 (fpv f) (fpv fun _=>0) (.bool z) rfl rfl RG.sx RG.sx (fun w=>by kernel_rfl) hne,RG.st,RG.pt infoCP,RG.st,trivial⟩ ?_
  intro a4 w4 M4
  refine wp_ret ?_
  refine bodyPost_ret (v:=.tuple #[fpv f,.bool z]) (RG.results_rt M4.st 2 3 47 rfl 0 _ rfl (M4.at (s:=.p 0 0)) (.bool z) M4.av uCP infoCP) M4.sl.defers ?_
  exact ⟨_,rfl,M4.st.bel.below,rfl⟩
 | false =>
  refine M2.d [.x 11 [] (fpv f),.x 12 [] (.bool false),.x 13 [(12,1)] (.bool false),⟨some 14,[],(.v undef),.pass⟩,⟨some 15,[],(.v undef),.pass⟩,⟨some 16,[],(.v undef),.pass⟩,.x 17 [(13,2),(16,5)] (.bool false),.u [(11,0)] 0,.x 3 [(17,6)] (.bool false)] [] [(0,7,fl33 f)] [fl33 f,fl33 f] [(2,.p 0 0),(3,.v (.bool false))] ⟨RG.ld uCP infoCP,RG.st,RG.st,RG.cert_pass rfl rfl,RG.cert_pass rfl rfl,RG.cert_pass rfl rfl,RG.st,RG.pt infoCP,RG.st,trivial⟩ ?_
  intro a4 w4 M4
  refine wp_ret ?_
  refine bodyPost_ret (v:=.tuple #[fpv f,.bool false]) (RG.results_rt M4.st 2 3 47 rfl 0 _ rfl (M4.at (s:=.p 0 0)) (.bool false) M4.av uCP infoCP) M4.sl.defers ?_
  exact ⟨_,rfl,M4.st.bel.below,rfl⟩
end
section
open Go.RowKit Go.Sort Go.Deep
variable {P:Nat} [NeZero P] {N:Nat}
section
variable (w:World) (k6 k8 k9 k10 x kk c z B0:Nat) (X A B F G:Bs)
def RP8:Nat→Value→World→Prop
 | 0,v,_=>v=pvl X
 | 1,v,_=>v=nv x
 | 2,v,_=>v=pvl X
 | 3,v,_=>v=prv A B
 | 4,v,_=>v=nv kk
 | 5,v,_=>v=pvl X
 | 6,v,_=>v=prv F G
 | 7,v,_=>v=nv c
 | 8,v,W=>Nw B0 [.int .u64 0,.int .u64 0,.int .u64 0,.int .u64 0] v W
 | _,_,_=>True
def GP8:RG.Gw:=⟨RP8 x kk c B0 X A B F G,fun W=>Kp w W [(k9,wn kk),(k8,bl33 X),(k6,wn x)]∧B0≤W.heap.size,fun i v W W' hb h=>by
 match i,h with
 | 0,h=>exact h
 | 1,h=>exact h
 | 2,h=>exact h
 | 3,h=>exact h
 | 4,h=>exact h
 | 5,h=>exact h
 | 6,h=>exact h
 | 7,h=>exact h
 | 8,h=>exact Nw.grow h hb
 | _+9,_=>trivial,fun W W' hb h=>⟨h.1.grow hb,Nat.le_trans h.2 hb.size⟩⟩
def Twn (v:Value) (W:World):Prop:=∃ k y0 y1,v=.slice (some ⟨k,0,none⟩) 2 2∧k<W.heap.size∧W.cell? ⟨k,0,none⟩=some y0∧W.cell? ⟨k,1,none⟩=some y1∧El 32 W y0 (bx c)∧El 32 W y1 (bx z)
def Anp (v:Value) (W:World):Prop:=W.ownsRow B0 5 1 v 64 (((bx c).toList++(bx z).toList).map encB)
def RP9:Nat→Value→World→Prop
 | 0,v,_=>v=nv c
 | 1,v,W=>El 32 W v (bx c)
 | 2,v,_=>v=nv c
 | 3,v,_=>v=nv kk
 | 4,v,_=>v=nv x
 | 5,v,_=>v=nv z
 | 6,v,W=>El 32 W v (bx z)
 | 7,v,W=>Twn c z v W
 | 8,v,W=>Anp c z B0 v W
 | 9,v,W=>Anp c z B0 v W
 | 10,v,_=>v=.int .i64 0
 | _,_,_=>True
theorem Anp.grow {v:Value} {W W':World} (h:Anp c z B0 v W) (hb:Below W.heap.size W W'):Anp c z B0 v W':=
 h.kept (row:=none) ⟨hb.os,hb.tape,hb.output,hb.size,fun k hk _=>hb.block k hk⟩ (by cases hv:v.ownBlock<;>simp)
theorem Twn.grow {v:Value} {W W':World} (h:Twn c z v W) (hb:Below W.heap.size W W'):Twn c z v W':=by
 obtain ⟨k,y,y',h1,h2,h3,h4,h5,h6⟩:=h
 exact ⟨k,y,y',h1,Nat.lt_of_lt_of_le h2 hb.size,by rw[hb.cell (p:=⟨k,0,none⟩) h2];exact h3,by rw[hb.cell (p:=⟨k,1,none⟩) h2];exact h4,h5.below hb (Nat.le_refl _),h6.below hb (Nat.le_refl _)⟩
def GP9:RG.Gw:=⟨RP9 x kk c z B0,fun W=>Kp w W [(k10,wn c),(k9,wn kk),(k8,bl33 X),(k6,wn x)]∧B0≤W.heap.size,fun i v W W' hb h=>by
 match i,h with
 | 0,h=>exact h
 | 1,h=>exact El.below h hb (Nat.le_refl _)
 | 2,h=>exact h
 | 3,h=>exact h
 | 4,h=>exact h
 | 5,h=>exact h
 | 6,h=>exact El.below h hb (Nat.le_refl _)
 | 7,h=>exact Twn.grow c z h hb
 | 8,h=>exact Anp.grow c z B0 h hb
 | 9,h=>exact Anp.grow c z B0 h hb
 | 10,h=>exact h
 | _+11,_=>trivial,fun W W' hb h=>⟨h.1.grow hb,Nat.le_trans h.2 hb.size⟩⟩
end
theorem catTwo (a b:Bs):catL (fun j=>if j=0 then a else b) 2=a.toList++b.toList:=by
 rw[catL_succ,catL_succ];rfl
theorem el2 {W:World} {y0 y1:Value} {a b:Bs} {k':Nat} (ha:a.size=32) (hb:b.size=32) (h2:W.cell? ⟨k',0,none⟩=some y0) (h3:W.cell? ⟨k',1,none⟩=some y1) (h4:El 32 W y0 a) (h5:El 32 W y1 b) (j:Nat) (hj:j<2):∃ x,W.cell? ⟨k',j,none⟩=some x∧El ((fun j=>if j=0 then a else b) j).size W x ((fun j=>if j=0 then a else b) j):=by
 have hj2:j=0∨j=1:=by omega
 rcases hj2 with rfl|rfl
 ·refine ⟨_,h2,?_⟩
  show El a.size W y0 a
  rw[ha];exact h4
 ·refine ⟨_,h3,?_⟩
  show El b.size W y1 b
  rw[hb];exact h5
def nonceM:ByteArray:=⟨#[110,111,110,99,101,32,115,97,109,101]⟩
theorem psame_y (C:Fld P) (O:Ord N) (p0 p1:Option Addr) (n0 c0 n1 c1:Nat) (sk:Bs) (w:World) (hA:Arg w (.slice p0 n0 c0) sk) (h0:SP.PartOk w (.slice p0 n0 c0) sk.toList) (X:EC.Pt P) (hX:EC.On X) (hA1:Arg33 w (.slice p1 n1 c1) (wr X)) (h1:SP.PartOk w (.slice p1 n1 c1) (wr X).toList) (hre:real P (wr X)=true)
 (x:Nat) (hx:rq N sk=some x) (hx0:x≠0) (kk c z:Nat) (hkk:chL N nonceM.data.toList [sk.toList,(wr X).toList]=kk)
 (hc:asm N (wr X).toList (wr (EC.mul x (gG P))).toList (wr (EC.mul x X)).toList (wr (EC.mul kk (gG P))).toList (wr (EC.mul kk X)).toList=c) (hz:sPl N kk (sTi N c x)=z) :
 Calls Tryz.prog 14 #[.slice p0 n0 c0,.slice p1 n1 c1] w (Ret fun e w'=>Below w.heap.size w w'∧∃ v,e=.tuple #[v,.int .i64 0]∧Anp c z w.heap.size v w'):=by
 have hxN:x<N:=by
  unfold rq at hx
  split at hx
  ·rename_i h
   rw[← Option.some.inj hx];exact h.2
  ·cases hx
 have hkN:kk<N:=by rw[← hkk];exact redu_lt O _
 have hcN:c<N:=by rw[← hc];exact asm_lt O _ _ _ _ _
 have hR:=rsecret_c O (.slice p0 n0 c0) sk w hA
 rw[hx] at hR
 have e1:(!decide (x=0))=true:=by simp[hx0]
 rw[show (some x).getD 0=x from rfl,show ((some x).isSome && !decide (x=0))=true by rw[e1];rfl] at hR
 have HR:=Hid.mk' hR
 have hrB:rdB P (wr X)=wr X:=by
  unfold rdB
  unfold real at hre
  rw[if_pos ((Bool.and_eq_true _ _).mp hre).1]
 have HS:Hid (∀ W,Below w.heap.size w W→Calls Tryz.prog 53 #[.slice p1 n1 c1] W (Ret fun e w'=>Below W.heap.size W w'∧e=.tuple #[pvl (wr X),.bool true])):=fun W hb=>by
  have:=rsome_c C (.slice p1 n1 c1) (wr X) W (hA1.below hb)
  rw[hrB,hre] at this
  exact this
 have HC:Hid (Ord N∧x<N∧kk<N∧c<N∧sPl N kk (sTi N c x)=z):=⟨O,hxN,hkN,hcN,hz⟩
 have HP:Hid (SP.PartOk w (.slice p0 n0 c0) sk.toList∧SP.PartOk w (.slice p1 n1 c1) (wr X).toList):=⟨h0,h1⟩
 have HK:=Hid.mk' hkk
 have HP1:=Hid.mk' (pairOf_c C O hxN hX)
 have HP2:=Hid.mk' (pairOf_c C O hkN hX)
 have HQ:=Hid.mk' (sSame_c O (wr X) (wr (EC.mul x (gG P))) (wr (EC.mul x X)) (wr (EC.mul kk (gG P))) (wr (EC.mul kk X)) (wr_size _) (wr_size _) (wr_size _) (wr_size _) (wr_size _))
 rw[hc] at HQ
 have HF:Hid ((wr X).size=33):=wr_size _
 clear hc hkk hre hrB h1 hA1
 generalize wr X=Y at HS HP HK HP1 HP2 HQ HF
 generalize wr (EC.mul x (gG P))=A at HP1 HQ
 generalize wr (EC.mul x X)=B at HP1 HQ
 generalize wr (EC.mul kk (gG P))=F at HP2 HQ
 generalize wr (EC.mul kk X)=G at HP2 HQ
 clear C O hA h0 hx hx0 hz hxN hkN hcN hR e1 hX
 obtain ⟨vx,hvx⟩:∃ v,Hid (nv x=v):=⟨_,rfl⟩
 rw[hvx.out] at HR
 obtain ⟨vY,hvY⟩:∃ v,Hid (pvl Y=v):=⟨_,rfl⟩
 rw[hvY.out] at HS
 obtain ⟨d',hd3,hd4⟩:=Option.map_eq_some_iff.1 u40
 have HD:Hid (Tryz.prog.underlying 43=some d'∧d'.isRow=true):=⟨hd3,hd4⟩
 clear hd3 hd4
 go_enter Tryz.func14,Tryz.ntmps14
 go_wp2_with fail
 refine HR.out.mono ?_
 rintro e w1 ⟨vv,rfl,hb1,rfl⟩
 obtain ⟨w2,hw2⟩:∃ w2,Hid (w1.alloc (.cells #[.int .u64 0,.int .u64 0,.int .u64 0,.int .u64 0] 43)=w2):=⟨_,rfl⟩
 obtain ⟨w3,hw3⟩:∃ w3,Hid (w2.setCells w1.heap.size 0 (wn x)=w3):=⟨_,rfl⟩
 obtain ⟨k6,hk6⟩:∃ k6,Hid (w1.heap.size=k6):=⟨_,rfl⟩
 rw[hk6.out] at hw3
 have F2:Hid (Row w2 k6 [.int .u64 0,.int .u64 0,.int .u64 0,.int .u64 0]∧Below w.heap.size w w2∧w.heap.size≤k6):=by
  rw[← hw2.out,← hk6.out]
  exact ⟨row_new w1 _ _,hb1.alloc hb1.size _,hb1.size⟩
 have K3:Hid (Kp w w3 [(k6,wn x)]):=by
  rw[← hw3.out]
  exact ⟨RG.below_setCells F2.out.2.2 _ _ _ F2.out.2.1,fun y hy=>by rw[show y=(k6,wn x) by simpa using hy];exact F2.out.1.put rfl⟩
 clear hb1 HR
 go_wp2_with (first|(refine wpList_op (v:=.pointer (some ⟨k6,0,none⟩)) (w':=w2) rfl (.alloc 43) rfl ?_ ?_;(rw[← hw2.out,← hk6.out];kernel_rfl))|(refine wpList_store_mid rfl 43 _ _ rfl k6 0 (wn x).toArray ?_ ?_ ?_ ?_ ?_ ?_;rfl;exact hvx.out.symm;exact F2.out.1.2.2;exact i40;exact wn_one x;rw[show (wn x).toArray.toList=wn x from rfl,hw3.out])|fail)
 clear hw2 hw3 hk6 F2
 refine (HS.out w3 K3.out.bl).mono ?_
 rintro e v1 ⟨vv,rfl,hb1,rfl⟩
 have K3b:Hid (Kp w v1 [(k6,wn x)]):=K3.out.grow hb1
 clear hb1 HS
 obtain ⟨v2,hv2⟩:∃ v2,Hid (v1.alloc (.cells z33.toArray 47)=v2):=⟨_,rfl⟩
 obtain ⟨k8,hk8⟩:∃ k8,Hid (v1.heap.size=k8):=⟨_,rfl⟩
 obtain ⟨v3,hv3⟩:∃ v3,Hid (v2.setCells k8 0 (bl33 Y)=v3):=⟨_,rfl⟩
 have hlen:(bl33 Y).length=33:=bl33_length HF.out
 have F3:Hid (Row v2 k8 z33∧Kp w v2 [(k6,wn x)]):=by
  rw[← hv2.out,← hk8.out]
  exact ⟨row_new v1 _ _,K3b.out.grow (below1 _ _)⟩
 have K3c:Hid (Kp w v3 [(k8,bl33 Y),(k6,wn x)]):=by
  rw[← hv3.out]
  refine F3.out.2.put F3.out.1 (by rw[hlen];rfl) (by rw[← hk8.out];exact K3b.out.bl.size) fun y hy=>?_
  rw[show y=(k6,wn x) by simpa using hy,← hk8.out]
  exact Nat.ne_of_lt (K3b.out.at 0 rfl).1
 have HI:Hid (v2.there k8 0 (bl33 Y).toArray.size∧(Tryz.prog.info? 47).map (·.size)=some (bl33 Y).toArray.size∧(Tryz.prog.info? 47).map (·.size)=some (bl33 Y).length):=by
  have e:(bl33 Y).toArray.size=33:=by rw[List.size_toArray];exact hlen
  rw[e,hlen]
  exact ⟨F3.out.1.2.2,infoCP,infoCP⟩
 clear hlen F3 K3
 go_wp2_with (first|(refine wpList_op (v:=.pointer (some ⟨k8,0,none⟩)) (w':=v2) rfl (.alloc 47) rfl ?_ ?_;(rw[← hv2.out,← hk8.out];kernel_rfl))|(refine wpList_store_mid rfl 47 _ _ rfl k8 0 (bl33 Y).toArray ?_ ?_ ?_ ?_ ?_ ?_;rfl;exact hvY.out.symm;exact HI.out.1;exact HI.out.2.1;exact bl33_one Y;rw[show (bl33 Y).toArray.toList=bl33 Y from rfl,hv3.out])|fail)
 clear hv2 hv3 hk8 K3b
 obtain ⟨w4,hw4⟩:∃ w4,Hid (v3.alloc (.cells #[.slice p0 n0 c0,.slice p1 n1 c1] 22)=w4):=⟨_,rfl⟩
 have hb4:Below v3.heap.size v3 w4:=by rw[← hw4.out];exact below1 _ _
 have K4:Hid (Kp w w4 [(k8,bl33 Y),(k6,wn x)]):=K3c.out.grow hb4
 have HPs:Hid (SP.PartsOk w4 (some ⟨v3.heap.size,0,none⟩) [sk.toList,Y.toList]):=by
  refine Or.inr ⟨v3.heap.size,0,rfl,fun j hj=>?_⟩
  have hM:w4.rangeAt v3.heap.size 0 [.slice p0 n0 c0,.slice p1 n1 c1]:=by rw[← hw4.out];exact (RG.Made.alloc v3 [.slice p0 n0 c0,.slice p1 n1 c1] 22).range
  have hj2:j=0∨j=1:=by simp at hj;omega
  rcases hj2 with rfl|rfl
  ·exact ⟨_,hM 0 _ rfl,HP.out.1.below K4.out.bl⟩
  ·exact ⟨_,hM 1 _ rfl,HP.out.2.below K4.out.bl⟩
 rw[hw4.out]
 refine (chance_c HC.out.1 nonceM (some ⟨v3.heap.size,0,none⟩) 2 2 [sk.toList,Y.toList] w4 (by decide) rfl (by decide) HPs.out).mono ?_
 rintro e w5 ⟨vv,rfl,hb5,rfl⟩
 rw[HK.out]
 have K5:Hid (Kp w w5 [(k8,bl33 Y),(k6,wn x)]):=K4.out.grow hb5
 clear hb4 hb5 K3c K4 HPs hw4
 obtain ⟨vk,hvk⟩:∃ v,Hid (nv kk=v):=⟨_,rfl⟩
 rw[hvk.out]
 obtain ⟨w6,hw6⟩:∃ w6,Hid (w5.alloc (.cells #[.int .u64 0,.int .u64 0,.int .u64 0,.int .u64 0] 43)=w6):=⟨_,rfl⟩
 obtain ⟨k9,hk9⟩:∃ k9,Hid (w5.heap.size=k9):=⟨_,rfl⟩
 obtain ⟨w7,hw7⟩:∃ w7,Hid (w6.setCells k9 0 (wn kk)=w7):=⟨_,rfl⟩
 have F6:Hid (Row w6 k9 [.int .u64 0,.int .u64 0,.int .u64 0,.int .u64 0]∧Kp w w6 [(k8,bl33 Y),(k6,wn x)]):=by
  rw[← hw6.out,← hk9.out]
  exact ⟨row_new w5 _ _,K5.out.grow (below1 _ _)⟩
 have K7:Hid (Kp w w7 [(k9,wn kk),(k8,bl33 Y),(k6,wn x)]):=by
  rw[← hw7.out]
  refine F6.out.2.put F6.out.1 rfl (by rw[← hk9.out];exact K5.out.bl.size) fun y hy=>?_
  rw[← hk9.out]
  exact Nat.ne_of_lt (K5.out.rw y hy).1
 go_wp2_with (first|(refine wpList_op (v:=.pointer (some ⟨k9,0,none⟩)) (w':=w6) rfl (.alloc 43) rfl ?_ ?_;(rw[← hw6.out,← hk9.out];kernel_rfl))|(refine wpList_store_mid rfl 43 _ _ rfl k9 0 (wn kk).toArray ?_ ?_ ?_ ?_ ?_ ?_;rfl;exact hvk.out.symm;exact F6.out.1.2.2;exact i40;exact wn_one kk;rw[show (wn kk).toArray.toList=wn kk from rfl,hw7.out])|fail)
 clear hw6 hw7 hk9 F6 K5
 refine (GP8 w k6 k8 k9 x kk c w7.heap.size Y A B F G).last 9 (by kernel_rfl) (by kernel_rfl) (by kernel_rfl) ⟨
  RG.gw_load 47 8 rfl uCP fun a W hp=>⟨k8,0,bl33 Y,hp.o 8 (by kernel_rfl),(hp.b.1.at 1 rfl).2.1,HI.out.2.2,rfl⟩,
  RG.gw_load 43 6 rfl u40 fun a W hp=>⟨k6,0,wn x,hp.o 6 (by kernel_rfl),(hp.b.1.at 2 rfl).2.1,i40,rfl⟩,
  RG.gw_load 47 8 rfl uCP fun a W hp=>⟨k8,0,bl33 Y,hp.o 8 (by kernel_rfl),(hp.b.1.at 1 rfl).2.1,HI.out.2.2,rfl⟩,
  RG.gw_call fun a W hp=>⟨[(30,nv x),(31,pvl Y)],55,#[nv x,pvl Y],⟨hp.n 1 30 (by kernel_rfl) (by kernel_rfl),hp.n 2 31 (by kernel_rfl) (by kernel_rfl),trivial⟩,by kernel_rfl,by
   refine (HP1.out W).mono ?_
   rintro e W' ⟨u,rfl,hb,rfl⟩
   exact ⟨_,rfl,hb,rfl⟩⟩,
  RG.gw_load 43 9 rfl u40 fun a W hp=>⟨k9,0,wn kk,hp.o 9 (by kernel_rfl),(hp.b.1.at 0 rfl).2.1,i40,rfl⟩,
  RG.gw_load 47 8 rfl uCP fun a W hp=>⟨k8,0,bl33 Y,hp.o 8 (by kernel_rfl),(hp.b.1.at 1 rfl).2.1,HI.out.2.2,rfl⟩,
  RG.gw_call fun a W hp=>⟨[(33,nv kk),(34,pvl Y)],55,#[nv kk,pvl Y],⟨hp.n 4 33 (by kernel_rfl) (by kernel_rfl),hp.n 5 34 (by kernel_rfl) (by kernel_rfl),trivial⟩,by kernel_rfl,by
   refine (HP2.out W).mono ?_
   rintro e W' ⟨u,rfl,hb,rfl⟩
   exact ⟨_,rfl,hb,rfl⟩⟩,
  RG.gw_call fun a W hp=>⟨[(29,pvl Y),(32,prv A B),(35,prv F G)],54,#[pvl Y,prv A B,prv F G],⟨hp.n 0 29 (by kernel_rfl) (by kernel_rfl),hp.n 3 32 (by kernel_rfl) (by kernel_rfl),hp.n 6 35 (by kernel_rfl) (by kernel_rfl),trivial⟩,by kernel_rfl,by
   refine (HQ.out W).mono ?_
   rintro e W' ⟨u,rfl,hb,rfl⟩
   exact ⟨_,rfl,hb,rfl⟩⟩,
  RG.gw_val fun a W hp=>⟨[],.pointer (some ⟨W.heap.size,0,none⟩),W.alloc (.cells #[.int .u64 0,.int .u64 0,.int .u64 0,.int .u64 0] 43),trivial,by kernel_rfl,below1 _ _,W.heap.size,rfl,hp.b.2,row_new W _ _⟩,trivial⟩ ⟨K7.out.drew,Nat.le_refl _⟩ ?_
 intro V wa hRa hBa
 obtain ⟨k10,hk10,hk10b,hk10r⟩:=show Nw w7.heap.size [.int .u64 0,.int .u64 0,.int .u64 0,.int .u64 0] (V 8) wa from hRa 8 (by decide)
 have hV7:V 7=nv c:=hRa 7 (by decide)
 dsimp only[RG.putV,Nat.reduceAdd,List.take,List.drop]
 obtain ⟨vc,hvc⟩:∃ v,Hid (nv c=v):=⟨_,rfl⟩
 rw[hk10,hV7,hvc.out]
 generalize V 0=s0
 generalize V 1=s1
 generalize V 2=s2
 generalize V 3=s3
 generalize V 4=s4
 generalize V 5=s5
 generalize V 6=s6
 obtain ⟨wb,hwb⟩:∃ wb,Hid (wa.setCells k10 0 (wn c)=wb):=⟨_,rfl⟩
 have HBa:Hid (Kp w wa [(k9,wn kk),(k8,bl33 Y),(k6,wn x)]∧w7.heap.size≤wa.heap.size):=hBa
 have Kb:Hid (Kp w wb [(k10,wn c),(k9,wn kk),(k8,bl33 Y),(k6,wn x)]):=by
  rw[← hwb.out]
  refine HBa.out.1.put hk10r rfl (Nat.le_trans K7.out.bl.size hk10b) fun y hy=>?_
  have h8:=(K7.out.rw y hy).1
  omega
 have HJ:Hid (wa.there k10 0 [Value.int .u64 0,.int .u64 0,.int .u64 0,.int .u64 0].length):=hk10r.2.2
 clear hRa hBa hk10 hk10b hk10r hV7 HBa K7 V
 simp only[Act.put,List.setIfInBounds_toArray,List.set_cons_succ,List.set_cons_zero]
 go_wp2_with (first|(refine wpList_store_mid rfl 43 _ _ rfl k10 0 (wn c).toArray ?_ ?_ ?_ ?_ ?_ ?_;rfl;exact hvc.out.symm;exact HJ.out;exact i40;exact wn_one c;rw[show (wn c).toArray.toList=wn c from rfl,hwb.out])|fail)
 clear hwb HJ
 refine (GP9 w k6 k8 k9 k10 x kk c z w.heap.size Y).draws (by kernel_rfl) (by kernel_rfl) ⟨
  RG.gw_load 43 10 rfl u40 fun a W hp=>⟨k10,0,wn c,hp.o 10 (by kernel_rfl),(hp.b.1.at 0 rfl).2.1,i40,rfl⟩,
  RG.gw_call fun a W hp=>⟨[(37,nv c)],24,#[nv c],⟨hp.n 0 37 (by kernel_rfl) (by kernel_rfl),trivial⟩,by kernel_rfl,by
   refine (sbytes_c HC.out.1 HC.out.2.2.2.1 W).mono ?_
   rintro e W' ⟨u,rfl,k',hm,rfl⟩
   exact ⟨_,rfl,hm.bel,El.of_made hm (bx_size c)⟩⟩,
  RG.gw_load 43 10 rfl u40 fun a W hp=>⟨k10,0,wn c,hp.o 10 (by kernel_rfl),(hp.b.1.at 0 rfl).2.1,i40,rfl⟩,
  RG.gw_load 43 9 rfl u40 fun a W hp=>⟨k9,0,wn kk,hp.o 9 (by kernel_rfl),(hp.b.1.at 1 rfl).2.1,i40,rfl⟩,
  RG.gw_load 43 6 rfl u40 fun a W hp=>⟨k6,0,wn x,hp.o 6 (by kernel_rfl),(hp.b.1.at 3 rfl).2.1,i40,rfl⟩,
  RG.gw_call fun a W hp=>⟨[(39,nv c),(40,nv kk),(41,nv x)],23,#[nv c,nv kk,nv x],⟨hp.n 2 39 (by kernel_rfl) (by kernel_rfl),hp.n 3 40 (by kernel_rfl) (by kernel_rfl),hp.n 4 41 (by kernel_rfl) (by kernel_rfl),trivial⟩,by kernel_rfl,by
   refine (answer_c HC.out.1 HC.out.2.2.2.1 HC.out.2.2.1 HC.out.2.1 W).mono ?_
   rintro e W' ⟨u,rfl,hb,rfl⟩
   exact ⟨_,rfl,hb,by rw[HC.out.2.2.2.2];rfl⟩⟩,
  RG.gw_call fun a W hp=>⟨[(42,nv z)],24,#[nv z],⟨hp.n 5 42 (by kernel_rfl) (by kernel_rfl),trivial⟩,by kernel_rfl,by
   refine (sbytes_c HC.out.1 (by rw[← HC.out.2.2.2.2];exact Nat.mod_lt _ HC.out.1.pos) W).mono ?_
   rintro e W' ⟨u,rfl,k',hm,rfl⟩
   exact ⟨_,rfl,hm.bel,El.of_made hm (bx_size z)⟩⟩,
  RG.gw_val fun a W hp=>⟨[(38,a.eval (.tmp 38)),(43,a.eval (.tmp 43))],.slice (some ⟨W.heap.size,0,none⟩) 2 2,W.alloc (.cells #[a.eval (.tmp 38),a.eval (.tmp 43)] 22),⟨rfl,rfl,trivial⟩,by
   obtain ⟨k',c',he,-⟩:=show El 32 W (a.eval (.tmp 38)) (bx c) from hp.n 1 38 (by kernel_rfl) (by kernel_rfl)
   obtain ⟨k2,c2,he2,-⟩:=show El 32 W (a.eval (.tmp 43)) (bx z) from hp.n 6 43 (by kernel_rfl) (by kernel_rfl)
   rw[he,he2];kernel_rfl,below1 _ _,by
   have hE:=show El 32 W (a.eval (.tmp 38)) (bx c) from hp.n 1 38 (by kernel_rfl) (by kernel_rfl)
   have hE2:=show El 32 W (a.eval (.tmp 43)) (bx z) from hp.n 6 43 (by kernel_rfl) (by kernel_rfl)
   refine ⟨W.heap.size,a.eval (.tmp 38),a.eval (.tmp 43),rfl,by rw[World.size_alloc];omega,by rw[World.cell?_alloc_new];rfl,by rw[World.cell?_alloc_new];rfl,hE.below (below1 _ _) (Nat.le_refl _),hE2.below (below1 _ _) (Nat.le_refl _)⟩⟩,
  RG.gw_call fun a W hp=>⟨[(44,a.eval (.tmp 44))],22,#[a.eval (.tmp 44)],⟨rfl,trivial⟩,by kernel_rfl,by
   obtain ⟨k',y0,y1,he,h1,h2,h3,h4,h5⟩:=show Twn c z (a.eval (.tmp 44)) W from hp.n 7 44 (by kernel_rfl) (by kernel_rfl)
   rw[he]
   refine (concat_c k' 2 2 (fun j=>if j=0 then bx c else bx z) (by decide) (fun j hj=>?_) W h1 (fun j hj=>?_)).mono ?_
   ·show (if j=0 then bx c else bx z).size≤_
    rw[apply_ite Array.size,bx_size,bx_size,ite_self];decide
   ·exact el2 (bx_size c) (bx_size z) h2 h3 h4 h5 j hj
   ·rintro e W' ⟨u,rfl,hb,ho⟩
    refine ⟨_,rfl,hb,?_⟩
    have e1:=catTwo (bx c) (bx z)
    rw[e1] at ho
    have e2:((bx c).toList++(bx z).toList).length=64:=by
     rw[List.length_append,show (bx c).toList.length=32 from bx_size c,show (bx z).toList.length=32 from bx_size z]
    rw[e2] at ho
    exact ⟨ho.1,ho.2.imp id fun ⟨g,cap,cur,q1,q2,q3⟩=>⟨g,cap,cur,q1,Nat.le_trans hp.b.2 q2,q3⟩⟩⟩,
  RG.gw_val fun a W hp=>⟨[(45,a.eval (.tmp 45))],a.eval (.tmp 45),W,⟨rfl,trivial⟩,by kernel_rfl,Below.refl _ _,hp.n 8 45 (by kernel_rfl) (by kernel_rfl)⟩,
  RG.gw_val fun a W hp=>⟨[],.int .i64 0,W,trivial,by kernel_rfl,Below.refl _ _,rfl⟩,trivial⟩ ⟨Kb.out.drew,Kb.out.bl.size⟩ ?_
 intro V wc hRc hBc
 have hV10:V 10=.int .i64 0:=hRc 10 (Nat.lt_of_succ_le (Nat.le_of_ble_eq_true (by kernel_rfl)))
 have HA9:Hid (Anp c z w.heap.size (V 9) wc):=hRc 9 (Nat.lt_of_succ_le (Nat.le_of_ble_eq_true (by kernel_rfl)))
 have HBc:Hid (Below w.heap.size w wc):=hBc.1.bl
 dsimp only[RG.putV,Nat.reduceAdd]
 simp only[Act.put,List.setIfInBounds_toArray,List.set_cons_succ,List.set_cons_zero]
 rw[hV10]
 generalize V 9=s9 at HA9 ⊢
 clear hRc hBc Kb
 go_wp2
 go_ret2
 exact ⟨_,rfl,HBc.out,s9,rfl,HA9.out⟩
end
section
open Go.RowKit Go.Sort Go.Deep
variable {P:Nat} [NeZero P] {N:Nat}
theorem psame_n3 (O:Ord N) (p0 p1:Option Addr) (n0 c0 n1 c1:Nat) (sk:Bs) (w:World) (hA:Arg w (.slice p0 n0 c0) sk) (hx:((rq N sk).isSome && !decide ((rq N sk).getD 0=0))=false) :
 Calls Tryz.prog 14 #[.slice p0 n0 c0,.slice p1 n1 c1] w (Ret fun e w'=>Below w.heap.size w w'∧e=.tuple #[.slice none 0 0,.int .i64 3]):=by
 have hR:=rsecret_c O (.slice p0 n0 c0) sk w hA
 rw[hx] at hR
 have HR:=Hid.mk' hR
 obtain ⟨x,hxe⟩:∃ x,Hid ((rq N sk).getD 0=x):=⟨_,rfl⟩
 rw[hxe.out] at HR
 obtain ⟨vx,hvx⟩:∃ v,Hid (nv x=v):=⟨_,rfl⟩
 rw[hvx.out] at HR
 clear O hA hR hx hxe
 go_enter Tryz.func14,Tryz.ntmps14
 go_wp2_with fail
 refine HR.out.mono ?_
 rintro e w1 ⟨vv,rfl,hb1,rfl⟩
 obtain ⟨w2,hw2⟩:∃ w2,Hid (w1.alloc (.cells #[.int .u64 0,.int .u64 0,.int .u64 0,.int .u64 0] 43)=w2):=⟨_,rfl⟩
 obtain ⟨k6,hk6⟩:∃ k6,Hid (w1.heap.size=k6):=⟨_,rfl⟩
 obtain ⟨w3,hw3⟩:∃ w3,Hid (w2.setCells k6 0 (wn x)=w3):=⟨_,rfl⟩
 have F2:Hid (Row w2 k6 [.int .u64 0,.int .u64 0,.int .u64 0,.int .u64 0]∧Below w.heap.size w w2∧w.heap.size≤k6):=by
  rw[← hw2.out,← hk6.out]
  exact ⟨row_new w1 _ _,hb1.alloc hb1.size _,hb1.size⟩
 have K3:Hid (Below w.heap.size w w3):=by
  rw[← hw3.out]
  exact RG.below_setCells F2.out.2.2 _ _ _ F2.out.2.1
 clear hb1 HR
 go_wp2_with (first|(refine wpList_op (v:=.pointer (some ⟨k6,0,none⟩)) (w':=w2) rfl (.alloc 43) rfl ?_ ?_;(rw[← hw2.out,← hk6.out];kernel_rfl))|(refine wpList_store_mid rfl 43 _ _ rfl k6 0 (wn x).toArray ?_ ?_ ?_ ?_ ?_ ?_;rfl;exact hvx.out.symm;exact F2.out.1.2.2;exact i40;exact wn_one x;rw[show (wn x).toArray.toList=wn x from rfl,hw3.out])|fail)
 go_ret2
 exact ⟨_,rfl,K3.out,rfl⟩
theorem psame_n4 (C:Fld P) (O:Ord N) (p0 p1:Option Addr) (n0 c0 n1 c1:Nat) (sk bb:Bs) (w:World) (hA:Arg w (.slice p0 n0 c0) sk) (hA1:Arg33 w (.slice p1 n1 c1) bb) (hx:((rq N sk).isSome && !decide ((rq N sk).getD 0=0))=true) (hre:real P bb=false) :
 Calls Tryz.prog 14 #[.slice p0 n0 c0,.slice p1 n1 c1] w (Ret fun e w'=>Below w.heap.size w w'∧e=.tuple #[.slice none 0 0,.int .i64 4]):=by
 have hR:=rsecret_c O (.slice p0 n0 c0) sk w hA
 rw[hx] at hR
 have HR:=Hid.mk' hR
 have HS:Hid (∀ W,Below w.heap.size w W→Calls Tryz.prog 53 #[.slice p1 n1 c1] W (Ret fun e w'=>Below W.heap.size W w'∧e=.tuple #[pvl (rdB P bb),.bool false])):=fun W hb=>by
  have:=rsome_c C (.slice p1 n1 c1) bb W (hA1.below hb)
  rw[hre] at this
  exact this
 have HF:Hid ((rdB P bb).size=33):=rdB_size bb
 generalize rdB P bb=Y at HS HF
 obtain ⟨x,hxe⟩:∃ x,Hid ((rq N sk).getD 0=x):=⟨_,rfl⟩
 rw[hxe.out] at HR
 obtain ⟨vx,hvx⟩:∃ v,Hid (nv x=v):=⟨_,rfl⟩
 rw[hvx.out] at HR
 obtain ⟨vY,hvY⟩:∃ v,Hid (pvl Y=v):=⟨_,rfl⟩
 rw[hvY.out] at HS
 clear C O hA hA1 hR hx hxe hre
 go_enter Tryz.func14,Tryz.ntmps14
 go_wp2_with fail
 refine HR.out.mono ?_
 rintro e w1 ⟨vv,rfl,hb1,rfl⟩
 obtain ⟨w2,hw2⟩:∃ w2,Hid (w1.alloc (.cells #[.int .u64 0,.int .u64 0,.int .u64 0,.int .u64 0] 43)=w2):=⟨_,rfl⟩
 obtain ⟨k6,hk6⟩:∃ k6,Hid (w1.heap.size=k6):=⟨_,rfl⟩
 obtain ⟨w3,hw3⟩:∃ w3,Hid (w2.setCells k6 0 (wn x)=w3):=⟨_,rfl⟩
 have F2:Hid (Row w2 k6 [.int .u64 0,.int .u64 0,.int .u64 0,.int .u64 0]∧Below w.heap.size w w2∧w.heap.size≤k6):=by
  rw[← hw2.out,← hk6.out]
  exact ⟨row_new w1 _ _,hb1.alloc hb1.size _,hb1.size⟩
 have K3:Hid (Below w.heap.size w w3):=by
  rw[← hw3.out]
  exact RG.below_setCells F2.out.2.2 _ _ _ F2.out.2.1
 clear hb1 HR
 go_wp2_with (first|(refine wpList_op (v:=.pointer (some ⟨k6,0,none⟩)) (w':=w2) rfl (.alloc 43) rfl ?_ ?_;(rw[← hw2.out,← hk6.out];kernel_rfl))|(refine wpList_store_mid rfl 43 _ _ rfl k6 0 (wn x).toArray ?_ ?_ ?_ ?_ ?_ ?_;rfl;exact hvx.out.symm;exact F2.out.1.2.2;exact i40;exact wn_one x;rw[show (wn x).toArray.toList=wn x from rfl,hw3.out])|fail)
 clear hw2 hw3 hk6 F2
 refine (HS.out w3 K3.out).mono ?_
 rintro e v1 ⟨vv,rfl,hb1,rfl⟩
 have K3b:Hid (Below w.heap.size w v1):=K3.out.trans (hb1.mono K3.out.size)
 clear hb1 HS
 obtain ⟨v2,hv2⟩:∃ v2,Hid (v1.alloc (.cells z33.toArray 47)=v2):=⟨_,rfl⟩
 obtain ⟨k8,hk8⟩:∃ k8,Hid (v1.heap.size=k8):=⟨_,rfl⟩
 obtain ⟨v3,hv3⟩:∃ v3,Hid (v2.setCells k8 0 (bl33 Y)=v3):=⟨_,rfl⟩
 have hlen:(bl33 Y).length=33:=bl33_length HF.out
 have F3:Hid (Row v2 k8 z33∧Below w.heap.size w v2∧w.heap.size≤k8):=by
  rw[← hv2.out,← hk8.out]
  exact ⟨row_new v1 _ _,K3b.out.alloc K3b.out.size _,K3b.out.size⟩
 have K3c:Hid (Below w.heap.size w v3):=by
  rw[← hv3.out]
  exact RG.below_setCells F3.out.2.2 _ _ _ F3.out.2.1
 have HI:Hid (v2.there k8 0 (bl33 Y).toArray.size∧(Tryz.prog.info? 47).map (·.size)=some (bl33 Y).toArray.size):=by
  have e:(bl33 Y).toArray.size=33:=by rw[List.size_toArray];exact hlen
  rw[e]
  exact ⟨F3.out.1.2.2,infoCP⟩
 clear hlen F3 K3
 go_wp2_with (first|(refine wpList_op (v:=.pointer (some ⟨k8,0,none⟩)) (w':=v2) rfl (.alloc 47) rfl ?_ ?_;(rw[← hv2.out,← hk8.out];kernel_rfl))|(refine wpList_store_mid rfl 47 _ _ rfl k8 0 (bl33 Y).toArray ?_ ?_ ?_ ?_ ?_ ?_;rfl;exact hvY.out.symm;exact HI.out.1;exact HI.out.2;exact bl33_one Y;rw[show (bl33 Y).toArray.toList=bl33 Y from rfl,hv3.out])|fail)
 go_ret2
 exact ⟨_,rfl,K3c.out,rfl⟩
theorem atP (k o n c i:Nat) (hi:i<n) (w:World):(Instr.indexAt 67 (.slice (some ⟨k,o,none⟩) n c) (.int .i64 i)).run Tryz.prog w=.ok (.pointer (some ⟨k,o+33*i,none⟩)) w:=by
 have h1:¬ (i:Int)<0:=by omega
 have h2:(i:Int)<n:=by omega
 go_simp
theorem mkPL (N:Nat) (hN:N≤512):∃ C0:List Value,C0.length=33*N∧∀ w:World,(Instr.makeSlice 67 (.int .i64 N) (.int .i64 N)).run Tryz.prog w=.ok (.slice (some ⟨w.heap.size,0,none⟩) N N) (w.alloc (.cells C0.toArray 47)):=by
 have hu:Tryz.prog.underlying 67=some (.slice 47):=by kernel_rfl
 have hi:(Tryz.prog.info? 47).map (fun i=>(i.size,decide (i.bytes≤4000),i.zero.isSome))=some (33,true,true):=by kernel_rfl
 obtain ⟨i,hi1,hi2⟩:=Option.map_eq_some_iff.1 hi
 simp only[Prod.mk.injEq,decide_eq_true_eq] at hi2
 obtain ⟨h1,h2,h3⟩:=hi2
 obtain ⟨z,hz⟩:=Option.isSome_iff_exists.1 h3
 refine ⟨(madeCells z.cells (N*33)).toList,by rw[Array.length_toList,size_madeCells,Nat.mul_comm],fun w=>?_⟩
 have hb:(i.bytes:Int)*(N:Int)≤281474976710656:=by
  have:i.bytes*N≤4000*512:=Nat.mul_le_mul h2 hN
  have h5:((i.bytes*N:Nat):Int)≤281474976710656:=by omega
  rwa[Int.natCast_mul] at h5
 have:=run_make (P:=Tryz.prog) w 67 47 i z hu hi1 hz .i64 .i64 (N:Int) (N:Int) (by omega) (by omega) hb (by omega)
 rw[Int.toNat_natCast,h1] at this
 rw[Array.toArray_toList]
 exact this
structure Az (w W:World) (K k i:Nat) (L:Nat→Bs):Prop where
 bl:Below w.heap.size w W
 lt:K<W.heap.size
 th:W.there K 0 (33*k)
 rw:∀ j,j<i→W.rangeAt K (33*j) (bl33 (L j))
theorem Az.grow {w W W':World} {K k i:Nat} {L:Nat→Bs} (h:Az w W K k i L) (hb:Below W.heap.size W W'):Az w W' K k i L:=
 ⟨h.bl.trans (hb.mono h.bl.size),Nat.lt_of_lt_of_le h.lt hb.size,RG.there_below h.th hb h.lt,fun j hj=>RG.range_below (h.rw j hj) hb h.lt⟩
theorem Az.put {w W:World} {K k i:Nat} {L:Nat→Bs} (h:Az w W K k i L) (hK:w.heap.size≤K) (hi:i<k) (hL:∀ j,j≤i→(L j).size=33):Az w (W.setCells K (33*i) (bl33 (L i))) K k (i+1) L:=by
 refine ⟨RG.below_setCells hK _ _ _ h.bl,by rw[RG.setCells_size];exact h.lt,World.there_setCells h.th _ _ _,fun j hj=>?_⟩
 by_cases hji:j=i
 ·subst hji
  refine World.rangeAt_setCells_same W K _ _ fun t ht=>?_
  rw[bl33_length (hL j (Nat.le_refl _))] at ht
  have:=h.th (33*j+t) (by omega)
  rwa[Nat.zero_add] at this
 ·exact World.rangeAt_setCells_apart (h.rw j (by omega)) K _ _ (Or.inr (Or.inl (by rw[bl33_length (hL j (by omega))];omega)))
def AllRt (P:Nat) [NeZero P] (w:World) (k:Nat) (L:Nat→Bs) (e:Value) (w':World):Prop:=
 Below w.heap.size w w'∧(((∀ j,j<k→∃ p,rd P (L j)=some p)∧∃ K,e=.tuple #[.slice (some ⟨K,0,none⟩) k k,.bool true]∧w.heap.size≤K∧K<w'.heap.size∧w'.there K 0 (33*k)∧∀ j,j<k→w'.rangeAt K (33*j) (bl33 (L j)))∨((∃ j,j<k∧rd P (L j)=none)∧e=.tuple #[.slice none 0 0,.bool false]))
theorem allP_t (C:Fld P) (gg k c:Nat) (hk:k≤512) (L:Nat→Bs) (w:World) (hg:gg<w.heap.size) (hL:∀ j,j<k→∃ v,w.cell? ⟨gg,j,none⟩=some v∧Arg33 w v (L j)) :
 Calls Tryz.prog 56 #[.func (.func 34) #[] #[],.slice (some ⟨gg,0,none⟩) k c] w (Ret (AllRt P w k L)):=by
 obtain ⟨C0,hC0,hmk⟩:=mkPL k hk
 have hmk':=hmk w
 obtain ⟨w1,hw1⟩:∃ w1,Hid (w.alloc (.cells C0.toArray 47)=w1):=⟨_,rfl⟩
 rw[hw1.out] at hmk'
 have HM:=Hid.mk' hmk'
 have K1:Hid (Az w w1 w.heap.size k 0 L):=by
  have hR:Row w1 w.heap.size C0:=by rw[← hw1.out];exact row_new w _ _
  refine ⟨by rw[← hw1.out];exact below1 _ _,hR.1,by rw[← hC0];exact hR.2.2,fun j hj=>by omega⟩
 have HC:Hid (Fld P∧(∀ j,j<k→∃ v,w.cell? ⟨gg,j,none⟩=some v∧Arg33 w v (L j))∧gg<w.heap.size):=⟨C,hL,hg⟩
 obtain ⟨d,hd1,hd2⟩:=Option.map_eq_some_iff.1 uCP
 have HD:Hid (Tryz.prog.underlying 47=some d∧d.isRow=true):=⟨hd1,hd2⟩
 have HO:Hid (z33.toArray.all (·.oneCell')=true):=by show _=_;decide +kernel
 clear hd1 hd2 C hL hg hmk hC0 hw1
 go_enter Tryz.func56,Tryz.ntmps56
 go_wp2
 clear hmk'
 go_loopg [16] k (fun m s16 W=>∃ i:Nat,i+m=k∧s16=.int .i64 i∧Hid (Az w W w.heap.size k i L∧∀ j,j<i→∃ p,rd P (L j)=some p))
 case atStart=>exact ⟨0,by omega,rfl,K1.out,fun j hj=>by omega⟩
 case round =>
  clear K1 HM
  obtain ⟨i,hik,rfl,KM⟩:=hrel
  by_cases hi:i<k
  ·have hi':(i:Int)<(k:Int):=by omega
   obtain ⟨v,hc0,hA0⟩:=HC.out.2.1 i hi
   have hc:wr.cell? ⟨gg,i,none⟩=some v:=by rw[KM.out.1.bl.cell (p:=⟨gg,i,none⟩) HC.out.2.2];exact hc0
   have HA:Hid (Arg33 wr v (L i)):=hA0.below KM.out.1.bl
   have hix:=atB gg 0 k c i hi
   rw[show 0+1*i=i by omega] at hix
   clear hc0 hA0
   obtain ⟨b,hbe⟩:∃ b,Hid (L i=b):=⟨_,rfl⟩
   rw[hbe.out] at HA
   obtain ⟨k9,hk9⟩:∃ k9:Nat,True:=⟨0,trivial⟩
   clear hk9 k9
   cases hr:rd P b with
   | none =>
    go_wp2_with fail
    refine (cRead_n HC.out.1 v b wr HA.out hr).mono ?_
    rintro e W1 ⟨vv,rfl,hb1,rfl⟩
    obtain ⟨vz,hvz⟩:∃ vz,Hid (Value.agg z33.toArray=vz):=⟨_,rfl⟩
    rw[hvz.out]
    obtain ⟨k9,hk9⟩:∃ k9,Hid (W1.heap.size=k9):=⟨_,rfl⟩
    obtain ⟨W2,hW2⟩:∃ W2,Hid (W1.alloc (.cells z33.toArray 47)=W2):=⟨_,rfl⟩
    obtain ⟨W3,hW3⟩:∃ W3,Hid (W2.setCells k9 0 z33=W3):=⟨_,rfl⟩
    have F2:Hid (Row W2 k9 z33∧Below w.heap.size w W2∧w.heap.size≤k9):=by
     have hbb:Below w.heap.size w W1:=KM.out.1.bl.trans (hb1.mono KM.out.1.bl.size)
     rw[← hW2.out,← hk9.out]
     exact ⟨row_new W1 _ _,hbb.alloc hbb.size _,hbb.size⟩
    have K3:Hid (Below w.heap.size w W3):=by rw[← hW3.out];exact RG.below_setCells F2.out.2.2 _ _ _ F2.out.2.1
    have HN:Hid (i<k∧rd P (L i)=none):=⟨hi,by rw[hbe.out];exact hr⟩
    clear hb1 KM hr
    go_wp2_with (first|(refine wpList_op (v:=.pointer (some ⟨k9,0,none⟩)) (w':=W2) rfl (.alloc 47) rfl ?_ ?_;(rw[← hW2.out,← hk9.out];kernel_rfl))|(refine wpList_store_mid rfl 47 _ _ rfl k9 0 z33.toArray ?_ ?_ ?_ ?_ ?_ ?_;rfl;exact hvz.out.symm;exact F2.out.1.2.2;exact infoCP;exact HO.out;rw[show z33.toArray.toList=z33 from rfl,hW3.out])|fail)
    go_ret2
    exact ⟨_,rfl,K3.out,Or.inr ⟨⟨i,HN.out⟩,rfl⟩⟩
   | some p =>
    have hs:=rd_33 hr
    go_wp2_with fail
    refine (cRead_y HC.out.1 v b p wr HA.out hr).mono ?_
    rintro e W1 ⟨vv,rfl,hb1,rfl⟩
    obtain ⟨vz,hvz⟩:∃ vz,Hid (pvl b=vz):=⟨_,rfl⟩
    rw[hvz.out]
    have hlen:(bl33 b).length=33:=bl33_length hs
    have hsz:(bl33 b).toArray.size=33:=by rw[List.size_toArray];exact hlen
    obtain ⟨k9,hk9⟩:∃ k9,Hid (W1.heap.size=k9):=⟨_,rfl⟩
    obtain ⟨W2,hW2⟩:∃ W2,Hid (W1.alloc (.cells z33.toArray 47)=W2):=⟨_,rfl⟩
    obtain ⟨W3,hW3⟩:∃ W3,Hid (W2.setCells k9 0 (bl33 b)=W3):=⟨_,rfl⟩
    obtain ⟨W4,hW4⟩:∃ W4,Hid (W3.setCells w.heap.size (33*i) (bl33 b)=W4):=⟨_,rfl⟩
    have A1:Az w W1 w.heap.size k i L:=KM.out.1.grow hb1
    have F2:Hid (Row W2 k9 z33∧Below W1.heap.size W1 W2):=by
     rw[← hW2.out,← hk9.out]
     exact ⟨row_new W1 _ _,below1 _ _⟩
    have F3:Hid (Row W3 k9 (bl33 b)∧Az w W3 w.heap.size k i L):=by
     rw[← hW3.out]
     exact ⟨F2.out.1.put (by rw[hlen];rfl),A1.grow (RG.below_setCells (by rw[hk9.out];exact Nat.le_refl _) _ _ _ F2.out.2)⟩
    have K4:Hid (Az w W4 w.heap.size k (i+1) L∧∀ j,j<i+1→∃ p,rd P (L j)=some p):=by
     have hall:∀ j,j<i+1→∃ p,rd P (L j)=some p:=fun j hj=>by
      by_cases hji:j=i
      ·subst hji;exact ⟨p,by rw[hbe.out];exact hr⟩
      ·exact KM.out.2 j (by omega)
     have h:=F3.out.2.put (Nat.le_refl _) hi (fun j hj=>by obtain ⟨q,hq⟩:=hall j (by omega);exact rd_33 hq)
     rw[hbe.out,hW4.out] at h
     exact ⟨h,hall⟩
    have HI:Hid ((Tryz.prog.info? 47).map (·.size)=some (bl33 b).length∧(Tryz.prog.info? 47).map (·.size)=some (bl33 b).toArray.size∧W2.there k9 0 (bl33 b).toArray.size∧W3.there w.heap.size (33*i) (bl33 b).toArray.size):=by
     rw[hlen,hsz]
     refine ⟨infoCP,infoCP,F2.out.1.2.2,fun t ht=>?_⟩
     have:=F3.out.2.th (33*i+t) (by omega)
     rwa[Nat.zero_add] at this
    have hix2:=atP w.heap.size 0 k k i hi
    clear hb1 KM hr hlen hsz A1 hs
    go_wp2_with (first|(refine wpList_op (v:=.pointer (some ⟨k9,0,none⟩)) (w':=W2) rfl (.alloc 47) rfl ?_ ?_;(rw[← hW2.out,← hk9.out];kernel_rfl))|(refine wpList_store_mid rfl 47 _ _ rfl k9 0 (bl33 b).toArray ?_ ?_ ?_ ?_ ?_ ?_;rfl;exact hvz.out.symm;exact HI.out.2.2.1;exact HI.out.2.1;exact bl33_one b;rw[show (bl33 b).toArray.toList=bl33 b from rfl,hW3.out])|(refine wpList_load_mid rfl 47 _ rfl k9 0 ?_ (bl33 b) d ?_ ?_ ?_ ?_ ?_;rfl;exact F3.out.1.2.1;exact HD.out.1;exact HD.out.2;exact HI.out.1;rw[show Value.agg (bl33 b).toArray=vz from hvz.out])|(refine wpList_store_mid rfl 47 _ _ rfl w.heap.size (33*i) (bl33 b).toArray ?_ ?_ ?_ ?_ ?_ ?_;rfl;exact hvz.out.symm;exact HI.out.2.2.2;exact HI.out.2.1;exact bl33_one b;rw[show (bl33 b).toArray.toList=bl33 b from rfl,hW4.out])|fail)
    go_roundg (gk-1)
    case measure=>omega
    case rel=>exact ⟨i+1,by omega,rfl,K4⟩
  ·have hi':¬ (i:Int)<(k:Int):=by omega
   obtain rfl:i=k:=by omega
   go_wp2
   go_ret2
   exact ⟨_,rfl,KM.out.1.bl,Or.inl ⟨KM.out.2,w.heap.size,rfl,Nat.le_refl _,KM.out.1.lt,KM.out.1.th,KM.out.1.rw⟩⟩
end
section
open Go.RowKit Go.Sort Go.Deep
variable {P:Nat} [NeZero P] {N:Nat}
theorem opp1_c (O:Ord N) {a:Nat} (ha:a<N):Gives 149 #[nv a] (nv (sMi N 0 a)):=by
 intro w
 have h:=sMin_c O 0 a O.pos ha
 generalize sMi N 0 a=m at h ⊢
 go_enter Tryz.func149,Tryz.ntmps149
 refine RG.M.enter [(0,.v (nv a))] 6 (by kernel_rfl) ?_
 intro a0 M0
 repeat refine wp_seq ?_
 refine M0.t [.m 1 [] 0,.m 2 [] 1] [(0,wn a),(1,RG.z 4)] [] [wn a,RG.z 4] [(1,.p 0 0),(2,.p 1 0)] ⟨RG.mk 0 43,RG.mk 1 43,trivial⟩ ?_
 intro j1 j2 a1 w1 M1
 repeat refine wp_seq ?_
 refine M1.t [.x 3 [] (nv 0),.x 4 [] (nv a),.c 5 [(3,0),(4,1)] (nv m),.u [(5,2)] 1] [] [(1,3,wn m)] [wn a,wn m] [(2,.p 1 0)] ⟨RG.st,RG.ld u40 i40,RG.cl h,RG.pt i40,trivial⟩ ?_
 intro a2 w2 M2
 refine wp_ret ?_
 refine bodyPost_ret (v:=nv m) (RG.results_row M2.st 2 43 rfl 1 _ rfl (M2.at (s:=(.p 1 0))) u40 i40) M2.sl.defers ?_
 exact ⟨_,rfl,M2.st.bel.below,rfl⟩
theorem mkTL (N:Nat) (hN:N≤512):∃ C0:List Value,C0.length=37*N∧∀ w:World,(Instr.makeSlice 71 (.int .i64 N) (.int .i64 N)).run Tryz.prog w=.ok (.slice (some ⟨w.heap.size,0,none⟩) N N) (w.alloc (.cells C0.toArray 150)):=by
 have hi:(Tryz.prog.info? 150).map (fun i=>(i.size,decide (i.bytes≤4000),i.zero.isSome))=some (37,true,true):=by kernel_rfl
 obtain ⟨i,hi1,hi2⟩:=Option.map_eq_some_iff.1 hi
 simp only[Prod.mk.injEq,decide_eq_true_eq] at hi2
 obtain ⟨h1,h2,h3⟩:=hi2
 obtain ⟨z,hz⟩:=Option.isSome_iff_exists.1 h3
 refine ⟨(madeCells z.cells (N*37)).toList,by rw[Array.length_toList,size_madeCells,Nat.mul_comm],fun w=>?_⟩
 have hb:(i.bytes:Int)*(N:Int)≤281474976710656:=by
  have:i.bytes*N≤4000*512:=Nat.mul_le_mul h2 hN
  have h5:((i.bytes*N:Nat):Int)≤281474976710656:=by omega
  rwa[Int.natCast_mul] at h5
 have:=run_make (P:=Tryz.prog) w 71 150 i z undS hi1 hz .i64 .i64 (N:Int) (N:Int) (by omega) (by omega) hb (by omega)
 rw[Int.toNat_natCast,h1] at this
 rw[Array.toArray_toList]
 exact this
theorem cells_row {W:World} {g:Nat} {l:List (Nat × Bs)} (h33:∀ x∈l.map (·.2),x.size=33) (hr:W.rangeAt g 0 (cellsT l)) (j:Nat) (hj:j<l.length):W.rangeAt g (37*j) (wn (l[j]).1++bl33 (l[j]).2):=fun t u hu=>by
 have ht:t<37:=by
  have:=(List.getElem?_eq_some_iff.1 hu).1
  rw[row_len (h33 _ (List.mem_map.2 ⟨_,List.getElem_mem hj,rfl⟩))] at this
  exact this
 have:=hr (37*j+t) u (by rw[cellsT_at l h33 j hj t ht];exact hu)
 rw[Nat.zero_add] at this
 exact this
theorem rows_cells {W:World} {g:Nat} {l:List (Nat × Bs)} (h33:∀ x∈l.map (·.2),x.size=33) (hr:∀ j (hj:j<l.length),W.rangeAt g (37*j) (wn (l[j]).1++bl33 (l[j]).2)):W.rangeAt g 0 (cellsT l):=fun t u hu=>by
 have hlen:t<l.length*37:=by
  have:=(List.getElem?_eq_some_iff.1 hu).1
  rwa[cellsT_len fun x hx=>h33 _ (List.mem_map.2 ⟨x,hx,rfl⟩)] at this
 have hj:t/37<l.length:=Nat.div_lt_of_lt_mul (by omega)
 have ht:t%37<37:=Nat.mod_lt _ (by decide)
 have e:37*(t/37)+t%37=t:=Nat.div_add_mod _ _
 have h2:=cellsT_at l h33 (t/37) hj (t%37) ht
 rw[e,hu] at h2
 have:=hr (t/37) hj (t%37) u h2.symm
 rw[e] at this
 rw[Nat.zero_add]
 exact this
def tmT (N n:Nat) (x:Nat × Bs):Nat × Bs:=(sTi N n x.1,x.2)
structure Tz (w W:World) (N n K k3 i:Nat) (l:List (Nat × Bs)):Prop where
 bl:Below w.heap.size w W
 lt:K<W.heap.size
 ne:k3≠K
 th:W.there K 0 (37*l.length)
 r3:Row W k3 (wn n)
 rw:∀ j (hj:j<l.length),j<i→W.rangeAt K (37*j) (wn (tmT N n (l[j])).1++bl33 (tmT N n (l[j])).2)
theorem Tz.grow {w W W':World} {n K k3 i:Nat} {l:List (Nat × Bs)} (h:Tz w W N n K k3 i l) (hb:Below W.heap.size W W'):Tz w W' N n K k3 i l:=
 ⟨h.bl.trans (hb.mono h.bl.size),Nat.lt_of_lt_of_le h.lt hb.size,h.ne,RG.there_below h.th hb h.lt,h.r3.below hb,fun j hj hji=>RG.range_below (h.rw j hj hji) hb h.lt⟩
theorem Tz.drew {w W:World} {n K k3 i:Nat} {l:List (Nat × Bs)} (h:Tz w W N n K k3 i l):Tz w W.drew N n K k3 i l:=⟨h.bl.drew,h.lt,h.ne,h.th,h.r3,h.rw⟩
theorem Tz.put {w W:World} {n K k3 i:Nat} {l:List (Nat × Bs)} (h:Tz w W N n K k3 i l) (hK:w.heap.size≤K) (hi:i<l.length) (h33:∀ x∈l.map (·.2),x.size=33):Tz w (W.setCells K (37*i) (wn (tmT N n (l[i])).1++bl33 (tmT N n (l[i])).2)) N n K k3 (i+1) l:=by
 have hsz:∀ (j:Nat) (hj:j<l.length),(wn (tmT N n (l[j])).1++bl33 (tmT N n (l[j])).2).length=37:=fun j hj=>row_len (h33 _ (List.mem_map.2 ⟨_,List.getElem_mem hj,rfl⟩))
 refine ⟨RG.below_setCells hK _ _ _ h.bl,by rw[RG.setCells_size];exact h.lt,h.ne,World.there_setCells h.th _ _ _,⟨by rw[RG.setCells_size];exact h.r3.1,World.rangeAt_setCells_apart h.r3.2.1 K _ _ (Or.inl h.ne),World.there_setCells h.r3.2.2 _ _ _⟩,fun j hj hji=>?_⟩
 by_cases e:j=i
 ·subst e
  refine World.rangeAt_setCells_same W K _ _ fun t ht=>?_
  rw[hsz j hj] at ht
  have:=h.th (37*j+t) (by omega)
  rwa[Nat.zero_add] at this
 ·exact World.rangeAt_setCells_apart (h.rw j hj (by omega)) K _ _ (Or.inr (Or.inl (by rw[hsz j hj];omega)))
section
variable (w:World) (n K k3 k7 i s m:Nat) (p:Bs) (l:List (Nat × Bs))
def Rt:Nat→Value→World→Prop
 | 0,v,_=>v=.slice (some ⟨K,0,none⟩) l.length l.length
 | 1,v,_=>v=.int .i64 i
 | 2,v,_=>v=nv n
 | 3,v,_=>v=.pointer (some ⟨k7,0,none⟩)
 | 4,v,_=>v=nv s
 | 5,v,_=>v=nv m
 | 6,v,_=>v=.pointer (some ⟨k7,4,none⟩)
 | 7,v,_=>v=pvl p
 | 8,v,_=>v=tvl m p
 | 9,v,_=>v=.pointer (some ⟨K,0+37*i,none⟩)
 | _,_,_=>True
def Gt (N:Nat):RG.Gw:=⟨Rt n K k7 i s m p l,fun W=>Tz w W N n K k3 i l∧Row W k7 (wn s++bl33 p),fun j v W W' hb h=>by
 match j,h with
 | 0,h=>exact h
 | 1,h=>exact h
 | 2,h=>exact h
 | 3,h=>exact h
 | 4,h=>exact h
 | 5,h=>exact h
 | 6,h=>exact h
 | 7,h=>exact h
 | 8,h=>exact h
 | 9,h=>exact h
 | _+10,_=>trivial,fun W W' hb h=>⟨h.1.grow hb,h.2.below hb⟩⟩
end
theorem sumTimes_c (O:Ord N) {n:Nat} (hn:n<N) (B:Nat) (s:Value) (l:List (Nat × Bs)) (hl:l.length≤512) (h33:∀ x∈l.map (·.2),x.size=33) (hlN:∀ x∈l,x.1<N) (w:World) (hS:Sm B w s l) :
 Calls Tryz.prog 148 #[s,nv n] w (Ret fun e w'=>Below w.heap.size w w'∧Sm w.heap.size w' e (l.map (tmT N n))):=by
 obtain ⟨g,c,rfl,hc,-,hg,hr⟩:=hS
 have HB:=Hid.mk' (boxS n w)
 obtain ⟨w1,hw1⟩:∃ w1,Hid (w.alloc (.cells (wn n).toArray 43)=w1):=⟨_,rfl⟩
 rw[hw1.out] at HB
 obtain ⟨k3,hk3⟩:∃ k,Hid (w.heap.size=k):=⟨_,rfl⟩
 obtain ⟨K,hK⟩:∃ k,Hid (w1.heap.size=k):=⟨_,rfl⟩
 have e1:K=k3+1:=by rw[← hK.out,← hk3.out,← hw1.out,World.size_alloc]
 obtain ⟨C0,hC0,hmk⟩:=mkTL l.length hl
 have hmk':=hmk w1
 obtain ⟨w2,hw2⟩:∃ w2,Hid (w1.alloc (.cells C0.toArray 150)=w2):=⟨_,rfl⟩
 rw[hw2.out,hK.out] at hmk'
 rw[hk3.out] at HB
 have K2:Hid (Tz w w2 N n K k3 0 l):=by
  have hR1:Row w1 k3 (wn n):=by rw[← hw1.out,← hk3.out];exact row_new w _ _
  have b1:Below w.heap.size w w1:=by rw[← hw1.out];exact below1 _ _
  have b2:Below w1.heap.size w1 w2:=by rw[← hw2.out];exact below1 _ _
  have hR2:Row w2 K C0:=by rw[← hw2.out,← hK.out];exact row_new w1 _ _
  exact ⟨b1.trans (b2.mono b1.size),hR2.1,by omega,by rw[← hC0];exact hR2.2.2,hR1.below b2,fun j hj hji=>by omega⟩
 have HF:Hid (Ord N∧n<N∧(∀ x∈l.map (·.2),x.size=33)∧(∀ x∈l,x.1<N)∧g<w.heap.size∧w.rangeAt g 0 (cellsT l)∧w.heap.size≤K):=⟨O,hn,h33,hlN,hg,hr,by rw[hk3.out];omega⟩
 obtain ⟨d',hd3,hd4⟩:=Option.map_eq_some_iff.1 uT
 have HD:Hid (Tryz.prog.underlying 150=some d'∧d'.isRow=true):=⟨hd3,hd4⟩
 obtain ⟨vn,hvn⟩:∃ v,Hid (nv n=v):=⟨_,rfl⟩
 rw[hvn.out] at HB ⊢
 clear hd3 hd4 O hn h33 hlN hg hr hmk hC0 hw1 hw2 hK hk3 e1
 go_enter Tryz.func148,Tryz.ntmps148
 go_wp2_with (first|(refine wpList_box (u:=vn) (v:=.pointer (some ⟨k3,0,none⟩)) (w':=w1) rfl 43 (.tmp 1) rfl ?_ ?_ ?_;rfl;exact HB.out)|fail)
 clear hmk'
 go_loopg [13] l.length (fun m s13 W=>∃ i:Nat,i+m=l.length∧s13=.int .i64 i∧Hid (Tz w W N n K k3 i l))
 case atStart=>exact ⟨0,by omega,rfl,K2⟩
 case round =>
  clear K2 HB
  obtain ⟨i,hik,rfl,KM⟩:=hrel
  by_cases hi:i<l.length
  ·have hi':(i:Int)<(l.length:Int):=by omega
   obtain ⟨s,hse⟩:∃ s,Hid ((l[i]'hi).1=s):=⟨(l[i]'hi).1,(rfl:(l[i]'hi).1=(l[i]'hi).1)⟩
   obtain ⟨p,hpe⟩:∃ p,Hid ((l[i]'hi).2=p):=⟨(l[i]'hi).2,(rfl:(l[i]'hi).2=(l[i]'hi).2)⟩
   have hps:Hid (p.size=33):=by rw[← hpe.out];exact HF.out.2.2.1 _ (List.mem_map.2 ⟨_,List.getElem_mem hi,rfl⟩)
   have hsN:Hid (s<N):=by rw[← hse.out];exact HF.out.2.2.2.1 _ (List.getElem_mem hi)
   have B0:Hid (wr.rangeAt g (37*i) (wn s++bl33 p)):=by
    have h:=RG.range_below (cells_row HF.out.2.2.1 HF.out.2.2.2.2.2.1 i hi) KM.out.bl HF.out.2.2.2.2.1
    rw[hse.out,hpe.out] at h
    exact h
   obtain ⟨k7,hk7⟩:∃ k,Hid (wr.heap.size=k):=⟨_,rfl⟩
   obtain ⟨W1,hW1⟩:∃ W1,Hid (wr.alloc (.cells zT.toArray 150)=W1):=⟨_,rfl⟩
   obtain ⟨W2,hW2⟩:∃ W2,Hid (W1.setCells k7 0 (wn s++bl33 p)=W2):=⟨_,rfl⟩
   have hlen:(wn s++bl33 p).length=37:=row_len hps.out
   have F1:Hid (Row W1 k7 zT∧Below wr.heap.size wr W1):=by rw[← hW1.out,← hk7.out];exact ⟨row_new wr _ _,below1 wr _⟩
   have F2:Hid (Row W2 k7 (wn s++bl33 p)∧Tz w W2 N n K k3 i l):=by
    rw[← hW2.out]
    exact ⟨F1.out.1.put (by rw[hlen];rfl),KM.out.grow (RG.below_setCells (by rw[hk7.out];exact Nat.le_refl _) _ _ _ F1.out.2)⟩
   have HLT:Hid ((Tryz.prog.info? 150).map (·.size)=some (wn s++bl33 p).length):=by show _=_;rw[hlen];exact iT
   have HLS:Hid ((Tryz.prog.info? 150).map (·.size)=some (wn s++bl33 p).toArray.size∧W1.there k7 0 (wn s++bl33 p).toArray.size):=by
    have e:(wn s++bl33 p).toArray.size=37:=by rw[List.size_toArray];exact hlen
    rw[e];exact ⟨iT,F1.out.1.2.2⟩
   have HAL:Hid ((wn s++bl33 p).toArray.all (·.oneCell')=true):=by
    show _=_
    rw[Array.all_eq_true']
    intro u hu
    exact cells_one s p u (List.mem_toArray.1 hu)
   have hix:=atT g 0 l.length c i hi
   obtain ⟨vt,hvt⟩:∃ v,Hid (Value.agg (wn s++bl33 p).toArray=v):=⟨_,rfl⟩
   have HL:Hid (i<l.length):=hi
   clear hlen KM F1
   go_wp2_with (first|(refine wpList_load_mid rfl 150 _ rfl g (37*i) ?_ (wn s++bl33 p) d' ?_ ?_ ?_ ?_ ?_;rfl;exact B0.out;exact HD.out.1;exact HD.out.2;exact HLT.out;rw[hvt.out])|(refine wpList_op (v:=.pointer (some ⟨k7,0,none⟩)) (w':=W1) rfl (.alloc 150) rfl ?_ ?_;(rw[← hW1.out,← hk7.out];kernel_rfl))|(refine wpList_store_mid rfl 150 _ _ rfl k7 0 (wn s++bl33 p).toArray ?_ ?_ ?_ ?_ ?_ ?_;rfl;exact hvt.out.symm;exact HLS.out.2;exact HLS.out.1;exact HAL.out;rw[show (wn s++bl33 p).toArray.toList=wn s++bl33 p from rfl,hW2.out])|fail)
   clear hW1 hW2 hk7
   refine (Gt w n K k3 k7 i s (sTi N n s) p l N).last 10 (by kernel_rfl) (by kernel_rfl) (by kernel_rfl) ⟨
    RG.gw_val fun a W hp=>⟨[(5,.slice (some ⟨K,0,none⟩) l.length l.length)],.slice (some ⟨K,0,none⟩) l.length l.length,W,⟨hp.o 5 (by kernel_rfl),trivial⟩,by kernel_rfl,Below.refl _ _,rfl⟩,
    RG.gw_val fun a W hp=>⟨[(6,.int .i64 i)],.int .i64 i,W,⟨hp.o 6 (by kernel_rfl),trivial⟩,by kernel_rfl,Below.refl _ _,rfl⟩,
    RG.gw_load 43 3 rfl Go.Proofs.YtmfodnkinmnopaaGreat.u40 fun a W hp=>⟨k3,0,wn n,hp.o 3 (by kernel_rfl),hp.b.1.r3.2.1,i40,rfl⟩,
    RG.gw_val fun a W hp=>⟨[(7,.pointer (some ⟨k7,0,none⟩))],.pointer (some ⟨k7,0,none⟩),W,⟨hp.o 7 (by kernel_rfl),trivial⟩,by kernel_rfl,Below.refl _ _,rfl⟩,
    RG.gw_load 43 21 rfl Go.Proofs.YtmfodnkinmnopaaGreat.u40 fun a W hp=>⟨k7,0,wn s,hp.n 3 21 (by kernel_rfl) (by kernel_rfl),range_front hp.b.2.2.1,i40,rfl⟩,
    RG.gw_call fun a W hp=>⟨[(20,nv n),(22,nv s)],71,#[nv n,nv s],⟨hp.n 2 20 (by kernel_rfl) (by kernel_rfl),hp.n 4 22 (by kernel_rfl) (by kernel_rfl),trivial⟩,by kernel_rfl,(sTim_c HF.out.1 n s HF.out.2.1 hsN.out W).mono (by
     rintro e W' ⟨u,rfl,hb,rfl⟩
     exact ⟨_,rfl,hb,rfl⟩)⟩,
    RG.gw_val fun a W hp=>⟨[(7,.pointer (some ⟨k7,0,none⟩))],.pointer (some ⟨k7,4,none⟩),W,⟨hp.o 7 (by kernel_rfl),trivial⟩,by kernel_rfl,Below.refl _ _,rfl⟩,
    RG.gw_load 47 24 rfl uCP fun a W hp=>⟨k7,4,bl33 p,hp.n 6 24 (by kernel_rfl) (by kernel_rfl),range_back (xs:=wn s) hp.b.2.2.1,by rw[bl33_length hps.out];exact infoCP,rfl⟩,
    RG.gw_val fun a W hp=>⟨[(23,nv (sTi N n s)),(25,pvl p)],tvl (sTi N n s) p,W,⟨hp.n 5 23 (by kernel_rfl) (by kernel_rfl),hp.n 7 25 (by kernel_rfl) (by kernel_rfl),trivial⟩,by
     rw[Prod.mk.injEq]
     refine ⟨by kernel_rfl,?_⟩
     refine Eq.trans (b:=((Instr.build 150 #[(0,nv (sTi N n s)),(1,pvl p)]) >>= fun v=>pure (Next.value v)).run Tryz.prog W) (by kernel_rfl) ?_
     rw[Sem.run_bind,bldT hps.out]
     rfl,Below.refl _ _,rfl⟩,
    RG.gw_val fun a W hp=>⟨[(18,.slice (some ⟨K,0,none⟩) l.length l.length),(19,.int .i64 i)],.pointer (some ⟨K,0+37*i,none⟩),W,⟨hp.n 0 18 (by kernel_rfl) (by kernel_rfl),hp.n 1 19 (by kernel_rfl) (by kernel_rfl),trivial⟩,by
     rw[Prod.mk.injEq]
     refine ⟨by kernel_rfl,?_⟩
     show ((Instr.indexAt 71 (.slice (some ⟨K,0,none⟩) l.length l.length) (.int .i64 i)) >>= fun v=>pure (Next.value v)).run Tryz.prog W=_
     rw[Sem.run_bind,atT K 0 l.length l.length i HL.out]
     rfl,Below.refl _ _,rfl⟩,trivial⟩ ⟨F2.out.2.drew,F2.out.1⟩ ?_
   intro V W3 hR3 hB3
   have hV8:V 8=tvl (sTi N n s) p:=hR3 8 (by decide)
   have hV9:V 9=.pointer (some ⟨K,0+37*i,none⟩):=hR3 9 (by decide)
   have hlen2:(wn (sTi N n s)++bl33 p).length=37:=row_len hps.out
   obtain ⟨W4,hW4⟩:∃ W4,Hid (W3.setCells K (37*i) (wn (sTi N n s)++bl33 p)=W4):=⟨_,rfl⟩
   have K4:Hid (Tz w W4 N n K k3 (i+1) l):=by
    have h:=hB3.1.put HF.out.2.2.2.2.2.2 HL.out HF.out.2.2.1
    have e:tmT N n (l[i]'HL.out)=(sTi N n s,p):=by
     have h1:=hse.out
     have h2:=hpe.out
     unfold tmT
     rw[h1,h2]
    rw[e] at h
    rw[← hW4.out]
    exact h
   have HT:Hid (W3.there K (37*i) (wn (sTi N n s)++bl33 p).toArray.size∧(Tryz.prog.info? 150).map (·.size)=some (wn (sTi N n s)++bl33 p).toArray.size∧(wn (sTi N n s)++bl33 p).toArray.all (·.oneCell')=true):=by
    have e:(wn (sTi N n s)++bl33 p).toArray.size=37:=by rw[List.size_toArray];exact hlen2
    refine ⟨fun t ht=>?_,by rw[e];exact iT,?_⟩
    ·rw[e] at ht
     have:=hB3.1.th (37*i+t) (by have:=HL.out;omega)
     rwa[Nat.zero_add] at this
    ·rw[Array.all_eq_true']
     intro u hu
     exact cells_one _ p u (List.mem_toArray.1 hu)
   dsimp only[RG.putV,Nat.reduceAdd,List.take,List.drop]
   simp only[Act.put,List.setIfInBounds_toArray,List.set_cons_succ,List.set_cons_zero]
   obtain ⟨vz,hvz⟩:∃ v,Hid (tvl (sTi N n s) p=v):=⟨_,rfl⟩
   rw[hV8,hV9,hvz.out,Nat.zero_add]
   clear hR3 hB3 hV8 hV9 hlen2 F2
   generalize V 0=s0
   generalize V 1=s1
   generalize V 2=s2
   generalize V 3=s3
   generalize V 4=s4
   generalize V 5=s5
   generalize V 6=s6
   generalize V 7=s7
   go_wp2_with (first|(refine wpList_store_mid rfl 150 _ _ rfl K (37*i) (wn (sTi N n s)++bl33 p).toArray ?_ ?_ ?_ ?_ ?_ ?_;rfl;exact hvz.out.symm;exact HT.out.1;exact HT.out.2.1;exact HT.out.2.2;rw[show (wn (sTi N n s)++bl33 p).toArray.toList=wn (sTi N n s)++bl33 p from rfl,hW4.out])|fail)
   go_roundg (gk-1)
   case measure=>omega
   case rel=>exact ⟨i+1,by omega,rfl,K4⟩
  ·have hi':¬ (i:Int)<(l.length:Int):=by omega
   obtain rfl:i=l.length:=by omega
   have KS:Hid (Below w.heap.size w wr∧Sm w.heap.size wr (.slice (some ⟨K,0,none⟩) l.length l.length) (l.map (tmT N n))):=by
    refine ⟨KM.out.bl,K,l.length,by rw[List.length_map],by rw[List.length_map];exact Nat.le_refl _,HF.out.2.2.2.2.2.2,KM.out.lt,rows_cells (fun x hx=>?_) fun j hj=>?_⟩
    ·obtain ⟨y,hy,rfl⟩:=List.mem_map.1 hx
     obtain ⟨z,hz,rfl⟩:=List.mem_map.1 hy
     exact HF.out.2.2.1 _ (List.mem_map.2 ⟨z,hz,rfl⟩)
    ·rw[List.getElem_map]
     rw[List.length_map] at hj
     exact KM.out.rw j hj hj
   clear KM
   go_wp2
   go_ret
   exact ⟨_,rfl,KS.out.1,KS.out.2⟩
end
section
open Go.RowKit Go.Sort Go.Deep
variable {P:Nat} [NeZero P] {N:Nat}
end
section
open Go.RowKit Go.Sort Go.Deep
variable {P:Nat} [NeZero P] {N:Nat}
theorem Sm.mono {B B':Nat} {W:World} {v:Value} {l:List (Nat × Bs)} (h:Sm B W v l) (hb:B'≤B):Sm B' W v l:=by
 obtain ⟨g,c,h1,h2,h3,h4⟩:=h
 exact ⟨g,c,h1,h2,Nat.le_trans hb h3,h4⟩
section
variable (w:World) (k6 k8 n:Nat) (Y A T:Bs)
end
end
section
open Go.RowKit Go.Sort Go.Deep
variable {P:Nat} [NeZero P] {N:Nat}
theorem arg33_k {W:World} {g c:Nat} {X:EC.Pt P} (h:33≤c∧g<W.heap.size∧EC.On X∧Holds encB W g 0 (wr X)):Arg33 W (.slice (some ⟨g,0,none⟩) 33 c) (wr X):=
 ⟨_,_,_,rfl,wr_size _,fun _=>⟨g,0,rfl,h.1,h.2.1,h.2.2.2⟩⟩
theorem times_k {N:Nat} (C:Fld P) (hG:Gap 4624529908474429119 4994812053365940164 1 N) (hN:N≤top) {W:World} {g c gs:Nat} {X:EC.Pt P} {K:Bs} (hs:K.size=32) (hk:beV K.toList<N) (hgs:gs<W.heap.size) (hK:Holds encB W gs 0 K) (h:33≤c∧g<W.heap.size∧EC.On X∧Holds encB W g 0 (wr X)) :
 Calls Tryz.prog 10 #[.slice (some ⟨gs,0,none⟩) 32 32,.slice (some ⟨g,0,none⟩) 33 c] W (Ret fun e w'=>Below W.heap.size W w'∧OutP W (wr (EC.mul (beV K.toList) X)) e w'):=by
 obtain ⟨p,hp,rfl⟩:=rd_wr C h.2.2.1
 refine (gTimes_c C hG hN _ _ K _ W ⟨_,_,_,rfl,hs,fun _=>⟨gs,0,rfl,by omega,hgs,hK⟩⟩ (arg33_k h)).mono ?_
 rintro e w' ⟨v,rfl,hb,hR⟩
 have:=hR.q C hN
 unfold TimesQ rq at this
 rw[if_pos ⟨hs,hk⟩,hp] at this
 exact ⟨_,rfl,hb,this⟩
theorem beV_cons (x:UInt8) (r:List UInt8):beV (x :: r)=x.toNat*256^r.length+beV r:=by
 have h:=beV_append [x] r
 rw[show [x]++r=x :: r from rfl] at h
 rw[h]
 simp[beV]
end
section
open Go.RowKit Go.Sort Go.Deep
theorem beV_inj:∀ (l r:List UInt8),l.length=r.length→beV l=beV r→l=r
 | [],[],_,_=>rfl
 | x :: l,y :: r,hl,h=>by
  have h1:l.length=r.length:=Nat.succ.inj hl
  rw[beV_cons,beV_cons,h1] at h
  have b1:=beV_lt l
  have b2:=beV_lt r
  rw[h1] at b1
  have hp:0<256^r.length:=Nat.pow_pos (by decide)
  have e1:(x.toNat*256^r.length+beV l)/256^r.length=x.toNat:=by
   rw[Nat.mul_comm,Nat.mul_add_div hp,Nat.div_eq_of_lt b1,Nat.add_zero]
  have e2:(y.toNat*256^r.length+beV r)/256^r.length=y.toNat:=by
   rw[Nat.mul_comm,Nat.mul_add_div hp,Nat.div_eq_of_lt b2,Nat.add_zero]
  have e3:x.toNat=y.toNat:=by rw[← e1,← e2,h]
  have e4:x=y:=UInt8.toNat_inj.1 e3
  subst e4
  rw[beV_inj l r h1 (by omega)]
theorem bx_of {b:Bs} (hs:b.size=32) {n:Nat} (hn:n<top) (h:beV b.toList=n):bx n=b:=by
 have:=beV_inj (bx n).toList b.toList (by rw[Array.length_toList,Array.length_toList,bx_size,hs]) (by rw[bx_val hn,h])
 exact Array.toList_inj.1 this
variable {P:Nat} [NeZero P]
theorem rt_par (C:Fld P) {m y:Fin P} (h:rt m=some y):y.val%2=0:=by
 have h2:=rt_of C (rt_sq h)
 rw[h] at h2
 have e:=Option.some.inj h2
 by_cases ho:y.val%2=1
 ·rw[if_pos ho] at e
  have e3:=congrArg Fin.val e
  have h0:(0-y:Fin P).val=(P-y.val)%P:=by rw[← sub_fin,EC.val_zero,Nat.zero_add]
  rw[h0] at e3
  have h3:=C.p3
  have hy:=y.isLt
  rw[Nat.mod_eq_of_lt (by omega)] at e3
  omega
 ·omega
theorem cut33 {b:Bs} (hs:b.size=33):b=#[b[0]!]++tl33 b:=by
 unfold tl33
 apply Array.ext
 ·rw[Array.size_append,Array.size_extract,hs];rfl
 ·intro i h1 h2
  by_cases hi:i=0
  ·subst hi
   rw[Array.getElem_append_left (by simp),getElem!_pos b 0 (by omega)]
   rfl
  ·rw[Array.getElem_append_right (by simp;omega),Array.getElem_extract]
   congr 1
   simp
   omega
theorem ub_two {x:UInt8} (h:ub x=2):x=2:=by
 apply UInt8.toNat_inj.1
 have:(x.toNat:Int)=2:=h
 show x.toNat=2
 omega
theorem ub_three {x:UInt8} (h:ub x=3):x=3:=by
 apply UInt8.toNat_inj.1
 have:(x.toNat:Int)=3:=h
 show x.toNat=3
 omega
theorem wr_rd (C:Fld P) {b:Bs} {p:Fin P × Fin P} (h:rd P b=some p):wr (pt p)=b:=by
 have hon:=rd_on C h
 unfold rd at h
 split at h
 ·rename_i hs
  split at h
  ·rename_i hz
   obtain rfl:=Option.some.inj h
   unfold pt
   rw[if_pos ⟨rfl,rfl⟩]
   exact ((zero33_iff hs).1 hz).symm
  ·split at h
   ·rename_i hm
    split at h
    ·rename_i hx
     obtain ⟨y,hr,rfl⟩:=Option.map_eq_some_iff.1 h
     have hsq:=rt_sq hr
     have hpar:=rt_par C hr
     have hy0:y≠0:=C.cur.y_ne (on_of hsq)
     have hyv:y.val≠0:=fun e=>hy0 (Fin.ext (by rw[EC.val_zero];exact e))
     have hxv:(rdx P b).val=beV (tl33 b).toList:=Nat.mod_eq_of_lt hx
     have hbx:bx (rdx P b).val=tl33 b:=bx_of (tl33_size hs) (C.top _) hxv.symm
     have h3:=C.p3
     have hyl:=y.isLt
     have h0:(0-y:Fin P).val=P-y.val:=by rw[← sub_fin,EC.val_zero,Nat.zero_add,Nat.mod_eq_of_lt (by omega)]
     by_cases h3':ub b[0]! = 3
     ·rw[if_pos h3']
      unfold pt
      rw[if_neg (fun e=>by
       have:=congrArg Fin.val e.2
       rw[EC.val_zero,h0] at this
       omega)]
      show #[mark (0-y:Fin P).val]++bx (rdx P b).val=b
      rw[hbx,h0]
      unfold mark
      rw[if_pos (by omega),← ub_three h3']
      exact (cut33 hs).symm
     ·rw[if_neg h3']
      have h2':ub b[0]! = 2:=hm.resolve_right h3'
      unfold pt
      rw[if_neg (fun e=>hy0 e.2)]
      show #[mark y.val]++bx (rdx P b).val=b
      rw[hbx]
      unfold mark
      rw[if_neg (by omega),← ub_two h2']
      exact (cut33 hs).symm
    ·cases h
   ·cases h
 ·cases h
end
section
open Go.RowKit Go.Sort Go.Deep
variable {P:Nat} [NeZero P] {N:Nat}
theorem sumMinus_c (O:Ord N) (B:Nat) (s t:Value) (l m:List (Nat × Bs)) (hl0:0<l.length) (hl:l.length≤500) (hm:m.length≤500) (hl3:∀ x∈l,x.2.size=33) (hm3:∀ x∈m,x.2.size=33) (hmN:∀ x∈m,x.1<N) (w:World) (hB:B≤w.heap.size) (h1:Sm B w s l) (h2:Sm B w t m) :
 Calls Tryz.prog 104 #[s,t] w (Ret fun e w'=>Below w.heap.size w w'∧Sm w.heap.size w' e (l++m.map (tmT N (sMi N 0 1)))):=by
 have h1N:1<N:=by have:2≤N:=Nat.le_trans O.n2 (Nat.mod_le _ _);omega
 have HOp:=Hid.mk' (opp1_c O h1N)
 have hoN:sMi N 0 1<N:=Nat.mod_lt _ O.pos
 generalize sMi N 0 1=o at HOp hoN ⊢
 have HT:Hid (∀ W,Below w.heap.size w W→Calls Tryz.prog 148 #[t,nv o] W (Ret fun e w'=>Below W.heap.size W w'∧Sm W.heap.size w' e (m.map (tmT N o)))):=fun W hb=>by
  have h33:∀ x∈m.map (·.2),x.size=33:=fun x hx=>by obtain ⟨y,hy,rfl⟩:=List.mem_map.1 hx;exact hm3 y hy
  exact sumTimes_c O hoN B t m (by omega) h33 hmN W (h2.grow hb)
 have HP:Hid (∀ W v,Below w.heap.size w W→Sm w.heap.size W v (m.map (tmT N o))→Calls Tryz.prog 38 #[s,v] W (Ret fun e w'=>Below W.heap.size W w'∧Sm W.heap.size w' e (l++m.map (tmT N o)))):=fun W v hb hv=>by
  refine sumPlus_c B s v l (m.map (tmT N o)) hl0 hl (by rw[List.length_map];exact hm) hl3 (fun x hx=>?_) W (h1.grow hb) (hv.mono hB)
  obtain ⟨y,hy,rfl⟩:=List.mem_map.1 hx
  exact hm3 y hy
 obtain ⟨gs,cs,es,-⟩:=id h1
 obtain ⟨gt,ct,et,-⟩:=id h2
 subst es
 subst et
 obtain ⟨v1,hv1⟩:∃ v,Hid (nv 1=v):=⟨_,rfl⟩
 obtain ⟨vo,hvo⟩:∃ v,Hid (nv o=v):=⟨_,rfl⟩
 rw[hv1.out,hvo.out] at HOp
 rw[hvo.out] at HT
 have H1:=Hid.mk' (of1_c)
 rw[hv1.out] at H1
 clear O h1N hoN hl3 hm3 hmN h1 h2
 go_enter Tryz.func104,Tryz.ntmps104
 go_wp2_with fail
 refine (H1.out w).mono ?_
 rintro e w1 ⟨vv,rfl,hb1,rfl⟩
 go_wp2_with fail
 refine (HOp.out w1).mono ?_
 rintro e w2 ⟨vv,rfl,hb2,rfl⟩
 have B2:Hid (Below w.heap.size w w2):=hb1.trans (hb2.mono hb1.size)
 clear hb1 hb2
 go_wp2_with fail
 refine (HT.out w2 B2.out).mono ?_
 rintro e w3 ⟨v3,rfl,hb3,hS3⟩
 have B3:Hid (Below w.heap.size w w3∧Sm w.heap.size w3 v3 (m.map (tmT N o))):=⟨B2.out.trans (hb3.mono B2.out.size),hS3.mono B2.out.size⟩
 clear hb3 hS3 B2
 go_wp2_with fail
 refine (HP.out w3 v3 B3.out.1 B3.out.2).mono ?_
 rintro e w4 ⟨v4,rfl,hb4,hS4⟩
 have B4:Hid (Below w.heap.size w w4∧Sm w.heap.size w4 v4 (l++m.map (tmT N o))):=⟨B3.out.1.trans (hb4.mono B3.out.1.size),hS4.mono B3.out.1.size⟩
 clear hb4 hS4 B3
 go_wp2
 go_ret
 exact ⟨_,rfl,B4.out.1,B4.out.2⟩
theorem eq_neg (C:Fld P) {x y:EC.Pt P} (hx:EC.On x) (hy:EC.On y) (h:EC.add x y=none):x=EC.neg y:=by
 have h1:=C.cur.assoc hx hy (EC.neg_on hy)
 rw[h,EC.none_add,EC.add_neg,EC.add_none] at h1
 exact h1.symm
theorem mul_opp (C:Fld P) (O:Ord N) (hord:∀ r:EC.Pt P,EC.On r→EC.mul N r=none) {X:EC.Pt P} (hX:EC.On X) (n:Nat):EC.mul (sTi N (sMi N 0 1) n) X=EC.neg (EC.mul n X):=by
 have h1N:1<N:=by have:2≤N:=Nat.le_trans O.n2 (Nat.mod_le _ _);omega
 have e:sMi N 0 1=N-1:=by unfold sMi;rw[Nat.zero_add,Nat.mod_eq_of_lt (by omega)]
 unfold sTi
 rw[e,mul_mod C hord hX]
 refine eq_neg C (EC.mul_on C.cur hX _) (EC.mul_on C.cur hX _) ?_
 rw[← EC.mul_add C.cur hX]
 have e2:(N-1)*n+n=N*n:=by
  have:(N-1+1)*n=(N-1)*n+n:=Nat.succ_mul _ _
  rw[← this]
  congr 1
  omega
 rw[e2,EC.mul_mul C.cur hX N n,hord X hX,EC.mul_none]
section
variable (w:World) (K k8 n o:Nat) (S Q T:Bs)
end
end
section
open Go.RowKit Go.Sort Go.Deep
variable {P:Nat} [NeZero P] {N:Nat}
def encV (v:Value):Value:=v
theorem conv_of (s:ByteArray) (w:World) :
 ∃ cap w',(convert 9 22 (.string s)).run Tryz.prog w=.ok (.slice (some ⟨w.heap.size,0,none⟩) s.size cap) w'∧s.size≤cap∧Below w.heap.size w w'∧Holds encB w' w.heap.size 0 s.data∧w.heap.size<w'.heap.size:=by
 have h:=Lib.run_convert_string_bytes (P:=Tryz.prog) w 9 22 5 s str9 slice22 int5
 have hcap:s.size≤grownCap w s.size 0 5:=by
  unfold grownCap Question.cut
  exact Nat.le_add_right _ _
 have hl:s.data.size=s.size:=rfl
 refine ⟨_,_,h,hcap,?_,?_,by rw[Lib.bytesWorld_size];omega⟩
 ·refine ⟨?_,?_,?_,?_,fun k hk=>Lib.bytesWorld_at_old w 5 s k hk⟩
  ·unfold Lib.bytesWorld World.freeze
   rw[if_neg (by decide)]
   rfl
  ·unfold Lib.bytesWorld World.freeze
   rw[if_neg (by decide)]
   rfl
  ·unfold Lib.bytesWorld World.freeze
   rw[if_neg (by decide)]
   rfl
  ·rw[Lib.bytesWorld_size];omega
 ·intro j hj
  have hb:=Lib.bytesWorld_at_new w 5 s
  have hsz:(Lib.bytesCells w 5 s).size=grownCap w s.size 0 5:=by
   unfold Lib.bytesCells
   rw[Array.size_append,Array.size_map,Array.size_replicate]
   omega
  have hc:(Lib.bytesCells w 5 s)=(s.data++Array.replicate (grownCap w s.size 0 5-s.size) 0).map encB:=by
   unfold Lib.bytesCells
   rw[Array.map_append,Array.map_replicate]
   rfl
  have hj2:j<(s.data++Array.replicate (grownCap w s.size 0 5-s.size) 0).size:=by rw[Array.size_append,Array.size_replicate];omega
  have hget:(s.data++Array.replicate (grownCap w s.size 0 5-s.size) 0)[j]=s.data[j]!:=by
   rw[Array.getElem_append_left hj,getElem!_pos s.data j hj]
  constructor
  ·unfold World.cell?
   rw[hb]
   simp only[Nat.zero_add]
   rw[if_neg (by decide),hc,Array.getElem?_map,Array.getElem?_eq_getElem hj2,Option.map_some,hget]
  ·unfold World.frozen?
   rw[hb]
   simp only[Nat.zero_add,hsz]
   simp
   omega
def ptOf (P:Nat) [NeZero P] (bs:Bs):EC.Pt P:=match rd P bs with|some p=>pt p|none=>none
theorem ptOf_of {bs:Bs} {p:Fin P × Fin P} (h:rd P bs=some p):ptOf P bs=pt p:=by unfold ptOf;rw[h]
omit [NeZero P] in
theorem wr_none:(wr (none:EC.Pt P))=o33:=by
 show zs33=o33
 decide +kernel
noncomputable def pmK (N:Nat) (sk b:Bs):Nat:=chL N nonceM.data.toList [sk.toList,b.toList]
noncomputable def pmC (P:Nat) [NeZero P] (N:Nat) (sk b:Bs):Nat:=asm N b.toList (wr (EC.mul (nuV sk) (gG P))).toList (wr (EC.mul (nuV sk) (ptOf P b))).toList (wr (EC.mul (pmK N sk b) (gG P))).toList (wr (EC.mul (pmK N sk b) (ptOf P b))).toList
noncomputable def pmZ (P:Nat) [NeZero P] (N:Nat) (sk b:Bs):Nat:=sPl N (pmK N sk b) (sTi N (pmC P N sk b) (nuV sk))
noncomputable def pmT (P:Nat) [NeZero P] (N:Nat) (sk b:Bs):Bs × Int:=
 if sec N sk then if real P b then (bx (pmC P N sk b)++bx (pmZ P N sk b),0) else (#[],4) else (#[],3)
theorem real_rd {b:Bs} (h:real P b=true):(rd P b).isSome=true:=by
 unfold real at h
 exact ((Bool.and_eq_true _ _).mp h).1
theorem real_wr (C:Fl3 P) {b:Bs} (h:real P b=true):wr (ptOf P b)=b∧EC.On (ptOf P b):=by
 obtain ⟨p,hp⟩:=Option.isSome_iff_exists.1 (real_rd h)
 rw[ptOf_of hp]
 exact ⟨wr_rd C.toFld hp,(rd_on C.toFld hp).2⟩
theorem sec_lt {sk:Bs} (h:sec N sk=true):rq N sk=some (nuV sk)∧nuV sk<N∧nuV sk≠0:=by
 unfold sec at h
 rw[Bool.and_eq_true] at h
 obtain ⟨h1,h2⟩:=h
 obtain ⟨n,hn⟩:=Option.isSome_iff_exists.1 h1
 have e:=rq_nu hn
 rw[← e] at h2 ⊢
 refine ⟨hn,?_,by simpa using h2⟩
 unfold rq at hn
 split at hn
 ·rename_i h
  rw[← Option.some.inj hn];exact h.2
 ·cases hn
theorem owns_el {W:World} {B0 n:Nat} {v:Value} {T:Bs} (h:W.ownsRow B0 5 1 v n (cb T)) (hn:0<n) (hT:T.size=n):El n W v T:=by
 have h0:=fun {g:Nat}=>h.cells (g:=g)
 rcases h.2 with ⟨-,h2⟩|⟨g,cap,cur,rfl,-,hc,hq⟩
 ·omega
 ·have hr:W.rangeAt g 0 (cb T):=fun j u hu=>by
   have:=h0 (g:=g) rfl j u hu
   rw[add0] at this
   rw[Nat.zero_add]
   exact this
  refine ⟨g,cap,rfl,?_,hT,(Array.getElem?_eq_some_iff.1 hc).1,cb_holds hr fun j hj=>⟨?_,?_⟩⟩
  ·exact hq.1
  ·rw[hr j _ (List.getElem?_eq_getElem hj)];rfl
  ·simp[World.frozen?,hc]
def Eo (W:World) (v:Value) (T:Bs):Prop:=(v=.slice none 0 0∧T=#[])∨El 64 W v T
theorem Anp.el {c z B0:Nat} {v:Value} {W:World} (h:Anp c z B0 v W):El 64 W v (bx c++bx z):=by
 have h0:W.ownsRow B0 5 1 v 64 (((bx c).toList++(bx z).toList).map encB):=h
 rw[← Array.toList_append] at h0
 exact owns_el (T:=bx c++bx z) h0 (by decide) (by rw[Array.size_append,bx_size,bx_size])
theorem psame_any (C:Fl3 P) (O:Ord N) (p0 p1:Option Addr) (n0 c0 n1 c1:Nat) (sk b:Bs) (w:World) (hA:Arg w (.slice p0 n0 c0) sk) (h0:SP.PartOk w (.slice p0 n0 c0) sk.toList) (hA1:Arg33 w (.slice p1 n1 c1) b) (h1:SP.PartOk w (.slice p1 n1 c1) b.toList) :
 Calls Tryz.prog 14 #[.slice p0 n0 c0,.slice p1 n1 c1] w (Ret fun e w'=>Below w.heap.size w w'∧∃ v,e=.tuple #[v,.int .i64 (pmT P N sk b).2]∧Eo w' v (pmT P N sk b).1):=by
 have hk:((rq N sk).isSome && !decide ((rq N sk).getD 0=0))=sec N sk:=by
  unfold sec
  cases hr:rq N sk with
  | none=>rfl
  | some n=>rw[← rq_nu hr];rfl
 unfold pmT
 cases hs:sec N sk with
 | false =>
  rw[hs] at hk
  refine (psame_n3 O p0 p1 n0 c0 n1 c1 sk w hA hk).mono ?_
  rintro e w' ⟨v,rfl,hb,rfl⟩
  exact ⟨_,rfl,hb,_,rfl,Or.inl ⟨rfl,rfl⟩⟩
 | true =>
  rw[hs] at hk
  cases hr:real P b with
  | false =>
   refine (psame_n4 C.toFld O p0 p1 n0 c0 n1 c1 sk b w hA hA1 hk hr).mono ?_
   rintro e w' ⟨v,rfl,hb,rfl⟩
   exact ⟨_,rfl,hb,_,rfl,Or.inl ⟨rfl,rfl⟩⟩
  | true =>
   obtain ⟨hwr,hon⟩:=real_wr C hr
   obtain ⟨hq,-,hx0⟩:=sec_lt hs
   have hm:=psame_y C.toFld O p0 p1 n0 c0 n1 c1 sk w hA h0 (ptOf P b) hon (by rw[hwr];exact hA1) (by rw[hwr];exact h1) (by rw[hwr];exact hr) (nuV sk) hq hx0 (pmK N sk b) (pmC P N sk b) (pmZ P N sk b) (by rw[hwr];rfl) (by rw[hwr];rfl) rfl
   refine hm.mono ?_
   rintro e w' ⟨v,rfl,hb,u,rfl,hu⟩
   exact ⟨_,rfl,hb,u,rfl,Or.inr hu.el⟩
end
section
open Go.RowKit Go.Sort Go.Deep Go.Shelf
attribute [local go_sem] Oper.semAt_some
def chv (sb so c i:Nat):Value:=.slice (some ⟨sb,so+c*i,none⟩) c c
theorem grown_bc {w w':World} (h:Below w.heap.size w w') (row:Option Nat):w.grownBy w' row:=⟨h.os,h.tape,h.output,h.size,fun k hk _=>h.block k hk⟩
theorem sl3 (sb so n cap x y:Nat) (h1:x<y) (h2:y≤cap) (w:World):(Instr.sliceAt 22 (.slice (some ⟨sb,so,none⟩) n cap) (some (.int .i64 x)) (some (.int .i64 y)) (some (.int .i64 y))).run Tryz.prog w=.ok (.slice (some ⟨sb,so+x,none⟩) (y-x) (y-x)) w:=by
 have h3:¬ y=x:=by omega
 have h4:(x:Int)≤y:=by omega
 have h5:(y:Int)≤cap:=by omega
 have h6:x≤y:=by omega
 go_simp
theorem chunk_c (sb so c m n cap k1 k2:Nat) (w:World) (hc:0<c) (hn:n=c*m) (hcap:n≤cap) (hbig:n≤1073741824) (h1:w.cell? ⟨k1,0,none⟩=some (.slice (some ⟨sb,so,none⟩) n cap)) (h2:w.cell? ⟨k2,0,none⟩=some (.int .i64 c)) (l1:k1<w.heap.size) (l2:k2<w.heap.size) (nn:Nat) :
 SeqStopsK Fence.wide nn Tryz.prog 141 #[.pointer (some ⟨k1,0,none⟩),.pointer (some ⟨k2,0,none⟩)] (fun i:Nat=>#[chv sb so c i]) (Below w.heap.size) (fun xs=>xs=List.range m) (fun _=>True) m w:=by
 intro l J Jx W hW hJ hJx hY h0
 have HN:Hid (n=c*m):=hn
 clear hn
 refine callsIn_of_wp Tryz.func141 rfl trivial ?_ rfl
 simp only[Tryz.ntmps141,List.size_toArray,List.length_cons,List.length_nil,Nat.reduceAdd,Nat.reduceSub,Array.replicate_succ,Array.replicate_zero,List.push_toArray,List.append_toArray,List.nil_append,List.cons_append]
 gi_wp2
 gi_loopw [4] (fun p wr=>∃ i:Nat,i≤m∧p=.int .i64 ((c*i:Nat):Int)∧J (List.range i) wr∧Below w.heap.size w wr∧W.heap.size≤wr.heap.size) (fun p wr=>n-(intOf p).toNat)
 case atStart =>
  exact ⟨0,Nat.zero_le _,by rw[Nat.mul_zero];rfl,h0,hW,Nat.le_refl _⟩
 case round =>
  obtain ⟨i,hi,rfl,hJi,hB,hsz⟩:=hrel
  have c1:wr.cell? ⟨k1,0,none⟩=some (.slice (some ⟨sb,so,none⟩) n cap):=(World.cell?_of_block (hB.block k1 l1)).trans h1
  have c2:wr.cell? ⟨k2,0,none⟩=some (.int .i64 c):=(World.cell?_of_block (hB.block k2 l2)).trans h2
  by_cases he:i=m
  ·subst he
   have hge:¬ ((c*i:Nat):Int)<(n:Int):=by rw[HN.out];omega
   gi_wp2
   go_end0
   exact ⟨⟨_,rfl⟩,.inl hJi⟩
  ·obtain ⟨x,hx⟩:∃ x,Hid (c*i=x):=⟨_,rfl⟩
   have hxn:x+c≤n:=by
    have:=Nat.mul_le_mul_left c (show i+1≤m by omega)
    rw[Nat.mul_add,hx.out,← HN.out] at this
    omega
   have hlt:(x:Int)<(n:Int):=by omega
   rw[hx.out]
   gi_wp2_with fail
   refine wpIn_wide.2 ?_
   have hsl:(Instr.sliceAt 22 (.slice (some ⟨sb,so,none⟩) n cap) (some (.int .i64 x)) none none).run Tryz.prog wr.drew=.ok (.slice (some ⟨sb,so+x,none⟩) (n-x) (cap-x)) wr.drew:=by
    have h1:¬ (x:Int)<0:=by omega
    have h2:(x:Int)≤n:=by omega
    have h3:(n:Int)≤cap:=by omega
    have h4:¬ cap=x:=by omega
    go_simp
   have c1':wr.drew.cell? ⟨k1,0,none⟩=some (.slice (some ⟨sb,so,none⟩) n cap):=c1
   have c2':wr.drew.cell? ⟨k2,0,none⟩=some (.int .i64 c):=c2
   go_region
   rename_i K ha
   refine ha _ _ ?_
   clear ha hsl c1' c2' hlt
   obtain ⟨fn,tmps,assign,body,hy,hR⟩:=hY (List.range i) i wr.drew (hJ _ wr _ none hJi (grown_bc ((Below.refl _ wr).drew) none) (fun _ e=>by cases e)) (by rw[List.length_range];omega)
   have c1':wr.drew.cell? ⟨k1,0,none⟩=some (.slice (some ⟨sb,so,none⟩) n cap):=c1
   have c2':wr.drew.cell? ⟨k2,0,none⟩=some (.int .i64 c):=c2
   have hsl:∀ w:World,(Instr.sliceAt 22 (.slice (some ⟨sb,so,none⟩) n cap) (some (.int .i64 x)) (some (.int .i64 ((x+c:Nat):Int))) (some (.int .i64 ((x+c:Nat):Int)))).run Tryz.prog w=.ok (.slice (some ⟨sb,so+x,none⟩) c c) w:=fun w=>by
    have:=sl3 sb so n cap x (x+c) (by omega) (by omega) w
    rwa[show x+c-x=c by omega] at this
   unfold chv at hy
   rw[hx.out] at hy
   gi_wp2_with fail
   clear hy
   refine ⟨fun h=>(by cases h),hR.mono ?_⟩
   clear hR hsl c1' c2' c1
   have hBd:Below w.heap.size w wr.drew:=hB.drew
   rintro e W8 (⟨rfl,hJ8,hk8⟩|⟨rfl,hJx8⟩)
   ·have c3:W8.cell? ⟨k2,0,none⟩=some (.int .i64 c):=(World.cell?_of_block ((hBd.trans hk8).block k2 l2)).trans h2
    gi_wp2_with fail
    refine ⟨⟨i+1,by omega,?_,?_,hBd.trans hk8,Nat.le_trans hsz hk8.size⟩,?_⟩
    ·rw[Nat.mul_add,hx.out,Nat.mul_one];rfl
    ·rw[List.range_succ];exact hJ8
    ·simp[intOf]
     omega
   ·gi_wp2_with fail
    refine bodyPost_ret (results_none rfl _ _ _) rfl ?_
    exact ⟨⟨_,rfl⟩,.inr ⟨_,trivial,hJx8⟩⟩
end
section
open Go.RowKit Go.Sort Go.Deep Go.Shelf
attribute [local go_sem] Oper.semAt_some
theorem ownsRow_own (base:Nat) (T:TypeId) (v:Value) (n:Nat) (xs:List Value):Own (fun (_:Unit) W=>W.ownsRow base T 1 v n xs):=fun s A B row hs hg hr=>by
 refine hs.kept hg ?_
 rcases hs.2 with ⟨rfl,_⟩|⟨g,cap,cur,rfl,_,hgb,_⟩
 ·exact .inl rfl
 ·refine .inr fun e'=>?_
  obtain ⟨o,ho,hw⟩:=hr g (by simpa[Value.ownBlock] using e'.symm)
  rw[hgb] at ho;cases ho;cases hw
theorem ownsRow_apart {W:World} {base:Nat} {T U:TypeId} {v:Value} {n k:Nat} {xs:List Value} (h:W.ownsRow base T 1 v n xs) {o:Obj} (hk:W.heap[k]? = some o) (hT:∀ cs,o≠.cells cs T (0,0)):v.ownBlock=none∨v.ownBlock≠some k:=by
 rcases h.2 with ⟨rfl,_⟩|⟨g,cap,cur,rfl,_,hgb,_⟩
 ·exact .inl rfl
 ·refine .inr fun e'=>?_
  have:g=k:=by simpa[Value.ownBlock] using e'
  subst this;rw[hgb] at hk;cases hk;exact hT cur rfl
theorem ko_grown {W W':World} {base:Nat} {T:TypeId} {v:Value} {n:Nat} {xs:List Value} (h:W.ownsRow base T 1 v n xs) (hg:W.grownBy W' v.ownBlock):KeepsOthers W W':=by
 refine ⟨hg.size,fun k o hk ho=>?_⟩
 rw[hg.block k (Array.getElem?_eq_some_iff.1 hk).1 ?_]
 ·exact hk
 ·rcases h.2 with ⟨rfl,_⟩|⟨g,cap,cur,rfl,_,hgb,_⟩
  ·simp[Value.ownBlock]
  ·intro e
   have:k=g:=by simpa[Value.ownBlock] using e
   subst this;rw[hgb] at hk;cases hk;cases ho
def Box (T U:TypeId) (base Bs:Nat) (xs:List Value) (W:World):Prop:=∃ v,W.heap[Bs]? = some (.cells #[v] U (0,0))∧W.ownsRow base T 1 v xs.length xs∧(v=.slice none 0 0↔xs=[])
theorem box_own (T U:TypeId) (base Bs:Nat) (xs:List Value):Own (fun (_:Unit) W=>Box T U base Bs xs W):=fun s A B row hs hg hr=>by
 obtain ⟨v,h1,h2,h3⟩:=hs
 refine ⟨v,?_,ownsRow_own base T v _ xs () A B row h2 hg hr,h3⟩
 rw[hg.block Bs (Array.getElem?_eq_some_iff.1 h1).1 ?_]
 ·exact h1
 ·intro e
  obtain ⟨o,ho,hw⟩:=hr Bs e.symm
  rw[h1] at ho;cases ho;cases hw
theorem box_set {W:World} {B:Nat} {v:Value} {t:TypeId} (v':Value) (h:W.heap[B]? = some (.cells #[v] t (0,0))):(W.setCell ⟨B,0,none⟩ v').heap[B]? = some (.cells #[v'] t (0,0)):=by
 obtain ⟨hlt,hk⟩:=Array.getElem?_eq_some_iff.1 h
 show (W.heap.modify B _)[B]? = _
 rw[Array.getElem?_eq_getElem (by rw[Array.size_modify];exact hlt),Array.getElem_modify_self,hk]
 rfl
theorem box_grown (W:World) (b:Nat) (v:Value):W.grownBy (W.setCell ⟨b,0,none⟩ v) (some b):=
 ⟨rfl,rfl,rfl,(KeepsOthers.setCell W _ v).size,fun k _ hk=>Below.heap_setCell _ _ _ k (fun e=>hk (by rw[e]))⟩
theorem iBy:(Tryz.prog.info? 22).map (fun i=>(i.zero,i.size,i.bytes))=some (some (.slice none 0 0),1,24):=by kernel_rfl
theorem uBB:Tryz.prog.underlying 82=some (.slice 22):=by kernel_rfl
theorem appendSeq_c (g:Nat→Addr) (c:Nat) (gf:Nat) (eg:∀ args w,(callFunc gf args).run Tryz.prog w=.ok (.enter gf args) w) (lb:Array Value) (N:Nat) (hN:N≤1048576) (w:World)
 (hseq:∀ n,SeqStopsK Fence.wide n Tryz.prog gf lb (fun i:Nat=>#[.slice (some (g i)) c c]) (Below w.heap.size) (fun xs=>xs=List.range N) (fun _=>True) N w) :
 Calls Tryz.prog 140 #[.slice none 0 0,.func (.func gf) #[] lb] w (Ret fun e w'=>Below w.heap.size w w'∧w'.ownsRow w.heap.size 22 1 e N ((List.range N).map (fun i=>Value.slice (some (g i)) c c))∧(e=.slice none 0 0↔N=0)):=by
 obtain ⟨i0,hi,hz0,hz1,hz2⟩:=info_parts iBy
 refine (callsIn_wide (n:=5)).1 ?_
 refine callsIn_of_wp_marks Tryz.func140 rfl trivial ?_ rfl
 simp only[Tryz.ntmps140,List.size_toArray,List.length_cons,List.length_nil,Nat.reduceAdd,Nat.reduceSub,Array.replicate_succ,Array.replicate_zero,List.push_toArray,List.append_toArray,List.nil_append,List.cons_append]
 gi_wp2
 obtain ⟨W0,hW0⟩:∃ W0,W0=w.alloc (.cells #[.slice none 0 0] 82):=⟨_,rfl⟩
 have hsz:W0.heap.size=w.heap.size+1:=by rw[hW0,World.size_alloc]
 have hv0:W0.heap[w.heap.size]? = some (.cells #[.slice none 0 0] 82 (0,0)):=by rw[hW0];exact World.alloc_heap_new w _
 have hB0:Below w.heap.size w W0:=by rw[hW0];exact (Below.refl _ w).alloc (Nat.le_refl _) _
 rw[← hW0]
 clear hW0
 refine wpIn_rangeFunc_ownH (α:=Nat) rfl (by decide) (gf:=gf) (lb:=lb) rfl trivial eg (hseq 4) belowK_t (belowK_b (by omega)) hB0 (fun _=>rfl)
  (fun pre W=>Box 22 82 w.heap.size w.heap.size (pre.map (fun i=>Value.slice (some (g i)) c c)) W∧Below w.heap.size w W)
  (fun c pre W=>False)
  (OwnFrom.and (Own.from (show Own (fun (pre:List Nat) W=>Box 22 82 w.heap.size w.heap.size (pre.map (fun i=>Value.slice (some (g i)) c c)) W) from fun s A B row hs hg hr=>box_own 22 82 w.heap.size w.heap.size (s.map (fun i=>Value.slice (some (g i)) c c)) () A B row hs hg hr) _) (ownFrom_below (Nat.le_refl _) (by omega)))
  (fun c=>fun s A B row hs hg hr=>hs.elim)
  ⟨⟨_,hv0,⟨rfl,.inl ⟨rfl,rfl⟩⟩,by simp⟩,hB0⟩
  (fun x a' W=>a' = { tmps:=#[.slice none 0 0,.func (.func gf) #[] lb,.pointer (some ⟨w.heap.size,0,none⟩),undef,.slice none 0 0,(.slice (some (g x)) c c),.func (.func gf) #[] lb,(.slice (some (g x)) c c),undef,undef,undef,undef,undef],defers:=[] })
  (fun x a'=>fun s A B row hs hg hr=>hs) ?assign ?body ?done ?stop
 case assign =>
  intro l pre x W K hI hK
  gi_wp2
  exact hK _ _ (KeepsFrom.refl _ _) (Below.refl _ _) hI rfl
 case body =>
  rintro l pre x a' W hl ⟨r,hr⟩ ⟨⟨v,hv,hrow,hnil⟩,hB⟩ rfl hlt
  have hc:W.cell? ⟨w.heap.size,0,none⟩=some v:=by simp[World.cell?,hv]
  have hfz:W.frozen? ⟨w.heap.size,0,none⟩=false:=by simp[World.frozen?,hv]
  have hBlt:w.heap.size<W.heap.size:=(Array.getElem?_eq_some_iff.1 hv).1
  have hlen:(pre.map (fun i=>Value.slice (some (g i)) c c)).length=pre.length:=List.length_map _
  have hrow2:(W.alloc (.cells #[(.slice (some (g x)) c c)] 22)).ownsRow w.heap.size 22 1 v (pre.map (fun i=>Value.slice (some (g i)) c c)).length (pre.map (fun i=>Value.slice (some (g i)) c c)):=hrow.alloc _
  have hv2:(W.alloc (.cells #[(.slice (some (g x)) c c)] 22)).heap[w.heap.size]? = some (.cells #[v] 82 (0,0)):=(Below.heap_alloc _ _ _ hBlt).trans hv
  have hap:=ownsRow_apart (U:=0) hrow2 hv2 (fun cs e=>by cases e)
  gi_wp2_with (gi_at_builtin;refine Hid.out ?_)
  show wpListIn _ _ _ _ _ _ _ _
  (refine wpListIn_append_own _ rfl _ _ 82 rfl w.heap.size 22 i0 (.slice none 0 0) 1 24 uBB hi hz0 hz1 hz2 rfl (by decide) v _ _ rfl hrow2 ⟨W.heap.size,0,none⟩ 1 1 [(.slice (some (g x)) c c)] rfl rfl (cell_one_new _ _ _) (fun u hu=>by rw[List.mem_singleton.1 hu];rfl) (by rw[hlen];exact Nat.le_trans (show pre.length+1≤1048577 by omega) (by decide)) (by rw[hlen];omega) (by simp;omega) ?_;intro v' w3 hown' hg3 hnil3)
  have hne:(some w.heap.size:Option Nat)≠v.ownBlock:=by
   rcases hap with e|e
   ·rw[e];simp
   ·exact fun e'=>e e'.symm
  have hv3:w3.heap[w.heap.size]? = some (.cells #[v] 82 (0,0)):=(hg3.block _ (by rw[World.size_alloc];omega) hne).trans hv2
  have hc3:w3.cell? ⟨w.heap.size,0,none⟩=some v:=by simp[World.cell?,hv3]
  have hf3:w3.frozen? ⟨w.heap.size,0,none⟩=false:=by simp[World.frozen?,hv3]
  have hk3:KeepsOthers W w3:=(KeepsOthers.alloc W _).trans (ko_grown hrow2 hg3)
  have hb3:Below w.heap.size W w3:=((Below.refl _ W).alloc (Nat.le_of_lt hBlt) _).grown hg3 (by rw[World.size_alloc];omega) (fun k e=>(hrow2.lt k e).1)
  obtain ⟨g',cap',cur',rfl,hbase',hgb',hr⟩:∃ g' cap' cur',v'=.slice (some ⟨g',0,none⟩) ((pre.map (fun i=>Value.slice (some (g i)) c c)).length+1) cap'∧w.heap.size≤g'∧w3.heap[g']? = some (.cells cur' 22 (0,0))∧True:=by
   rcases hown'.2 with ⟨_,h0⟩|⟨g',cap',cur',h1,h2,h3,_⟩
   ·exact absurd h0 (by omega)
   ·exact ⟨g',cap',cur',h1,h2,h3,trivial⟩
  clear hg3 hc hfz hv hv2 hrow hrow2
  gi_wp2
  have hgB:=box_grown w3 w.heap.size (.slice (some ⟨g',0,none⟩) (pre.length+1) cap')
  have hBx:=box_set (.slice (some ⟨g',0,none⟩) (pre.length+1) cap') hv3
  rw[hlen] at hown'
  have hown4:=hown'.kept hgB (ownsRow_apart (U:=0) hown' hv3 (fun cs e=>by cases e))
  have hb4:Below w.heap.size W (w3.setCell ⟨w.heap.size,0,none⟩ (.slice (some ⟨g',0,none⟩) (pre.length+1) cap')):=hb3.grown hgB (Nat.le_trans hB.size hb3.size) (fun k e=>by cases e;exact Nat.le_refl _)
  refine ⟨(hk3.trans (KeepsOthers.setCell w3 _ _)).from _,hb4,⟨_,hBx,?_,?_⟩,hB.trans hb4⟩
  ·rw[List.map_append,List.length_append,hlen]
   exact hown4
  ·simp
 case done =>
  rintro D ys W hD rfl ⟨⟨v,hv,hrow,hnil⟩,hB⟩ hK
  have hc:W.cell? ⟨w.heap.size,0,none⟩=some v:=by simp[World.cell?,hv]
  gi_wp2
  refine ⟨by simp,.inl ⟨_,_,rfl,run_takeDeferred hK,?_⟩⟩
  have hgD:=grownBy_putObj' W D (.deferred none)
  rw[List.length_map,List.length_range] at hrow
  refine ⟨_,results_tmp rfl _ _ _,v,rfl,hB.grown hgD hB.size (fun k e=>by cases e;omega),hrow.kept hgD (ownsRow_apart (U:=0) hrow hK (fun cs e=>by cases e)),?_⟩
  rw[hnil]
  simp
 case stop =>
  rintro D c pre W hD hpre hF hK
  exact hF.elim
theorem collect_c (g:Nat→Addr) (c:Nat) (gf:Nat) (eg:∀ args w,(callFunc gf args).run Tryz.prog w=.ok (.enter gf args) w) (lb:Array Value) (N:Nat) (hN:N≤1048576) (w:World)
 (hseq:∀ n,SeqStopsK Fence.wide n Tryz.prog gf lb (fun i:Nat=>#[.slice (some (g i)) c c]) (Below w.heap.size) (fun xs=>xs=List.range N) (fun _=>True) N w) :
 Calls Tryz.prog 90 #[.func (.func gf) #[] lb] w (Ret fun e w'=>Below w.heap.size w w'∧w'.ownsRow w.heap.size 22 1 e N ((List.range N).map (fun i=>Value.slice (some (g i)) c c))∧(e=.slice none 0 0↔N=0)):=by
 go_enter Tryz.func90,Tryz.ntmps90
 go_wp2_with fail
 refine (appendSeq_c g c gf eg lb N hN w hseq).mono ?_
 rintro e w1 ⟨v,rfl,hb,hr,hn⟩
 go_wp2_with fail
 go_ret
 exact ⟨_,rfl,hb,hr,hn⟩
theorem chunks_c (sb so c m n cap:Nat) (w:World) (hc:0<c) (hn:n=c*m) (hm:m≤1024) (hcap:n≤cap) (hbig:n≤1073741824) (k:Nat) (hk:k+1<w.heap.size) (h1:w.cell? ⟨k,0,none⟩=some (.slice (some ⟨sb,so,none⟩) n cap)) (h2:w.cell? ⟨k+1,0,none⟩=some (.int .i64 c)) :
 Calls Tryz.prog 90 #[.func (.func 141) #[] #[.pointer (some ⟨k,0,none⟩),.pointer (some ⟨k+1,0,none⟩)]] w (Ret fun e w'=>Below w.heap.size w w'∧w'.ownsRow w.heap.size 22 1 e m ((List.range m).map (chv sb so c))∧(e=.slice none 0 0↔m=0)):=
 collect_c (fun i=>⟨sb,so+c*i,none⟩) c _ (enters_of Tryz.func141 (by kernel_rfl) rfl) _ m (by omega) w (chunk_c sb so c m n cap k (k+1) w hc hn hcap hbig h1 h2 (by omega) hk)
theorem chunk0_c (sb so n cap:Nat) (c:Nat) (hc:0<c) (w:World):Calls Tryz.prog 91 #[.slice (some ⟨sb,so,none⟩) n cap,.int .i64 c] w (Ret fun e w'=>e=.func (.func 141) #[] #[.pointer (some ⟨w.heap.size,0,none⟩),.pointer (some ⟨w.heap.size+1,0,none⟩)]∧w'=(w.alloc (.cells #[.slice (some ⟨sb,so,none⟩) n cap] 22)).alloc (.cells #[.int .i64 c] 3)):=by
 have h1:¬ (c:Int)<1:=by omega
 go_enter Tryz.func91,Tryz.ntmps91
 go_wp2
 go_ret
 exact ⟨_,rfl,rfl,rfl⟩
end
section
open Go.RowKit Go.Sort Go.Deep
variable {P:Nat} [NeZero P] {N:Nat}
theorem real_33 {b:Bs} (h:real P b=true):b.size=33:=by
 unfold real at h
 obtain ⟨p,hp⟩:=Option.isSome_iff_exists.1 ((Bool.and_eq_true _ _).mp h).1
 exact rd_33 hp
theorem rsome_y (C:Fld P) (v:Value) (b:Bs) (w:World) (hv:Arg33 w v b) (hr:real P b=true):Calls Tryz.prog 53 #[v] w (Ret fun e w'=>Below w.heap.size w w'∧e=.tuple #[pvl b,.bool true]):=by
 have:=rsome_c C v b w hv
 have hB:rdB P b=b:=by
  unfold rdB
  unfold real at hr
  rw[if_pos ((Bool.and_eq_true _ _).mp hr).1]
 rw[hr,hB] at this
 exact this
theorem rsome_n (C:Fld P) (v:Value) (b:Bs) (w:World) (hv:Arg33 w v b) (hr:real P b=false):Calls Tryz.prog 53 #[v] w (Ret fun e w'=>Below w.heap.size w w'∧e=.tuple #[.agg z33.toArray,.bool false]):=by
 have:=rsome_c C v b w hv
 have hB:rdB P b=o33:=by
  unfold real at hr
  cases h:(rd P b).isSome with
  | false=>unfold rdB;rw[h];rfl
  | true =>
   rw[h] at hr
   simpa using hr
 rw[hr,hB,← o33_pvl] at this
 exact this
def AllS (P:Nat) [NeZero P] (w:World) (k:Nat) (L:Nat→Bs) (e:Value) (w':World):Prop:=
 Below w.heap.size w w'∧(((∀ j,j<k→real P (L j)=true)∧∃ K,e=.tuple #[.slice (some ⟨K,0,none⟩) k k,.bool true]∧w.heap.size≤K∧K<w'.heap.size∧w'.there K 0 (33*k)∧∀ j,j<k→w'.rangeAt K (33*j) (bl33 (L j)))∨((∃ j,j<k∧real P (L j)=false)∧e=.tuple #[.slice none 0 0,.bool false]))
theorem allS_c (C:Fld P) (gg k c:Nat) (hk:k≤512) (L:Nat→Bs) (w:World) (hg:gg<w.heap.size) (hL:∀ j,j<k→∃ v,w.cell? ⟨gg,j,none⟩=some v∧Arg33 w v (L j)) :
 Calls Tryz.prog 56 #[.func (.func 53) #[] #[],.slice (some ⟨gg,0,none⟩) k c] w (Ret (AllS P w k L)):=by
 obtain ⟨C0,hC0,hmk⟩:=mkPL k hk
 have hmk':=hmk w
 obtain ⟨w1,hw1⟩:∃ w1,Hid (w.alloc (.cells C0.toArray 47)=w1):=⟨_,rfl⟩
 rw[hw1.out] at hmk'
 have HM:=Hid.mk' hmk'
 have K1:Hid (Az w w1 w.heap.size k 0 L):=by
  have hR:Row w1 w.heap.size C0:=by rw[← hw1.out];exact row_new w _ _
  refine ⟨by rw[← hw1.out];exact below1 _ _,hR.1,by rw[← hC0];exact hR.2.2,fun j hj=>by omega⟩
 have HC:Hid (Fld P∧(∀ j,j<k→∃ v,w.cell? ⟨gg,j,none⟩=some v∧Arg33 w v (L j))∧gg<w.heap.size):=⟨C,hL,hg⟩
 obtain ⟨d,hd1,hd2⟩:=Option.map_eq_some_iff.1 uCP
 have HD:Hid (Tryz.prog.underlying 47=some d∧d.isRow=true):=⟨hd1,hd2⟩
 have HO:Hid (z33.toArray.all (·.oneCell')=true):=by show _=_;decide +kernel
 clear hd1 hd2 C hL hg hmk hC0 hw1
 go_enter Tryz.func56,Tryz.ntmps56
 go_wp2
 clear hmk'
 go_loopg [16] k (fun m s16 W=>∃ i:Nat,i+m=k∧s16=.int .i64 i∧Hid (Az w W w.heap.size k i L∧∀ j,j<i→real P (L j)=true))
 case atStart=>exact ⟨0,by omega,rfl,K1.out,fun j hj=>by omega⟩
 case round =>
  clear K1 HM
  obtain ⟨i,hik,rfl,KM⟩:=hrel
  by_cases hi:i<k
  ·have hi':(i:Int)<(k:Int):=by omega
   obtain ⟨v,hc0,hA0⟩:=HC.out.2.1 i hi
   have hc:wr.cell? ⟨gg,i,none⟩=some v:=by rw[KM.out.1.bl.cell (p:=⟨gg,i,none⟩) HC.out.2.2];exact hc0
   have HA:Hid (Arg33 wr v (L i)):=hA0.below KM.out.1.bl
   have hix:=atB gg 0 k c i hi
   rw[show 0+1*i=i by omega] at hix
   clear hc0 hA0
   obtain ⟨b,hbe⟩:∃ b,Hid (L i=b):=⟨_,rfl⟩
   rw[hbe.out] at HA
   obtain ⟨k9,hk9⟩:∃ k9:Nat,True:=⟨0,trivial⟩
   clear hk9 k9
   cases hr:real P b with
   | false =>
    go_wp2_with fail
    refine (rsome_n HC.out.1 v b wr HA.out hr).mono ?_
    rintro e W1 ⟨vv,rfl,hb1,rfl⟩
    obtain ⟨vz,hvz⟩:∃ vz,Hid (Value.agg z33.toArray=vz):=⟨_,rfl⟩
    rw[hvz.out]
    obtain ⟨k9,hk9⟩:∃ k9,Hid (W1.heap.size=k9):=⟨_,rfl⟩
    obtain ⟨W2,hW2⟩:∃ W2,Hid (W1.alloc (.cells z33.toArray 47)=W2):=⟨_,rfl⟩
    obtain ⟨W3,hW3⟩:∃ W3,Hid (W2.setCells k9 0 z33=W3):=⟨_,rfl⟩
    have F2:Hid (Row W2 k9 z33∧Below w.heap.size w W2∧w.heap.size≤k9):=by
     have hbb:Below w.heap.size w W1:=KM.out.1.bl.trans (hb1.mono KM.out.1.bl.size)
     rw[← hW2.out,← hk9.out]
     exact ⟨row_new W1 _ _,hbb.alloc hbb.size _,hbb.size⟩
    have K3:Hid (Below w.heap.size w W3):=by rw[← hW3.out];exact RG.below_setCells F2.out.2.2 _ _ _ F2.out.2.1
    have HN:Hid (i<k∧real P (L i)=false):=⟨hi,by rw[hbe.out];exact hr⟩
    clear hb1 KM hr
    go_wp2_with (first|(refine wpList_op (v:=.pointer (some ⟨k9,0,none⟩)) (w':=W2) rfl (.alloc 47) rfl ?_ ?_;(rw[← hW2.out,← hk9.out];kernel_rfl))|(refine wpList_store_mid rfl 47 _ _ rfl k9 0 z33.toArray ?_ ?_ ?_ ?_ ?_ ?_;rfl;exact hvz.out.symm;exact F2.out.1.2.2;exact infoCP;exact HO.out;rw[show z33.toArray.toList=z33 from rfl,hW3.out])|fail)
    go_ret2
    exact ⟨_,rfl,K3.out,Or.inr ⟨⟨i,HN.out⟩,rfl⟩⟩
   | true =>
    have hs:=real_33 hr
    go_wp2_with fail
    refine (rsome_y HC.out.1 v b wr HA.out hr).mono ?_
    rintro e W1 ⟨vv,rfl,hb1,rfl⟩
    obtain ⟨vz,hvz⟩:∃ vz,Hid (pvl b=vz):=⟨_,rfl⟩
    rw[hvz.out]
    have hlen:(bl33 b).length=33:=bl33_length hs
    have hsz:(bl33 b).toArray.size=33:=by rw[List.size_toArray];exact hlen
    obtain ⟨k9,hk9⟩:∃ k9,Hid (W1.heap.size=k9):=⟨_,rfl⟩
    obtain ⟨W2,hW2⟩:∃ W2,Hid (W1.alloc (.cells z33.toArray 47)=W2):=⟨_,rfl⟩
    obtain ⟨W3,hW3⟩:∃ W3,Hid (W2.setCells k9 0 (bl33 b)=W3):=⟨_,rfl⟩
    obtain ⟨W4,hW4⟩:∃ W4,Hid (W3.setCells w.heap.size (33*i) (bl33 b)=W4):=⟨_,rfl⟩
    have A1:Az w W1 w.heap.size k i L:=KM.out.1.grow hb1
    have F2:Hid (Row W2 k9 z33∧Below W1.heap.size W1 W2):=by
     rw[← hW2.out,← hk9.out]
     exact ⟨row_new W1 _ _,below1 _ _⟩
    have F3:Hid (Row W3 k9 (bl33 b)∧Az w W3 w.heap.size k i L):=by
     rw[← hW3.out]
     exact ⟨F2.out.1.put (by rw[hlen];rfl),A1.grow (RG.below_setCells (by rw[hk9.out];exact Nat.le_refl _) _ _ _ F2.out.2)⟩
    have K4:Hid (Az w W4 w.heap.size k (i+1) L∧∀ j,j<i+1→real P (L j)=true):=by
     have hall:∀ j,j<i+1→real P (L j)=true:=fun j hj=>by
      by_cases hji:j=i
      ·subst hji;(rw[hbe.out];exact hr)
      ·exact KM.out.2 j (by omega)
     have h:=F3.out.2.put (Nat.le_refl _) hi (fun j hj=>by exact real_33 (hall j (by omega)))
     rw[hbe.out,hW4.out] at h
     exact ⟨h,hall⟩
    have HI:Hid ((Tryz.prog.info? 47).map (·.size)=some (bl33 b).length∧(Tryz.prog.info? 47).map (·.size)=some (bl33 b).toArray.size∧W2.there k9 0 (bl33 b).toArray.size∧W3.there w.heap.size (33*i) (bl33 b).toArray.size):=by
     rw[hlen,hsz]
     refine ⟨infoCP,infoCP,F2.out.1.2.2,fun t ht=>?_⟩
     have:=F3.out.2.th (33*i+t) (by omega)
     rwa[Nat.zero_add] at this
    have hix2:=atP w.heap.size 0 k k i hi
    clear hb1 KM hr hlen hsz A1 hs
    go_wp2_with (first|(refine wpList_op (v:=.pointer (some ⟨k9,0,none⟩)) (w':=W2) rfl (.alloc 47) rfl ?_ ?_;(rw[← hW2.out,← hk9.out];kernel_rfl))|(refine wpList_store_mid rfl 47 _ _ rfl k9 0 (bl33 b).toArray ?_ ?_ ?_ ?_ ?_ ?_;rfl;exact hvz.out.symm;exact HI.out.2.2.1;exact HI.out.2.1;exact bl33_one b;rw[show (bl33 b).toArray.toList=bl33 b from rfl,hW3.out])|(refine wpList_load_mid rfl 47 _ rfl k9 0 ?_ (bl33 b) d ?_ ?_ ?_ ?_ ?_;rfl;exact F3.out.1.2.1;exact HD.out.1;exact HD.out.2;exact HI.out.1;rw[show Value.agg (bl33 b).toArray=vz from hvz.out])|(refine wpList_store_mid rfl 47 _ _ rfl w.heap.size (33*i) (bl33 b).toArray ?_ ?_ ?_ ?_ ?_ ?_;rfl;exact hvz.out.symm;exact HI.out.2.2.2;exact HI.out.2.1;exact bl33_one b;rw[show (bl33 b).toArray.toList=bl33 b from rfl,hW4.out])|fail)
    go_roundg (gk-1)
    case measure=>omega
    case rel=>exact ⟨i+1,by omega,rfl,K4⟩
  ·have hi':¬ (i:Int)<(k:Int):=by omega
   obtain rfl:i=k:=by omega
   go_wp2
   go_ret2
   exact ⟨_,rfl,KM.out.1.bl,Or.inl ⟨KM.out.2,w.heap.size,rfl,Nat.le_refl _,KM.out.1.lt,KM.out.1.th,KM.out.1.rw⟩⟩
end
section
open Go.RowKit Go.Sort Go.Deep
namespace RG
section
variable {P:Program} {ops:Array Oper} {Q:Exit→Act→World→Prop} {w0 w:World} {k0:Nat} {X:List Nat} {its:List It} {bl:List Bl} {olds:List (Tmp × SV)} {a:Act} {i:Nat} {o:Oper} {it:It}
end
end RG
variable {P:Nat} [NeZero P] {N:Nat}
end
section
open Go.RowKit Go.Sort Go.Deep
variable {P:Nat} [NeZero P] {N:Nat}
noncomputable def vsF (P:Nat) [NeZero P] (a:Bs) (c s:Nat):Bs:=wr (EC.add (EC.mul s (gG P)) (EC.neg (EC.mul c (ptOf P a))))
noncomputable def vsG (P:Nat) [NeZero P] (g b:Bs) (c s:Nat):Bs:=wr (EC.add (EC.mul s (ptOf P g)) (EC.neg (EC.mul c (ptOf P b))))
noncomputable def vsM (P:Nat) [NeZero P] (N:Nat) (a g b:Bs) (c s:Nat):Nat:=asm N g.toList a.toList b.toList (vsF P a c s).toList (vsG P g b c s).toList
theorem rq_lt {bs:Bs} (h:(rq N bs).isSome=true):nuV bs<N:=by
 obtain ⟨n,hn⟩:=Option.isSome_iff_exists.1 h
 rw[← rq_nu hn]
 unfold rq at hn
 split at hn
 ·rename_i h
  rw[← Option.some.inj hn];exact h.2
 ·cases hn
theorem results_ttt {P:Program} {w:World} {fn:Func} {a:Act} (t u x:Tmp) (hr:fn.results=#[.tmp t,.tmp u,.tmp x]) (v v' v'':Value) (ht:a.tmps[t]? = some v) (hu:a.tmps[u]? = some v') (hx:a.tmps[x]? = some v''):(results fn a.tmps).run P w=.ok (.tuple #[v,v',v'']) w:=by
 have h2:a.tmps.getD t undef=v:=by rw[Array.getD_eq_getD_getElem?,ht];rfl
 have h3:a.tmps.getD u undef=v':=by rw[Array.getD_eq_getD_getElem?,hu];rfl
 have h4:a.tmps.getD x undef=v'':=by rw[Array.getD_eq_getD_getElem?,hx];rfl
 unfold results
 rw[hr]
 simp only[Array.mapM_eq_mapM_toList,List.mapM_cons,List.mapM_nil,h2,h3,h4]
 simp[Sem.run_bind]
theorem own_cells {W:World} {base m:Nat} {T:TypeId} {e:Value} {xs:List Value} (h:W.ownsRow base T 1 e m xs) (hm:0<m):∃ g cap,e=.slice (some ⟨g,0,none⟩) m cap∧base≤g∧g<W.heap.size∧∀ j,j<m→W.cell? ⟨g,j,none⟩=xs[j]?:=by
 rcases h.2 with ⟨_,h0⟩|⟨g,cap,cur,rfl,hb,hg,h1,h2,h3,h4⟩
 ·omega
 ·refine ⟨g,cap,rfl,hb,(Array.getElem?_eq_some_iff.1 hg).1,fun j hj=>?_⟩
  rw[← h4,List.getElem?_take_of_lt (by omega)]
  simp[World.cell?,hg]
theorem two_cells (w:World) (u v:Value) (T U:TypeId):Below w.heap.size w ((w.alloc (.cells #[u] T)).alloc (.cells #[v] U))∧((w.alloc (.cells #[u] T)).alloc (.cells #[v] U)).heap.size=w.heap.size+2∧((w.alloc (.cells #[u] T)).alloc (.cells #[v] U)).cell? ⟨w.heap.size,0,none⟩=some u∧((w.alloc (.cells #[u] T)).alloc (.cells #[v] U)).cell? ⟨w.heap.size+1,0,none⟩=some v:=by
 have h1:=RG.Made.alloc w [u] T
 have h2:=RG.Made.alloc (w.alloc (.cells #[u] T)) [v] U
 rw[World.size_alloc] at h2
 refine ⟨h1.bel.trans (h2.bel.mono (by rw[World.size_alloc];omega)),by rw[World.size_alloc,World.size_alloc],?_,h2.range 0 _ rfl⟩
 have hlt:=h1.lt
 rw[World.cell?_of_block (a:=⟨w.heap.size,0,none⟩) (Below.heap_alloc _ _ _ hlt)]
 exact h1.range 0 _ rfl
theorem rows2 {f:Nat→List Value} {C:List Value} (h:Rows 4 2 f 2 C) (h0:∀ j,(f j).length=4):C=f 0++f 1:=by
 apply List.ext_getElem?
 intro j
 have hl:=h.len
 by_cases hj:j<8
 ·have e:j=4*(j/4)+j%4:=by omega
  have hr:=h.row (j/4) (j%4) (by omega) (by omega)
  rw[← e] at hr
  rw[hr]
  have h3:j/4=0∨j/4=1:=by omega
  rcases h3 with h3|h3
  ·rw[h3,List.getElem?_append_left (by rw[h0];omega)];congr 1;omega
  ·rw[h3,List.getElem?_append_right (by rw[h0];omega),h0];congr 1;omega
 ·rw[List.getElem?_eq_none (by omega),List.getElem?_eq_none (by simp only[List.length_append,h0];omega)]
theorem allP_nil (q:Option Addr) (c:Nat) (w:World):Calls Tryz.prog 56 #[.func (.func 34) #[] #[],.slice q 0 c] w (Ret fun e w'=>Below w.heap.size w w'∧∃ K,e=.tuple #[.slice (some ⟨K,0,none⟩) 0 0,.bool true]):=by
 obtain ⟨C0,hC0,hmk⟩:=mkPL 0 (by decide)
 have hmk':(Instr.makeSlice 67 (.int .i64 0) (.int .i64 0)).run Tryz.prog w=.ok (.slice (some ⟨w.heap.size,0,none⟩) 0 0) (w.alloc (.cells C0.toArray 47)):=hmk w
 obtain ⟨w1,hw1⟩:∃ w1,Hid (w.alloc (.cells C0.toArray 47)=w1):=⟨_,rfl⟩
 rw[hw1.out] at hmk'
 have K1:Hid (Below w.heap.size w w1):=by rw[← hw1.out];exact below1 _ _
 clear hmk hC0 hw1
 go_enter Tryz.func56,Tryz.ntmps56
 go_wp2
 clear hmk'
 go_loopg [16] 0 (fun m s16 W=>s16=.int .i64 0∧Hid (Below w.heap.size w W))
 case atStart=>exact ⟨rfl,K1.out⟩
 case round =>
  clear K1
  obtain ⟨rfl,KM⟩:=hrel
  go_wp2
  go_ret2
  exact ⟨_,rfl,KM.out,_,rfl⟩
def RpT (N:Nat) (b:Bs):Bool:=decide (b.size=64) && ((rq N (b.extract 0 32)).isSome && (rq N (b.extract 32 64)).isSome)
def RpR (N:Nat) (w:World) (b:Bs) (e:Value) (w':World):Prop:=
 Below w.heap.size w w'∧((RpT N b=true∧∃ q k,e=.tuple #[q,.slice (some ⟨k,0,none⟩) 2 2,.bool true]∧w.heap.size≤k∧k<w'.heap.size∧w'.rangeAt k 0 (wn (nuV (b.extract 0 32))++wn (nuV (b.extract 32 64)))∧w'.there k 0 8)∨(RpT N b=false∧∃ q1 q2,e=.tuple #[q1,q2,.bool false]))
theorem rq_nuV {b:Bs} (h:(rq N b).isSome=true):(rq N b).getD 0=nuV b:=by
 obtain ⟨n,hn⟩:=Option.isSome_iff_exists.1 h
 rw[hn,Option.getD_some,rq_nu hn]
theorem readProof2_c (O:Ord N) (v:Value) (b:Bs) (w:World) (hv:SP.PartOk w v b.toList):Calls Tryz.prog 35 #[v,.int .i64 0,.int .i64 2] w (Ret (RpR N w b)):=by
 obtain ⟨a0,sb,so,cap,bs,rfl,hbe,hcap,-,hor⟩:=hv
 obtain rfl:bs=b:=Array.ext' hbe
 clear hbe
 by_cases h64:bs.size=64
 ·obtain ⟨rfl,hH⟩:a0=some ⟨sb,so,none⟩∧Holds encB w sb so bs:=by
   rcases hor with h|h
   ·omega
   ·exact h
  clear hor
  have hlt:sb<w.heap.size:=holds_lt hH (by omega)
  rw[h64] at hcap ⊢
  have hs1:∀ w:World,(Instr.sliceAt 22 (.slice (some ⟨sb,so,none⟩) 64 cap) none (some (.int .i64 0)) none).run Tryz.prog w=.ok (.slice (some ⟨sb,so,none⟩) 0 cap) w:=fun w=>by
   go_simp
  have hs2:∀ w:World,(Instr.sliceAt 22 (.slice (some ⟨sb,so,none⟩) 64 cap) (some (.int .i64 0)) none none).run Tryz.prog w=.ok (.slice (some ⟨sb,so,none⟩) 64 cap) w:=fun w=>by
   go_simp
  have HH:Hid (Holds encB w sb so bs∧bs.size=64):=⟨hH,h64⟩
  clear hH h64
  go_enter Tryz.func35,Tryz.ntmps35
  go_wp2_with fail
  refine (chunk0_c sb so 0 cap 33 (by decide) w).mono ?_
  rintro e w1 ⟨v1,rfl,rfl,hw1⟩
  obtain ⟨h1,h2,h3,h4⟩:=two_cells w (.slice (some ⟨sb,so,none⟩) 0 cap) (.int .i64 33) 22 3
  have hw1':w1=(w.alloc (.cells #[.slice (some ⟨sb,so,none⟩) 0 cap] 22)).alloc (.cells #[.int .i64 33] 3):=hw1
  rw[← hw1'] at h1 h2 h3 h4
  clear hw1 hw1'
  have hcl:=chunks_c sb so 33 0 0 cap w1 (by decide) rfl (by decide) (Nat.zero_le _) (by decide) w.heap.size (by omega) h3 h4
  clear h3 h4
  go_wp2_with fail
  refine hcl.mono ?_
  rintro e w2 ⟨v2,rfl,hb2,-,hn2⟩
  obtain rfl:=hn2.2 trivial
  have H2:Hid (Below w.heap.size w w2):=h1.trans (hb2.mono h1.size)
  clear h1 h2 hcl hb2 hn2
  go_wp2_with fail
  refine (allP_nil none 0 w2).mono ?_
  rintro e w3 ⟨v3,rfl,hb3,K3,rfl⟩
  have H3:Hid (Below w.heap.size w w3):=H2.out.trans (hb3.mono H2.out.size)
  clear hb3 H2
  go_wp2_with fail
  refine (chunk0_c sb so 64 cap 32 (by decide) w3).mono ?_
  rintro e w4 ⟨v4,rfl,rfl,hw4⟩
  obtain ⟨h1,h2,h3,h4⟩:=two_cells w3 (.slice (some ⟨sb,so,none⟩) 64 cap) (.int .i64 32) 22 3
  have hw4':w4=(w3.alloc (.cells #[.slice (some ⟨sb,so,none⟩) 64 cap] 22)).alloc (.cells #[.int .i64 32] 3):=hw4
  rw[← hw4'] at h1 h2 h3 h4
  clear hw4 hw4'
  have hcl:=chunks_c sb so 32 2 64 cap w4 (by decide) rfl (by decide) hcap (by decide) w3.heap.size (by omega) h3 h4
  clear h3 h4
  go_wp2_with fail
  refine hcl.mono ?_
  rintro e w5 ⟨v5,rfl,hb5,hr5,-⟩
  obtain ⟨g5,c5,rfl,hg5,hl5,hc5⟩:=own_cells hr5 (by decide)
  have H5:Hid (Below w.heap.size w w5):=(H3.out.trans (h1.mono H3.out.size)).trans (hb5.mono (Nat.le_trans H3.out.size h1.size))
  clear h1 h2 hcl hb5 hg5 hr5 H3
  have HA:Hid (Args w5 (some ⟨g5,0,none⟩) 2 (fun j=>bs.extract (32*j) (32*j+32))):=fun _=>by
   refine ⟨g5,rfl,hl5,fun j hj=>⟨chv sb so 32 j,?_,?_⟩⟩
   ·rw[hc5 j hj]
    simp[hj]
   ·have hsz:=HH.out.2
    refine ⟨_,32,32,rfl,by rw[Array.size_extract];omega,fun _=>⟨sb,so+32*j,rfl,Nat.le_refl _,Nat.lt_of_lt_of_le hlt H5.out.size,?_⟩⟩
    have hH5:Holds encB w5 sb so bs:=Holds.below HH.out.1 H5.out hlt
    exact holds_part (32*j) 32 hH5 (by omega)
  clear hl5 hc5
  go_wp2_with fail
  refine (allOf_c O 2 c5 (by decide) (some ⟨g5,0,none⟩) _ w5 HA.out).mono ?_
  have HN:Hid (w.heap.size≤w5.heap.size):=H5.out.size
  rintro e w6 ⟨v6,rfl,⟨hno,hb6,rfl⟩|⟨hall,k6,C6,hM6,hRo,rfl⟩⟩
  ·have H6:Hid (Below w.heap.size w w6∧RpT N bs=false):=by
    refine ⟨H5.out.trans (hb6.mono HN.out),?_⟩
    obtain ⟨j,hj,hq⟩:=hno
    unfold RpT
    have hj2:j=0∨j=1:=by omega
    rcases hj2 with rfl|rfl
    ·have hq':rq N (bs.extract 0 32)=none:=hq
     rw[hq'];simp
    ·have hq':rq N (bs.extract 32 64)=none:=hq
     rw[hq'];simp
   clear hno hb6 H5 HA HH
   go_wp2
   refine bodyPost_ret (v:=.tuple #[.slice (some ⟨K3,0,none⟩) 0 0,.slice none 0 0,.bool false]) (results_ttt (a:=⟨_,_⟩) 6 7 8 rfl _ _ _ rfl rfl rfl) rfl ?_
   exact ⟨_,rfl,H6.out.1,Or.inr ⟨H6.out.2,_,_,rfl⟩⟩
  ·have H6:Hid (RpR N w bs (.tuple #[.slice (some ⟨K3,0,none⟩) 0 0,.slice (some ⟨k6,0,none⟩) 2 2,.bool true]) w6):=by
    have q0:(rq N (bs.extract 0 32)).isSome=true:=hall 0 (by decide)
    have q1:(rq N (bs.extract 32 64)).isSome=true:=hall 1 (by decide)
    refine ⟨H5.out.trans (hM6.bel.mono HN.out),Or.inl ⟨?_,_,k6,rfl,Nat.le_trans HN.out hM6.le,hM6.lt,?_,?_⟩⟩
    ·unfold RpT
     rw[q0,q1,HH.out.2]
     rfl
    ·have hC:=rows2 hRo (fun _=>rfl)
     rw[← rq_nuV q0,← rq_nuV q1]
     have:=hM6.range
     rw[hC] at this
     exact this
    ·have hC:=hRo.len
     have:=hM6.there
     rw[hC] at this
     exact this
   clear hall hM6 hRo H5 HA HH
   go_wp2
   refine bodyPost_ret (v:=.tuple #[.slice (some ⟨K3,0,none⟩) 0 0,.slice (some ⟨k6,0,none⟩) 2 2,.bool true]) (results_ttt (a:=⟨_,_⟩) 6 7 8 rfl _ _ _ rfl rfl rfl) rfl ?_
   exact ⟨_,rfl,H6.out⟩
 ·have hne:((bs.size:Int) == 64)=false:=by simpa using (by omega:¬ (bs.size:Int)=64)
  have HT:Hid (RpT N bs=false):=by show _=_;unfold RpT;rw[decide_eq_false h64];rfl
  have h64':¬ (bs.size:Int)=64:=by omega
  go_enter Tryz.func35,Tryz.ntmps35
  go_wp2
  refine bodyPost_ret (v:=.tuple #[.slice none 0 0,.slice none 0 0,.bool false]) (results_ttt (a:=⟨_,_⟩) 6 7 8 rfl _ _ _ rfl rfl rfl) rfl ?_
  exact ⟨_,rfl,Below.refl _ _,Or.inr ⟨HT.out,_,_,rfl⟩⟩
end
end Go.Proofs.YtmfodnkinmnopaaGreat
