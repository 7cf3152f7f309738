import Derived.Deep.DeepCutAuto
import Derived.Deep.Upon
import Derived.Maps.AppendAt
import Derived.BigQuiet
import Derived.Test.YtlofhpkoaljmeaaGreatat7
set_option linter.unusedVariables false
set_option linter.constructorNameAsVariable false
set_option linter.unusedSimpArgs false
set_option maxRecDepth 1000000
set_option maxHeartbeats 4000000
namespace Go.Proofs.YtlofhpkoaljmeaaGreat
section
open Go.RowKit Go.Sort Go.Deep SPA
section
variable {P:Program} {ops:Array Oper} {Q:Exit→Act→World→Prop} {p r:Nat} {J:Iv} {i fuel:Nat} {o:Oper} {listed:Array Bool} {a a':Act} {w w':World} {d:Option Tmp} {x v:Value} {t:Tmp} {T:TypeId} {b off:Nat} {cs:List Value}
theorem AG.ro (i:Nat) (u:∀ W,J.p W→W.rangeAt b off cs) (hv:Hid (.agg cs.toArray=x)) (v:(P.underlying T).map (·.isRow)=some true) (n:(P.info? T).map (·.size)=some cs.length) (h:AW P ops Q p r J fuel (listed.setIfInBounds i true) a' w) (ho:ops[i]? = some o:=by (simp only[List.getElem?_toArray,List.getElem?_cons_succ,List.getElem?_cons_zero])<;>rfl) (hd:o.dst=d:=by rfl) (j:Region.wanted o (yielded ops a.tmps)=true:=by kernel_rfl) (k:o.op=.load T (.tmp t):=by rfl) (hx:a.eval (.tmp t)=.pointer (some ⟨b,off,none⟩):=by rfl)
 (s:a.put d x=a':=by (simp only[Act.put,List.setIfInBounds_toArray,List.set_cons_succ,List.set_cons_zero])<;>rfl) (g:aw1 ops p r (qw ops J.b p r i) i listed=true:=by kernel_rfl) (e:∀ c a w,Q (.panic c) (a.put o.dst x) w→Q (.panic c) a w:=by exact fun _ _ _ h=>h):AW P ops Q p r J (fuel+1) listed a w:=by
 obtain rfl:=hv.out
 obtain ⟨m,l,f⟩:=Option.map_eq_some_iff.1 v
 exact AW.take i (qw ops J.b p r i) ho hd (yieldsIf_load_mid j T (.tmp t) k b off hx cs m (fun w q=>u w (Sa.bel q)) l f n) s g e h
theorem AG.mv (i:Nat) (h:AW P ops Q p r J fuel (listed.setIfInBounds i true) a' w) (ho:ops[i]? = some o:=by (simp only[List.getElem?_toArray,List.getElem?_cons_succ,List.getElem?_cons_zero])<;>rfl) (hd:o.dst=d:=by rfl) (f:Region.wanted o (yielded ops a.tmps)=true:=by kernel_rfl) (k:o.op=.move (.tmp t):=by rfl) (hx:a.eval (.tmp t)=x:=by (conv=>lhs;whnf)<;>rfl)
 (g:a.put d x=a':=by (simp only[Act.put,List.setIfInBounds_toArray,List.set_cons_succ,List.set_cons_zero])<;>rfl) (e:aw1 ops p r (fw ops i) i listed=true:=by kernel_rfl) (b:∀ c a w,Q (.panic c) (a.put o.dst x) w→Q (.panic c) a w:=by exact fun _ _ _ h=>h):AW P ops Q p r J (fuel+1) listed a w:=
 AW.take i (fw ops i) ho hd (Or.inl ⟨f,fun w _=>by unfold execOp;rw[k];dsimp only;rw[hx];rfl⟩) g e b h
theorem AG.cw (i:Nat) {f:FuncId} {args:Array Value} {R:Value→World→Prop} (l:J.p w→Calls P f args w (Ret R)) (hR:∀ e w',J.p w→R e w'→J.p w') (h:∀ e w',R e w'→AW P ops Q p r J fuel (listed.setIfInBounds i true) (a.put d e) w') (ho:ops[i]? = some o:=by (simp only[List.getElem?_toArray,List.getElem?_cons_succ,List.getElem?_cons_zero])<;>rfl) (hd:o.dst=d:=by rfl) (g:Region.wanted o (yielded ops a.tmps)=true:=by kernel_rfl) (hx:(execOp a.eval o).run P w=.ok (.enter f args) w:=by kernel_rfl) (j:Region.ready .any ops listed=[i]:=by kernel_rfl):AW P ops Q p r J (fuel+1) listed a w:=fun b=>by
 subst hd
 exact anyS.step ho j fun K c=>by
  rw[if_pos g]
  unfold Oper.wp
  rw[hx,Oper.upon_enter]
  refine (l b).mono ?_
  rintro e w' ⟨v,rfl,k⟩
  exact c.out _ _ (Or.inr (hR v w' b k)) (h v w' k (hR v w' b k))
end
variable {P:Nat} [NeZero P] {N:Nat} [NeZero N]
theorem boxA (a b c d e f g h i j k:Value) (w:World):(Instr.box 66 (.agg #[a,b,c,d,e,f,g,h,i,j,k])).run Tryz.prog w=.ok (.pointer (some ⟨w.heap.size,0,none⟩)) (w.alloc (.cells #[a,b,c,d,e,f,g,h,i,j,k] 66)):=kR
def q33 (g:Nat × Nat):Value:=.slice (some ⟨g.1,0,none⟩) 33 g.2
def q32 (g:Nat × Nat):Value:=.slice (some ⟨g.1,0,none⟩) 32 g.2
structure RgU (Q:Nat→Prop) (W:World) (p:Rp) (a b c d e f g:Nat × Nat):Prop where
 a:ElQ Q 33 W (q33 a) p.a
 b:ElQ Q 33 W (q33 b) p.s
 c:ElQ Q 33 W (q33 c) p.c
 d:ElQ Q 33 W (q33 d) p.d
 e:ElQ Q 32 W (q32 e) (bx p.u)
 f:ElQ Q 32 W (q32 f) (bx p.m)
 g:ElQ Q 32 W (q32 g) (bx p.t)
theorem RgU.keep {Q:Nat→Prop} {W W':World} {p:Rp} {a b c d e f g:Nat × Nat} (h:RgU Q W p a b c d e f g) (k:Kq Q W W'):RgU Q W' p a b c d e f g:=⟨h.a.keep k,h.b.keep k,h.c.keep k,h.d.keep k,h.e.keep k,h.f.keep k,h.g.keep k⟩
structure RgV (t:Nat) (p:Rp) (Lb Rb:Nat→Bs) (Ab Bb:Bs) (e:Value) (W:World):Prop where
 ex:∃ a b c d u m s vL vR vA vB,e=.agg #[q33 a,q33 b,q33 c,q33 d,q32 u,q32 m,q32 s,vL,vR,vA,vB]∧RgU (fun _=>True) W p a b c d u m s∧TlV t W vL Lb∧TlV t W vR Rb∧ElQ (fun _=>True) 32 W vA Ab∧ElQ (fun _=>True) 32 W vB Bb
theorem RgV.below {t:Nat} {p:Rp} {g Rb:Nat→Bs} {i j:Bs} {e:Value} {W W':World} (h:RgV t p g Rb i j e W) (f:Below W.heap.size W W'):RgV t p g Rb i j e W':=by
 obtain ⟨a,b,c,d,u,m,s,q,v,n,x,l,w,y,hR,o,r⟩:=h.ex
 have k:Kq (fun _=>True) W W':=Kq.of_below f
 exact ⟨a,b,c,d,u,m,s,q,v,n,x,l,w.keep k,y.below f,hR.below f,o.keep k,r.keep k⟩
theorem bsl3q (a b c:Nat × Nat) (w:World):(Instr.buildSlice 27 3 #[(0,q32 a),(1,q32 b),(2,q32 c)]).run Tryz.prog w=.ok (.slice (some ⟨w.heap.size,0,none⟩) 3 3) (w.alloc (.cells #[q32 a,q32 b,q32 c] 23)):=kR
theorem bsl4 (a b c d:Nat × Nat) (w:World):(Instr.buildSlice 27 4 #[(0,q33 a),(1,q33 b),(2,q33 c),(3,q33 d)]).run Tryz.prog w=.ok (.slice (some ⟨w.heap.size,0,none⟩) 4 4) (w.alloc (.cells #[q33 a,q33 b,q33 c,q33 d] 23)):=kR
abbrev pqP (k n:Nat) (B:Nat→Bs):Pq:=⟨fun Q W=>PtL Q W k n B,fun _ _ _ k h=>h.keep k,fun _ _ _ m h=>h.mono2 m⟩
def four (a b c d:Bs) (j:Nat):Bs:=if j=0 then a else if j=1 then b else if j=2 then c else d
def three3 {α:Type} (a b c:α) (j:Nat):α:=if j=0 then a else if j=1 then b else c
theorem args_three {Q:Nat→Prop} {W':World} {k:Nat} {a b c:Nat × Nat} {x y z:Bs} (h:ElQ Q 32 W' (q32 a) x) (f:ElQ Q 32 W' (q32 b) y) (e:ElQ Q 32 W' (q32 c) z) (d:Row W' k [q32 a,q32 b,q32 c]):Args W' (some ⟨k,0,none⟩) 3 (three3 x y z):=fun _=>by
 refine ⟨_,rfl,d.1,fun j g=>?_⟩
 match j,g with
 | 0,_=>exact ⟨_,d.2.1 0 _ rfl,h.argS⟩
 | 1,_=>exact ⟨_,d.2.1 1 _ rfl,f.argS⟩
 | 2,_=>exact ⟨_,d.2.1 2 _ rfl,e.argS⟩
 | j+3,h=>omega
theorem sl_at {Q:Nat→Prop} {W:World} {k n c:Nat} {a:Nat→Nat} (h:SLq Q W (.slice (some ⟨k,0,none⟩) n c) n a) (i:Nat) (b:i<n):W.rangeAt k (0+4*i) (wn (a i)):=by
 obtain ⟨g,o,d,e,-,-,-,h⟩:=h
 cases e
 exact h i b
theorem pt_at {Q:Nat→Prop} {W:World} {k n:Nat} {B:Nat→Bs} (h:PtL Q W k n B) (i:Nat) (b:i<n):W.rangeAt k (0+33*i) (bl33 (B i)):=by
 rw[Nat.zero_add]
 exact (h i b).2.2
abbrev Z3:List Value:=[.slice none 0 0,.slice none 0 0,.slice none 0 0]
theorem z3_mem {x:Value} (h:x∈Z3):x=.slice none 0 0:=by
 simp only[List.mem_cons,List.not_mem_nil,or_false,or_self] at h
 exact h
def pLw (v:Value) (r:Nat) (L:Bs):RG.S1:=⟨fun x w=>x=v∧r<w.heap.size∧Holds encB w r 0 L,fun _ _ _ k h=>⟨h.1,Nat.lt_of_lt_of_le h.2.1 k.size,Holds.below h.2.2 k h.2.1⟩⟩
theorem row_ne {rs:List (Nat × List Value)} {k r:Nat} {c u:List Value} (h:(rs.map (·.1)).Nodup) (i j:Nat) (m:i≠j) (p:rs[i]? = some (k,c)) (t:rs[j]? = some (r,u)):k≠r:=fun e=>by
 have f:=List.pairwise_iff_getElem.1 h
 obtain ⟨q,o⟩:=List.getElem?_eq_some_iff.1 p
 obtain ⟨n,s⟩:=List.getElem?_eq_some_iff.1 t
 have d:(rs.map (·.1))[i]'(by simpa using q)=k:=by rw[List.getElem_map,o]
 have g:(rs.map (·.1))[j]'(by simpa using n)=r:=by rw[List.getElem_map,s]
 rcases Nat.lt_or_ge i j with b|l
 ·exact f i j _ _ b (d.trans (e.trans g.symm))
 ·exact f j i _ _ oM (g.trans (e.symm.trans d.symm))
theorem sumsT_c (C:Fld P) (O:Ord N) (k:∀ r:EC.Pt P,EC.On r→EC.mul N r=none) (u:NT.IsP N) (l:18446744073709551616≤N) {n t:Nat} (m:Wd n t) (p:Rp) (ok:p.Ok) (V:Bs) (f c b:OnP P) (o:V=wP f) (d:p.c=wP c) (g:p.d=wP b) (tau tt x y z:Fin N) (q:p.u=tau.val) (s:p.t=tt.val) (w:World) (X:Bs) (i:X=wP ((ptMd C k).cm (hPV C) (gPG C) (tt-rgD n y z) tau)) (j:X=wP ((ptMd C k).ad ((ptMd C k).ad ((ptMd C k).ac (z*z) f) ((ptMd C k).ac x c)) ((ptMd C k).ac (x*x) b))) :
 Calls Tryz.prog 162 #[.agg p.l.toArray,pvl V,.int .i64 n,nv x.val,nv y.val,nv z.val] w (Ret fun e w'=>Below w.heap.size w w'∧e=.bool true):=by
 refine (sumsR_c C O k u l m p ok V f c b o d g tau tt x y z q s w X X i j).mono ?_
 rintro e w' ⟨v,rfl,d,rfl⟩
 refine ⟨_,rfl,d,?_⟩
 simp only[decide_true]
theorem uIl:(Tryz.prog.underlying 252).map (·.isRow)=some true:=kR
theorem iIl (k c t a b:Nat):(Tryz.prog.info? 252).map (·.size)=some (inL k c t a b).length:=kR
theorem verR_c (C:Fld P) (O:Ord N) (d:∀ r:EC.Pt P,EC.On r→EC.mul N r=none) (Z:NT.IsP N) (hN:18446744073709551616≤N) {n t:Nat} (hw:Wd n t) (p:Rp) (ok:p.Ok) (V:Bs) (Vp PA PS P1 P2:OnP P) (hV:V=wP Vp) (hA:p.a=wP PA) (hS:p.s=wP PS) (S:p.c=wP P1) (h2:p.d=wP P2) (tau mu tt x y z wf:Fin N) (hu:p.u=tau.val) (hm:p.m=mu.val) (ht:p.t=tt.val) (L3 L6 L8:Bs) (l3:L3=bgL V n p.a p.s) (ey:y=askF N L3) (ez:z=askF N (wentF L3)) (l6:L6=mdL (wentF (wentF L3)) p.c p.d) (ex:x=askF N L6) (l8:L8=enL (wentF L6) p.u p.m p.t) (ew:wf=askF N L8)
 (Lb Rb:Nat→Bs) (Lp Tp:Nat→OnP P) (b3:∀ j,Lb j=wP (Lp j)) (b8:∀ j,Rb j=wP (Tp j)) (a b:Fin N) (u:OnP P) (eu:u=(ptMd C d).ac wf (uPt C)) (v0:Md.Vs Bs (OnP P)) (ct:v0.s=wentF L8) (er:v0.g=gPt C ⟨#[108,101,102,116]⟩) (dy:v0.h=fun i=>(ptMd C d).ac (pwF (ivF y) i) (gPt C ⟨#[114,105,103,104,116]⟩ i)) (db:v0.p=(ptMd C d).ad ((ptMd C d).ad ((ptMd C d).ad ((ptMd C d).ad PA ((ptMd C d).ac x PS)) ((ptMd C d).ac (-1) ((ptMd C d).ac mu (gPG C)))) ((ptMd C d).ad ((ptMd C d).dt (fun _=>-z) v0.g n) ((ptMd C d).dt (rgS y z) v0.h n))) ((ptMd C d).ac tt u)) (X:Bs) (L:X=wP ((ptMd C d).cm (hPV C) (gPG C) (tt-rgD n y z) tau)) (hY:X=wP ((ptMd C d).ad ((ptMd C d).ad ((ptMd C d).ac (z*z) Vp) ((ptMd C d).ac x P1)) ((ptMd C d).ac (x*x) P2))) (de:(ptMd C d).vend u a b ((ptMd C d).vst (chF N) ivF t Lp Tp v0 t)) (e:Value) (w:World) (cx:RgV t p Lb Rb (bx a.val) (bx b.val) e w) :
 Calls Tryz.prog 107 #[pvl V,.int .i64 n,e] w (Ret fun e w'=>Below w.heap.size w w'∧e=.bool true):=by
 obtain ⟨g1,g2,g3,g4,g5,g6,g7,vL,vR,vA,vB,rfl,hT,hL,hR,eA,eB⟩:=cx.ex
 have c9:=hw.2.2
 have sV:V.size=33:=by rw[hV];exact wr_size _
 have hc:=fun (W:World) (E:Below w.heap.size w W)=>(Kq.of_below E:Kq (fun _=>True) w W)
 have HT:=mk1 (fun (W:World) (E:Below w.heap.size w W)=>hT.keep (hc W E))
 have h0:∀ X:OnP P,∃ q,rd P (wP X)=some q:=fun X=>by obtain ⟨q,hq,-⟩:=rd_wr C X.2;exact ⟨q,hq⟩
 have d0:=mk1 (fun (W:World) (E:Below w.heap.size w W)=>readI_y C O c9 W (hL.below E) (hR.below E) (eA.keep (hc W E)) (eB.keep (hc W E)) (fun j _=>by rw[b3];exact h0 _) (fun j _=>by rw[b8];exact h0 _) (rq_bxO O a.isLt) (rq_bxO O b.isLt))
 obtain ⟨vV,h4⟩:=hE (pvl V)
 obtain ⟨k3,bu⟩:=hE (w.heap.size)
 obtain ⟨w1,d2⟩:=hE (w.alloc (.cells (bl33 V).toArray 51))
 obtain ⟨k5,bm⟩:=hE (w1.heap.size)
 obtain ⟨w2,co⟩:=hE (w1.alloc (.cells [q33 g1,q33 g2,q33 g3,q33 g4,q32 g5,q32 g6,q32 g7,vL,vR,vA,vB].toArray 66))
 have K2:=mk1 (((Mp.start w).new bu d2).new bm co)
 obtain ⟨ve,c8⟩:=hE (Value.agg #[q33 g1,q33 g2,q33 g3,q33 g4,q32 g5,q32 g6,q32 g7,vL,vR,vA,vB])
 have B1:Hid ((Instr.box 51 vV).run Tryz.prog w=.ok (.pointer (some ⟨k3,0,none⟩)) w1):=by rw[← h4.out,← d2.out,← bu.out];exact boxCP sV w
 have B2:Hid ((Instr.box 66 ve).run Tryz.prog w1=.ok (.pointer (some ⟨k5,0,none⟩)) w2):=by rw[← c8.out,← co.out,← bm.out];exact boxA _ _ _ _ _ _ _ _ _ _ _ w1
 have bo:=mk1 (hw.hv w2)
 rw[h4.out,c8.out]
 clear cx hT hL hR eA eB hc
 go_enter Tryz.func107,Tryz.ntmps107
 refine wp_seq ?_
 refine PW.begin ?_
 refine PW.ns B1.out ?_
 refine PW.ns B2.out ?_
 refine PW.va (.bool false) ?_
 refine PW.dn ?_
 refine wp_seq ?_
 refine PW.begin ?_
 refine PW.mv ?_
 refine PW.gi bo.out fun w3 bg=>?_
 have K3:=mk1 (K2.grow bg)
 clear K2 bg bo B1 B2
 refine PW.mv ?_
 refine PW.va (.int .i64 t) ?_
 refine PW.va (.bool true) ?_
 refine PW.va (.int .i64 t) ?_
 refine PW.va (.bool true) ?_
 refine PW.dn ?_
 refine wp_seq ?_
 refine PW.begin ?_
 refine PW.va (.pointer (some ⟨k5,7,none⟩)) ?_
 refine PW.ro (cs:=[vL,vR,vA,vB]) (rnB (xs:=[q33 g1,q33 g2,q33 g3,q33 g4,q32 g5,q32 g6,q32 g7]) (K3.at_ 1).2.1 rfl) (Hid.mk' rfl) uInn iInn ?_
 refine PW.mv ?_
 refine PW.ca (d0 w3 K3.bl) ?_
 rintro e w4 ⟨bf,kl,kr,rfl,b9,cq⟩
 simp only[Act.put,List.setIfInBounds_toArray,List.set_cons_succ,List.set_cons_zero]
 have A:=mk1 ((K3.gets bf (pqP kl t Lb) b9).has (pqP kr t Rb) (cq.mono2 fun g _ hg=>K3.nk g hg))
 clear d0 bf b9 cq K3
 obtain ⟨vI,hvI⟩:=hE (Value.agg (inL kl kr t a.val b.val).toArray)
 rw[hvI.out]
 refine PW.mv ?_
 refine PW.va vI ?_
 refine PW.va (.bool true) ?_
 obtain ⟨k9,cn⟩:=hE (w4.heap.size)
 obtain ⟨w5,bn⟩:=hE (w4.alloc (.cells inZ.toArray 252))
 obtain ⟨w6,cy⟩:=hE (w5.setCells k9 0 (inL kl kr t a.val b.val))
 have B:=mk1 (A.new cn bn)
 have K6:=mk1 (B.put 2 cy)
 refine PW.al cn bn ?_
 refine PW.st cy hvI (B.th 2) (iIl _ _ _ _ _) (inL_one _ _ _ _ _) ?_
 refine PW.va (.bool true) ?_
 clear A B
 refine PW.dn ?_
 have J:=HT w6 K6.bl
 obtain ⟨kb,cd⟩:=hE (w6.heap.size)
 obtain ⟨w7,bl⟩:=hE (w6.alloc (.cells [q33 g1,q33 g2,q33 g3,q33 g4].toArray 23))
 have hy:Hid ((Instr.buildSlice 27 4 #[(0,q33 g1),(1,q33 g2),(2,q33 g3),(3,q33 g4)]).run Tryz.prog w6=.ok (.slice (some ⟨kb,0,none⟩) 4 4) w7):=by rw[← bl.out,← cd.out];exact bsl4 _ _ _ _ w6
 have F7:=new_row cd bl
 have d8:Hid (Calls Tryz.prog 56 #[.func (.func 57) #[] #[],.slice (some ⟨kb,0,none⟩) 4 4] w7 (Ret fun e w'=>Below w7.heap.size w7 w'∧∃ K,e=.tuple #[.slice (some ⟨K,0,none⟩) 4 4,.bool true]∧PtL (w7.heap.size≤·) w' K 4 (four p.a p.s p.c p.d))):=by
  have kq:Kq (fun _=>True) w6 w7:=Kq.of_below F7.1
  refine (allP_c C kb 4 4 dC (four p.a p.s p.c p.d) w7 F7.2.1 fun j T=>?_).mono ?_
  ·match j,T with
   | 0,_=>exact ⟨_,F7.2.2.1 0 _ rfl,(J.a.keep kq).arg⟩
   | 1,_=>exact ⟨_,F7.2.2.1 1 _ rfl,(J.b.keep kq).arg⟩
   | 2,_=>exact ⟨_,F7.2.2.1 2 _ rfl,(J.c.keep kq).arg⟩
   | 3,_=>exact ⟨_,F7.2.2.1 3 _ rfl,(J.d.keep kq).arg⟩
  ·rintro e w' ⟨v,rfl,E,h⟩
   rcases h with ⟨-,K,rfl,l,s,k3⟩|⟨⟨j,T,f⟩,-⟩
   ·exact ⟨_,rfl,E,K,rfl,fun j T=>⟨l,s,k3 j T⟩⟩
   ·exfalso
    have:∃ q,rd P (four p.a p.s p.c p.d j)=some q:=by
     match j,T with
     | 0,_=>rw[show four p.a p.s p.c p.d 0=p.a from rfl,hA];exact h0 _
     | 1,_=>rw[show four p.a p.s p.c p.d 1=p.s from rfl,hS];exact h0 _
     | 2,_=>rw[show four p.a p.s p.c p.d 2=p.c from rfl,S];exact h0 _
     | 3,_=>rw[show four p.a p.s p.c p.d 3=p.d from rfl,h2];exact h0 _
    obtain ⟨q,hq⟩:=this
    rw[hq] at f
    cases f
 refine wp_seq ?_
 refine PW.begin ?_
 refine PW.va (.pointer (some ⟨k5,0,none⟩)) ?_
 refine PW.ce ((K6.at_ 1).2.1 0 _ rfl) uBy ?_
 refine PW.va (.pointer (some ⟨k5,1,none⟩)) ?_
 refine PW.ce ((K6.at_ 1).2.1 1 _ rfl) uBy ?_
 refine PW.va (.pointer (some ⟨k5,2,none⟩)) ?_
 refine PW.ce ((K6.at_ 1).2.1 2 _ rfl) uBy ?_
 refine PW.va (.pointer (some ⟨k5,3,none⟩)) ?_
 refine PW.ce ((K6.at_ 1).2.1 3 _ rfl) uBy ?_
 refine PW.ns hy.out ?_
 refine PW.ca d8.out ?_
 rintro e w8 ⟨ck,A,rfl,bs⟩
 simp only[Act.put,List.setIfInBounds_toArray,List.set_cons_succ,List.set_cons_zero]
 have K8:=mk1 ((K6.grow F7.1).gets ck (pqP A 4 (four p.a p.s p.c p.d)) bs)
 clear d8 hy F7 J K6 ck bs
 refine PW.mv ?_
 refine PW.va (.slice (some ⟨A,0,none⟩) 4 4) ?_
 refine PW.va (.bool true) ?_
 refine PW.va (.slice (some ⟨A,0,none⟩) 4 4) ?_
 refine PW.va (.bool true) ?_
 refine PW.dn ?_
 have J:=HT w8 K8.bl
 obtain ⟨kc,c0⟩:=hE (w8.heap.size)
 obtain ⟨w9,c7⟩:=hE (w8.alloc (.cells [q32 g5,q32 g6,q32 g7].toArray 23))
 have hy:Hid ((Instr.buildSlice 27 3 #[(0,q32 g5),(1,q32 g6),(2,q32 g7)]).run Tryz.prog w8=.ok (.slice (some ⟨kc,0,none⟩) 3 3) w9):=by rw[← c7.out,← c0.out];exact bsl3q _ _ _ w8
 have F9:=new_row c0 c7
 have kv:Kq (fun _=>True) w8 w9:=Kq.of_below F9.1
 have e4:=mk1 (allS_y O 3 3 dC (some ⟨kc,0,none⟩) (three3 (bx p.u) (bx p.m) (bx p.t)) (three3 p.u p.m p.t) w9 (args_three (J.e.keep kv) (J.f.keep kv) (J.g.keep kv) F9.2) fun j T=>by
  match j,T with
  | 0,_=>exact rq_bxO O (by rw[hu];exact tau.isLt)
  | 1,_=>exact rq_bxO O (by rw[hm];exact mu.isLt)
  | 2,_=>exact rq_bxO O (by rw[ht];exact tt.isLt)
  | j+3,h=>omega)
 refine wp_seq ?_
 refine PW.begin ?_
 refine PW.va (.pointer (some ⟨k5,4,none⟩)) ?_
 refine PW.ce ((K8.at_ 1).2.1 4 _ rfl) uBy ?_
 refine PW.va (.pointer (some ⟨k5,5,none⟩)) ?_
 refine PW.ce ((K8.at_ 1).2.1 5 _ rfl) uBy ?_
 refine PW.va (.pointer (some ⟨k5,6,none⟩)) ?_
 refine PW.ce ((K8.at_ 1).2.1 6 _ rfl) uBy ?_
 refine PW.ns hy.out ?_
 refine PW.ca e4.out ?_
 rintro e ha ⟨bc,B,rfl,eb⟩
 simp only[Act.put,List.setIfInBounds_toArray,List.set_cons_succ,List.set_cons_zero]
 have M:=mk1 ((K8.grow F9.1).gets bc (pqS (.slice (some ⟨B,0,none⟩) 3 3) 3 (three3 p.u p.m p.t)) eb)
 refine PW.mv ?_
 refine PW.va (.slice (some ⟨B,0,none⟩) 3 3) ?_
 refine PW.va (.bool true) ?_
 refine PW.va (.slice (some ⟨B,0,none⟩) 3 3) ?_
 refine PW.va (.bool true) ?_
 refine PW.dn ?_
 refine wp_seq ?_
 go_wp2_with fail
 rename_i Q' K hKK
 refine hG (pvl p.a) fun va bv=>?_
 refine hG (pvl p.s) fun vs c6=>?_
 refine hG (pvl p.c) fun vc bb=>?_
 refine hG (pvl p.d) fun vd b2=>?_
 refine hG (nv p.u) fun vu d4=>?_
 refine hG (nv p.m) fun vm bj=>?_
 refine hG (nv p.t) fun vt d3=>?_
 refine hG (Value.agg p.l.toArray) fun vp D=>?_
 refine hG (ha.heap.size) fun b0 E=>?_
 have ko:∀ {W},Below ha.heap.size ha W→b0≤W.heap.size:=fun h=>E.out ▸ h.size
 refine (RG.gwL [RG.pE (.slice (some ⟨A,0,none⟩) 4 4),RG.pE (.pointer (some ⟨A,0+33*0,none⟩)),RG.pE va,RG.pE (.slice (some ⟨A,0,none⟩) 4 4),RG.pE (.pointer (some ⟨A,0+33*1,none⟩)),RG.pE vs,RG.pE (.slice (some ⟨A,0,none⟩) 4 4),RG.pE (.pointer (some ⟨A,0+33*2,none⟩)),RG.pE vc,RG.pE (.slice (some ⟨A,0,none⟩) 4 4),RG.pE (.pointer (some ⟨A,0+33*3,none⟩)),RG.pE vd,RG.pE (.slice (some ⟨B,0,none⟩) 3 3),RG.pE (.pointer (some ⟨B,0+4*0,none⟩)),RG.pE vu,RG.pE (.slice (some ⟨B,0,none⟩) 3 3),RG.pE (.pointer (some ⟨B,0+4*1,none⟩)),RG.pE vm,RG.pE (.slice (some ⟨B,0,none⟩) 3 3),RG.pE (.pointer (some ⟨B,0+4*2,none⟩)),RG.pE vt,RG.pE vp,RG.pN b0 rp0.l] (fun W=>Below ha.heap.size ha W) (fun W W' E h=>h.trans (E.mono h.size))).tail2 23 kR kR kR ⟨
  RG.gO 11 (.slice (some ⟨A,0,none⟩) 4 4),
  RG.gw_y 0 67 (.slice (some ⟨A,0,none⟩) 4 4) (.pointer (some ⟨A,0+33*0,none⟩)) (Instr.indexAt 83 (.slice (some ⟨A,0,none⟩) 4 4) (.int .i64 ((0:Nat):Int))) (atP A 0 4 4 0 dC) (fun x W h=>h) (fun _=>rfl),
  RG.gLr (cs:=bl33 p.a) 1 68 (fun W s=>pt_at ((M.grow s).get 2) 0 dC) uCP (by rw[bl33_length ok.a];exact iCP) (hR:=fun _=>bv.out),
  RG.gO 11 (.slice (some ⟨A,0,none⟩) 4 4),
  RG.gw_y 3 70 (.slice (some ⟨A,0,none⟩) 4 4) (.pointer (some ⟨A,0+33*1,none⟩)) (Instr.indexAt 83 (.slice (some ⟨A,0,none⟩) 4 4) (.int .i64 ((1:Nat):Int))) (atP A 0 4 4 1 dC) (fun x W h=>h) (fun _=>rfl),
  RG.gLr (cs:=bl33 p.s) 4 71 (fun W s=>pt_at ((M.grow s).get 2) 1 dC) uCP (by rw[bl33_length ok.s];exact iCP) (hR:=fun _=>c6.out),
  RG.gO 11 (.slice (some ⟨A,0,none⟩) 4 4),
  RG.gw_y 6 73 (.slice (some ⟨A,0,none⟩) 4 4) (.pointer (some ⟨A,0+33*2,none⟩)) (Instr.indexAt 83 (.slice (some ⟨A,0,none⟩) 4 4) (.int .i64 ((2:Nat):Int))) (atP A 0 4 4 2 dC) (fun x W h=>h) (fun _=>rfl),
  RG.gLr (cs:=bl33 p.c) 7 74 (fun W s=>pt_at ((M.grow s).get 2) 2 dC) uCP (by rw[bl33_length ok.c];exact iCP) (hR:=fun _=>bb.out),
  RG.gO 11 (.slice (some ⟨A,0,none⟩) 4 4),
  RG.gw_y 9 76 (.slice (some ⟨A,0,none⟩) 4 4) (.pointer (some ⟨A,0+33*3,none⟩)) (Instr.indexAt 83 (.slice (some ⟨A,0,none⟩) 4 4) (.int .i64 ((3:Nat):Int))) (atP A 0 4 4 3 dC) (fun x W h=>h) (fun _=>rfl),
  RG.gLr (cs:=bl33 p.d) 10 77 (fun W s=>pt_at ((M.grow s).get 2) 3 dC) uCP (by rw[bl33_length ok.d];exact iCP) (hR:=fun _=>b2.out),
  RG.gO 13 (.slice (some ⟨B,0,none⟩) 3 3),
  RG.gw_y 12 79 (.slice (some ⟨B,0,none⟩) 3 3) (.pointer (some ⟨B,0+4*0,none⟩)) (Instr.indexAt 143 (.slice (some ⟨B,0,none⟩) 3 3) (.int .i64 ((0:Nat):Int))) (at33 B 0 3 3 0 dC) (fun x W h=>h) (fun _=>rfl),
  RG.gLr (cs:=wn p.u) 13 80 (fun W s=>sl_at ((M.grow s).get 3) 0 dC) u40 i40 (hR:=fun _=>d4.out),
  RG.gO 13 (.slice (some ⟨B,0,none⟩) 3 3),
  RG.gw_y 15 82 (.slice (some ⟨B,0,none⟩) 3 3) (.pointer (some ⟨B,0+4*1,none⟩)) (Instr.indexAt 143 (.slice (some ⟨B,0,none⟩) 3 3) (.int .i64 ((1:Nat):Int))) (at33 B 0 3 3 1 dC) (fun x W h=>h) (fun _=>rfl),
  RG.gLr (cs:=wn p.m) 16 83 (fun W s=>sl_at ((M.grow s).get 3) 1 dC) u40 i40 (hR:=fun _=>bj.out),
  RG.gO 13 (.slice (some ⟨B,0,none⟩) 3 3),
  RG.gw_y 18 85 (.slice (some ⟨B,0,none⟩) 3 3) (.pointer (some ⟨B,0+4*2,none⟩)) (Instr.indexAt 143 (.slice (some ⟨B,0,none⟩) 3 3) (.int .i64 ((2:Nat):Int))) (at33 B 0 3 3 2 dC) (fun x W h=>h) (fun _=>rfl),
  RG.gLr (cs:=wn p.t) 19 86 (fun W s=>sl_at ((M.grow s).get 3) 2 dC) u40 i40 (hR:=fun _=>d3.out),
  RG.gw_v [(69,va),(72,vs),(75,vc),(78,vd),(81,vu),(84,vm),(87,vt)] vp (fun a W f=>⟨f.n 2 69 kR kR,f.n 5 72 kR kR,f.n 8 75 kR kR,f.n 11 78 kR kR,f.n 14 81 kR kR,f.n 17 84 kR kR,f.n 20 87 kR kR,trivial⟩) (fun _=>rfl) (fun W=>by rw[← bv.out,← c6.out,← bb.out,← b2.out,← d4.out,← bj.out,← d3.out,← D.out];unfold pvl Rp.l;rw[bl33_lit ok.a,bl33_lit ok.s,bl33_lit ok.c,bl33_lit ok.d];kernel_rfl),
  RG.gw_a rp0.l 153 (fun W W' h s=>⟨_,rfl,ko s,h⟩),trivial⟩ ⟨rfl,rfl,rfl,Nat.le_refl _,fun _ _=>rfl⟩ ?_
 intro Y7 eo hR s
 have ei:=hR 21 dC
 obtain ⟨bq,ep,e9,ec⟩:=hR 22 dC
 have bd:=mk1 (M.add s ec (by rw[E.out];exact e9))
 dsimp only[RG.putV,Nat.reduceAdd,List.take,List.drop]
 simp only[Act.put,List.setIfInBounds_toArray,List.set_cons_succ,List.set_cons_zero]
 rw[ei,ep]
 refine hG (eo.setCells bq 0 p.l) fun h9 ka=>?_
 have lR:=(Rp.len ok).trans (Rp.len rp0_ok).symm
 have ky:=mk1 (bd.put 3 ka rfl lR)
 have h7:(Tryz.prog.info? 153).map (·.size)=some p.l.length:=by rw[Rp.len ok];exact iRd
 refine PW.st ka D (bd.th 3 rfl lR) h7 (Rp.one p) ?_
 refine PW.dn ?_
 refine hKK _ _ ?_
 refine hG (wentF (wentF L3)) fun L5 kx=>?_
 have s5:L5.size=32:=by rw[← kx.out];exact SP.askedL_size _ _
 refine hG (nv y.val) fun vy R=>?_
 refine hG (nv z.val) fun vz h6=>?_
 have kf:n≤64:=by rw[hw.1];exact Nat.le_trans (Nat.pow_le_pow_right dC hw.2.2) dC
 have bk:Hid (Calls Tryz.prog 79 #[vp,vV,.int .i64 n] h9 (Ret fun e w'=>Below h9.heap.size h9 w'∧∃ r,e=.tuple #[lgV r,vy,vz]∧h9.heap.size≤r∧Holds encB w' r 0 L5)):=by
  have h:=beg_c O p ok V sV n oM h9
  rw[← l3,val_ch O Z ey,val_ch O Z ez,kx.out,D.out,h4.out,R.out,h6.out] at h
  exact h
 have iV:(Tryz.prog.info? 51).map (·.size)=some (bl33 V).length:=by rw[bl33_length sV];exact iCP
 refine wp_seq ?_
 refine PW.begin ?_
 refine PW.ro (ky.at_ 3).2.1 D uRd h7 ?_
 refine PW.ro (ky.at_ 0).2.1 h4 uCP iV ?_
 refine PW.mv ?_
 refine PW.ca bk.out ?_
 rintro e bp ⟨bt,r,rfl,lr,Hr⟩
 have et:=mk1 (ky.add bt (row_cp Hr (Holds.lt Hr (by rw[s5];decide))) lr)
 refine PW.mv ?_
 refine PW.va (lgV r) ?_
 refine PW.va vy ?_
 refine PW.va vz ?_
 refine hG (bp.heap.size) fun cf k0=>?_
 refine hG (bp.alloc (.cells [.pointer none].toArray 159)) fun bi k8=>?_
 refine hG (bi.heap.size) fun d1 k6=>?_
 refine hG (bi.alloc (.cells (RG.z 4).toArray 44)) fun be k7=>?_
 refine hG (be.heap.size) fun en kj=>?_
 refine hG (be.alloc (.cells (RG.z 4).toArray 44)) fun ee hz=>?_
 refine hG (ee.setCells cf 0 [.pointer (some ⟨r,0,none⟩)]) fun dz kd=>?_
 refine hG (dz.setCells d1 0 (wn y.val)) fun ek kk=>?_
 refine hG (ek.setCells en 0 (wn z.val)) fun kz ki=>?_
 have b7:=mk1 (((et.new k0 k8).new k6 k7).new kj hz)
 have d7:=mk1 (b7.put 5 kd)
 have d5:=mk1 (d7.put 6 kk)
 have he:=mk1 (d5.put 7 ki)
 refine PW.al k0 k8 ?_
 refine PW.al k6 k7 ?_
 refine PW.al kj hz ?_
 refine PW.st kd (Hid.mk' rfl) (b7.th 5) iLg kR ?_
 refine PW.st kk R (d7.th 6) i40 (wn_one _) ?_
 refine PW.st ki h6 (d5.th 7) i40 (wn_one _) ?_
 refine PW.dn ?_
 refine hG (wentF L6) fun L7 kw=>?_
 have s7:L7.size=32:=by rw[← kw.out];exact SP.askedL_size _ _
 refine hG (nv x.val) fun vx h5=>?_
 have b6:Hid (Calls Tryz.prog 85 #[vp,lgV r] kz (Ret fun e w'=>SP.Only r 0 32 kz w'∧Holds encB w' r 0 L7∧e=vx)):=by
  have h:=mid_c O p ok r L5 kz (he.log 4) s5
  rw[show mdL L5 p.c p.d=L6 by rw[← kx.out];exact l6.symm,val_ch O Z ex,kw.out,D.out,h5.out] at h
  exact h
 refine wp_seq ?_
 refine PW.begin ?_
 refine PW.ro (he.at_ 3).2.1 D uRd h7 ?_
 refine PW.ro (cs:=[.pointer (some ⟨r,0,none⟩)]) (he.at_ 5).2.1 (Hid.mk' rfl) uLg iLg ?_
 refine PW.ca b6.out ?_
 rintro e cu ⟨d9,b5,bh⟩
 obtain rfl:=bh.symm
 have e8:=mk1 (he.say 4 d9 b5)
 refine hG (cu.heap.size) fun dx k4=>?_
 refine hG (cu.alloc (.cells (RG.z 4).toArray 44)) fun dq kh=>?_
 refine hG (dq.setCells dx 0 (wn x.val)) fun I km=>?_
 have ba:=mk1 (e8.new k4 kh)
 have F:=mk1 (ba.put 8 km)
 refine PW.al k4 kh ?_
 refine PW.st km h5 (ba.th 8) i40 (wn_one _) ?_
 refine PW.dn ?_
 refine hG (wentF L8) fun L9 hs=>?_
 have s9:L9.size=32:=by rw[← hs.out];exact SP.askedL_size _ _
 refine hG (nv wf.val) fun vw cz=>?_
 have kn:0<n:=by rw[hw.1];exact Nat.pow_pos dC
 obtain ⟨Q2,hQ⟩:=F.out.q
 have nr:=F.ne hQ 4
 have hk:=(F.at_ 4).1
 have l:Hid (∀ {k:Nat} {c:List Value} {W:World},Row I k c→k≠r→SP.Only r 0 32 I W→Row W k c):=fun S h2 h3=>row_same S h3.size (h3.block _ S.1 h2)
 have nk:Hid ((d1≠r∧bq≠r)∧cf≠r):=by
  have h:=F.out.nd
  simp only[List.map_cons,List.map_nil,List.nodup_cons,List.mem_cons,List.not_mem_nil,or_false,not_or] at h
  exact ⟨⟨fun e=>h.2.2.2.2.1.2.1 e.symm,h.2.2.2.1.1⟩,fun e=>h.2.2.2.2.1.1 e.symm⟩
 have em:=gd_right C Z.1 n
 have ef:Hid (∀ W,Holds encB W r 0 L7→Calls Tryz.prog 88 #[vp,lgV r] W (Ret fun e w'=>SP.Only r 0 32 W w'∧Holds encB w' r 0 L9∧e=vw)):=fun W hH=>by
  have h:=end_c O p ok (by rw[hu];exact tau.isLt) (by rw[hm];exact mu.isLt) (by rw[ht];exact tt.isLt) r L7 W hH s7
  rw[show enL L7 p.u p.m p.t=L8 by rw[← kw.out];exact l8.symm,val_ch O Z ew,hs.out,D.out,cz.out] at h
  exact h
 have dw:Hid (∀ W v,(∀ g,W.heap.size≤g→Q2 g)→GRq Q2 W v n (gGT P) (hGT P) (uGT P)→Calls Tryz.prog 91 #[v,vy,vw] W (Ret fun e w'=>Below W.heap.size W w'∧GRq Q2 w' e n (gGT P) (trnT N y.val (hGT P)) ((uGT P).map (tmT N wf.val)))):=fun W v S h2=>by
  rw[← R.out,← cz.out]
  exact turn_c O n kn kf (gGT P) (hGT P) (uGT P) (fun i G=>⟨(em.tl i G).ok,by show 1≤512;decide⟩) (tl_inner C Z.1).ok (by show 1≤512;decide) y.val wf.val y.isLt wf.isLt v W S h2
 refine hG (I.heap.size) fun b0 E=>?_
 have ko:∀ {W},SP.Only r 0 32 I W→b0≤W.heap.size:=fun h=>E.out ▸ h.size
 have Gk:Hid (∀ {W W':World} {v:Value} {G H U},SP.Only r 0 32 W W'→GRq Q2 W v n G H U→GRq Q2 W' v n G H U):=fun hO h=>h.keep ⟨hO.size,fun g hg hl=>hO.block g hl (nr g hg)⟩
 have rb:r<b0:=by rw[← E.out];exact hk
 have kg:Hid (∀ {W:World},SP.Only r 0 32 I W→∀ g,W.heap.size≤g→Q2 g):=fun h g hg=>F.nkq hQ g (Nat.le_trans h.size hg)
 refine wp_seq ?_
 refine (RG.gwL [RG.pE (.int .i64 n),RG.pR Q2 n (gGT P) (hGT P) (uGT P),RG.pE vy,RG.pE vp,RG.pE (lgV r),pLw vw r L9,RG.pR Q2 n (gGT P) (trnT N y.val (hGT P)) ((uGT P).map (tmT N wf.val)),pX b0 Z3] (fun W=>SP.Only r 0 32 I W) (fun _ _ E h=>h.trans (SP.Only.of_below E rfl (Nat.lt_of_lt_of_le hk h.size)))).tailL 5 (fun W W'=>SP.Only r 0 32 W W') (fun W=>r<W.heap.size∧Holds encB W r 0 L7) 8 (fun j v W W' T hO h=>by
  match j,T with
  | 0,_=>exact h
  | 1,_=>exact Gk.out hO h
  | 2,_=>exact h
  | 3,_=>exact h
  | 4,_=>exact h
  | 5,T=>exact (T rfl).elim
  | 6,_=>exact Gk.out hO h
  | 7,_=>exact pX_only hO rb h
  | j+8,_=>exact h) (fun W W' hO h=>SP.Only.trans h hO) (fun W W' E h=>⟨Nat.lt_of_lt_of_le h.1 E.size,Holds.below h.2 E h.1⟩) kR kR kR ⟨
  RG.lk_c (RG.gO 1 (.int .i64 n)),
  RG.lk_c (RG.gw_c1 0 100 76 (fun x=>#[x]) (fun x W e1 s=>by
   obtain rfl:x=.int .i64 n:=e1
   refine (groundOf_c (P:=P) C n oM W).mono ?_
   rintro e W' ⟨Y,rfl,S,h2⟩
   exact ⟨_,rfl,S,h2.mono (kg.out s)⟩)),
  RG.lk_c (RG.gLo (cs:=wn y.val) 17 (fun W s=>(l.out (F.at_ 6) nk.1.1 s).2.1) u40 i40 (hR:=fun _=>R.out)),
  RG.lk_c (RG.gLo (cs:=p.l) 15 (fun W s=>(l.out (F.at_ 3) nk.1.2 s).2.1) uRd h7 (hR:=fun _=>D.out)),
  RG.lk_c (RG.gLo (cs:=[.pointer (some ⟨r,0,none⟩)]) 16 (fun W s=>(l.out (F.at_ 5) nk.2 s).2.1) uLg iLg),
  RG.lk_f (fun a W f s=>⟨[(103,vp),(104,lgV r)],88,#[vp,lgV r],⟨f.n 3 103 kR kR,f.n 4 104 kR kR,trivial⟩,kR,by
   refine (ef.out W s.2).mono ?_
   rintro e W' ⟨Y,rfl,S,h2,h3⟩
   exact ⟨_,rfl,S,h3,Nat.lt_of_lt_of_le s.1 S.size,h2⟩⟩),
  RG.lk_c (RG.gw_c3 1 101 2 102 5 105 91 (fun x y z=>#[x,y,z]) (fun x u z W e1 e2 e3 s=>by
   obtain rfl:u=vy:=e2
   obtain rfl:z=vw:=e3.1
   exact dw.out W x (kg.out s) e1)),
  RG.lk_c (gw_aX b0 Z3 150 (fun W s=>ko s) (fun v W h=>h)),trivial⟩ (SP.Only.of_below (⟨rfl,rfl,rfl,Nat.le_refl _,fun _ _=>rfl⟩:Below I.heap.size I I.drew) rfl hk) ⟨hk,F.log 4⟩ ?_
 intro Y ds hR s
 have dm:=hR 6 dC
 have da:=(hR 5 dC).2.2
 obtain ⟨ej,e7,dh,dp,eh⟩:=hR 7 dC
 obtain ⟨dk,du⟩:=F.out.sayAdd 4 s da dp (by rw[E.out];exact dh)
 have gl:∀ j,j<n→0<(gGT P j).length:=fun j T=>by rw[(gd_left C Z.1 n).len j T];decide
 have hl:∀ j,j<n→0<(trnT N y.val (hGT P) j).length:=fun j T=>by rw[(gd_trn C d Z y n).len j T];decide
 have kp:=(dm.offX kn gl hl (by rw[List.length_map];show 0<1;decide) (fun i x hx=>z3_mem (eh i x hx))).mono fun g hg=>du g (by rw[hQ.out];exact hg.1) hg.2
 obtain ⟨q1,q2,q3,e6,dd,e5,df⟩:=kp.ex
 obtain ⟨ga,oa,ca,e1⟩:∃ g o c,q1=.slice (some ⟨g,o,none⟩) n c:=by obtain ⟨g,o,c,h,-⟩:=dd;exact ⟨g,o,c,h⟩
 obtain ⟨gb,ob,cb,e2⟩:∃ g o c,q2=.slice (some ⟨g,o,none⟩) n c:=by obtain ⟨g,o,c,h,-⟩:=e5;exact ⟨g,o,c,h⟩
 obtain ⟨gc,mc,cc,e3⟩:∃ g m c,q3=.slice (some ⟨g,0,none⟩) m c:=by obtain ⟨g,c,h,-⟩:=df;exact ⟨g,_,c,h⟩
 subst e1 e2 e3
 rw[e6] at kp
 have bz:=mk1 (dk.has (pqG _ n (gGT P) (trnT N y.val (hGT P)) ((uGT P).map (tmT N wf.val))) kp)
 dsimp only[RG.putV,Nat.reduceAdd,List.take,List.drop]
 simp only[Act.put,List.setIfInBounds_toArray,List.set_cons_succ,List.set_cons_zero]
 rw[e6,e7]
 refine hG (ds.setCells ej 0 [.slice (some ⟨ga,oa,none⟩) n ca,.slice (some ⟨gb,ob,none⟩) n cb,.slice (some ⟨gc,0,none⟩) mc cc]) fun h8 ke=>?_
 have f:=mk1 (bz.put 9 ke)
 refine PW.st ke (Hid.mk' rfl) (bz.th 9) iGr kR ?_
 refine PW.dn ?_
 have es:Hid (∀ W,Calls Tryz.prog 162 #[vp,vV,.int .i64 n,vx,vy,vz] W (Ret fun e w'=>Below W.heap.size W w'∧e=.bool true)):=fun W=>by
  rw[← D.out,← h4.out,← h5.out,← R.out,← h6.out]
  exact sumsT_c C O d Z hN hw p ok V Vp P1 P2 hV S h2 tau tt x y z hu ht W X L hY
 have G1:Gd N n 1 (gGT P) v0.g:=by rw[er];exact gd_left C Z.1 n
 have G2:Gd N n 1 (trnT N y.val (hGT P)) v0.h:=by rw[dy];exact gd_trn C d Z y n
 have G3:Tl N ((uGT P).map (tmT N wf.val)) u:=by rw[eu];exact (tl_inner C Z.1).tm C d wf
 have G4:((uGT P).map (tmT N wf.val)).length=1:=by rw[List.length_map];rfl
 obtain ⟨lh,ci,dl,d6⟩:=hid_c C O d Z hN kn kf p ok PA PS hA hS mu tt x y z hm ht (gGT P) (trnT N y.val (hGT P)) ((uGT P).map (tmT N wf.val)) v0.g v0.h u G1 G2 G3 G4
 rw[← db] at ci
 rw[D.out,h5.out,R.out,h6.out] at d6
 refine hG (Value.agg #[.slice (some ⟨ga,oa,none⟩) n ca,.slice (some ⟨gb,ob,none⟩) n cb,.slice (some ⟨gc,0,none⟩) mc cc]) fun vg ku=>?_
 rw[ku.out] at f
 have cj:=(f.at_ 4).1
 refine wp_seq ?_
 have l:Hid (∀ {k:Nat} {c:List Value} {W:World},Row h8 k c→k≠r→SP.Only r 0 32 h8 W→Row W k c):=fun S h2 h3=>row_same S h3.size (h3.block _ S.1 h2)
 have cv:=(row_ne f.out.nd 3 4 dC rfl rfl)
 have n3:=(row_ne f.out.nd 0 4 dC rfl rfl)
 have n9:=(row_ne f.out.nd 2 4 dC rfl rfl)
 have ed:=(row_ne f.out.nd 5 4 dC rfl rfl)
 have cp:=(row_ne f.out.nd 6 4 dC rfl rfl)
 have cg:=(row_ne f.out.nd 7 4 dC rfl rfl)
 have c3:=(row_ne f.out.nd 8 4 dC rfl rfl)
 have br:=(row_ne f.out.nd 9 4 dC rfl rfl)
 refine AW.beg 20 20 (Iv.only cj) (SP.Only.of_below (⟨rfl,rfl,rfl,Nat.le_refl _,fun _ _=>rfl⟩:Below h8.heap.size h8 h8.drew) rfl cj) ?_
 refine AW.ro 0 (cs:=p.l) (fun W h=>(l.out (f.at_ 3) cv h).2.1) D uRd h7 ?_
 refine AW.ro 1 (fun W h=>(l.out (f.at_ 0) n3 h).2.1) h4 uCP iV ?_
 refine AW.mv 2 ?_
 refine AW.ro 3 (fun W h=>(l.out (f.at_ 8) c3 h).2.1) h5 u40 i40 ?_
 refine AW.ro 4 (fun W h=>(l.out (f.at_ 6) cp h).2.1) R u40 i40 ?_
 refine AW.ro 5 (fun W h=>(l.out (f.at_ 7) cg h).2.1) h6 u40 i40 ?_
 refine AW.gi 6 (fun _=>es.out _) fun eg b4=>?_
 have hr:=mk1 (f.drew.grow b4)
 refine AW.mv 7 ?_
 refine AG.ro 8 (cs:=inL kl kr t a.val b.val) (fun W h=>(l.out (f.at_ 2) n9 h).2.1) hvI uIl (iIl _ _ _ _ _) ?_
 refine AG.ro 9 (cs:=[.pointer (some ⟨r,0,none⟩)]) (fun W h=>(l.out (f.at_ 5) ed h).2.1) (Hid.mk' rfl) uLg iLg ?_
 refine AG.ro 10 (cs:=[.slice (some ⟨ga,oa,none⟩) n ca,.slice (some ⟨gb,ob,none⟩) n cb,.slice (some ⟨gc,0,none⟩) mc cc]) (fun W h=>(l.out (f.at_ 9) br h).2.1) ku uGr iGr ?_
 refine AG.ro 11 (cs:=p.l) (fun W h=>(l.out (f.at_ 3) cv h).2.1) D uRd h7 ?_
 refine AG.ro 12 (cs:=[.slice (some ⟨ga,oa,none⟩) n ca,.slice (some ⟨gb,ob,none⟩) n cb,.slice (some ⟨gc,0,none⟩) mc cc]) (fun W h=>(l.out (f.at_ 9) br h).2.1) ku uGr iGr ?_
 refine AG.mv 13 ?_
 refine AG.ro 14 (fun W h=>(l.out (f.at_ 8) c3 h).2.1) h5 u40 i40 ?_
 refine AG.ro 15 (fun W h=>(l.out (f.at_ 6) cp h).2.1) R u40 i40 ?_
 refine AG.ro 16 (fun W h=>(l.out (f.at_ 7) cg h).2.1) h6 u40 i40 ?_
 refine AG.cw 17 (fun _=>d6 _ vg eg (hr.get 4)) (fun e w' hJ h=>SP.Only.trans hJ (SP.Only.of_below h.1 rfl (hr.at_ 4).1)) ?_
 rintro sv kt ⟨c5,e0⟩
 have L:=mk1 (hr.grow c5)
 have ea:Hid (Calls Tryz.prog 163 #[vI,lgV r,vg,sv] kt (Ret fun e w'=>SP.Only r 0 32 kt w'∧e=.bool true)):=by
  obtain ⟨Q,hQ⟩:=L.out.q
  have nr:=L.ne hQ 4
  have f0:=(hr.at_ 4).1
  rw[← hvI.out]
  exact right_c C O d Z t c9 Lp Tp v0 u (gGT P) (trnT N y.val (hGT P)) ((uGT P).map (tmT N wf.val)) lh (by rw[← hw.1];exact G1) (by rw[← hw.1];exact G2) G3 (by rw[G4];decide) (by rw[G4];decide) ci dl Lb Rb b3 b8 r kl kr a b vg sv kt (by rw[ct,hs.out];exact L.log 4) (by rw[ct,hs.out];exact s9) (PtL.mono2 (L.getq hQ 0) fun g _ hg=>nr g hg) (PtL.mono2 (L.getq hQ 1) fun g _ hg=>nr g hg) (by rw[← hw.1];exact GRq.mono (L.getq hQ 4) nr) (e0.q.mono fun g hg=>oM) true (by simp only[true_iff];exact de)
 refine AG.cw 18 (fun _=>ea.out) (fun e w' hJ h=>SP.Only.trans hJ h.1) ?_
 rintro e f1 ⟨c4,rfl⟩
 refine AW.nx 19 (.bool true) ?_
 refine AW.nx 20 (.bool true) ?_
 refine AW.dn fun _=>?_
 have hF:=L.bl.trans (only_new c4 L.bl.size (L.rw (r,bl33 L9) (List.mem_of_getElem? (i:=4) rfl)).1)
 go_wp2
 go_ret
 exact ⟨_,rfl,hF,rfl⟩
end
section
open Go.RowKit Go.Sort Go.Deep
variable {P:Nat} [NeZero P] {N:Nat}
def Cor (W:World) (k:List (Addr × Nat)) (us:List Value):Prop:=k.length=us.length∧∀ (j:Nat) x u,k[j]? = some x→us[j]? = some u→(∃ b o,x.1=⟨b,o,none⟩)∧W.cell? x.1=some u
theorem Cor.app {W:World} {p1 p2:List (Addr × Nat)} {u1 u2:List Value} (k:Cor W p1 u1) (c:Cor W p2 u2):Cor W (p1++p2) (u1++u2):=by
 refine ⟨by rw[List.length_append,List.length_append,k.1,c.1],fun j x u hx b=>?_⟩
 by_cases d:j<p1.length
 ·rw[List.getElem?_append_left d] at hx
  rw[List.getElem?_append_left (by rw[← k.1];exact d)] at b
  exact k.2 j x u hx b
 ·rw[List.getElem?_append_right oM] at hx
  rw[List.getElem?_append_right (by rw[← k.1];omega),← k.1] at b
  exact c.2 _ x u hx b
theorem Cor.lp {W:World} {s:Sv} {b o:Nat} {ys:List Value} (h:VL W s.q s.n ys) (c:s.n=0∨s.q=some ⟨b,o,none⟩):Cor W (lp b o s.n) ys:=by
 refine ⟨by rw[lp_len,h.len],fun j x u hx f=>?_⟩
 unfold Go.Proofs.YtlofhpkoaljmeaaGreat.lp at hx
 rw[List.getElem?_map] at hx
 obtain ⟨k,g,rfl⟩:=Option.map_eq_some_iff.1 hx
 have p:j<s.n:=by
  have:=(List.getElem?_eq_some_iff.1 g).1
  simpa using this
 have e:j=k:=by
  have:=(List.getElem?_eq_some_iff.1 g).2
  simpa using this
 subst e
 refine ⟨⟨_,_,rfl⟩,?_⟩
 rcases h.cells with i|⟨m,n,d,-,l⟩
 ·rw[i] at f;cases f
 ·rcases c with c|c
  ·omega
  ·rw[c] at d
   have d:=Option.some.inj d
   injection d with e1 e2 _
   subst e1 e2
   exact l j u f
def ordV (p:Rg) (k b:List Value):List Value:=[p.a.v,p.b.v,p.c.v,p.d.v,p.e.v,p.f.v,p.g.v]++k++b++[p.x.v,p.y.v]
def ordP (k b d n c or m:Nat):List (Addr × Nat):=basP k++lp b d n++lp c or m++endP k
theorem cor_all {W:World} {g i m l or:Nat} {p:Rg} {e d:List Value} (f:W.rangeAt g 0 p.cs) (q:VL W p.l.q p.l.n e) (hR:VL W p.r.q p.r.n d) (n:p.l.n=0∨p.l.q=some ⟨i,m,none⟩) (o:p.r.n=0∨p.r.q=some ⟨l,or,none⟩) :
 Cor W (ordP g i m p.l.n l or p.r.n) (ordV p e d):=by
 refine Cor.app (Cor.app (Cor.app ?_ (Cor.lp q n)) (Cor.lp hR o)) ?_
 ·refine ⟨rfl,fun j x u hx b=>?_⟩
  have c:=f j u
  rw[Nat.zero_add] at c
  match j,hx,b with
  | 0,hx,b|1,hx,b|2,hx,b|3,hx,b|4,hx,b|5,hx,b|6,hx,b =>
   obtain rfl:=Option.some.inj hx
   exact ⟨⟨_,_,rfl⟩,c b⟩
  | k+7,hx,b=>cases hx
 ·refine ⟨rfl,fun j x u hx b=>?_⟩
  match j,hx,b with
  | 0,hx,b =>
   obtain rfl:=Option.some.inj hx
   exact ⟨⟨_,_,rfl⟩,by have c:=f 9 u b;rw[Nat.zero_add] at c;exact c⟩
  | 1,hx,b =>
   obtain rfl:=Option.some.inj hx
   exact ⟨⟨_,_,rfl⟩,by have c:=f 10 u b;rw[Nat.zero_add] at c;exact c⟩
  | k+2,hx,b=>cases hx
def ordS (n m:Nat):List Nat:=[33,33,33,33,32,32,32]++List.replicate n 33++List.replicate m 33++[32,32]
theorem ordP_S (k c e n d or m:Nat):(ordP k c e n d or m).map (·.2)=ordS n m:=by
 have h:∀ b o n,(lp b o n).map (·.2)=List.replicate n 33:=fun b o n=>by
  unfold lp
  rw[List.map_map]
  exact List.ext_getElem (by simp) (fun i g f=>by simp)
 unfold ordP ordS
 rw[List.map_append,List.map_append,List.map_append,h,h]
 rfl
theorem ordS_le (n m:Nat):∀ k∈ordS n m,k≤33:=by
 intro k b
 unfold ordS at b
 simp only[List.mem_append,List.mem_cons,List.not_mem_nil,or_false,List.mem_replicate] at b
 omega
theorem ordS_len (n m:Nat):(ordS n m).length=n+m+9:=by
 unfold ordS
 simp only[List.length_append,List.length_replicate,List.length_cons,List.length_nil]
 omega
def PtB (W:World) (us:List Value) (BB:List SP.Bs):Prop:=BB.length=us.length∧∀ (j:Nat) u b,us[j]? = some u→BB[j]? = some b→Pt W u b
def catI (n:Nat) (BB:List SP.Bs) (i:Nat):SP.Bs:=(BB.take i).foldl (·++·) #[n.toUInt8]
theorem catI_succ (n:Nat) (BB:List SP.Bs) (i:Nat) (b:SP.Bs) (h:BB[i]? = some b):catI n BB (i+1)=catI n BB i++b:=by
 unfold catI
 rw[List.take_add_one,h]
 simp
def GoodP (n m:Nat) (BB:List SP.Bs):Prop:=n=m∧n≤6∧BB.map Array.size=ordS n m
def PutR (w:World) (n m:Nat) (BB:List SP.Bs) (e:Ending) (W:World):Prop:=Below w.heap.size w W∧((GoodP n m BB∧∃ v,e=.returned (.tuple #[v,.int .i64 0])∧Pt W v (catI n BB (n+m+9))∧∃ g c,v=.slice (some ⟨g,0,none⟩) (Array.size (catI n BB (n+m+9))) c∧Array.size (catI n BB (n+m+9))≤c)∨(¬ GoodP n m BB∧e=.returned (.tuple #[.slice none 0 0,.int .i64 2])))
theorem PuI.cap {w d W:World} {k e:Nat} {v:Value} {b:SP.Bs} (h:PuI w d W k e v b):∃ g c,v=.slice (some ⟨g,0,none⟩) (Array.size b) c∧Array.size b≤c:=by
 rcases id h.ow with ⟨j,⟨rfl,-⟩|⟨g,cap,cur,rfl,l,i,f,-⟩⟩
 ·exact absurd rfl h.nn
 ·exact ⟨g,cap,rfl,f⟩
theorem PuI.pt {w o W:World} {l n:Nat} {v:Value} {b:SP.Bs} (h:PuI w o W l n v b):Pt W v b:=by
 have k:=h.lt
 rcases id h.ow with ⟨r,⟨rfl,-⟩|⟨g,cap,cur,rfl,u,i,t,q,s,p⟩⟩
 ·exact absurd rfl h.nn
 ·obtain ⟨x,f,e,-,m⟩:=k
  injection e with e _ _
  injection e with e
  injection e with e _ _
  subst e
  refine ⟨_,_,rfl,Or.inr ⟨g,0,rfl,m,fun j d=>?_⟩⟩
  have c:=h.ow.cells (g:=g) rfl j (SP.encB b[j]!) (by
   unfold bC
   rw[List.getElem?_map,List.getElem?_eq_getElem (by simpa using d),Option.map_some,getElem!_pos b j d]
   simp)
  rw[addP0,Nat.zero_add] at c
  refine ⟨by rw[Nat.zero_add];exact c,?_⟩
  simp[World.frozen?,i]
theorem uPrt:(Tryz.prog.underlying 101).map (·.isRow)=some true:=kR
theorem iPt:(Tryz.prog.info? 101).map (·.size)=some 2:=kR
theorem idxPT (g n c i:Nat) (b:i<n) (w:World):(Instr.indexAt 96 (.slice (some ⟨g,0,none⟩) n c) (.int .i64 i)).run Tryz.prog w=.ok (.pointer (some ⟨g,i*2,none⟩)) w:=by
 have k:=addP0 g 0 (i*2)
 rw[Nat.zero_add] at k
 go_simp
theorem sPut_c (p:Rg) {J N Q or:Nat} {E A:List Value} {BB:List SP.Bs} (w:World) (hL:VL w p.l.q p.l.n E) (hR:VL w p.r.q p.r.n A) (hl:p.l.n=0∨p.l.q=some ⟨J,N,none⟩) (hr:p.r.n=0∨p.r.q=some ⟨Q,or,none⟩) (hB:PtB w (ordV p E A) BB) (n1:p.l.n≤1000) (n2:p.r.n≤1000) :
 Calls Tryz.prog 22 #[.agg p.cs.toArray] w (PutR w p.l.n p.r.n BB):=by
 obtain ⟨cs,r⟩:=hE (p.cs:List Value)
 obtain ⟨l,s⟩:=hE (w.alloc (.cells cs.toArray 66))
 have e1:l.heap.size=w.heap.size+1:=by rw[← s.out,World.size_alloc]
 have b1:Below w.heap.size w l:=by rw[← s.out];exact alloc_below _ _
 have r1:l.rangeAt w.heap.size 0 cs:=by rw[← s.out];exact alloc_range w cs _
 have T:l.cell? ⟨w.heap.size,7,none⟩=some p.l.v:=by have:=r1 7 p.l.v (by rw[← r.out];rfl);rw[Nat.zero_add] at this;exact this
 have U:l.cell? ⟨w.heap.size,8,none⟩=some p.r.v:=by have:=r1 8 p.r.v (by rw[← r.out];rfl);rw[Nat.zero_add] at this;exact this
 obtain ⟨S,a⟩:=hE (l.alloc (.cells #[.int .u8 (p.l.n:Int)] 5))
 have b2:Below l.heap.size l S:=by rw[← a.out];exact alloc_below _ _
 have e2:S.heap.size=l.heap.size+1:=by rw[← a.out,World.size_alloc]
 have hP:Hid (Calls Tryz.prog 44 #[.pointer (some ⟨w.heap.size,0,none⟩)] S fun e w'=>∃ v,e=.returned v∧PLs S w' v (ordP w.heap.size J N p.l.n Q or p.r.n)):=
  partsOf_c w.heap.size p.l p.r J N Q or S oM (by rw[b2.cell (p:=⟨w.heap.size,7,none⟩) (by show w.heap.size<_;omega)];exact T) (by rw[b2.cell (p:=⟨w.heap.size,8,none⟩) (by show w.heap.size<_;omega)];exact U) hl hr n1 n2
 have D:=Hid.mkP b1
 have Z:=Hid.mkP b2
 have h0:=Hid.mkP r1
 have HE:=mk2 e1 e2
 have HL:=Hid.mkP hL
 have HR:=Hid.mkP hR
 have Hl:=Hid.mkP hl
 have Hr:=Hid.mkP hr
 have HB:=Hid.mkP hB
 have o:Hid ((ordV p E A).length=p.l.n+p.r.n+9):=by
  show _=_
  unfold ordV
  simp only[List.length_append,hL.len,hR.len,List.length_cons,List.length_nil]
  omega
 clear b1 b2 r1 e1 e2 hL hR hl hr hB
 rw[r.out]
 obtain ⟨f,P⟩:∃ f,Hid (p.l.n=f):=⟨_,rfl⟩
 obtain ⟨nr,O⟩:∃ nr,Hid (p.r.n=nr):=⟨_,rfl⟩
 rw[show p.l.v=.slice p.l.q p.l.n p.l.c from rfl] at T
 rw[show p.r.v=.slice p.r.q p.r.n p.r.c from rfl] at U
 rw[P.out,O.out] at hP o ⊢
 rw[P.out] at T n1 a
 rw[O.out] at U n2
 generalize p.l.q=ql at T
 generalize p.l.c=cl at T
 generalize p.r.q=qr at U
 generalize p.r.c=cr at U
 go_enter Tryz.func22,Tryz.ntmps22
 by_cases hg:f=nr
 ·subst hg
  by_cases h6:f≤6
  ·have h5:¬ (6:Int)<(f:Int):=oM
   have hq:IntKind.u8.wrap (f:Int)=(f:Int):=by
    show ((f:Int)%256)=_
    omega
   go_wp2_with (first|(refine wpList_opP (v:=.pointer (some ⟨w.heap.size,0,none⟩)) (w':=l) rfl (.box 66 (.tmp 0)) rfl ?_ ?_;(rw[← s.out,← r.out];kernel_rfl))|(refine wpList_opP (v:=.slice (some ⟨l.heap.size,0,none⟩) 1 1) (w':=S) rfl (.buildSlice 23 1 #[(0,.tmp 23)]) rfl ?_ ?_;(rw[← a.out];kernel_rfl))|fail)
   refine hP.out.mono ?_
   rintro e R ⟨v3,rfl,L⟩
   obtain ⟨I,h1,rfl,h3,h4⟩:=L.lt
   have hM:(ordP w.heap.size J N f Q or f).length=f+f+9:=by
    rw[← ordS_len f f,← ordP_S w.heap.size J N f Q or f,List.length_map]
   have I0:Hid (PuI w R R w.heap.size I (.slice (some ⟨l.heap.size,0,none⟩) 1 1) (catI f BB 0)):=by
    obtain ⟨z1,z2⟩:=HE.out
    have m:=L.bl.size
    refine ⟨D.out.trans ((Z.out.mono D.out.size).trans (L.bl.mono oM)),⟨rfl,Or.inr ⟨l.heap.size,1,#[.int .u8 f],rfl,oM,?_,Nat.le_refl _,dC,rfl,?_⟩⟩,by simp[Value.ownBlock],by simp[Value.ownBlock];omega,by simp[Value.ownBlock];omega,rfl,rfl,Nat.le_refl _,oM,oM⟩
    ·rw[L.bl.block l.heap.size oM,← a.out]
     exact Array.getElem?_push_size
    ·show [Value.int .u8 f]=[SP.encB f.toUInt8]
     unfold SP.encB SP.ub
     have:(f.toUInt8).toNat=f:=by
      rw[UInt8.toNat_ofNat']
      omega
     simp[this]
   have HC:Hid (∀ W v b,PuI w R W w.heap.size I v b→∀ i,i<f+f+9→∃ z y k q n c B,(ordS f f)[i]? = some k∧k≤33∧W.rangeAt I (i*2) [.pointer (some ⟨z,y,none⟩),.int .i64 k]∧W.cell? ⟨z,y,none⟩=some (.slice q n c)∧BB[i]? = some B∧Pt W (.slice q n c) B):=fun W v b X i hi=>by
    obtain ⟨z1,z2⟩:=HE.out
    have C:W.rangeAt w.heap.size 0 p.cs:=fun j u F=>by
     have e:=X.e1
     have m:R.heap[w.heap.size]? = l.heap[w.heap.size]?:=by rw[L.bl.block _ oM,Z.out.block _ oM]
     have:W.cell? ⟨w.heap.size,0+j,none⟩=l.cell? ⟨w.heap.size,0+j,none⟩:=by unfold World.cell?;rw[e,m]
     rw[this]
     exact h0.out j u (by rw[← r.out];exact F)
    have m:=cor_all C (HL.out.below X.bl) (HR.out.below X.bl) Hl.out Hr.out
    rw[P.out,O.out] at m
    obtain ⟨x,hx⟩:∃ x,(ordP w.heap.size J N f Q or f)[i]? = some x:=⟨_,List.getElem?_eq_getElem oM⟩
    obtain ⟨u,V⟩:∃ u,(ordV p E A)[i]? = some u:=⟨_,List.getElem?_eq_getElem (by rw[o.out];omega)⟩
    obtain ⟨B,G⟩:∃ B,BB[i]? = some B:=⟨_,List.getElem?_eq_getElem (by rw[HB.out.1,o.out];omega)⟩
    obtain ⟨⟨z,y,t⟩,H⟩:=m.2 i x u hx V
    have hpt:=(HB.out.2 i u B V G).below X.bl
    have Y:(ordS f f)[i]? = some x.2:=by rw[← ordP_S w.heap.size J N f Q or f,List.getElem?_map,hx];rfl
    have K:=L.at i x hx
    rw[t] at H
    obtain ⟨q,c,rfl,-⟩:=id hpt
    refine ⟨z,y,x.2,q,_,c,B,Y,ordS_le f f _ (List.mem_of_getElem? Y),fun j u F=>?_,H,G,hpt⟩
    have e:=X.e2
    have:W.cell? ⟨I,i*2+j,none⟩=R.cell? ⟨I,i*2+j,none⟩:=by unfold World.cell?;rw[e]
    rw[this,Nat.mul_comm]
    exact K j u (by unfold pC;rw[t];exact F)
   obtain ⟨M,t⟩:∃ M,Hid (f+f+9=M):=⟨_,rfl⟩
   rw[t.out] at HC hM
   rw[hM]
   have hp:M≤21:=by have:=t.out;omega
   have h7:Hid (BB.length=M):=by show _=_;rw[HB.out.1,o.out,t.out]
   have h8:Hid ((ordS f f).length=M):=by show _=_;rw[ordS_len,t.out]
   obtain ⟨dP,hc,ha⟩:=Option.map_eq_some_iff.1 uPrt
   clear L hM hP HB HL HR Hl Hr o T U h3 h4 h0
   go_wp2
   go_loopg [5,27] M (fun gk s5 s27 wr=>∃ i:Nat,i+gk=M∧s27=.int .i64 i∧Hid (PuI w R wr w.heap.size I s5 (catI f BB i)∧(catI f BB i).size≤1+33*i∧∀ j,j<i→(BB[j]?).map Array.size=(ordS f f)[j]?))
   case atStart=>exact ⟨0,oM,rfl,I0.out,by show 1≤_;omega,fun j F=>absurd F (Nat.not_lt_zero _)⟩
   case round =>
    obtain ⟨i,hi,rfl,K⟩:=hrel
    obtain ⟨g,cap,rfl,-,-⟩:=K.out.1.lt
    by_cases h2:i<M
    ·have Y:=oM
     have hn:=idxPT I M h1 i h2
     obtain ⟨z,y,k,q,n,c,B,k1,k2,k3,k4,k5,k6⟩:=HC.out _ _ _ K.out.1 i h2
     have K3:=Hid.mkP k3
     have H:=mk3 k1 k5 k6
     obtain ⟨G,C⟩:=hE (wr.alloc (.cells #[.pointer (some ⟨z,y,none⟩),.int .i64 k] 101))
     have V:Below wr.heap.size wr G:=by rw[← C.out];exact alloc_below _ _
     have a0:G.cell? ⟨wr.heap.size,0,none⟩=some (.pointer (some ⟨z,y,none⟩)):=by rw[← C.out];exact alloc_cell wr _ _ 0 _ rfl
     have a1:G.cell? ⟨wr.heap.size,1,none⟩=some (.int .i64 k):=by rw[← C.out];exact alloc_cell wr _ _ 1 _ rfl
     have a2:G.cell? ⟨z,y,none⟩=some (.slice q n c):=by rw[V.cell (p:=⟨z,y,none⟩) (World.block_lt_of_cell? _ _ k4)];exact k4
     have KA:Hid (∀ d,Below wr.heap.size wr (G.drewN d)):=fun d=>⟨V.os,V.tape,V.output,V.size,V.block⟩
     go_wp2_with (first|(refine wpList_load_mid rfl 101 _ rfl I (i*2) ?_ [.pointer (some ⟨z,y,none⟩),.int .i64 k] dP ?_ ?_ ?_ ?_ ?_;rfl;exact K3.out;exact hc;exact ha;exact iPt;skip)|fail)
     rw[C.out]
     go_quiet (fail)
     have KB:=Hid.mkP (KA.out nq)
     have q0:(G.drewN nq).cell? ⟨wr.heap.size,0,none⟩=some (.pointer (some ⟨z,y,none⟩)):=a0
     have q2:(G.drewN nq).cell? ⟨z,y,none⟩=some (.slice q n c):=a2
     clear KA a0 a1 a2
     generalize G.drewN nq=wb at KB q0 q2 ⊢
     by_cases hb:n=k
     ·subst hb
      obtain ⟨e1,hv⟩:=(H.out.2.2.below KB.out).vl
      subst e1
      have h9:=K.out.2.1
      obtain ⟨v',W',x1,x2⟩:=(K.out.1.below KB.out).app (c:=c) hv oM
      rw[← catI_succ f BB i B H.out.2.1] at x2
      have X2:=Hid.mkP x2
      have X3:Hid ((catI f BB (i+1)).size≤1+33*(i+1)∧∀ j,j<i+1→(BB[j]?).map Array.size=(ordS f f)[j]?):=by
       refine ⟨?_,fun j F=>?_⟩
       ·rw[catI_succ f BB i B H.out.2.1,Array.size_append]
        omega
       ·by_cases m:j=i
        ·subst m
         rw[H.out.2.1,H.out.1]
         rfl
        ·exact K.out.2.2 j oM
      have m:=Hid.mkP x1
      obtain ⟨g',he,rfl,-,-⟩:=x2.lt
      generalize Array.size (catI f BB (i+1))=N2 at m X2
      generalize Array.size (catI f BB i)=N1 at m ⊢
      clear K x1 x2 hv h9
      generalize Array.size B=nB at m q2 ⊢
      go_wp2_with (first|(at_builtin;refine Lib.wpList_append_run wb rfl _ _ _ _ rfl _ _ rfl rfl _ _ m.out ?_)|fail)
      go_roundg (gk-1)
      case measure=>omega
      case rel=>exact ⟨i+1,oM,rfl,X2.out,X3.out⟩
     ·have hm:=oM
      have m:¬ GoodP f f BB:=fun h=>by
       have e0:(BB.map Array.size)[i]? = (ordS f f)[i]?:=by rw[h.2.2]
       rw[List.getElem?_map,H.out.2.1,H.out.1] at e0
       have e1:=Option.some.inj e0
       obtain ⟨q',c',e2,-⟩:=H.out.2.2
       injection e2 with _ e2 _
       omega
      have HW:=Hid.mkP (K.out.1.bl.trans (KB.out.mono K.out.1.bl.size))
      go_wp2
      go_ret2
      exact ⟨HW.out,Or.inr ⟨m,rfl⟩⟩
    ·have Y:=oM
     obtain rfl:i=M:=oM
     have C:Hid (PutR w f f BB (.returned (.tuple #[.slice (some ⟨g,0,none⟩) (catI f BB i).size cap,.int .i64 0])) wr):=by
      refine ⟨K.out.1.bl,Or.inl ⟨⟨rfl,h6,List.ext_getElem? fun j=>?_⟩,_,rfl,?_,?_⟩⟩
      ·by_cases F:j<i
       ·rw[List.getElem?_map]
        exact K.out.2.2 j F
       ·rw[List.getElem?_eq_none (by rw[List.length_map,h7.out];omega),List.getElem?_eq_none (by rw[h8.out];omega)]
      ·rw[t.out]
       exact K.out.1.pt
      ·rw[t.out]
       exact K.out.1.cap
     go_wp2
     go_ret2
     exact C.out
  ·have h5:=oM
   have m:¬ GoodP f f BB:=fun h=>h6 h.2.1
   go_wp2_with (first|(refine wpList_opP (v:=.pointer (some ⟨w.heap.size,0,none⟩)) (w':=l) rfl (.box 66 (.tmp 0)) rfl ?_ ?_;(rw[← s.out,← r.out];kernel_rfl))|fail)
   go_ret2
   exact ⟨D.out,Or.inr ⟨m,rfl⟩⟩
 ·have t:=oM
  have m:¬ GoodP f nr BB:=fun h=>hg h.1
  go_wp2_with (first|(refine wpList_opP (v:=.pointer (some ⟨w.heap.size,0,none⟩)) (w':=l) rfl (.box 66 (.tmp 0)) rfl ?_ ?_;(rw[← s.out,← r.out];kernel_rfl))|fail)
  go_ret2
  exact ⟨D.out,Or.inr ⟨m,rfl⟩⟩
end
section
open Go.RowKit Go.Sort Go.Deep
namespace RG
variable {P:Program} {ops:Array Oper} {Q:Exit→Act→World→Prop} {a0:Act} {F:Flow}
theorem cf_manyP {k:Nat} {o:Oper} (h:∀ (a:Act) (w:World),PreF F ops a0 k o a w→∃ (b:List (Tmp × Value)) (v:Value) (w':World),AllE a b∧(seenT (b.map (·.1)) o,(execOp (evo (evl b)) o).run P w)=(true,.ok (.value v) w')∧F.E k w w'∧F.R k v w'):CertF P Q F ops a0 k o:=
 cf_val fun a w e=>by
  obtain ⟨b,v,w',d,c,hE⟩:=h a w e
  simp only[Prod.mk.injEq] at c
  refine ⟨v,w',?_,hE⟩
  rw[exec_ev (evl b) (b.map (·.1)) c.1 d.ev]
  exact c.2
theorem cf_ld1 {k:Nat} {o:Oper} (T:TypeId) (t:Tmp) (ho:o.op=.load T (.tmp t)) (d:(P.underlying T).map (·.isRow)=some false)
 (h:∀ (a:Act) (w:World),PreF F ops a0 k o a w→∃ g off v,a.eval (.tmp t)=.pointer (some ⟨g,off,none⟩)∧w.cell? ⟨g,off,none⟩=some v∧F.E k w w∧F.R k v w):CertF P Q F ops a0 k o:=
 cf_val fun a w b=>by
  obtain ⟨g,off,v,f,c,e⟩:=h a w b
  refine ⟨v,w,?_,e⟩
  unfold execOp
  rw[ho]
  dsimp only
  rw[f,Sem.run_bind,run_load1 c d]
  rfl
end RG
end
section
open Go.RowKit Go.Sort Go.Deep
theorem nil_fP (a:Addr) (n c:Nat) (w:World):(binOp .eql 23 (.slice (some a) n c) (.slice none 0 0)).run Tryz.prog w=.ok (.bool false) w:=kR
theorem addr_inj {g o b k:Nat} (h:some (⟨g,o,none⟩:Addr)=some ⟨b,k,none⟩):g=b∧o=k:=by
 cases h
 exact ⟨rfl,rfl⟩
theorem own_slice {W:World} {B n s:Nat} {T:TypeId} {v:Value} {xs:List Value} (h:W.ownsRow B T s v n xs):∃ q c,v=.slice q n c:=by
 rcases h.2 with ⟨e,e'⟩|⟨g,cap,cur,e,-⟩
 ·exact ⟨none,0,by rw[e,e']⟩
 ·exact ⟨_,_,e⟩
structure FrC (N:Nat) (X:SP.Bs) (v:Value) (W:World):Prop where
 own:W.ownsRow N 5 1 v X.size (bC X)
 nn:v.ownBlock≠none
theorem FrC.below {N:Nat} {X:SP.Bs} {v:Value} {W W':World} (h:FrC N X v W) (k:Below W.heap.size W W'):FrC N X v W':=⟨own_keep h.own (fun g b=>k.block g (own_lt h.own b).2.1),h.nn⟩
theorem cloneP_c (g o c:Nat) (X:SP.Bs) (J:X.size≤1000000) (w:World) (A:g<w.heap.size) (H:Holds SP.encB w g o X) :
 Calls Tryz.prog 159 #[.slice (some ⟨g,o,none⟩) X.size c] w fun e w'=>∃ v,e=.returned v∧Below w.heap.size w w'∧FrC w.heap.size X v w':=by
 obtain ⟨i,F,s⟩:=Option.map_eq_some_iff.1 infoU8
 simp only[Prod.mk.injEq] at s
 obtain ⟨D,x,C⟩:=s
 obtain ⟨z,E,m⟩:=Option.map_eq_some_iff.1 C
 obtain ⟨f,d⟩:=hE (w.alloc (.cells #[] 5))
 have r:f.heap.size=w.heap.size+1:=by rw[← d.out,World.size_alloc]
 have b1:Below w.heap.size w f:=by rw[← d.out];exact alloc_below _ _
 have ho:f.ownsRow w.heap.size 5 1 (.slice (some ⟨w.heap.size,0,none⟩) 0 0) 0 []:=by
  rw[← d.out]
  exact ⟨rfl,.inr ⟨w.heap.size,0,#[],rfl,Nat.le_refl _,Array.getElem?_push_size,Nat.le_refl _,Nat.zero_le _,rfl,rfl⟩⟩
 have hpt:Pt f (.slice (some ⟨g,o,none⟩) X.size c) X:=⟨_,_,rfl,Or.inr ⟨g,o,rfl,oM,SP.Holds.below H b1 A⟩⟩
 obtain ⟨-,hv⟩:=hpt.vl
 have p:∀ (j:Nat) u,(bC X)[j]? = some u→f.cell? ((⟨g,o,none⟩:Addr).add j)=some u:=fun j u q=>by
  rcases hv.cells with n|⟨b,y,t,-,p⟩
  ·rw[n] at q;cases q
  ·obtain ⟨r,l⟩:=addr_inj t
   subst r l
   rw[addP0];exact p j u q
 obtain ⟨G,W',I,n,l,a⟩:=run_append_own (P:=Tryz.prog) f w.heap.size 23 23 5 i z 1 1 undB5 F E D x m dC _ 0 [] ho ⟨g,o,none⟩ X.size c (bC X) (by rw[bC_len];omega) p (bC_one X) (by unfold maxLen;omega) oM oM
 rw[Nat.zero_add,List.nil_append] at n
 have K:Hid (Below w.heap.size w W'∧FrC w.heap.size X G W'):=by
  refine ⟨⟨by rw[l.os,b1.os],by rw[l.tape,b1.tape],by rw[l.output,b1.output],Nat.le_trans b1.size l.size,fun k y=>?_⟩,n,?_⟩
  ·rw[l.block k oM (by simp[Value.ownBlock];omega),b1.block k y]
  ·rcases n.2 with ⟨B,-⟩|⟨L,t,cur,rfl,-⟩
   ·have:=(a.1 B).1
    exact absurd this (by simp)
   ·simp[Value.ownBlock]
 have t:=Hid.mkP I
 have y:=nil_fP ⟨g,o,none⟩ X.size c
 go_enter Tryz.func159,Tryz.ntmps159
 go_wp2_with (first|(refine wpList_opP (v:=.slice (some ⟨w.heap.size,0,none⟩) 0 0) (w':=f) rfl (.buildSlice 23 0 #[]) rfl ?_ ?_;(rw[← d.out];kernel_rfl))|(at_builtin;refine Lib.wpList_append_run f rfl _ _ _ _ rfl _ _ rfl rfl _ _ t.out ?_)|fail)
 go_ret
 exact ⟨_,rfl,K.out.1,K.out.2⟩
theorem heap_set (w : World) (a : Addr) (v : Value) (k : Nat) : (w.setCell a v).heap[k]? = if a.block = k then (w.heap[k]?).map (fun
      | .cells c elem frozen => .cells (if a.spot.isSome then c else c.setIfInBounds a.off v) elem frozen
      | o => o) else w.heap[k]? := by
  show (w.heap.modify a.block _)[k]? = _
  rw [Array.getElem?_modify]
  rfl
theorem below_set {N:Nat} {ws w:World} (h:Below N ws w) (a:Addr) (v:Value):Below N (ws.setCell a v) (w.setCell a v):=
 ⟨h.os,h.tape,h.output,by rw[World.size_setCell,World.size_setCell];exact h.size,fun k b=>by rw[heap_set,heap_set,h.block k b]⟩
def StR (ws:World) (b k:Nat) (X:SP.Bs) (w:World):Prop:=∃ v,Below ws.heap.size (ws.setCell ⟨b,k,none⟩ v) w∧FrC ws.heap.size X v w
def FR (ws:World) (ga e d k gi off m c nx:Nat) (X:SP.Bs):RG.Flow where
 R i v w:=match i with
  | 0=>v=.pointer (some ⟨ga,0,none⟩)
  | 1=>v=.pointer (some ⟨e,d,none⟩)
  | 2=>v=.slice (some ⟨gi,off,none⟩) m c
  | 3=>v=.pointer (some ⟨ga,1,none⟩)
  | 4=>v=.int .i64 k
  | 5=>v=.slice (some ⟨gi,off,none⟩) k c
  | 6=>FrC ws.heap.size X v w
  | 7=>v=.slice (some ⟨gi,off,none⟩) m c
  | 8=>v=.pointer (some ⟨ga,1,none⟩)
  | 9=>v=.int .i64 k
  | 10=>v=.slice (some ⟨gi,nx,none⟩) (m-k) (c-k)
  | 11=>v=.pointer (some ⟨e,d,none⟩)
  | 12=>StR ws e d X w
  | _=>v=.slice (some ⟨gi,nx,none⟩) (m-k) (c-k)
 B b w:=match b with
  | 0=>Below ws.heap.size ws w
  | _=>w.cell? ⟨ga,0,none⟩=some (.pointer (some ⟨e,d,none⟩))∧w.cell? ⟨ga,1,none⟩=some (.int .i64 k)∧ga<ws.heap.size∧ws.heap.size≤w.heap.size
 E i w w':=match i with
  | 12=>∃ v,w'=w.setCell ⟨e,d,none⟩ v
  | _=>Below w.heap.size w w'
 kill _:=[]
 killB b:=match b with
  | 0=>[12]
  | _=>[]
variable {ws:World} {ga bb oo k gi off m c nx:Nat} {X:SP.Bs}
theorem StR.below {w w':World} (h:StR ws bb oo X w) (k:Below w.heap.size w w'):StR ws bb oo X w':=by
 obtain ⟨v,b,c⟩:=h
 refine ⟨v,b.trans (k.mono ?_),c.below k⟩
 have:=b.size
 rw[World.size_setCell] at this
 exact this
theorem FR.stab (l:bb<ws.heap.size) (i j:Nat) (f:i≠j) (v:Value) (w w':World) (hE:(FR ws ga bb oo k gi off m c nx X).E i w w') (hR:(FR ws ga bb oo k gi off m c nx X).R j v w):(FR ws ga bb oo k gi off m c nx X).R j v w':=by
 have key:j≠6→j≠12→(FR ws ga bb oo k gi off m c nx X).R j v w':=fun e b=>by
  match j,e,b,hR with
  | 0,_,_,h|1,_,_,h|2,_,_,h|3,_,_,h|4,_,_,h|5,_,_,h|7,_,_,h|8,_,_,h|9,_,_,h|10,_,_,h|11,_,_,h|_+13,_,_,h=>exact h
  | 6,h,_,_=>exact absurd rfl h
  | 12,_,h,_=>exact absurd rfl h
 by_cases e:j=6
 ·subst e
  by_cases b:i=12
  ·subst b
   obtain ⟨u,rfl⟩:=hE
   have hR:=hR
   refine (⟨own_keep hR.own (fun g d=>?_),hR.nn⟩:FrC ws.heap.size X v _)
   have:=(own_lt hR.own d).1
   rw[heap_set,if_neg (by show bb≠g;omega)]
  ·have d:Below w.heap.size w w':=by
    unfold FR at hE
    dsimp only at hE
    split at hE
    ·exact absurd rfl b
    ·exact hE
   exact (FrC.below (show FrC ws.heap.size X v w from hR) d:FrC ws.heap.size X v w')
 ·by_cases b:j=12
  ·subst b
   have d:Below w.heap.size w w':=by
    unfold FR at hE
    dsimp only at hE
    split at hE
    ·exact absurd rfl f
    ·exact hE
   exact (StR.below (show StR ws bb oo X w from hR) d:StR ws bb oo X w')
  ·exact key e b
theorem FR.stabB (f:bb≠ga) (i b:Nat) (n:((FR ws ga bb oo k gi off m c nx X).killB b).contains i=false) (w w':World) (hE:(FR ws ga bb oo k gi off m c nx X).E i w w') (l:(FR ws ga bb oo k gi off m c nx X).B b w):(FR ws ga bb oo k gi off m c nx X).B b w':=by
 by_cases g:i=12
 ·subst g
  obtain ⟨u,rfl⟩:=hE
  match b,n,l with
  | 0,n,_=>exact absurd (show ([12]:List Nat).contains 12=false from n) dC
  | _+1,_,⟨h1,h2,h3,h4⟩ =>
   refine ⟨?_,?_,h3,by rw[World.size_setCell];exact h4⟩
   ·rw[World.cell?_setCell_other _ _ _ _ (by intro e;injection e with e _ _;exact f e)];exact h1
   ·rw[World.cell?_setCell_other _ _ _ _ (by intro e;injection e with e _ _;exact f e)];exact h2
 ·have d:Below w.heap.size w w':=by
   unfold FR at hE
   dsimp only at hE
   split at hE
   ·exact absurd rfl g
   ·exact hE
  match b,l with
  | 0,l =>
   have j:=l
   exact (j.trans (d.mono j.size):Below ws.heap.size ws w')
  | _+1,⟨h1,h2,h3,h4⟩ =>
   refine ⟨?_,?_,h3,Nat.le_trans h4 d.size⟩
   ·rw[d.cell (p:=⟨ga,0,none⟩) (by show ga<_;omega)];exact h1
   ·rw[d.cell (p:=⟨ga,1,none⟩) (by show ga<_;omega)];exact h2
end
section
open Go.RowKit Go.Sort Go.Deep
structure PsOk (w w4:World) (gr gq gp:Nat) (ps:List (Addr × Nat)):Prop where
 ad:∀ (j:Nat) x,ps[j]? = some x→∃ b o,x.1=⟨b,o,none⟩∧b<w4.heap.size∧w.heap.size≤b∧b≠gq∧b≠gr∧x.1≠⟨gp,7,none⟩∧x.1≠⟨gp,8,none⟩
 ne:∀ (j j':Nat) x x',j≠j'→ps[j]? = some x→ps[j']? = some x'→x.1≠x'.1
 q:gq<w4.heap.size
 r:gr<w4.heap.size
 p:gp<w4.heap.size
structure RdI (w w4 W:World) (gr gq gp:Nat) (lv rv:Value) (ps:List (Addr × Nat)) (vs:List Value) (CH:Nat→SP.Bs):Prop where
 bl:Below w.heap.size w W
 st:∀ (j:Nat) x u,ps[j]? = some x→vs[j]? = some u→W.cell? x.1=some u
 th:∀ (j:Nat) x,ps[j]? = some x→(∃ u,W.cell? x.1=some u)∧W.frozen? x.1=false
 c7:W.cell? ⟨gp,7,none⟩=some lv
 c8:W.cell? ⟨gp,8,none⟩=some rv
 eq:W.heap[gq]? = w4.heap[gq]?
 er:W.heap[gr]? = w4.heap[gr]?
 sz:w4.heap.size≤W.heap.size
 ow:∀ (j:Nat) u,vs[j]? = some u→FrC w4.heap.size (CH j) u W
 ne:∀ (j j':Nat) u u' g,j<j'→vs[j]? = some u→vs[j']? = some u'→u.ownBlock=some g→u'.ownBlock≠some g
variable {w w4 W:World} {gr gq gp:Nat} {lv rv:Value} {ps:List (Addr × Nat)} {vs:List Value} {CH:Nat→SP.Bs}
theorem RdI.below {W':World} (h:RdI w w4 W gr gq gp lv rv ps vs CH) (c:PsOk w w4 gr gq gp ps) (k:Below W.heap.size W W'):RdI w w4 W' gr gq gp lv rv ps vs CH:=by
 have g:=h.sz
 have i:=c.p
 have l:=c.q
 have n:=c.r
 have f:∀ (j:Nat) x,ps[j]? = some x→W'.cell? x.1=W.cell? x.1∧W'.frozen? x.1=W.frozen? x.1:=fun j x hx=>by
  obtain ⟨b,o,e,m,-⟩:=c.ad j x hx
  have d:=k.block b oM
  rw[e]
  unfold World.cell? World.frozen?
  rw[d]
  exact ⟨rfl,rfl⟩
 refine ⟨h.bl.trans (k.mono h.bl.size),fun j x u hx d=>by rw[(f j x hx).1];exact h.st j x u hx d,fun j x hx=>by rw[(f j x hx).1,(f j x hx).2];exact h.th j x hx,?_,?_,by rw[k.block gq oM];exact h.eq,by rw[k.block gr oM];exact h.er,Nat.le_trans g k.size,fun j u d=>(h.ow j u d).below k,h.ne⟩
 ·rw[k.cell (p:=⟨gp,7,none⟩) (by show gp<_;omega)];exact h.c7
 ·rw[k.cell (p:=⟨gp,8,none⟩) (by show gp<_;omega)];exact h.c8
theorem RdI.step {W':World} {i s k:Nat} (h:RdI w w4 W gr gq gp lv rv ps vs CH) (z:PsOk w w4 gr gq gp ps) (hx:ps[vs.length]? = some (⟨i,s,none⟩,k)) (K:StR W i s (CH vs.length) W'):∃ v,RdI w w4 W' gr gq gp lv rv ps (vs++[v]) CH:=by
 obtain ⟨v,o,E⟩:=K
 have V:=h.sz
 have Q:=z.p
 have R:=z.q
 have S:=z.r
 obtain ⟨T,U,e',p1,p2,J,L,O,p6⟩:=z.ad _ _ hx
 injection e' with e1 e2 _
 subst e1 e2
 obtain ⟨⟨old,t⟩,N⟩:=h.th _ _ hx
 have f:∀ g,g<W.heap.size→g≠i→W'.heap[g]? = W.heap[g]?:=fun g y c=>by
  rw[o.block g y,heap_set,if_neg (by show i≠g;omega)]
 have b:∀ a:Addr,a.block<W.heap.size→a≠⟨i,s,none⟩→W'.cell? a=W.cell? a:=fun a F c=>by
  rw[o.cell (p:=a) F,World.cell?_setCell_other _ _ _ _ (fun e=>c e.symm)]
 have G:∀ a:Addr,a.block<W.heap.size→W'.frozen? a=W.frozen? a:=fun a F=>by
  have d:W'.frozen? a=(W.setCell ⟨i,s,none⟩ v).frozen? a:=by
   unfold World.frozen?
   rw[o.block a.block F]
  rw[d]
  exact World.frozen?_setCells i [v] s W a
 have A:W.heap.size≤W'.heap.size:=by
  have:=o.size
  rw[World.size_setCell] at this
  exact this
 refine ⟨v,⟨⟨by rw[o.os];exact h.bl.os,by rw[o.tape];exact h.bl.tape,by rw[o.output];exact h.bl.output,Nat.le_trans h.bl.size A,fun g y=>?_⟩,fun j x u r d=>?_,fun j x r=>?_,?_,?_,?_,?_,oM,fun j u d=>?_,fun j D u I g q d n y=>?_⟩⟩
 ·have:=h.bl.size
  rw[f g oM oM,h.bl.block g y]
 ·obtain ⟨C,M,B,H,-⟩:=z.ad j x r
  by_cases l:j<vs.length
  ·rw[List.getElem?_append_left l] at d
   have c:=z.ne j vs.length x _ oM r hx
   rw[b x.1 (by rw[B];show C<_;omega) c]
   exact h.st j x u r d
  ·have m:j=vs.length:=by
    have:=(List.getElem?_eq_some_iff.1 d).1
    rw[List.length_append] at this
    simp only[List.length_cons,List.length_nil] at this
    omega
   subst m
   rw[hx] at r
   obtain rfl:=Option.some.inj r
   rw[List.getElem?_append_right (Nat.le_refl _),Nat.sub_self] at d
   obtain rfl:v=u:=by simpa using d
   rw[o.cell (p:=⟨i,s,none⟩) (by show i<_;omega)]
   exact World.cell?_setCell_same _ _ _ t
 ·obtain ⟨C,M,B,H,-⟩:=z.ad j x r
  have q:x.1.block<W.heap.size:=by rw[B];show C<_;omega
  refine ⟨?_,by rw[G x.1 q];exact (h.th j x r).2⟩
  by_cases c:x.1=⟨i,s,none⟩
  ·rw[c]
   exact ⟨v,by rw[o.cell (p:=⟨i,s,none⟩) (by show i<_;omega)];exact World.cell?_setCell_same _ _ _ t⟩
  ·rw[b x.1 q c]
   exact (h.th j x r).1
 ·rw[b ⟨gp,7,none⟩ (by show gp<_;omega) (fun e=>O e.symm)];exact h.c7
 ·rw[b ⟨gp,8,none⟩ (by show gp<_;omega) (fun e=>p6 e.symm)];exact h.c8
 ·rw[f gq oM (fun e=>J e.symm)];exact h.eq
 ·rw[f gr oM (fun e=>L e.symm)];exact h.er
 ·by_cases l:j<vs.length
  ·rw[List.getElem?_append_left l] at d
   have C:=h.ow j u d
   refine ⟨own_keep C.own (fun g y=>?_),C.nn⟩
   have:=own_lt C.own y
   exact f g this.2.1 oM
  ·have m:j=vs.length:=by
    have:=(List.getElem?_eq_some_iff.1 d).1
    rw[List.length_append] at this
    simp only[List.length_cons,List.length_nil] at this
    omega
   subst m
   rw[List.getElem?_append_right (Nat.le_refl _),Nat.sub_self] at d
   obtain rfl:v=u:=by simpa using d
   refine ⟨?_,E.nn⟩
   rcases E.own with ⟨H,B|⟨g,cap,cur,B,P,M⟩⟩
   ·exact ⟨H,Or.inl B⟩
   ·exact ⟨H,Or.inr ⟨g,cap,cur,B,oM,M⟩⟩
 ·have B:=(List.getElem?_eq_some_iff.1 n).1
  rw[List.length_append] at B
  simp only[List.length_cons,List.length_nil] at B
  rw[List.getElem?_append_left oM] at d
  by_cases l:D<vs.length
  ·rw[List.getElem?_append_left l] at n
   exact h.ne j D u I g q d n y
  ·have m:D=vs.length:=oM
   subst m
   rw[List.getElem?_append_right (Nat.le_refl _),Nat.sub_self] at n
   obtain rfl:v=I:=by simpa using n
   intro e
   have C:=(own_lt E.own e).1
   have H:=(own_lt (h.ow j u d).own y).2.1
   omega
end
section
open Go.RowKit Go.Sort Go.Deep
variable {P:Nat} [NeZero P] {N:Nat}
theorem infoBBm:(Tryz.prog.info? 23).map (fun i=>(i.zero,i.size,i.bytes))=some (some (.slice none 0 0),1,24):=kR
structure R4 (w1 W:World) (gp gL gR k:Nat):Prop where
 bl:Below w1.heap.size w1 W
 d1:gp≠gL
 d2:gp≠gR
 d3:gL≠gR
 p1:w1.heap.size≤gp∧gp<W.heap.size
 p2:w1.heap.size≤gL∧gL<W.heap.size
 p3:w1.heap.size≤gR∧gR<W.heap.size
 hp:W.heap[gp]? = some (.cells #[.slice none 0 0,.slice none 0 0,.slice none 0 0,.slice none 0 0,.slice none 0 0,.slice none 0 0,.slice none 0 0,.slice (some ⟨gL,0,none⟩) k k,.slice (some ⟨gR,0,none⟩) k k,.slice none 0 0,.slice none 0 0] 66 (0,0))
 hL:W.heap[gL]? = some (.cells (madeCells #[.slice none 0 0] k) 23 (0,0))
 hR:W.heap[gR]? = some (.cells (madeCells #[.slice none 0 0] k) 23 (0,0))
theorem three (k:World) (a b c:Array Value) (A B C:TypeId):Below k.heap.size k (((k.alloc (.cells a A)).alloc (.cells b B)).alloc (.cells c C)).drew∧(((k.alloc (.cells a A)).alloc (.cells b B)).alloc (.cells c C)).drew.heap.size=k.heap.size+3∧(((k.alloc (.cells a A)).alloc (.cells b B)).alloc (.cells c C)).drew.heap[k.heap.size]? = some (.cells a A (0,0))∧(((k.alloc (.cells a A)).alloc (.cells b B)).alloc (.cells c C)).drew.heap[k.heap.size+1]? = some (.cells b B (0,0))∧(((k.alloc (.cells a A)).alloc (.cells b B)).alloc (.cells c C)).drew.heap[k.heap.size+1+1]? = some (.cells c C (0,0)):=by
 have l:=alloc_below k (.cells a A)
 have g:(k.alloc (.cells a A)).heap.size=k.heap.size+1:=World.size_alloc _ _
 have i:=alloc_below (k.alloc (.cells a A)) (.cells b B)
 have f:((k.alloc (.cells a A)).alloc (.cells b B)).heap.size=k.heap.size+2:=by rw[World.size_alloc,g]
 have e:=alloc_below ((k.alloc (.cells a A)).alloc (.cells b B)) (.cells c C)
 have z3:(((k.alloc (.cells a A)).alloc (.cells b B)).alloc (.cells c C)).heap.size=k.heap.size+3:=by rw[World.size_alloc,f]
 have m:(k.alloc (.cells a A)).heap[k.heap.size]? = some (.cells a A (0,0)):=Array.getElem?_push_size
 have j:((k.alloc (.cells a A)).alloc (.cells b B)).heap[(k.alloc (.cells a A)).heap.size]? = some (.cells b B (0,0)):=Array.getElem?_push_size
 have e3:(((k.alloc (.cells a A)).alloc (.cells b B)).alloc (.cells c C)).heap[((k.alloc (.cells a A)).alloc (.cells b B)).heap.size]? = some (.cells c C (0,0)):=Array.getElem?_push_size
 rw[g] at j
 rw[f] at e3
 have d:=(l.trans (i.mono oM)).trans (e.mono oM)
 refine ⟨⟨d.os,d.tape,d.output,d.size,d.block⟩,z3,?_,?_,e3⟩
 ·show (((k.alloc (.cells a A)).alloc (.cells b B)).alloc (.cells c C)).heap[k.heap.size]? = _
  rw[e.block _ oM,i.block _ oM]
  exact m
 ·show (((k.alloc (.cells a A)).alloc (.cells b B)).alloc (.cells c C)).heap[k.heap.size+1]? = _
  rw[e.block _ oM]
  exact j
def zR:List Value:=List.replicate 11 (.slice none 0 0)
theorem ordP_cases {f p r n q or m j:Nat} {x:Addr × Nat} (h:(ordP f p r n q or m)[j]? = some x):(j<7∧x.1=⟨f,j,none⟩)∨(7≤j∧j<7+n∧x.1=⟨p,r+(j-7),none⟩)∨(7+n≤j∧j<7+n+m∧x.1=⟨q,or+(j-7-n),none⟩)∨(7+n+m≤j∧j<9+n+m∧x.1=⟨f,9+(j-7-n-m),none⟩):=by
 have c:∀ {b o k i:Nat} {y:Addr × Nat},(lp b o k)[i]? = some y→i<k∧y.1=⟨b,o+i,none⟩:=fun {b o k i y} h=>by
  unfold lp at h
  rw[List.getElem?_map] at h
  obtain ⟨z,t,rfl⟩:=Option.map_eq_some_iff.1 h
  have e:=(List.getElem?_eq_some_iff.1 t)
  obtain ⟨g,l⟩:=e
  have d:i<k:=by simpa using g
  have s:i=z:=by simpa using l
  subst s
  exact ⟨d,rfl⟩
 unfold ordP at h
 by_cases e:j<7
 ·left
  refine ⟨e,?_⟩
  rw[List.append_assoc,List.append_assoc,List.getElem?_append_left (by show j<7;exact e)] at h
  match j,e,h with
  | 0,_,h|1,_,h|2,_,h|3,_,h|4,_,h|5,_,h|6,_,h =>
   obtain rfl:=Option.some.inj h
   rfl
 ·right
  rw[List.append_assoc,List.append_assoc,List.getElem?_append_right (by show 7≤j;omega)] at h
  have s:(basP f).length=7:=rfl
  rw[s] at h
  by_cases g:j-7<n
  ·left
   rw[List.getElem?_append_left (by rw[lp_len];exact g)] at h
   obtain ⟨-,d⟩:=c h
   exact ⟨oM,oM,d⟩
  ·right
   rw[List.getElem?_append_right (by rw[lp_len];omega),lp_len] at h
   by_cases l:j-7-n<m
   ·left
    rw[List.getElem?_append_left (by rw[lp_len];exact l)] at h
    obtain ⟨-,d⟩:=c h
    exact ⟨oM,oM,d⟩
   ·right
    rw[List.getElem?_append_right (by rw[lp_len];omega),lp_len] at h
    obtain ⟨i,d⟩:∃ i,j-7-n-m=i:=⟨_,rfl⟩
    rw[d] at h ⊢
    match i,d,h with
    | 0,d,h|1,d,h =>
     obtain rfl:=Option.some.inj h
     exact ⟨oM,oM,rfl⟩
    | i+2,_,h=>cases h
theorem made_atP (k j:Nat) (z:Value) (h:j<k):(madeCells #[z] k)[j]? = some z:=by
 unfold madeCells
 rw[Array.getElem?_map,Array.getElem?_range,if_pos h]
 simp[Nat.mod_one]
theorem r4_start {w a G s:World} {l o m k A n c:Nat} {CH:Nat→SP.Bs} (h:R4 a G l o m k) (F:Below w.heap.size w a) (P:w.heap.size<a.heap.size) (p:PLs G s (.slice (some ⟨A,0,none⟩) n c) (ordP l o 0 k m 0 k)) :
 PsOk w s w.heap.size A l (ordP l o 0 k m 0 k)∧RdI w s s w.heap.size A l (.slice (some ⟨o,0,none⟩) k k) (.slice (some ⟨m,0,none⟩) k k) (ordP l o 0 k m 0 k) [] CH:=by
 obtain ⟨R,S,e,J,C⟩:=p.lt
 injection e with e _ _
 injection e with e
 injection e with e _ _
 subst e
 have z3:=p.bl.size
 obtain ⟨p1,E⟩:=h.p1
 obtain ⟨p2,B⟩:=h.p2
 obtain ⟨M,y⟩:=h.p3
 have Q:=h.d1
 have T:=h.d2
 have N:=h.d3
 have v:=p.bl.block l E
 have I:=p.bl.block o B
 have L:=p.bl.block m y
 refine ⟨⟨fun j x hx=>?_,fun j H x U K hx D e=>?_,C,by have:=h.bl.size;omega,oM⟩,⟨?_,fun j x u _ r=>by simp at r,fun j x hx=>?_,?_,?_,rfl,rfl,Nat.le_refl _,fun j u r=>by simp at r,fun j H u O g _ r=>by simp at r⟩⟩
 ·rcases ordP_cases hx with ⟨f,b⟩|⟨f,d,b⟩|⟨f,d,b⟩|⟨f,d,b⟩
  ·exact ⟨l,j,b,oM,oM,oM,oM,by rw[b];intro e;injection e with _ e _;omega,by rw[b];intro e;injection e with _ e _;omega⟩
  ·exact ⟨o,_,b,oM,oM,oM,oM,by rw[b];intro e;injection e with e _ _;omega,by rw[b];intro e;injection e with e _ _;omega⟩
  ·exact ⟨m,_,b,oM,oM,oM,oM,by rw[b];intro e;injection e with e _ _;omega,by rw[b];intro e;injection e with e _ _;omega⟩
  ·exact ⟨l,_,b,oM,oM,oM,oM,by rw[b];intro e;injection e with _ e _;omega,by rw[b];intro e;injection e with _ e _;omega⟩
 ·rcases ordP_cases hx with ⟨f,b⟩|⟨f,d,b⟩|⟨f,d,b⟩|⟨f,d,b⟩<;>rcases ordP_cases D with ⟨z,t⟩|⟨z,q,t⟩|⟨z,q,t⟩|⟨z,q,t⟩<;>(rw[b,t] at e;injection e with e1 e2 _;omega)
 ·exact (F.trans (h.bl.mono F.size)).trans (p.bl.mono (by have:=h.bl.size;omega))
 ·rcases ordP_cases hx with ⟨f,b⟩|⟨f,d,b⟩|⟨f,d,b⟩|⟨f,d,b⟩
  ·rw[b]
   unfold World.cell? World.frozen?
   rw[v,h.hp]
   refine ⟨?_,by simp⟩
   match j,f with
   | 0,_|1,_|2,_|3,_|4,_|5,_|6,_=>exact ⟨_,rfl⟩
  ·rw[b]
   unfold World.cell? World.frozen?
   rw[I,h.hL]
   exact ⟨⟨_,made_atP k (0+(j-7)) _ oM⟩,by simp⟩
  ·rw[b]
   unfold World.cell? World.frozen?
   rw[L,h.hR]
   exact ⟨⟨_,made_atP k (0+(j-7-k)) _ oM⟩,by simp⟩
  ·rw[b]
   unfold World.cell? World.frozen?
   rw[v,h.hp]
   refine ⟨?_,by simp⟩
   obtain ⟨i,q⟩:∃ i,j-7-k-k=i:=⟨_,rfl⟩
   rw[q]
   match i,q with
   | 0,_|1,_=>exact ⟨_,rfl⟩
   | i+2,q=>omega
 ·unfold World.cell?
  rw[v,h.hp]
  rfl
 ·unfold World.cell?
  rw[v,h.hp]
  rfl
def offs (n j:Nat):Nat:=1+((ordS n n).take j).sum
theorem offs_succ (n j k:Nat) (h:(ordS n n)[j]? = some k):offs n (j+1)=offs n j+k:=by
 unfold offs
 rw[List.take_add_one,h,List.sum_append]
 simp[Nat.add_assoc]
theorem sum_take_le:∀ (l:List Nat) (j:Nat),(l.take j).sum≤l.sum
 | [],j=>by simp
 | a :: r,0=>by simp
 | a :: r,j+1=>by
  have:=sum_take_le r j
  simp only[List.take_succ_cons,List.sum_cons]
  omega
theorem offs_le (n j:Nat):offs n j≤1+(ordS n n).sum:=by
 have:=sum_take_le (ordS n n) j
 unfold offs
 omega
theorem ordS_sum (n:Nat):(ordS n n).sum=292+66*n:=by
 unfold ordS
 simp only[List.sum_append,List.sum_replicate_nat,List.sum_cons,List.sum_nil]
 omega
theorem offs_all (n:Nat):offs n (n+n+9)=293+66*n:=by
 unfold offs
 rw[List.take_of_length_le (by rw[ordS_len];omega),ordS_sum]
 omega
def chk (s:SP.Bs) (n j:Nat):SP.Bs:=s.extract (offs n j) (offs n (j+1))
def RGood (s:SP.Bs):Prop:=0<s.size∧s[0]!.toNat≤6∧s.size=293+66*s[0]!.toNat
def RdR (w:World) (s:SP.Bs) (k:Nat) (e:Ending) (W:World):Prop:=
 (¬ RGood s∧Below w.heap.size w W∧e=.returned (.tuple #[.agg zR.toArray,.int .i64 2])) ∨
 (RGood s∧Below w.heap.size w W∧∃ (g c:World) (i b d f:Nat) (vs cs:List Value),vs.length=k+k+9∧PsOk w g w.heap.size i b (ordP b d 0 k f 0 k)∧RdI w g c w.heap.size i b (.slice (some ⟨d,0,none⟩) k k) (.slice (some ⟨f,0,none⟩) k k) (ordP b d 0 k f 0 k) vs (chk s k)∧cs.length=11∧c.rangeAt b 0 cs∧W=c.setCells w.heap.size 0 cs∧e=.returned (.tuple #[.agg cs.toArray,.int .i64 0]))
theorem slB_loQ (d b n c k:Nat) (f:k≤n) (g:n≤c):∃ nx,(0<c-k→nx=b+k)∧∀ w:World,(Instr.sliceAt 23 (.slice (some ⟨d,b,none⟩) n c) (some (.int .i64 k)) none none).run Tryz.prog w=.ok (.slice (some ⟨d,nx,none⟩) (n-k) (c-k)) w:=by
 by_cases e:c=k
 ·obtain rfl:n=k:=oM
  subst e
  refine ⟨b,fun h=>oM,fun w=>?_⟩
  rw[Nat.sub_self]
  go_simp
 ·have i:=oM
  refine ⟨b+k,fun _=>rfl,fun w=>?_⟩
  go_simp
theorem slB_hiP (d b n c k:Nat) (e:k≤c) (w:World):(Instr.sliceAt 23 (.slice (some ⟨d,b,none⟩) n c) none (some (.int .i64 k)) none).run Tryz.prog w=.ok (.slice (some ⟨d,b,none⟩) k c) w:=by
 go_simp
theorem results_cP {P:Program} {c:Func} {tmps:Array Value} {W:World} {k:Nat} {vs:List Value} {v:Value} (t u:Tmp) (T:TypeId) (i:c.results=#[.cell t T,.tmp u]) (h:W.rangeAt k 0 vs) (l:tmps[t]? = some (.pointer (some ⟨k,0,none⟩))) (hv:tmps[u]? = some v)
 (b:(P.underlying T).map (·.isRow)=some true) (j:(P.info? T).map (·.size)=some vs.length):(results c tmps).run P W=.ok (.tuple #[.agg vs.toArray,v]) W:=by
 obtain ⟨d,b,hd⟩:=Option.map_eq_some_iff.1 b
 have g:=run_loadVar_mid (P:=P) W k 0 T vs d h b hd j
 have e:tmps.getD t undef=.pointer (some ⟨k,0,none⟩):=by rw[Array.getD_eq_getD_getElem?,l];rfl
 have f:tmps.getD u undef=v:=by rw[Array.getD_eq_getD_getElem?,hv];rfl
 unfold results
 rw[i]
 simp only[Array.mapM_eq_mapM_toList,List.mapM_cons,List.mapM_nil,e,f,asAddr]
 simp[Sem.run_bind,g]
theorem put11 {w W:World} {cs:List Value} (f:W.heap[w.heap.size]? = some (.cells zR.toArray 66 (0,0))) (i:cs.length=11) (c:Below w.heap.size w W):W.there w.heap.size 0 cs.toArray.size∧(W.setCells w.heap.size 0 cs).rangeAt w.heap.size 0 cs∧Below w.heap.size w (W.setCells w.heap.size 0 cs):=by
 have e:W.there w.heap.size 0 cs.length:=fun j l=>by
  unfold World.cell? World.frozen?
  rw[f]
  refine ⟨?_,by simp⟩
  have:(0+j)<zR.toArray.size:=by show 0+j<11;omega
  simp only[Array.getElem?_eq_getElem this]
  rfl
 refine ⟨by simpa using e,World.rangeAt_setCells_same _ _ _ _ e,⟨(World.os_setCells _ _ _ _).trans c.os,?_,(World.output_setCells _ _ _ _).trans c.output,?_,fun k g=>?_⟩⟩
 ·have d:=below_setCells (B:=0) (b:=w.heap.size) (Nat.zero_le _) cs 0 W (Below.refl 0 W)
  rw[d.tape];exact c.tape
 ·have d:=below_setCells (B:=0) (b:=w.heap.size) (Nat.zero_le _) cs 0 W (Below.refl 0 W)
  exact Nat.le_trans c.size d.size
 ·rw[World.heap_setCells_other W _ 0 cs (by have:=c.size;omega) oM]
  exact c.block k g
end
section
open Go.RowKit Go.Sort Go.Deep SPA
section
variable {P:Program} {ops:Array Oper} {rest:List Oper} {o:Oper} {a:Act} {w:World} {Q:Exit→Act→World→Prop}
theorem PW.gd (h:wpList P ops Q ({ o with guard:=none } :: rest) a w) (k:Region.wanted o (yielded ops a.tmps)=true:=by kernel_rfl):wpList P ops Q (o :: rest) a w:=by
 unfold wpList at h ⊢
 rw[if_pos k]
 rw[if_pos (show Region.wanted { o with guard:=none } (yielded ops a.tmps)=true from rfl)] at h
 exact h
end
variable {P:Nat} [NeZero P] {N:Nat} [NeZero N]
theorem ver_c (C:Fld P) {n t:Nat} (hw:Wd n t) (V:Bs) (q:Fin P × Fin P) (H:rd P V=some q) (v:Value) (y r u g m o s f p k b:Value) (w:World) (T:Arg33 w v V) (hV:∀ W,Below w.heap.size w W→Calls Tryz.prog 107 #[pvl V,.int .i64 n,.agg #[y,r,u,g,m,o,s,f,p,k,b]] W (Ret fun e w'=>Below W.heap.size W w'∧e=.bool true)) :
 Calls Tryz.prog 61 #[v,.int .i64 n,.agg #[y,r,u,g,m,o,s,f,p,k,b]] w (Ret fun e w'=>Below w.heap.size w w'∧e=.bool true):=by
 have I:=rd_33 H
 obtain ⟨E,d⟩:=hE (pvl V)
 obtain ⟨K,c⟩:=hE (Value.agg #[y,r,u,g,m,o,s,f,p,k,b])
 obtain ⟨Q,z⟩:=hE (w.heap.size)
 obtain ⟨F,j⟩:=hE (w.alloc (.cells [y,r,u,g,m,o,s,f,p,k,b].toArray 66))
 have L:=mk1 ((Mp.start w).new z j)
 have B1:Hid ((Instr.box 66 K).run Tryz.prog w=.ok (.pointer (some ⟨Q,0,none⟩)) F):=by rw[← c.out,← j.out,← z.out];exact boxA _ _ _ _ _ _ _ _ _ _ _ w
 have S:Hid (∀ W,Below w.heap.size w W→Calls Tryz.prog 57 #[v] W (Ret fun e w'=>Below W.heap.size W w'∧e=.tuple #[E,.bool true])):=fun W Y=>by
  rw[← d.out]
  exact cRead_y C v V q W (T.below Y) H
 have Z:Hid (∀ W,Below w.heap.size w W→Calls Tryz.prog 107 #[E,.int .i64 n,K] W (Ret fun e w'=>Below W.heap.size W w'∧e=.bool true)):=by
  rw[← d.out,← c.out]
  exact hV
 have N:(Tryz.prog.info? 51).map (·.size)=some (bl33 V).length:=by rw[bl33_length I];exact iCP
 rw[c.out]
 go_enter Tryz.func61,Tryz.ntmps61
 refine wp_seq ?_
 refine PW.begin ?_
 refine PW.ns B1.out ?_
 refine PW.va (.bool false) ?_
 refine PW.dn ?_
 refine wp_seq ?_
 refine PW.begin ?_
 refine PW.mv ?_
 refine PW.gi (S.out F L.bl) fun G B=>?_
 have X:=mk1 (L.grow B)
 refine PW.mv ?_
 refine PW.va E ?_
 refine PW.va (.bool true) ?_
 refine hG (G.heap.size) fun R x=>?_
 refine hG (G.alloc (.cells z33.toArray 51)) fun O l=>?_
 refine hG (O.setCells R 0 (bl33 V)) fun w4 i=>?_
 have M:=bl33_length I
 have J:=mk1 (X.new x l)
 have K4:=mk1 (J.put 1 i rfl M)
 refine PW.al x l ?_
 refine PW.st i d (J.th 1 rfl M) N (bl33_one _) ?_
 refine PW.va (.bool true) ?_
 refine PW.dn ?_
 refine wp_seq ?_
 refine PW.begin ?_
 refine PW.mv ?_
 refine PW.mv ?_
 refine PW.gd ?_
 refine PW.mv ?_
 refine PW.gd ?_
 refine PW.gi (isW_c hw w4) fun w5 A=>?_
 have a:=mk1 (K4.grow A)
 refine PW.va (.bool true) ?_
 refine PW.mv ?_
 refine PW.gd ?_
 refine PW.ro (a.at_ 1).2.1 d uCP N ?_
 refine PW.gd ?_
 refine PW.mv ?_
 refine PW.gd ?_
 refine PW.ro (cs:=[y,r,u,g,m,o,s,f,p,k,b]) (a.at_ 0).2.1 c uAr iAr ?_
 refine PW.gd ?_
 refine PW.gi (Z.out w5 a.bl) fun w6 D=>?_
 have U:=mk1 (a.grow D)
 refine PW.va (.bool true) ?_
 refine PW.va (.bool true) ?_
 refine PW.dn ?_
 go_wp2
 go_ret
 exact ⟨_,rfl,U.bl,rfl⟩
theorem prv_c (C:Fld P) (O:Ord N) (k:∀ r:EC.Pt P,EC.On r→EC.mul N r=none) (hP:NT.IsP N) {t:Nat} (R:Rv N) (m:Wd R.n t) (hv:R.v<2^R.n) (hN:18446744073709551616≤N) (sd:List UInt8) (sq:Option Addr) (sc:Nat) (V A S C1 I L3 L6 L8:Bs) (hL:RvL C k R V A S C1 I L3 L6 L8) (hS:RvS R sd) (q:Md.Ps Bs (Fin N) (OnP P)) (X:q.s=wentF L8) (Y:q.a=R.a) (he:q.b=R.b) (hc:q.g=gPt C ⟨#[108,101,102,116]⟩) (h3:q.h=R.hh (ptMd C k) (gPt C ⟨#[114,105,103,104,116]⟩)) (u:OnP P) (hu:u=(ptMd C k).ac R.w (uPt C)) (Lb Rb:Nat→Bs) (Q:∀ j,Lb j=wP ((ptMd C k).pLi (chF N) ivF u t q j)) (h4:∀ j,Rb j=wP ((ptMd C k).pTi (chF N) ivF u t q j)) (M Bb:Bs) (h6:M=bx (((ptMd C k).pst (chF N) ivF u t q t).a 0).val) (h5:Bb=bx (((ptMd C k).pst (chF N) ivF u t q t).b 0).val) (pz:Rp) (h7:Hid (⟨A,S,C1,I,R.tau.val,R.mu.val,R.t.val⟩=pz)) (v1:Value) (w:World) (hk:Arg w v1 (bx R.k.val)) (hp:SP.PartOk w (.slice sq 32 sc) sd) :
 Calls Tryz.prog 20 #[.int .u64 (R.v:Int),v1,.int .i64 (R.n:Int),.slice sq 32 sc] w (Ret fun e w'=>Below w.heap.size w w'∧∃ e' B0,e=.tuple #[e',.int .i64 0]∧w.heap.size≤B0∧RgA B0 t pz Lb Rb M Bb e' w'):=by
 have L:R.n≤64:=by rw[m.1];exact Nat.le_trans (Nat.pow_le_pow_right dC m.2.2) dC
 have hg:R.v<18446744073709551616:=Nat.lt_of_lt_of_le hv (Nat.le_trans (Nat.pow_le_pow_right dC L) dC)
 have o:=fun (W:World) (z:Below w.heap.size w W)=>provR_c C O k hP t m.2.2 R m.1 hg hN sd sq 32 sc V A S C1 I L3 L6 L8 hL hS q X Y he hc h3 u hu Lb Rb Q h4 M Bb h6 h5 pz h7 W (hp.below z)
 have x:=fun (W:World) (z:Below w.heap.size w W)=>sread_c O v1 (bx R.k.val) W (hk.below z)
 rw[rq_bxO O R.k.isLt] at x
 have ha:¬ ((2^R.n-1:Nat):Int)<(R.v:Int):=oM
 have h8:decide (((2^R.n-1:Nat):Int)<(R.v:Int))=false:=decide_eq_false ha
 generalize hi:R.v=vn at *
 generalize h1:(2^R.n-1:Nat)=gn at *
 have HG:=fun (W:World)=>great_c m W
 rw[h1] at HG
 have HW:=fun (W:World)=>isW_c m W
 obtain ⟨vk,b⟩:=hE (nv R.k.val)
 rw[b.out] at o
 have h0:Hid (∀ W,Below w.heap.size w W→Calls Tryz.prog 11 #[v1] W (Ret fun e w'=>Below W.heap.size W w'∧e=.tuple #[vk,.bool true])):=fun W z=>by
  rw[← b.out]
  exact x W z
 have HH:=mk3 o HG HW
 refine hG (w.heap.size) fun k8 n=>?_
 refine hG (w.alloc (.cells z11.toArray 66)) fun w1 v=>?_
 have K1:=mk1 ((Mp.start w).new n v)
 go_enter Tryz.func20,Tryz.ntmps20
 refine wp_seq ?_
 refine PW.begin ?_
 refine PW.al n v ?_
 refine PW.va (.int .i64 0) ?_
 refine PW.dn ?_
 refine wp_seq ?_
 refine wp_seq ?_
 refine PW.begin ?_
 refine PW.mv ?_
 refine PW.gi (HH.2.2 w1) fun w2 K=>?_
 have K2:=mk1 (K1.grow K)
 refine PW.va (.bool false) ?_
 refine PW.mv ?_
 refine PW.gd ?_
 refine PW.mv ?_
 refine PW.gd ?_
 refine PW.va (.int .i64 32) ?_
 refine PW.gd ?_
 refine PW.va (.bool false) ?_
 refine PW.va (.bool false) ?_
 refine PW.dn ?_
 refine wp_cond_false rfl ?_
 refine wp_skip ?_
 refine wp_seq ?_
 refine PW.begin ?_
 refine PW.mv ?_
 refine PW.gi (h0.out w2 K2.bl) fun w3 h9=>?_
 have K3:=mk1 (K2.grow h9)
 refine PW.mv ?_
 refine PW.va vk ?_
 refine PW.va (.bool true) ?_
 refine hG (w3.heap.size) fun Z d=>?_
 refine hG (w3.alloc (.cells (RG.z 4).toArray 44)) fun w4 y=>?_
 refine hG (w4.setCells Z 0 (wn R.k.val)) fun w5 p=>?_
 have K4:=mk1 (K3.new d y)
 have K5:=mk1 (K4.put 1 p)
 refine PW.al d y ?_
 refine PW.st p b (K4.th 1) i40 (wn_one _) ?_
 refine PW.va (.bool true) ?_
 refine PW.dn ?_
 refine wp_seq ?_
 refine wp_seq ?_
 refine PW.begin ?_
 refine PW.mv ?_
 refine PW.va (.bool false) ?_
 refine PW.dn ?_
 refine wp_cond_false rfl ?_
 refine wp_skip ?_
 refine wp_seq ?_
 refine wp_seq ?_
 refine PW.begin ?_
 refine PW.mv ?_
 refine PW.mv ?_
 refine PW.gi (HH.2.1 w5) fun w6 U=>?_
 have s:=mk1 (K5.grow U)
 refine PW.va (.bool (decide ((gn:Int)<(vn:Int)))) ?_
 rw[h8]
 refine PW.dn ?_
 refine wp_cond_false rfl ?_
 refine wp_skip ?_
 refine wp_seq ?_
 refine PW.begin ?_
 refine PW.mv ?_
 refine PW.ro (s.at_ 1).2.1 b u40 i40 ?_
 refine PW.mv ?_
 refine PW.mv ?_
 refine PW.ca (HH.1 w6 s.bl) ?_
 rintro e w7 ⟨h2,B0,G,a⟩
 have l8:=(s.at_ 0).1
 have T:=mk1 (s.grow h2)
 have RA:=mk1 a
 obtain ⟨ra,rb,J,f,H,rf,i,B,D,E,F,rfl,-,tL,tR,eA,eB⟩:=a.ex
 have c:E.oneCell'=true∧F.oneCell'=true∧B.oneCell'=true∧D.oneCell'=true:=⟨eA.one.2,eB.one.2,tL.one.2,tR.one.2⟩
 refine hG (w7.setCells k8 0 [r33 ra,r33 rb,r33 J,r33 f,r32 H,r32 rf,r32 i,B,D,E,F]) fun w8 l=>?_
 have K8:=mk1 (T.put 0 l)
 have RB:=mk1 (RA.set (us:=[r33 ra,r33 rb,r33 J,r33 f,r32 H,r32 rf,r32 i,B,D,E,F]) (T.at_ 0) oM)
 rw[l.out] at RB
 refine PW.st (cs:=[r33 ra,r33 rb,r33 J,r33 f,r32 H,r32 rf,r32 i,B,D,E,F]) l (Hid.mk' rfl) (T.th 0) iAr (by simp only[List.all_toArray,List.all_cons,List.all_nil,c.1,c.2.1,c.2.2.1,c.2.2.2,show ∀ g,(r33 g).oneCell'=true from fun _=>rfl,show ∀ g,(r32 g).oneCell'=true from fun _=>rfl,Bool.and_true]) ?_
 refine PW.va (.int .i64 0) ?_
 refine PW.dn ?_
 have KE:=mk2 K8.bl (And.intro (Nat.le_trans s.bl.size G) RB.out)
 have Kr:=(K8.at_ 0).2.1
 refine wp_ret ?_
 refine bodyPost_ret (results_cP 8 9 66 rfl Kr rfl rfl uAr iAr) rfl ?_
 exact ⟨_,rfl,KE.1,_,_,rfl,KE.2.1,KE.2.2⟩
end
section
open Go.RowKit Go.Sort Go.Deep SPA
variable {N:Nat}
theorem Mp.pop {w W:World} {rs:List (Nat × List Value)} {x:Nat × List Value} (h:Mp w W (rs++[x]) []):Mp w W rs []:=⟨h.bl,fun y k=>h.rw y (List.mem_append_left _ k),(by have:=h.nd;rw[List.map_append] at this;exact (List.nodup_append.1 this).1),fun _ h=>(List.not_mem_nil h).elim⟩
section
variable {P:Program} {o:Oper} {ev:Operand→Value} {w:World} {x:Value}
theorem callv1 {k:Array TypeId} {s t:Tmp} {f:FuncId} (hf:∀ args W,(callFunc f args).run P W=.ok (.enter f args) W) (ho:o.op=.call ⟨.value (.tmp s),#[.tmp t],k⟩) (b:ev (.tmp s)=.func (.func f) #[] #[]) (hx:ev (.tmp t)=x):(execOp ev o).run P w=.ok (.enter f #[x]) w:=by
 unfold execOp
 rw[ho]
 have e:(#[Operand.tmp t].map ev)=#[x]:=by simp[hx]
 simp only[resolve,b,Deferred.ofValue,Sem.run_bind,Sem.run_pure,Result.andThen_ok,invoke,e]
 rw[show (#[]:Array Value)++#[x]=#[x] from rfl]<;>exact hf _ _
end
theorem idxSd (g i:Nat) (c:i<2) (w:World):(Instr.indexAt 57 (.slice (some ⟨g,0,none⟩) 2 2) (.int .i64 i)).run Tryz.prog w=.ok (.pointer (some ⟨g,7*i,none⟩)) w:=by
 have d:¬ (i:Int)<0:=oM
 have b:(i:Int)<2:=oM
 have k:=addP0 g 0 (7*i)
 rw[Nat.zero_add] at k
 go_simp
theorem sd_at {W:World} {g i:Nat} (b:i<2) (h:Row W g (sdC N 0++sdC N 1)):W.rangeAt g (7*i) (sdC N i):=fun j u k=>by
 rcases (show i=0∨i=1 by omega) with rfl|rfl
 ·have:=h.2.1 j u (by rw[List.getElem?_append_left (List.getElem?_eq_some_iff.1 k).1];exact k)
  rw[Nat.mul_zero]
  exact this
 ·have:=h.2.1 (7+j) u (by rw[List.getElem?_append_right (by show 7≤7+j;omega),show 7+j-(sdC N 0).length=j from Nat.add_sub_cancel_left 7 j];exact k)
  rw[Nat.zero_add] at this
  rw[Nat.mul_one]
  exact this
theorem uSd:(Tryz.prog.underlying 61).map (·.isRow)=some true:=kR
theorem iSd:(Tryz.prog.info? 61).map (·.size)=some 7:=kR
theorem uFnA:(Tryz.prog.underlying 59).map (·.isRow)=some false:=kR
def z7:List Value:=[.string ⟨#[]⟩,.string ⟨#[]⟩,.nilFunc]++RG.z 4
theorem cf_sd:∀ i args W,(callFunc (sdA i) args).run Tryz.prog W=.ok (.enter (sdA i) args) W
 | 0,_,_=>kR
 | _+1,_,_=>kR
def amN:Nat→Nat→Nat→Nat
 | 0,a,_=>a
 | _,_,b=>b
theorem am_c (k a b:Nat):∀ i,Gives (sdA i) #[.agg (opC k a b).toArray] (.int .u64 (amN i a b:Int))
 | 0=>am1_c k a b
 | _+1=>am2_c k a b
theorem sd_one (i:Nat):(sdC N i).toArray.all (·.oneCell')=true:=kR
theorem u3r:(Tryz.prog.underlying 3).map (·.isRow)=some false:=kR
theorem wrong_c (O:Ord N) (k a b n:Nat) (A:1≤k) (t:k≤3) (ha:a<4294967296) (hb:b<4294967296) (hn:n≤1048575):Gives 16 #[.int .i64 n,.agg (opC k a b).toArray] (.int .i64 0):=fun w=>by
 refine hG w.heap.size fun u o=>?_
 refine hG (w.alloc (.cells (opC k a b).toArray 26)) fun L j=>?_
 have F:=mk1 ((Mp.start w).new o j)
 have B:=boxOp k a b w
 rw[o.out,j.out] at B
 have I:decide ((n:Int)<0)=false:=decide_eq_false oM
 have R:decide (1048575<(n:Int))=false:=decide_eq_false oM
 have X:=mk1 (isK_c k A t)
 have T:=mk1 (fun W=>sides_c O W)
 have E:=mk1 (am_c k a b)
 have C:Hid (∀ i,decide (4294967295<(amN i a b:Int))=false):=fun i=>decide_eq_false (by
  match i with
  | 0=>show ¬ _<(a:Int);omega
  | _+1=>show ¬ _<(b:Int);omega)
 obtain ⟨vo,l⟩:=hE (Value.agg (opC k a b).toArray)
 rw[l.out] at B E ⊢
 go_enter Tryz.func16,Tryz.ntmps16
 refine wp_seq ?_
 refine PW.begin ?_
 refine PW.ns B ?_
 refine PW.va (.int .i64 0) ?_
 refine PW.dn ?_
 refine wp_seq ?_
 refine wp_seq ?_
 refine PW.begin ?_
 refine PW.va (.pointer (some ⟨u,0,none⟩)) ?_
 refine PW.ce ((F.out.at_ 0).2.1 0 _ rfl) u3r ?_
 refine PW.gi (X.out L) fun Q z=>?_
 refine PW.va (.bool false) ?_
 refine PW.dn ?_
 refine wp_cond_false rfl ?_
 refine wp_skip ?_
 refine wp_seq ?_
 refine wp_seq ?_
 refine PW.begin ?_
 refine PW.mv ?_
 refine PW.va (.bool (decide ((n:Int)<0))) ?_
 rw[I]
 refine PW.mv ?_
 refine PW.gd ?_
 refine PW.mv ?_
 refine PW.gd ?_
 refine PW.va (.bool (decide (1048575<(n:Int)))) ?_
 rw[R]
 refine PW.va (.bool false) ?_
 refine PW.dn ?_
 refine wp_cond_false rfl ?_
 refine wp_skip ?_
 refine wp_seq ?_
 refine wp_seq ?_
 refine PW.begin ?_
 refine PW.ca (T.out Q) ?_
 rintro e w3 ⟨r,g,rfl,M,q⟩
 refine PW.va (.int .i64 2) ?_
 refine PW.va (.int .i64 0) ?_
 refine PW.dn ?_
 have S:=mk1 ((F.out.grow z).add r q M)
 refine wp_block ?_
 go_loopg [19] 2 (fun gk s19 wr=>∃ i:Nat,i+gk=2∧s19=.int .i64 i∧Hid (Mp w wr [(u,opC k a b),(g,sdC N 0++sdC N 1)] []))
 case atStart=>exact ⟨0,oM,rfl,S⟩
 case round =>
  obtain ⟨i,Z,rfl,K⟩:=hrel
  by_cases G:i<2
  ·have c:(i:Int)<2:=oM
   have s:IntKind.i64.wrap ((i:Int)+1)=((i+1:Nat):Int):=by rw[IntKind.wrap_i64];omega
   refine hG wr.heap.size fun y p=>?_
   refine hG (wr.alloc (.cells z7.toArray 61)) fun U f=>?_
   refine hG (U.setCells y 0 (sdC N i)) fun Y d=>?_
   have H:=mk1 (K.out.new p f)
   have v:=mk1 (H.out.put 2 d)
   have V:=sd_at G (K.out.at_ 1)
   obtain ⟨vs,m⟩:=hE (Value.agg (sdC N i).toArray)
   refine wp_seq ?_
   refine PW.begin ?_
   refine PW.va (.bool (decide ((i:Int)<2))) ?_
   rw[decide_eq_true c]
   refine PW.dn ?_
   refine wp_seq ?_
   refine wp_cond_true rfl ?_
   refine wp_skip ?_
   refine wp_seq ?_
   refine wp_block ?_
   refine wp_seq ?_
   refine PW.begin ?_
   refine PW.ns (idxSd g i G wr) ?_
   refine PW.ro V m uSd iSd ?_
   refine PW.al p f ?_
   refine PW.st d m (H.out.th 2) iSd (sd_one i) ?_
   refine PW.dn ?_
   refine wp_seq ?_
   refine PW.begin ?_
   refine PW.va (.pointer (some ⟨y,2,none⟩)) ?_
   refine PW.ce ((v.out.at_ 2).2.1 2 _ rfl) uFnA ?_
   refine PW.ro (v.out.at_ 0).2.1 l uOp iOp ?_
   refine PW.ca (E.out i Y) ?_ rfl rfl (callv1 (cf_sd i) rfl rfl rfl)
   rintro e w6 ⟨D,rfl⟩
   have J:=mk1 (Mp.pop (rs:=[(u,opC k a b),(g,sdC N 0++sdC N 1)]) (x:=(y,sdC N i)) (v.out.grow D))
   refine PW.va (.bool (decide (4294967295<(amN i a b:Int)))) ?_
   rw[C.out i]
   refine PW.dn ?_
   refine wp_cond_false rfl ?_
   refine wp_skip ?_
   refine PW.begin ?_
   refine PW.va (.int .i64 (IntKind.i64.wrap ((i:Int)+1))) ?_
   rw[s]
   go_wp2
   go_roundg (gk-1)
   case measure=>omega
   case rel=>exact ⟨i+1,oM,rfl,J⟩
  ·have c:¬ (i:Int)<2:=oM
   refine wp_seq ?_
   refine PW.begin ?_
   refine PW.va (.bool (decide ((i:Int)<2))) ?_
   rw[decide_eq_false c]
   refine PW.dn ?_
   refine wp_seq ?_
   refine wp_cond_false rfl ?_
   refine wp_exit ?_
   refine wp_seq (P:=Tryz.prog) ?_
   refine PW.begin ?_
   refine PW.va (.int .i64 0) ?_
   refine PW.dn ?_
   go_wp2
   go_ret
   exact ⟨_,rfl,K.out.bl,rfl⟩
end
section
open Go.RowKit Go.Sort Go.Deep SPA
variable {P:Nat} [NeZero P] {N:Nat}
def OpL (W:World) (q:Option Addr) (n:Nat) (K A B:Nat→Nat):Prop:=0<n→∃ g,q=some ⟨g,0,none⟩∧g<W.heap.size∧∀ i,i<n→W.rangeAt g (3*i) (opC (K i) (A i) (B i))
theorem OpL.below {W W':World} {q:Option Addr} {n:Nat} {K A B:Nat→Nat} (h:OpL W q n K A B) (k:Below W.heap.size W W'):OpL W' q n K A B:=fun c=>by
 obtain ⟨g,f,b,e⟩:=h c
 exact ⟨g,f,Nat.lt_of_lt_of_le b k.size,fun i d=>range_below (e i d) k b⟩
def sumN (f:Nat→Nat):Nat→Nat
 | 0=>0
 | n+1=>sumN f n+f n
theorem sumN_lt {f:Nat→Nat} (h:∀ i,f i<4294967296):∀ n,sumN f n≤n*4294967296
 | 0=>Nat.le_refl _
 | n+1=>by
  have:=sumN_lt h n
  have:=h n
  unfold sumN
  omega
theorem idxOp (g n c i:Nat) (b:i<n) (w:World):(Instr.indexAt 22 (.slice (some ⟨g,0,none⟩) n c) (.int .i64 i)).run Tryz.prog w=.ok (.pointer (some ⟨g,3*i,none⟩)) w:=by
 have k:=addP0 g 0 (3*i)
 rw[Nat.zero_add] at k
 go_simp
def z3:List Value:=[.int .i64 0,.int .u64 0,.int .u64 0]
theorem opC_one (k a b:Nat):(opC k a b).toArray.all (·.oneCell')=true:=kR
theorem bal_c (O:Ord N) (n c:Nat) (q:Option Addr) (K A B:Nat→Nat) (hn:n≤64) (y:∀ i,1≤K i∧K i≤3) (p:∀ i,A i<4294967296) (u:∀ i,B i<4294967296) (S:sumN A n≤sumN B n) (w:World) (X:OpL w q n K A B) :
 Calls Tryz.prog 6 #[.slice q n c] w (Ret fun e w'=>Below w.heap.size w w'∧e=.tuple #[.int .u64 ((sumN B n-sumN A n:Nat):Int),.int .i64 0]):=by
 have E:=mk1 (fun i (j:Nat) (T:j≤1048575)=>wrong_c O (K i) (A i) (B i) j (y i).1 (y i).2 (p i) (u i) T)
 have L:=sumN_lt p
 have z:=sumN_lt u
 have HL:=mk1 X
 have m:=mk3 p u S
 go_enter Tryz.func6,Tryz.ntmps6
 refine wp_seq ?_
 refine PW.begin ?_
 refine PW.va (.int .u64 0) ?_
 refine PW.va (.int .i64 0) ?_
 refine PW.dn ?_
 refine wp_seq ?_
 refine PW.begin ?_
 refine PW.va (.int .u64 0) ?_
 refine PW.va (.int .u64 0) ?_
 refine PW.dn ?_
 refine wp_seq ?_
 refine wp_seq ?_
 refine PW.begin ?_
 refine PW.mv ?_
 refine PW.va (.int .i64 n) ?_
 refine PW.va (.int .i64 0) ?_
 refine PW.dn ?_
 refine wp_block ?_
 have F:=mk1 (Mp.start w)
 go_loopg [4,5,11] n (fun gk s4 s5 s11 wr=>∃ i:Nat,i+gk=n∧s4=.int .u64 (sumN A i:Int)∧s5=.int .u64 (sumN B i:Int)∧s11=.int .i64 i∧Hid (Mp w wr [] []))
 case atStart=>exact ⟨0,oM,rfl,rfl,rfl,F⟩
 case round =>
  obtain ⟨i,V,rfl,rfl,rfl,t⟩:=hrel
  by_cases D:i<n
  ·have b:(i:Int)<(n:Int):=oM
   have r:IntKind.i64.wrap ((i:Int)+1)=((i+1:Nat):Int):=by rw[IntKind.wrap_i64];omega
   have l1:=L i
   have l2:=z i
   have l3:=m.out.1 i
   have Y:=m.out.2.1 i
   have M:IntKind.u64.wrap ((sumN A i:Int)+(A i:Int))=((sumN A (i+1):Nat):Int):=by rw[IntKind.wrap_u64,show sumN A (i+1)=sumN A i+A i from rfl];omega
   have I:IntKind.u64.wrap ((sumN B i:Int)+(B i:Int))=((sumN B (i+1):Nat):Int):=by rw[IntKind.wrap_u64,show sumN B (i+1)=sumN B i+B i from rfl];omega
   obtain ⟨g,rfl,Z,x⟩:=(HL.out.below t.out.bl) oM
   refine hG wr.heap.size fun G l=>?_
   refine hG (wr.alloc (.cells z3.toArray 26)) fun J f=>?_
   refine hG (J.setCells G 0 (opC (K i) (A i) (B i))) fun U d=>?_
   have C:=mk1 (t.out.new l f)
   have a:=mk1 (C.out.put 0 d)
   have R:=x i D
   obtain ⟨H,k⟩:=hE (Value.agg (opC (K i) (A i) (B i)).toArray)
   have o:Hid (∀ W,Calls Tryz.prog 16 #[.int .i64 i,H] W (Ret fun e w'=>Below W.heap.size W w'∧e=.int .i64 0)):=by rw[← k.out];exact E.out i i oM
   refine wp_seq ?_
   refine PW.begin ?_
   refine PW.va (.bool (decide ((i:Int)<(n:Int)))) ?_
   rw[decide_eq_true b]
   refine PW.dn ?_
   refine wp_seq ?_
   refine wp_cond_true rfl ?_
   refine wp_skip ?_
   refine wp_seq ?_
   refine wp_block ?_
   refine wp_seq ?_
   refine PW.begin ?_
   refine PW.mv ?_
   refine PW.ns (idxOp g n c i D wr) ?_
   refine PW.ro R k uOp iOp ?_
   refine PW.al l f ?_
   refine PW.va (.int .i64 i) ?_
   refine PW.st d k (C.out.th 0) iOp (opC_one _ _ _) ?_
   refine PW.dn ?_
   refine wp_seq ?_
   refine wp_seq ?_
   refine PW.begin ?_
   refine PW.mv ?_
   refine PW.ro (a.out.at_ 0).2.1 k uOp iOp ?_
   refine PW.gi (o.out U) fun w6 v=>?_
   refine PW.va (.int .i64 0) ?_
   refine PW.dn ?_
   have s:=mk1 (a.out.grow v)
   have c1:=(s.out.at_ 0).2.1 1 (.int .u64 (A i:Int)) rfl
   have c2:=(s.out.at_ 0).2.1 2 (.int .u64 (B i:Int)) rfl
   have Q:=mk1 (Mp.pop (rs:=[]) s.out)
   refine wp_seq ?_
   refine PW.begin ?_
   refine PW.mv ?_
   refine PW.va (.bool false) ?_
   refine PW.dn ?_
   refine wp_cond_false rfl ?_
   refine wp_skip ?_
   go_quiet (fail)
   refine PW.begin (P:=Tryz.prog) ?_
   refine PW.va (.int .i64 (IntKind.i64.wrap ((i:Int)+1))) ?_
   rw[r]
   go_wp2
   go_roundg (gk-1)
   case measure=>omega
   case rel=>exact ⟨i+1,oM,by rw[← M],by rw[← I],rfl,Q.out.grow ⟨rfl,rfl,rfl,Nat.le_refl _,fun _ _=>rfl⟩⟩
  ·have b:¬ (i:Int)<(n:Int):=oM
   obtain rfl:i=n:=oM
   have hd:decide ((sumN B i:Int)<(sumN A i:Int))=false:=decide_eq_false (by have:=m.out.2.2;omega)
   have k:IntKind.u64.wrap ((sumN B i:Int)-(sumN A i:Int))=((sumN B i-sumN A i:Nat):Int):=by
    have:=z i
    have:=m.out.2.2
    rw[IntKind.wrap_u64]
    omega
   refine wp_seq ?_
   refine PW.begin ?_
   refine PW.va (.bool (decide ((i:Int)<(i:Int)))) ?_
   rw[decide_eq_false b]
   refine PW.dn ?_
   refine wp_seq ?_
   refine wp_cond_false rfl ?_
   refine wp_exit ?_
   refine wp_seq (P:=Tryz.prog) ?_
   refine wp_seq ?_
   refine PW.begin ?_
   refine PW.mv ?_
   refine PW.mv ?_
   refine PW.va (.bool (decide ((sumN B i:Int)<(sumN A i:Int)))) ?_
   rw[hd]
   refine PW.dn ?_
   refine wp_cond_false rfl ?_
   refine wp_skip ?_
   refine wp_seq ?_
   refine PW.begin ?_
   refine PW.mv ?_
   refine PW.mv ?_
   refine PW.va (.int .u64 (IntKind.u64.wrap ((sumN B i:Int)-(sumN A i:Int)))) ?_
   rw[k]
   refine PW.va (.int .u64 ((sumN B i-sumN A i:Nat):Int)) ?_
   refine PW.va (.int .i64 0) ?_
   refine PW.dn ?_
   refine wp_ret ?_
   refine bodyPost_ret (RG.results_tt 2 3 rfl _ _ rfl rfl) rfl ?_
   exact ⟨_,rfl,t.out.bl,rfl⟩
def opA (N:Nat) (f:Nat→Nat→Nat):Nat→Nat
 | 0=>0
 | i+1=>sPl N (sPl N (opA N f i) (f i 0)) (f i 1)
def opI (N:Nat) (f:Nat→Nat→Nat) (i:Nat):Nat→Nat
 | 0=>opA N f i
 | s+1=>sPl N (opI N f i s) (f i s)
def blW (N:Nat) (k:Bs) (i s:Nat):Nat:=sTi N (blN N k s i) (sdW N s)
theorem sPl_lt (O:Ord N) (a b:Nat):sPl N a b<N:=Nat.mod_lt _ O.pos
theorem sTi_lt (O:Ord N) (a b:Nat):sTi N a b<N:=Nat.mod_lt _ O.pos
theorem opA_lt (O:Ord N) (f:Nat→Nat→Nat):∀ i,opA N f i<N
 | 0=>O.pos
 | _+1=>sPl_lt O _ _
theorem opI_lt (O:Ord N) (f:Nat→Nat→Nat) (i:Nat):∀ s,opI N f i s<N
 | 0=>opA_lt O f i
 | _+1=>sPl_lt O _ _
theorem sdW_lt (O:Ord N):∀ s,sdW N s<N
 | 0=>Nat.mod_lt _ O.pos
 | _+1=>by have:=O.n2;show 1<N;omega
theorem wn_z:wn 0=RG.z 4:=kR
theorem opening_c (O:Ord N) (n:Nat) (hn:n≤64) (k:Bs) (S:k.size=32) (T:Option Addr) (sc:Nat) (w:World) (G:SP.PartOk w (.slice T 32 sc) k.toList) :
 Calls Tryz.prog 9 #[.slice T 32 sc,.int .i64 n] w (Ret fun e w'=>Below w.heap.size w w'∧e=nv (opA N (blW N k) n)):=by
 refine hG w.heap.size fun j r=>?_
 refine hG (w.alloc (.cells (RG.z 4).toArray 44)) fun Z z=>?_
 have K1:=mk1 ((Mp.start w).new r z)
 refine hG Z.heap.size fun o u=>?_
 refine hG (Z.alloc (.cells (RG.z 4).toArray 44)) fun w2 B=>?_
 have K2:Hid (Mp w w2 [(j,RG.z 4),(o,wn (opA N (blW N k) 0))] []):=by
  rw[show wn (opA N (blW N k) 0)=RG.z 4 from wn_z]
  exact K1.out.new u B
 have HB:=mk1 (fun i (hi:i<64) s (W:World) (b:Below w.heap.size w W)=>bld_c O s i oM k S T sc W (G.below b))
 have HS:=mk1 (fun W=>sides_c O W)
 go_enter Tryz.func9,Tryz.ntmps9
 refine wp_seq ?_
 refine PW.begin ?_
 refine PW.al r z ?_
 refine PW.dn ?_
 refine wp_seq ?_
 refine PW.begin ?_
 refine PW.al u B ?_
 refine PW.dn ?_
 refine wp_seq ?_
 refine wp_seq ?_
 refine PW.begin ?_
 refine PW.mv ?_
 refine PW.va (.int .i64 0) ?_
 refine PW.dn ?_
 refine wp_block ?_
 go_loopg [10] n (fun gk s10 wr=>∃ i:Nat,i+gk=n∧s10=.int .i64 i∧Hid (Mp w wr [(j,RG.z 4),(o,wn (opA N (blW N k) i))] []))
 case atStart=>exact ⟨0,oM,rfl,K2⟩
 case round =>
  obtain ⟨i,h2,rfl,K⟩:=hrel
  by_cases hi:i<n
  ·have l:(i:Int)<(n:Int):=oM
   have M:IntKind.i64.wrap ((i:Int)+1)=((i+1:Nat):Int):=by rw[IntKind.wrap_i64];omega
   have R:IntKind.u32.wrap (i:Int)=(i:Int):=by rw[IntKind.wrap_u32];omega
   refine wp_seq ?_
   refine PW.begin ?_
   refine PW.va (.bool (decide ((i:Int)<(n:Int)))) ?_
   rw[decide_eq_true l]
   refine PW.dn ?_
   refine wp_seq ?_
   refine wp_cond_true rfl ?_
   refine wp_skip ?_
   refine wp_seq ?_
   refine wp_block ?_
   refine wp_seq ?_
   refine PW.begin ?_
   refine PW.mv ?_
   refine PW.va (.int .i64 i) ?_
   refine PW.dn ?_
   refine wp_seq ?_
   refine PW.begin ?_
   refine PW.ca (HS.out wr) ?_
   rintro e w3 ⟨U,g,rfl,hg,F⟩
   refine PW.va (.int .i64 2) ?_
   refine PW.va (.int .i64 0) ?_
   refine PW.dn ?_
   obtain ⟨L,h0⟩:∃ x,x=gk:=⟨_,rfl⟩
   have K3:=mk1 (K.out.add U F hg)
   refine wp_block ?_
   go_loopg [15] 2 (fun gk s15 wr=>∃ s:Nat,s+gk=2∧s15=.int .i64 s∧Hid (Mp w wr [(j,RG.z 4),(o,wn (opI N (blW N k) i s)),(g,sdC N 0++sdC N 1)] []))
   case atStart=>exact ⟨0,oM,rfl,K3⟩
   case round =>
    obtain ⟨s,h1,rfl,K⟩:=hrel
    by_cases G:s<2
    ·have C:(s:Int)<2:=oM
     have Q:IntKind.i64.wrap ((s:Int)+1)=((s+1:Nat):Int):=by rw[IntKind.wrap_i64];omega
     refine hG wr.heap.size fun I p=>?_
     refine hG (wr.alloc (.cells z7.toArray 61)) fun H c=>?_
     refine hG (H.setCells I 0 (sdC N s)) fun w5 y=>?_
     have E:=mk1 (K.out.new p c)
     have m:=mk1 (E.out.put 3 y)
     have R0:=sd_at G (K.out.at_ 2)
     have Y:=sTim_c O (blN N k s i) (sdW N s) (blN_lt O k s i) (sdW_lt O s)
     have X:=sPlu_c O (opI N (blW N k) i s) (blW N k i s) (opI_lt O _ i s) (sTi_lt O _ _)
     have D:=fun W b=>HB.out i oM s W b
     obtain ⟨vs,f⟩:=hE (Value.agg (sdC N s).toArray)
     obtain ⟨va,d⟩:=hE (nv (opI N (blW N k) i s))
     obtain ⟨vb,t⟩:=hE (nv (blN N k s i))
     obtain ⟨vw,v⟩:=hE (nv (sdW N s))
     obtain ⟨vt,A⟩:=hE (nv (blW N k i s))
     obtain ⟨vr,a⟩:=hE (nv (opI N (blW N k) i (s+1)))
     rw[show sTi N (blN N k s i) (sdW N s)=blW N k i s from rfl,t.out,v.out,A.out] at Y
     rw[show sPl N (opI N (blW N k) i s) (blW N k i s)=opI N (blW N k) i (s+1) from rfl,d.out,A.out,a.out] at X
     rw[f.out,t.out] at D
     refine wp_seq ?_
     refine PW.begin ?_
     refine PW.va (.bool (decide ((s:Int)<2))) ?_
     rw[decide_eq_true C]
     refine PW.dn ?_
     refine wp_seq ?_
     refine wp_cond_true rfl ?_
     refine wp_skip ?_
     refine wp_seq ?_
     refine wp_block ?_
     refine wp_seq ?_
     refine PW.begin ?_
     refine PW.ns (idxSd g s G wr) ?_
     refine PW.ro R0 f uSd iSd ?_
     refine PW.al p c ?_
     refine PW.st y f (E.out.th 3) iSd (sd_one s) ?_
     refine PW.dn ?_
     refine AW.begin 10 10 ?_
     refine AW.ro 0 (fun W b=>((m.out.at_ 1).below b).2.1) d u40 i40 ?_
     refine AW.ro 1 (fun W b=>((m.out.at_ 3).below b).2.1) f uSd iSd ?_
     refine AW.mv 2 ?_
     refine AW.mv 3 ?_
     refine AW.va 4 (.int .u32 (IntKind.u32.wrap (i:Int))) ?_
     rw[R]
     refine AW.va 6 (.pointer (some ⟨I,3,none⟩)) ?_
     refine AW.ro 7 (fun W b=>rnB (xs:=[.string (sdL s),.string (sdP s),.func (.func (sdA s)) #[] #[]]) ((m.out.at_ 3).below b).2.1 rfl) v u40 i40 ?_
     refine AW.gi 5 (fun b=>D _ (m.out.bl.trans (b.mono m.out.bl.size))) fun W1 _=>?_
     refine AW.gi 8 (fun _=>Y _) fun W2 _=>?_
     refine AW.gi 9 (fun _=>X _) fun W3 _=>?_
     refine AW.fi (us:=wn (opI N (blW N k) i (s+1))) a (wn_one _) i40 (fun b=>?_)
     have V:=m.out.grow b
     obtain ⟨W4,q⟩:=hE (W3.setCells o 0 (wn (opI N (blW N k) i (s+1))))
     have J:=mk1 (Mp.pop (rs:=[(j,RG.z 4),(o,wn (opI N (blW N k) i (s+1))),(g,sdC N 0++sdC N 1)]) (x:=(I,sdC N s)) (V.put 1 q))
     rw[q.out]
     refine ⟨V.th 1,?_⟩
     refine PW.begin (P:=Tryz.prog) ?_
     refine PW.va (.int .i64 (IntKind.i64.wrap ((s:Int)+1))) ?_
     rw[Q]
     go_wp2
     go_roundg (gk-1)
     case measure=>omega
     case rel=>exact ⟨s+1,oM,rfl,J⟩
    ·have C:¬ (s:Int)<2:=oM
     obtain rfl:s=2:=oM
     have J:Hid (Mp w wr [(j,RG.z 4),(o,wn (opA N (blW N k) (i+1)))] []):=Mp.pop (x:=(g,sdC N 0++sdC N 1)) K.out
     refine wp_seq ?_
     refine PW.begin ?_
     refine PW.va (.bool false) ?_
     refine PW.dn ?_
     refine wp_seq ?_
     refine wp_cond_false rfl ?_
     refine wp_exit ?_
     refine PW.begin (P:=Tryz.prog) ?_
     refine PW.va (.int .i64 (IntKind.i64.wrap ((i:Int)+1))) ?_
     rw[M]
     go_wp2
     go_roundg (L-1)
     case measure=>omega
     case rel=>exact ⟨i+1,oM,rfl,J⟩
  ·have l:¬ (i:Int)<(n:Int):=oM
   obtain rfl:i=n:=oM
   refine hG (wr.setCells j 0 (wn (opA N (blW N k) i))) fun H c=>?_
   have E:=mk1 (K.out.put 0 c)
   obtain ⟨va,d⟩:=hE (nv (opA N (blW N k) i))
   refine wp_seq ?_
   refine PW.begin ?_
   refine PW.va (.bool (decide ((i:Int)<(i:Int)))) ?_
   rw[decide_eq_false l]
   refine PW.dn ?_
   refine wp_seq ?_
   refine wp_cond_false rfl ?_
   refine wp_exit ?_
   refine wp_seq (P:=Tryz.prog) ?_
   refine PW.begin ?_
   refine PW.ro (K.out.at_ 1).2.1 d u40 i40 ?_
   refine PW.st c d (K.out.th 0) i40 (wn_one _) ?_
   refine PW.dn ?_
   refine wp_ret ?_
   refine bodyPost_ret (results_cell 4 44 rfl (show Row H j (wn (opA N (blW N k) i)) from E.out.at_ 0) rfl u40 i40) rfl ?_
   exact ⟨_,rfl,E.out.bl,rfl⟩
end
section
open Go.RowKit Go.Sort Go.Deep SPA
variable {P:Nat} [NeZero P] {N:Nat} [NeZero N]
theorem vRv_c (C:Fld P) (O:Ord N) (k:∀ r:EC.Pt P,EC.On r→EC.mul N r=none) (g:NT.IsP N) (Q:18446744073709551616≤N) {t:Nat} (R:Rv N) (I:Wd R.n t) (hv:R.v<2^R.n) (V A S v n K D B:Bs) (b:RvL C k R V A S v n K D B) (q:Md.Ps Bs (Fin N) (OnP P)) (y:q.s=wentF B) (i:q.a=R.a) (x:q.b=R.b) (c:q.g=gPt C ⟨#[108,101,102,116]⟩) (d:q.h=R.hh (ptMd C k) (gPt C ⟨#[114,105,103,104,116]⟩)) (u:OnP P) (J:u=(ptMd C k).ac R.w (uPt C)) (m Rb:Nat→Bs) (p:∀ j,m j=wP ((ptMd C k).pLi (chF N) ivF u t q j)) (z:∀ j,Rb j=wP ((ptMd C k).pTi (chF N) ivF u t q j)) (E F:Bs) (o:E=bx (((ptMd C k).pst (chF N) ivF u t q t).a 0).val) (l:F=bx (((ptMd C k).pst (chF N) ivF u t q t).b 0).val) (G:Rp) (s:Hid (⟨A,S,v,n,R.tau.val,R.mu.val,R.t.val⟩=G)) (e:Value) (w:World) (f:RgV t G m Rb E F e w) :
 Calls Tryz.prog 107 #[pvl V,.int .i64 (R.n:Int),e] w (Ret fun e w'=>Below w.heap.size w w'∧e=.bool true):=by
 obtain rfl:=s.out
 have H:R.y.val≠0:=by rw[b.y];exact askF_ne g.1 _
 have ok:(⟨A,S,v,n,R.tau.val,R.mu.val,R.t.val⟩:Rp).Ok:=⟨by rw[b.eA];exact wr_size _,by rw[b.eS];exact wr_size _,by rw[b.e1];exact wr_size _,by rw[b.e2];exact wr_size _⟩
 have T:=R.sums (ptMd C k) (gPG C) (hPV C) g H hv
 have L:=R.point (ptMd C k) (gPG C) (uPt C) (gPt C ⟨#[108,101,102,116]⟩) (gPt C ⟨#[114,105,103,104,116]⟩) g H
 have hf:=foundF C k g u t q
 rw[o,l] at f
 generalize ((ptMd C k).pst (chF N) ivF u t q t).a 0=M at *
 generalize ((ptMd C k).pst (chF N) ivF u t q t).b 0=U at *
 refine verR_c C O k g Q I _ ok V _ _ _ _ _ b.eV b.eA b.eS b.e1 b.e2 R.tau R.mu R.t R.x R.y R.z R.w rfl rfl rfl K D B b.l3 b.y b.z b.l6 b.x b.l8 b.w m Rb _ _ p z M U u J ⟨q.s,(ptMd C k).hdP u (2^t) q,q.g,q.h⟩ y c d ?_ _ rfl ?_ hf e w f
 ·show (ptMd C k).hd q.a q.b q.g q.h u (2^t)=(ptMd C k).ad ((ptMd C k).ad ((ptMd C k).ad ((ptMd C k).ad _ _) _) ((ptMd C k).ad ((ptMd C k).dt (fun _=>-R.z) q.g R.n) ((ptMd C k).dt (rgS R.y R.z) q.h R.n))) _
  rw[← I.1,i,x,c,d,J]
  exact L.symm
 ·exact congrArg wP T
end
section
open Go.RowKit Go.Sort Go.Deep SPA
variable {P:Nat} [NeZero P] {N:Nat} [NeZero N]
theorem rv_ex (C:Fld P) (O:Ord N) (b:∀ r:EC.Pt P,EC.On r→EC.mul N r=none) (v n:Nat) (k:Fin N) (d:List UInt8):∃ (R:Rv N) (V A S m j e f o:Bs),R.v=v∧R.n=n∧R.k=k∧RvL C b R V A S m j e f o∧RvS R d:=by
 have lt:∀ l B,chL N l B<N:=fun l B=>redu_lt O _
 obtain ⟨s,U⟩:∃ s:Nat→Fin N,∀ i,(s i).val=chL N [115,108] [d,(num4 i).toList]:=⟨fun i=>⟨_,lt _ _⟩,fun _=>rfl⟩
 obtain ⟨q,J⟩:∃ s:Nat→Fin N,∀ i,(s i).val=chL N [115,114] [d,(num4 i).toList]:=⟨fun i=>⟨_,lt _ _⟩,fun _=>rfl⟩
 obtain ⟨al,u⟩:∃ x:Fin N,x.val=chL N [97,108,112,104,97] [d]:=⟨⟨_,lt _ _⟩,rfl⟩
 obtain ⟨c,g⟩:∃ x:Fin N,x.val=chL N [114,104,111] [d]:=⟨⟨_,lt _ _⟩,rfl⟩
 obtain ⟨t1,t⟩:∃ x:Fin N,x.val=chL N [116,97,117,49] [d]:=⟨⟨_,lt _ _⟩,rfl⟩
 obtain ⟨t2,p⟩:∃ x:Fin N,x.val=chL N [116,97,117,50] [d]:=⟨⟨_,lt _ _⟩,rfl⟩
 obtain ⟨V,W⟩:∃ V,V=wP ((⟨v,n,s,q,al,c,t1,t2,k,0,0,0,0⟩:Rv N).pV (ptMd C b) (gPG C) (hPV C)):=⟨_,rfl⟩
 obtain ⟨A,G⟩:∃ A,A=wP ((⟨v,n,s,q,al,c,t1,t2,k,0,0,0,0⟩:Rv N).pA (ptMd C b) (gPG C) (gPt C ⟨#[108,101,102,116]⟩) (gPt C ⟨#[114,105,103,104,116]⟩)):=⟨_,rfl⟩
 obtain ⟨S,H⟩:∃ A,A=wP ((⟨v,n,s,q,al,c,t1,t2,k,0,0,0,0⟩:Rv N).pS (ptMd C b) (gPG C) (gPt C ⟨#[108,101,102,116]⟩) (gPt C ⟨#[114,105,103,104,116]⟩)):=⟨_,rfl⟩
 obtain ⟨e,I⟩:∃ L,L=bgL V n A S:=⟨_,rfl⟩
 obtain ⟨y,Q⟩:∃ y,y=askF N e:=⟨_,rfl⟩
 obtain ⟨z,M⟩:∃ z,z=askF N (wentF e):=⟨_,rfl⟩
 obtain ⟨m,K⟩:∃ A,A=wP ((⟨v,n,s,q,al,c,t1,t2,k,y,z,0,0⟩:Rv N).p1 (ptMd C b) (gPG C) (hPV C)):=⟨_,rfl⟩
 obtain ⟨j,D⟩:∃ A,A=wP ((⟨v,n,s,q,al,c,t1,t2,k,y,z,0,0⟩:Rv N).p2 (ptMd C b) (gPG C) (hPV C)):=⟨_,rfl⟩
 obtain ⟨f,F⟩:∃ L,L=mdL (wentF (wentF e)) m j:=⟨_,rfl⟩
 obtain ⟨x,hx⟩:∃ x,x=askF N f:=⟨_,rfl⟩
 obtain ⟨o,E⟩:∃ L,L=enL (wentF f) (⟨v,n,s,q,al,c,t1,t2,k,y,z,x,0⟩:Rv N).tau.val (⟨v,n,s,q,al,c,t1,t2,k,y,z,x,0⟩:Rv N).mu.val (⟨v,n,s,q,al,c,t1,t2,k,y,z,x,0⟩:Rv N).t.val:=⟨_,rfl⟩
 obtain ⟨w,T⟩:∃ w,w=askF N o:=⟨_,rfl⟩
 exact ⟨⟨v,n,s,q,al,c,t1,t2,k,y,z,x,w⟩,V,A,S,m,j,e,f,o,rfl,rfl,rfl,⟨W,G,H,K,D,I,Q,M,F,hx,E,T⟩,⟨U,J,u,g,t,p⟩⟩
end
section
open Go.RowKit Go.Sort Go.Deep SPA
variable {P:Nat} [NeZero P] {N:Nat} [NeZero N]
theorem RgA.below {l t:Nat} {p:Rp} {j Rb:Nat→Bs} {n o:Bs} {e:Value} {W W':World} (h:RgA l t p j Rb n o e W) (i:Below W.heap.size W W'):RgA l t p j Rb n o e W':=by
 obtain ⟨a,b,c,d,u,m,s,x,z,v,B,r,A,q,hR,w,y⟩:=h.ex
 have k:Kq (fun _=>True) W W':=Kq.of_below i
 exact ⟨a,b,c,d,u,m,s,x,z,v,B,r,A.keep k,q.keep k fun g f=>i.block g (q.lt f).2,hR.keep k fun g f=>i.block g (hR.lt f).2,w.keep k,y.keep k⟩
theorem ps_ex {S R M:Type} (s:S) (a b:Nat→R) (g h:Nat→M):∃ q:Md.Ps S R M,q.s=s∧q.a=a∧q.b=b∧q.g=g∧q.h=h:=⟨⟨s,a,b,g,h⟩,rfl,rfl,rfl,rfl,rfl⟩
theorem span_ex (C:Fld P) (O:Ord N) (f:∀ r:EC.Pt P,EC.On r→EC.mul N r=none) (hP:NT.IsP N) (hN:18446744073709551616≤N) {n t:Nat} (X:Wd n t) (v:Nat) (hv:v<2^n) (k:Fin N) (T:List UInt8):∃ (V:Bs) (y:Rp) (g Rb:Nat→Bs) (i l:Bs),V=wP ((ptMd C f).cm (hPV C) (gPG C) (ofF N v) k) ∧
 (∀ (K:Option Addr) (sc:Nat) (v1:Value) (w:World),Arg w v1 (bx k.val)→SP.PartOk w (.slice K 32 sc) T→Calls Tryz.prog 20 #[.int .u64 v,v1,.int .i64 n,.slice K 32 sc] w (Ret fun e w'=>Below w.heap.size w w'∧∃ e' o,e=.tuple #[e',.int .i64 0]∧w.heap.size≤o∧RgA o t y g Rb i l e' w')) ∧
 (∀ (e v0:Value) (w:World),Arg33 w v0 V→RgV t y g Rb i l e w→(Calls Tryz.prog 61 #[v0,.int .i64 n,e] w (Ret fun e w'=>Below w.heap.size w w'∧e=.bool true)))∧y.Ok∧(∀ j,(g j).size=33)∧(∀ j,(Rb j).size=33)∧i.size=32∧l.size=32:=by
 obtain ⟨R,V,A,S,U,M,L3,Z,Y,rfl,rfl,rfl,o,hS⟩:=rv_ex C O f v n k T
 obtain ⟨q,G,F,I,H,J⟩:=ps_ex (wentF Y) R.a R.b (gPt C ⟨#[108,101,102,116]⟩) (R.hh (ptMd C f) (gPt C ⟨#[114,105,103,104,116]⟩))
 obtain ⟨u,hu⟩:∃ u,u=(ptMd C f).ac R.w (uPt C):=⟨_,rfl⟩
 obtain ⟨g,B⟩:∃ g:Nat→Bs,∀ j,g j=wP ((ptMd C f).pLi (chF N) ivF u t q j):=⟨fun j=>wP ((ptMd C f).pLi (chF N) ivF u t q j),fun _=>rfl⟩
 obtain ⟨Rb,E⟩:∃ Rb:Nat→Bs,∀ j,Rb j=wP ((ptMd C f).pTi (chF N) ivF u t q j):=⟨fun j=>wP ((ptMd C f).pTi (chF N) ivF u t q j),fun _=>rfl⟩
 obtain ⟨i,z⟩:∃ i,i=bx (((ptMd C f).pst (chF N) ivF u t q t).a 0).val:=⟨_,rfl⟩
 obtain ⟨l,p⟩:∃ l,l=bx (((ptMd C f).pst (chF N) ivF u t q t).b 0).val:=⟨_,rfl⟩
 obtain ⟨y,D⟩:=hE (⟨A,S,U,M,R.tau.val,R.mu.val,R.t.val⟩:Rp)
 refine ⟨V,y,g,Rb,i,l,o.eV,fun K sc v1 w Q L=>?_,fun e v0 w Q L=>?_,?_,fun j=>by rw[B];exact wr_size _,fun j=>by rw[E];exact wr_size _,by rw[z];exact bx_size _,by rw[p];exact bx_size _⟩
 ·exact prv_c C O f hP R X hv hN T K sc V A S U M L3 Z Y o hS q G F I H J u hu g Rb B E i l z p y D v1 w Q L
 ·have hr:∃ q,rd P V=some q:=by
   rw[o.eV]
   obtain ⟨q,hq,-⟩:=rd_wr C (R.pV (ptMd C f) (gPG C) (hPV C)).2
   exact ⟨q,hq⟩
  obtain ⟨x,hx⟩:=hr
  obtain ⟨a,b,c,d,u',m,s,vL,vR,vA,vB,e1,-⟩:=L.ex
  subst e1
  exact ver_c C X V x hx v0 _ _ _ _ _ _ _ _ _ _ _ w Q fun W hb=>vRv_c C O f hP hN R X hv V A S U M L3 Z Y o q G F I H J u hu g Rb B E i l z p y D _ W (L.below hb)
 ·rw[← D.out]
  exact ⟨by rw[o.eA];exact wr_size _,by rw[o.eS];exact wr_size _,by rw[o.e1];exact wr_size _,by rw[o.e2];exact wr_size _⟩
end
section
open Go.RowKit Go.Sort Go.Deep SPA
variable {P:Nat} [NeZero P] {N:Nat}
theorem TlL.vl {Q:Nat→Prop} {k t:Nat} {W:World} {v:Value} {B:Nat→Bs} (h:TlL Q k t W v B) (p:0<t):∃ g c ys,v=.slice (some ⟨g,0,none⟩) t c∧VL W (some ⟨g,0,none⟩) t ys∧∀ j,j<t→∃ x,ys[j]? = some x∧ElQ Q 33 W x (B j):=by
 obtain ⟨xs,b,f⟩:=h.ex
 obtain ⟨g,c,rfl⟩:=own_shapeQ b p
 have m:xs.length=t:=by have:=b.1;omega
 have n:=(h.lt (g:=g) rfl).2
 refine ⟨g,c,xs,rfl,⟨m,fun e=>(by cases e),Or.inr ⟨g,0,rfl,n,fun j u d=>?_⟩,fun u d=>?_⟩,f⟩
 ·rw[Nat.zero_add];exact own_cellQ b d
 ·obtain ⟨j,o,rfl⟩:=List.mem_iff_getElem.1 d
  obtain ⟨x,i,l⟩:=f j oM
  rw[List.getElem?_eq_getElem o] at i
  obtain rfl:=Option.some.inj i
  exact l.one.2
theorem ElQ.pt {Q:Nat→Prop} {m:Nat} {W:World} {x:Value} {b:Bs} (h:ElQ Q m W x b):Pt W x b:=by
 obtain ⟨k,c,rfl,-,f,-,e,d⟩:=h
 exact ⟨_,c,by rw[f],Or.inr ⟨k,0,rfl,e,d⟩⟩
def rgB (t:Nat) (p:Rp) (b Rb:Nat→Bs) (k c:Bs):List Bs:=[p.a,p.s,p.c,p.d,bx p.u,bx p.m,bx p.t]++(List.range t).map b++(List.range t).map Rb++[k,c]
theorem PtB.app {W:World} {us vs:List Value} {A B:List Bs} (h:PtB W us A) (e:PtB W vs B):PtB W (us++vs) (A++B):=by
 refine ⟨by rw[List.length_append,List.length_append,h.1,e.1],fun j u b c k=>?_⟩
 by_cases d:j<us.length
 ·rw[List.getElem?_append_left d] at c
  rw[List.getElem?_append_left (by rw[h.1];exact d)] at k
  exact h.2 j u b c k
 ·rw[List.getElem?_append_right oM] at c
  rw[List.getElem?_append_right (by rw[h.1];omega),h.1] at k
  exact e.2 _ u b c k
theorem PtB.one {W:World} {u:Value} {b:Bs} (h:Pt W u b):PtB W [u] [b]:=⟨rfl,fun j d e k c=>by
 match j with
 | 0 =>
  cases k
  cases c
  exact h
 | j+1=>cases k⟩
theorem PtB.list {W:World} {Q:Nat→Prop} {t:Nat} {ys:List Value} {B:Nat→Bs} (c:ys.length=t) (h:∀ j,j<t→∃ x,ys[j]? = some x∧ElQ Q 33 W x (B j)):PtB W ys ((List.range t).map B):=⟨by simp[c],fun j u b f k=>by
 have d:j<t:=by rw[← c];exact (List.getElem?_eq_some_iff.1 f).1
 obtain ⟨x,e,g⟩:=h j d
 rw[f] at e
 obtain rfl:=Option.some.inj e
 rw[List.getElem?_map,List.getElem?_range d] at k
 obtain rfl:=Option.some.inj k
 exact g.pt⟩
theorem RgA.rg {D t:Nat} {p:Rp} {l Rb:Nat→Bs} {o r:Bs} {e:Value} {W:World} (h:RgA D t p l Rb o r e W) (w:0<t):∃ (q:Rg) (f k:List Value) (i j:Nat),e=.agg q.cs.toArray∧q.l.n=t∧q.r.n=t∧q.a.n=33∧VL W q.l.q q.l.n f∧VL W q.r.q q.r.n k∧q.l.q=some ⟨i,0,none⟩∧q.r.q=some ⟨j,0,none⟩∧PtB W (ordV q f k) (rgB t p l Rb o r):=by
 obtain ⟨a,b,c,d,u,m,s,I,J,H,K,rfl,g,G,hR,n,v⟩:=h.ex
 obtain ⟨i,cl,f,rfl,v1,B⟩:=G.vl w
 obtain ⟨j,cr,k,rfl,v2,C⟩:=hR.vl w
 have pA:=n.pt
 have z:=v.pt
 obtain ⟨E,x,rfl,-⟩:=n
 obtain ⟨y,F,rfl,-⟩:=v
 refine ⟨⟨⟨some ⟨a,0,none⟩,33,_⟩,⟨some ⟨b,0,none⟩,33,_⟩,⟨some ⟨c,0,none⟩,33,_⟩,⟨some ⟨d,0,none⟩,33,_⟩,⟨some ⟨u,0,none⟩,32,_⟩,⟨some ⟨m,0,none⟩,32,_⟩,⟨some ⟨s,0,none⟩,32,_⟩,⟨some ⟨i,0,none⟩,t,cl⟩,⟨some ⟨j,0,none⟩,t,cr⟩,⟨some ⟨E,0,none⟩,32,x⟩,⟨some ⟨y,0,none⟩,32,F⟩⟩,f,k,i,j,rfl,rfl,rfl,rfl,v1,v2,rfl,rfl,?_⟩
 exact (((PtB.one g.a.pt).app ((PtB.one g.b.pt).app ((PtB.one g.c.pt).app ((PtB.one g.d.pt).app ((PtB.one g.e.pt).app ((PtB.one g.f.pt).app (PtB.one g.g.pt))))))).app (PtB.list v1.len B)).app (PtB.list v2.len C) |>.app ((PtB.one pA).app (PtB.one z))
theorem RgA.cl {f t:Nat} {p:Rp} {b Rb:Nat→Bs} {g j:Bs} {e:Value} {W:World} (h:RgA f t p b Rb g j e W) (d:0<t):∃ cs:List Value,Hid (.agg cs.toArray=e)∧cs.length=11∧cs.toArray.all (·.oneCell')=true∧∃ q c,cs[0]? = some (.slice q 33 c):=by
 obtain ⟨q,l,i,m,n,rfl,-,-,k,-⟩:=h.rg d
 exact ⟨q.cs,rfl,rfl,by simp only[List.all_toArray,Rg.cs,rgC,Sv.v,List.all_cons,List.all_nil];rfl,q.a.q,q.a.c,by rw[← k];rfl⟩
theorem TlL.sz {Q:Nat→Prop} {d t:Nat} {W:World} {v:Value} {B:Nat→Bs} (h:TlL Q d t W v B):((List.range t).map B).map Array.size=List.replicate t 33:=by
 obtain ⟨xs,-,e⟩:=h.ex
 refine List.eq_replicate_iff.2 ⟨by simp,fun x hx=>?_⟩
 simp only[List.mem_map,List.mem_range] at hx
 obtain ⟨b,⟨j,g,rfl⟩,rfl⟩:=hx
 obtain ⟨y,-,k,c,-,-,f,-⟩:=e j g
 exact f
theorem ElQ.sz {Q:Nat→Prop} {m:Nat} {W:World} {x:Value} {b:Bs} (h:ElQ Q m W x b):Array.size b=m:=by
 obtain ⟨k,c,-,-,d,-⟩:=h
 exact d
theorem RgA.good {l t:Nat} {p:Rp} {f Rb:Nat→Bs} {g i:Bs} {e:Value} {W:World} (h:RgA l t p f Rb g i e W) (o:t≤6):GoodP t t (rgB t p f Rb g i):=by
 obtain ⟨a,b,c,d,u,m,s,v,w,r,x,-,k,q,hR,j,n⟩:=h.ex
 refine ⟨rfl,o,?_⟩
 unfold rgB
 rw[List.map_append,List.map_append,List.map_append,q.sz,hR.sz]
 simp only[List.map_cons,List.map_nil,k.a.sz,k.b.sz,k.c.sz,k.d.sz,k.e.sz,k.f.sz,k.g.sz,j.sz,n.sz]
 rfl
theorem good_of {t:Nat} {p:Rp} {k Rb:Nat→Bs} {d e:Bs} (i:t≤6) (ok:p.Ok) (l:∀ j,(k j).size=33) (hR:∀ j,(Rb j).size=33) (f:d.size=32) (g:e.size=32):GoodP t t (rgB t p k Rb d e):=by
 have c:∀ (B:Nat→Bs),(∀ j,(B j).size=33)→((List.range t).map B).map Array.size=List.replicate t 33:=fun B h=>List.eq_replicate_iff.2 ⟨by simp,fun x hx=>by
  simp only[List.mem_map,List.mem_range] at hx
  obtain ⟨b,⟨j,m,rfl⟩,rfl⟩:=hx
  exact h j⟩
 refine ⟨rfl,i,?_⟩
 unfold rgB
 rw[List.map_append,List.map_append,List.map_append,c k l,c Rb hR]
 simp only[List.map_cons,List.map_nil,ok.a,ok.s,ok.c,ok.d,bx_size,f,g]
 rfl
theorem RgA.put {o t:Nat} {p:Rp} {k Rb:Nat→Bs} {b d:Bs} {e:Value} {W:World} (h:RgA o t p k Rb b d e W) (m:0<t) (z:t≤6):Calls Tryz.prog 22 #[e] W (Ret fun e W'=>Below W.heap.size W W'∧∃ v,e=.tuple #[v,.int .i64 0]∧Pt W' v (catI t (rgB t p k Rb b d) (t+t+9))∧∃ g c,v=.slice (some ⟨g,0,none⟩) (Array.size (catI t (rgB t p k Rb b d) (t+t+9))) c∧Array.size (catI t (rgB t p k Rb b d) (t+t+9))≤c):=by
 have n:=h.good z
 obtain ⟨q,x,s,A,B,rfl,f,j,-,v1,v2,y,u,w⟩:=h.rg m
 refine (sPut_c q W v1 v2 (Or.inr y) (Or.inr u) w oM oM).mono ?_
 rintro e W' ⟨r,⟨-,v,rfl,i⟩|⟨l,-⟩⟩
 ·rw[f,j] at i
  exact ⟨_,rfl,r,v,rfl,i⟩
 ·rw[f,j] at l
  exact absurd n l
end
section
open Go.RowKit Go.Sort Go.Deep
variable {n:Nat} {BB:List Bs}
theorem good_at (h:GoodP n n BB) {j:Nat} {b:Bs} (k:BB[j]? = some b):(ordS n n)[j]? = some (Array.size b):=by
 rw[← h.2.2,List.getElem?_map,k]
 rfl
theorem good_len (h:GoodP n n BB):BB.length=n+n+9:=by
 have:=congrArg List.length h.2.2
 unfold ordS at this
 simp at this
 omega
theorem catI_sz (h:GoodP n n BB):∀ i,i≤n+n+9→Array.size (catI n BB i)=offs n i
 | 0,_=>rfl
 | i+1,hi=>by
  have b:i<BB.length:=by rw[good_len h];omega
  have k:=List.getElem?_eq_getElem b
  rw[catI_succ n BB i _ k,Array.size_append,catI_sz h i oM,offs_succ n i _ (good_at h k)]
theorem catI_pre (i:Nat):∀ m,i+m≤BB.length→∃ r,catI n BB (i+m)=catI n BB i++r
 | 0,_=>⟨#[],by simp⟩
 | m+1,hm=>by
  obtain ⟨r,b⟩:=catI_pre i m oM
  have k:=List.getElem?_eq_getElem (show i+m<BB.length by omega)
  refine ⟨r++BB[i+m],?_⟩
  rw[← Nat.add_assoc,catI_succ n BB (i+m) _ k,b,Array.append_assoc]
theorem chk_cat (h:GoodP n n BB) {j:Nat} {b:Bs} (k:BB[j]? = some b):chk (catI n BB (n+n+9)) n j=b:=by
 have d:=(List.getElem?_eq_some_iff.1 k).1
 rw[good_len h] at d
 obtain ⟨r,c⟩:=catI_pre (n:=n) (BB:=BB) (j+1) (n+n+9-(j+1)) (by rw[good_len h];omega)
 rw[show j+1+(n+n+9-(j+1))=n+n+9 by omega,catI_succ n BB j b k] at c
 have s1:=catI_sz h j oM
 have s2:=offs_succ n j _ (good_at h k)
 unfold chk
 rw[c,s2,← s1]
 apply Array.ext
 ·simp
 ·intro i f e
  simp[Array.getElem_append]
theorem cat_good (h:GoodP n n BB):(catI n BB (n+n+9))[0]!.toNat=n∧RGood (catI n BB (n+n+9)):=by
 have d:=h.2.1
 obtain ⟨r,k⟩:=catI_pre (n:=n) (BB:=BB) 0 (n+n+9) (by rw[good_len h];omega)
 rw[Nat.zero_add] at k
 have b:=catI_sz h (n+n+9) (Nat.le_refl _)
 rw[offs_all] at b
 have c:(catI n BB (n+n+9))[0]!.toNat=n:=by
  rw[k]
  have:(catI n BB 0++r)[0]! = n.toUInt8:=by
   rw[show catI n BB 0=#[n.toUInt8] from rfl,getElem!_pos _ 0 (by simp;omega),Array.getElem_append_left (by simp)]
   rfl
  rw[this]
  exact Nat.mod_eq_of_lt oM
 exact ⟨c,oM,oM,by rw[c];exact b⟩
end
section
open Go.RowKit Go.Sort Go.Deep SPA
variable {P:Nat} [NeZero P] {N:Nat} [NeZero N]
structure PrT (T:Bs) (e:Value) (w:World):Prop where
 cs:∃ cs:List Value,Hid (.agg cs.toArray=e)∧cs.length=11∧cs.toArray.all (·.oneCell')=true
 put:∀ (W1 W:World) (k:Nat) (us vs:List Value),Below w.heap.size w W1→Row W1 k (.slice none 0 0 :: vs)→Below (W1.setCells k 0 us).heap.size (W1.setCells k 0 us) W→Calls Tryz.prog 22 #[e] W (Ret fun x W'=>Below W.heap.size W W'∧∃ g c,x=.tuple #[.slice (some ⟨g,0,none⟩) 623 c,.int .i64 0]∧623≤c∧g<W'.heap.size∧Holds encB W' g 0 T)
theorem pt_holds {W:World} {g n c:Nat} {b:Bs} (h:Pt W (.slice (some ⟨g,0,none⟩) n c) b) (i:0<b.size):g<W.heap.size∧Holds encB W g 0 b:=by
 obtain ⟨q,m,e,j|⟨l,o,d,k,f⟩⟩:=h
 ·omega
 injection e with e1 e2 e3
 rw[d] at e1
 injection e1 with e1
 injection e1 with e1 e4 e5
 subst e1 e4
 exact ⟨k,f⟩
omit [NeZero P] [NeZero N] in
theorem RgA.set0 {l t k:Nat} {p:Rp} {y Rb:Nat→Bs} {C E:Bs} {e:Value} {W:World} {us vs:List Value} (h:RgA l t p y Rb C E e W) (z:0<t) (D:Row W k (.slice none 0 0 :: vs)):RgA l t p y Rb C E e (W.setCells k 0 us):=by
 obtain ⟨a,b,c,d,u,m,s,J,L,G,O,F,f,S,hR,H,K⟩:=h.ex
 have kq:Kq (·≠k) W (W.setCells k 0 us):=Kq.set fun g i=>i
 have el:∀ {m:Nat} {x:Value} {b:Bs},0<m→ElQ (fun _=>True) m W x b→ElQ (fun _=>True) m (W.setCells k 0 us) x b:=fun I hx=>((hx.off I D).keep kq).mono2 fun _ _ _=>trivial
 have w:∀ {v:Value} {B:Nat→Bs},TlL (fun _=>True) l t W v B→TlL (fun _=>True) l t (W.setCells k 0 us) v B:=fun hx=>by
  obtain ⟨xs,n,A⟩:=hx.ex
  obtain ⟨g,c,rfl⟩:=own_shapeQ n z
  obtain ⟨T,o,q⟩:=A 0 z
  have M:=own_cellQ n o
  have r:g≠k:=fun e=>by
   subst e
   have:=D.2.1 0 _ rfl
   rw[Nat.zero_add,M] at this
   obtain ⟨R,Q,rfl,-⟩:=q
   cases this
  refine ⟨xs,own_keep n fun R i=>RG.setCells_other k us 0 W R (by injection i with i;rw[← i];exact r),fun j Q=>?_⟩
  obtain ⟨x,o,q⟩:=A j Q
  exact ⟨x,o,el dC q⟩
 exact ⟨a,b,c,d,u,m,s,J,L,G,O,F,⟨el dC f.a,el dC f.b,el dC f.c,el dC f.d,el dC f.e,el dC f.f,el dC f.g⟩,w S,w hR,el dC H,el dC K⟩
end
section
open Go.RowKit Go.Sort Go.Deep SPA
theorem infB8:(Tryz.prog.info? 5).map (fun i=>(i.size,i.bytes,i.zero.map fun z=>z.cells.size))=some (1,1,some 1):=kR
theorem undB8:Tryz.prog.underlying 23=some (.slice 5):=kR
theorem app_bC {k g o c:Nat} {W:World} {v:Value} {X Y:Bs} (m:W.ownsRow k 5 1 v X.size (bC X)) (p:Holds encB W g o Y) (E:X.size+Y.size≤1000000) (s:k≤W.heap.size) :
 ∃ b W',(Builtin.append_ #[23,23] 23 #[v,.slice (some ⟨g,o,none⟩) Y.size c]).run Tryz.prog W=.ok b W'∧W'.ownsRow k 5 1 b (X++Y).size (bC (X++Y))∧W.grownBy W' v.ownBlock∧(b.ownBlock=v.ownBlock∨b.ownBlock=some W.heap.size):=by
 obtain ⟨i,A,f⟩:=Option.map_eq_some_iff.1 infB8
 simp only[Prod.mk.injEq] at f
 obtain ⟨q,l,n⟩:=f
 obtain ⟨z,t,d⟩:=Option.map_eq_some_iff.1 n
 have C:∀ (j:Nat) u,(bC Y)[j]? = some u→W.cell? ((⟨g,o,none⟩:Addr).add j)=some u:=fun j u e=>by
  unfold bC at e
  rw[List.getElem?_map] at e
  obtain ⟨x,hx,rfl⟩:=Option.map_eq_some_iff.1 e
  rw[Array.getElem?_toList] at hx
  have:=(Array.getElem?_eq_some_iff.1 hx)
  rw[addP0,(p j this.1).1,getElem!_pos Y j this.1,this.2]
  rfl
 obtain ⟨b,W',D,y,r,-,B⟩:=run_append_own_at (P:=Tryz.prog) (w:=W) k 23 23 5 i z 1 1 undB8 A t q l d (by decide) v X.size (bC X) m ⟨g,o,none⟩ Y.size c (bC Y) (by rw[bC_len,Nat.mul_one]) C (bC_one Y) (by unfold maxLen;omega) (by omega) s
 exact ⟨b,W',D,by rw[bC_app,Array.size_append];exact y,r,B⟩
structure Wt (w W:World) (v u:Value) (A B:Bs):Prop where
 bl:Below w.heap.size w W
 oA:W.ownsRow w.heap.size 5 1 v A.size (bC A)
 oB:W.ownsRow w.heap.size 5 1 u B.size (bC B)
 ne:∀ g,v.ownBlock=some g→u.ownBlock≠some g
section
variable {w W W':World} {v u:Value} {A B:Bs}
theorem Wt.swap (h:Wt w W v u A B):Wt w W u v B A:=⟨h.bl,h.oB,h.oA,fun g b k=>h.ne g k b⟩
theorem Wt.grow (h:Wt w W v u A B) (k:Below W.heap.size W W'):Wt w W' v u A B:=⟨h.bl.trans (k.mono h.bl.size),own_keep h.oA fun g b=>k.block g (own_lt h.oA b).2.1,own_keep h.oB fun g b=>k.block g (own_lt h.oB b).2.1,h.ne⟩
theorem Wt.app {g o c:Nat} {Y:Bs} (h:Wt w W v u A B) (n:Holds encB W g o Y) (q:A.size+Y.size≤1000000) :
 ∃ i W',(Builtin.append_ #[23,23] 23 #[v,.slice (some ⟨g,o,none⟩) Y.size c]).run Tryz.prog W=.ok i W'∧Wt w W' i u (A++Y) B∧W.heap.size≤W'.heap.size∧∀ k,k<W.heap.size→v.ownBlock≠some k→W'.heap[k]? = W.heap[k]?:=by
 obtain ⟨i,W',r,p,f,m⟩:=app_bC h.oA n q h.bl.size
 refine ⟨i,W',r,⟨h.bl.grown f h.bl.size fun k b=>(own_lt h.oA b).1,p,own_keep h.oB fun k b=>f.block k (own_lt h.oB b).2.1 (fun e=>h.ne k e.symm b),fun k d l=>?_⟩,f.size,fun k b j=>f.block k b (fun e=>j e.symm)⟩
 rcases m with e|e
 ·rw[e] at d
  exact h.ne k d l
 ·rw[e] at d
  have:=(own_lt h.oB l).2.1
  injection d with d
  omega
end
section
variable {P:Program} {ops:Array Oper} {Q:Exit→Act→World→Prop} {p r:Nat} {J:Iv} {o:Oper} {a a':Act} {w w':World} {fuel:Nat} {listed:Array Bool} {d:Option Tmp} {x:Value}
theorem AW.nw (i:Nat) {I:Sem Value} (hx:I.run P w=.ok x w') (b:J.p w→J.p w') (h:AW P ops Q p r J fuel (listed.setIfInBounds i true) a' w') (ho:ops[i]? = some o:=by (simp only[List.getElem?_toArray,List.getElem?_cons_succ,List.getElem?_cons_zero])<;>rfl) (hd:o.dst=d:=by rfl) (f:o.guard=none:=by rfl) (c:execOp a.eval o=I >>= fun v=>pure (Next.value v):=by kernel_rfl)
 (g:a.put d x=a':=by (simp only[Act.put,List.setIfInBounds_toArray,List.set_cons_succ,List.set_cons_zero])<;>rfl) (e:Region.ready .any ops listed=[i]:=by kernel_rfl):AW P ops Q p r J (fuel+1) listed a w:=fun k=>by
 subst g
 exact anyS.ins ho hx (Or.inr (b k)) (h (b k)) e f c hd
end
section
variable {P:Program} {ops:Array Oper} {Q:Exit→Act→World→Prop} {a0:Act} {k:Nat} {o:Oper} {G:RG.Gw}
open RG
theorem RG.gw_cv (j:Nat) (t:Tmp) (c:Nat) (b:Tmp) (f:FuncId) {i:Array TypeId} (hf:∀ args W,(callFunc f args).run P W=.ok (.enter f args) W) (n:∀ x W,G.R j x W→x=.func (.func f) #[] #[]) (m:∀ y W,G.R c y W→G.B W→Calls P f #[y] W (Ret fun e W'=>Below W.heap.size W W'∧G.R k e W')) (hd:((depB o j,dstOf ops j),(depB o c,dstOf ops c))=((true,some t),(true,some b)):=by kernel_rfl) (l:seenT [t,b] o=true:=by kernel_rfl) (ho:o.op=.call ⟨.value (.tmp t),#[.tmp b],i⟩:=by rfl) (g:t≠b:=by decide):CertF P Q G.flow ops a0 k o:=
 gw_call fun a W d=>⟨[(t,.func (.func f) #[] #[]),(b,a.eval (.tmp b))],f,#[a.eval (.tmp b)],⟨n _ W (d.n j t (congrArg (·.1.1) hd) (congrArg (·.1.2) hd)),rfl,trivial⟩,by
  rw[show ([(t,Value.func (.func f) #[] #[]),(b,a.eval (.tmp b))].map (·.1))=[t,b] from rfl,l]
  congr 1
  refine callv1 hf ho ?_ ?_
  ·simp[evo,evl]
  ·simp[evo,evl,g,Ne.symm g],m _ W (d.n c b (congrArg (·.2.1) hd) (congrArg (·.2.2) hd)) d.b⟩
end
end
section
open Go.RowKit Go.Sort Go.Deep
section
variable {P:Program} {ops:Array Oper} {Q:Exit→Act→World→Prop} {a0:Act} {F:RG.Flow} {k:Nat} {o:Oper}
theorem cf_shiP (T:TypeId) (s t:Tmp) (ho:o.op=.slice T (.tmp s) none (some (.tmp t)) none)
 (h:∀ (a:Act) (w:World),RG.PreF F ops a0 k o a w→∃ v1 v2 v,a.eval (.tmp s)=v1∧a.eval (.tmp t)=v2∧(Instr.sliceAt T v1 none (some v2) none).run P w=.ok v w∧F.E k w w∧F.R k v w):RG.CertF P Q F ops a0 k o:=
 RG.cf_val fun a w b=>by
  obtain ⟨v1,v2,v,e,c,d,hE,hR⟩:=h a w b
  refine ⟨v,w,?_,hE,hR⟩
  unfold execOp
  rw[ho]
  dsimp only[Option.map]
  rw[e,c,Sem.run_bind,d]
  rfl
theorem cf_sloP (T:TypeId) (s t:Tmp) (ho:o.op=.slice T (.tmp s) (some (.tmp t)) none none)
 (h:∀ (a:Act) (w:World),RG.PreF F ops a0 k o a w→∃ v1 v2 v,a.eval (.tmp s)=v1∧a.eval (.tmp t)=v2∧(Instr.sliceAt T v1 (some v2) none none).run P w=.ok v w∧F.E k w w∧F.R k v w):RG.CertF P Q F ops a0 k o:=
 RG.cf_val fun a w b=>by
  obtain ⟨v1,v2,v,e,c,d,hE,hR⟩:=h a w b
  refine ⟨v,w,?_,hE,hR⟩
  unfold execOp
  rw[ho]
  dsimp only[Option.map]
  rw[e,c,Sem.run_bind,d]
  rfl
theorem cf_callsP (h:∀ (a:Act) (w:World),RG.PreF F ops a0 k o a w→∃ (b:List (Tmp × Value)) (f:FuncId) (args:Array Value),RG.AllE a b∧(RG.seenT (b.map (·.1)) o,(execOp (RG.evo (RG.evl b)) o).run P w)=(true,.ok (.enter f args) w)∧Calls P f args w (fun e w'=>∃ v,e=.returned v∧F.E k w w'∧F.R k v w')):RG.CertF P Q F ops a0 k o:=by
 intro a w K l g j d
 obtain ⟨b,f,args,i,c,m⟩:=h a w ⟨l,g,j⟩
 simp only[Prod.mk.injEq] at c
 unfold Oper.wp
 rw[RG.exec_ev (RG.evl b) (b.map (·.1)) c.1 i.ev,c.2,Oper.upon_enter]
 refine m.mono ?_
 rintro e w' ⟨v,rfl,hE,hR⟩
 exact d _ _ hE hR
theorem cf_storeP (T:TypeId) (t u:Tmp) (ho:o.op=.store T (.tmp t) (.tmp u)) (hd:o.dst=none) (l:(P.info? T).map (·.size)=some 1)
 (h:∀ (a:Act) (w:World),RG.PreF F ops a0 k o a w→∃ g off v old,a.eval (.tmp t)=.pointer (some ⟨g,off,none⟩)∧a.eval (.tmp u)=v∧w.cell? ⟨g,off,none⟩=some old∧w.frozen? ⟨g,off,none⟩=false∧v.oneCell'=true∧v.cells=#[v]∧F.E k w (w.setCell ⟨g,off,none⟩ v)∧F.R k undef (w.setCell ⟨g,off,none⟩ v)):RG.CertF P Q F ops a0 k o:=by
 intro a w K j c i b
 obtain ⟨g,off,v,old,d,e,e3,m,f,n,hE,hR⟩:=h a w ⟨j,c,i⟩
 have:=b undef _ hE hR
 unfold Oper.wp execOp
 rw[ho]
 dsimp only
 rw[d,e,Sem.run_bind,RG.run_store1 e3 m f n l]
 show K (a.put o.dst undef) _
 exact this
end
theorem chk_at (s:SP.Bs) (k i j:Nat) (c:j<(chk s k i).size) (b:offs k i+j<s.size):(chk s k i)[j]! = s[offs k i+j]!:=by
 rw[getElem!_pos (chk s k i) j c,getElem!_pos s (offs k i+j) b]
 unfold chk at c ⊢
 rw[Array.getElem_extract]
theorem rd_cells {w s W:World} {p q d i f k:Nat} {vs:List Value} {CH:Nat→SP.Bs} (h:RdI w s W p q d (.slice (some ⟨i,0,none⟩) k k) (.slice (some ⟨f,0,none⟩) k k) (ordP d i 0 k f 0 k) vs CH) (A:vs.length=k+k+9):∃ cs:List Value,cs.length=11∧W.rangeAt d 0 cs∧∀ v∈cs,v.oneCell'=true:=by
 have C:(ordP d i 0 k f 0 k).length=k+k+9:=by
  rw[← ordS_len k k,← ordP_S d i 0 k f 0 k,List.length_map]
 have c:∀ j,j<k+k+9→∃ u,(∀ x,(ordP d i 0 k f 0 k)[j]? = some x→W.cell? x.1=some u)∧u.oneCell'=true:=fun j b=>by
  obtain ⟨u,l⟩:∃ u,vs[j]? = some u:=⟨_,List.getElem?_eq_getElem oM⟩
  exact ⟨u,fun x hx=>h.st j x u hx l,by rcases (h.ow j u l).own.2 with ⟨e,-⟩|⟨g,cap,cur,e,-⟩<;>rw[e]<;>rfl⟩
 have two:∀ j,j<2→∃ u,W.cell? ⟨d,9+j,none⟩=some u∧u.oneCell'=true:=fun j b=>by
  obtain ⟨u,r,o⟩:=c (7+k+k+j) oM
  obtain ⟨x,hx⟩:∃ x,(ordP d i 0 k f 0 k)[7+k+k+j]? = some x:=⟨_,List.getElem?_eq_getElem oM⟩
  rcases ordP_cases hx with ⟨n,m⟩|⟨n,l,m⟩|⟨n,l,m⟩|⟨n,l,m⟩
  ·omega
  ·omega
  ·omega
  ·have:=r x hx
   rw[m,show 7+k+k+j-7-k-k=j by omega] at this
   exact ⟨u,this,o⟩
 obtain ⟨u0,a0,b0⟩:=c 0 oM
 obtain ⟨u1,r,b1⟩:=c 1 oM
 obtain ⟨u2,a2,a⟩:=c 2 oM
 obtain ⟨u3,y,G⟩:=c 3 oM
 obtain ⟨u4,t,F⟩:=c 4 oM
 obtain ⟨u5,m,E⟩:=c 5 oM
 obtain ⟨u6,z,B⟩:=c 6 oM
 obtain ⟨u9,o,D⟩:=two 0 oM
 obtain ⟨u10,l,n⟩:=two 1 oM
 refine ⟨[u0,u1,u2,u3,u4,u5,u6,.slice (some ⟨i,0,none⟩) k k,.slice (some ⟨f,0,none⟩) k k,u9,u10],rfl,fun j u b=>?_,fun v hv=>?_⟩
 ·rw[Nat.zero_add]
  match j,b with
  | 0,b=>obtain rfl:=Option.some.inj b;exact a0 _ rfl
  | 1,b=>obtain rfl:=Option.some.inj b;exact r _ rfl
  | 2,b=>obtain rfl:=Option.some.inj b;exact a2 _ rfl
  | 3,b=>obtain rfl:=Option.some.inj b;exact y _ rfl
  | 4,b=>obtain rfl:=Option.some.inj b;exact t _ rfl
  | 5,b=>obtain rfl:=Option.some.inj b;exact m _ rfl
  | 6,b=>obtain rfl:=Option.some.inj b;exact z _ rfl
  | 7,b=>obtain rfl:=Option.some.inj b;exact h.c7
  | 8,b=>obtain rfl:=Option.some.inj b;exact h.c8
  | 9,b=>obtain rfl:=Option.some.inj b;exact o
  | 10,b=>obtain rfl:=Option.some.inj b;exact l
  | j+11,b=>simp at b
 ·simp only[List.mem_cons,List.not_mem_nil,or_false] at hv
  rcases hv with rfl|rfl|rfl|rfl|rfl|rfl|rfl|rfl|rfl|rfl|rfl<;>first|assumption|rfl
end
section
open Go.RowKit Go.Sort Go.Deep
variable {P:Nat} [NeZero P] {N:Nat}
theorem uPtrP:(Tryz.prog.underlying 99).map (·.isRow)=some false:=kR
theorem uIntP:(Tryz.prog.underlying 3).map (·.isRow)=some false:=kR
theorem i22:(Tryz.prog.info? 23).map (·.size)=some 1:=kR
theorem one11 {cs:List Value} (h:∀ v∈cs,v.oneCell'=true):cs.toArray.all (·.oneCell')=true:=Go.all_oneCell_toArray h
theorem zR_one:∀ v∈zR,v.oneCell'=true:=fun v hv=>by
 rw[(List.mem_replicate.1 hv).2];rfl
theorem sReadO_c (s:SP.Bs) (gi oz c:Nat) (hs:s.size≤100000) (hc:s.size≤c) (k6:1<c) (w:World) (k0:gi<w.heap.size) (hH:Holds SP.encB w gi oz s) :
 Calls Tryz.prog 106 #[.slice (some ⟨gi,oz,none⟩) s.size c] w (RdR w s s[0]!.toNat):=by
 obtain ⟨z,I⟩:∃ z,Hid (w.alloc (.cells zR.toArray 66)=z):=⟨_,rfl⟩
 have b1:Below w.heap.size w z:=by rw[← I.out];exact alloc_below _ _
 have z1:z.heap.size=w.heap.size+1:=by rw[← I.out,World.size_alloc]
 have h4:z.heap[w.heap.size]? = some (.cells zR.toArray 66 (0,0)):=by rw[← I.out];exact Array.getElem?_push_size
 have kh:=Hid.mkP b1
 have hy:=Hid.mkP z1
 have kl:=Hid.mkP h4
 have P1:=Hid.mkP (put11 (cs:=zR) h4 rfl b1)
 have HH:=Hid.mkP hH
 obtain ⟨n,hn⟩:∃ n:Nat,Hid (n=s.size):=⟨_,rfl⟩
 obtain ⟨k,hk⟩:∃ k:Nat,Hid (k=s[0]!.toNat):=⟨_,rfl⟩
 rw[← hk.out]
 rw[← hn.out] at hs hc ⊢
 by_cases h0:0<n
 ·have T:=(SP.Holds.below hH b1 k0 0 (by rw[← hn.out];exact h0)).1
  unfold SP.encB SP.ub at T
  rw[← hk.out,Nat.add_zero] at T
  obtain ⟨m,hm⟩:∃ m,n=m+1:=⟨n-1,oM⟩
  have kt:=oM
  rw[hm] at hc hs ⊢
  have Hm:Hid (s.size=m+1):=by rw[← hn.out,hm];rfl
  by_cases h6:k≤6
  ·have kd:¬ (6:Int)<(k:Int):=oM
   have ku:=run_make_row' (P:=Tryz.prog) 27 23 (.slice none 0 0) 24 undBB infoBBm rfl .i64 .i64 k oM oM
   have F:Hid (RGood s↔m+1=293+66*k):=by
    show _↔_
    unfold RGood
    rw[← hk.out,Hm.out]
    exact ⟨fun h=>h.2.2,fun h=>⟨oM,h6,h⟩⟩
   clear hm kt h0 hH b1 h4 z1
   go_enter Tryz.func106,Tryz.ntmps106
   go_wp2_with (first|(refine wpList_opP (v:=.pointer (some ⟨w.heap.size,0,none⟩)) (w':=z) rfl (.alloc 66) rfl ?_ ?_;(rw[← I.out];kernel_rfl))|fail)
   go_cut [5] (fun s5 wx=>∃ o A y,s5=.pointer (some ⟨o,0,none⟩)∧Hid (R4 z wx o A y k))
   case first =>
    go_region
    all_goals (try go_wp2)
    all_goals (go_meet;first|(refine ⟨_,z.heap.size,z.heap.size+1,rfl,(⟨(three _ _ _ _ _ _ _).1,?_,?_,?_,?_,?_,?_,?_,?_,?_⟩:R4 _ _ _ _ _ _)⟩<;>first|(rw[(three _ _ _ _ _ _ _).2.1];omega)|exact (three _ _ _ _ _ _ _).2.2.1|exact (three _ _ _ _ _ _ _).2.2.2.1|exact (three _ _ _ _ _ _ _).2.2.2.2|omega)|(refine ⟨_,z.heap.size,z.heap.size+1+1,rfl,(⟨(three _ _ _ _ _ _ _).1,?_,?_,?_,?_,?_,?_,?_,?_,?_⟩:R4 _ _ _ _ _ _)⟩<;>first|(rw[(three _ _ _ _ _ _ _).2.1];omega)|exact (three _ _ _ _ _ _ _).2.2.1|exact (three _ _ _ _ _ _ _).2.2.2.1|exact (three _ _ _ _ _ _ _).2.2.2.2|omega)|(refine ⟨_,z.heap.size+1,z.heap.size,rfl,(⟨(three _ _ _ _ _ _ _).1,?_,?_,?_,?_,?_,?_,?_,?_,?_⟩:R4 _ _ _ _ _ _)⟩<;>first|(rw[(three _ _ _ _ _ _ _).2.1];omega)|exact (three _ _ _ _ _ _ _).2.2.1|exact (three _ _ _ _ _ _ _).2.2.2.1|exact (three _ _ _ _ _ _ _).2.2.2.2|omega)|(refine ⟨_,z.heap.size+1,z.heap.size+1+1,rfl,(⟨(three _ _ _ _ _ _ _).1,?_,?_,?_,?_,?_,?_,?_,?_,?_⟩:R4 _ _ _ _ _ _)⟩<;>first|(rw[(three _ _ _ _ _ _ _).2.1];omega)|exact (three _ _ _ _ _ _ _).2.2.1|exact (three _ _ _ _ _ _ _).2.2.2.1|exact (three _ _ _ _ _ _ _).2.2.2.2|omega)|(refine ⟨_,z.heap.size+1+1,z.heap.size,rfl,(⟨(three _ _ _ _ _ _ _).1,?_,?_,?_,?_,?_,?_,?_,?_,?_⟩:R4 _ _ _ _ _ _)⟩<;>first|(rw[(three _ _ _ _ _ _ _).2.1];omega)|exact (three _ _ _ _ _ _ _).2.2.1|exact (three _ _ _ _ _ _ _).2.2.2.1|exact (three _ _ _ _ _ _ _).2.2.2.2|omega)|(refine ⟨_,z.heap.size+1+1,z.heap.size+1,rfl,(⟨(three _ _ _ _ _ _ _).1,?_,?_,?_,?_,?_,?_,?_,?_,?_⟩:R4 _ _ _ _ _ _)⟩<;>first|(rw[(three _ _ _ _ _ _ _).2.1];omega)|exact (three _ _ _ _ _ _ _).2.2.1|exact (three _ _ _ _ _ _ _).2.2.2.1|exact (three _ _ _ _ _ _ _).2.2.2.2|omega))
   case rest =>
    obtain ⟨o,A,y,rfl,H4⟩:=hcut
    have c7:wc.cell? ⟨o,7,none⟩=some (.slice (some ⟨A,0,none⟩) k k):=by unfold World.cell?;rw[H4.out.hp];rfl
    have c8:wc.cell? ⟨o,8,none⟩=some (.slice (some ⟨y,0,none⟩) k k):=by unfold World.cell?;rw[H4.out.hp];rfl
    have hu:=Hid.mkP (partsOf_c o ⟨some ⟨A,0,none⟩,k,k⟩ ⟨some ⟨y,0,none⟩,k,k⟩ A 0 y 0 wc H4.out.p1.2 c7 c8 (Or.inr rfl) (Or.inr rfl) (by show k≤_;omega) (by show k≤_;omega))
    have kv:=oM
    have kj:=oM
    have k9:=oM
    have kf:=oM
    go_wp2_with fail
    refine hu.out.mono ?_
    rintro e Y ⟨v3,rfl,g3⟩
    obtain ⟨R,hw,rfl,ka,kc⟩:=g3.lt
    have h8:=r4_start (CH:=chk s k) H4.out kh.out (by have:=hy.out;omega) g3
    have Q:=Hid.mkP h8.1
    have I0:=Hid.mkP h8.2
    have hM:(ordP o A 0 k y 0 k).length=k+k+9:=by
     rw[← ordS_len k k,← ordP_S o A 0 k y 0 k,List.length_map]
    have Z:(basP o++lp A 0 k++lp y 0 k++endP o).length=k+k+9:=hM
    have ha:Hid (∀ W v,RdI w Y W w.heap.size R o (.slice (some ⟨A,0,none⟩) k k) (.slice (some ⟨y,0,none⟩) k k) (ordP o A 0 k y 0 k) v (chk s k)→∀ i,i<k+k+9→∃ t B f,(ordS k k)[i]? = some f∧(ordP o A 0 k y 0 k)[i]? = some (⟨t,B,none⟩,f)∧f≤33∧32≤f∧W.rangeAt R (i*2) [.pointer (some ⟨t,B,none⟩),.int .i64 f]):=fun W v G i hi=>by
     obtain ⟨x,hx⟩:∃ x,(ordP o A 0 k y 0 k)[i]? = some x:=⟨_,List.getElem?_eq_getElem oM⟩
     obtain ⟨t,B,l,-⟩:=Q.out.ad i x hx
     have O:(ordS k k)[i]? = some x.2:=by rw[← ordP_S o A 0 k y 0 k,List.getElem?_map,hx];rfl
     have d:=List.mem_of_getElem? O
     have r:=g3.at i x hx
     refine ⟨t,B,x.2,O,by rw[hx,← l],ordS_le k k _ d,?_,fun j u hj=>?_⟩
     ·unfold ordS at d
      simp only[List.mem_append,List.mem_cons,List.not_mem_nil,or_false,List.mem_replicate] at d
      omega
     ·have e:=G.eq
      have:W.cell? ⟨R,i*2+j,none⟩=Y.cell? ⟨R,i*2+j,none⟩:=by unfold World.cell?;rw[e]
      rw[this,Nat.mul_comm]
      exact r j u (by unfold pC;rw[l];exact hj)
    have h7:Hid (Y.heap[w.heap.size]? = some (.cells zR.toArray 66 (0,0))):=by
     have:=hy.out
     have d:=H4.out.bl.size
     show _=_
     rw[g3.bl.block w.heap.size oM,H4.out.bl.block w.heap.size oM]
     exact kl.out
    obtain ⟨M,N⟩:∃ M,Hid (k+k+9=M):=⟨_,rfl⟩
    rw[N.out] at ha Z
    rw[Z]
    have b2:M≤21:=by have:=N.out;omega
    obtain ⟨dP,k5,ht⟩:=Option.map_eq_some_iff.1 uPrt
    obtain ⟨C1,hz⟩:∃ C1,c-1=C1:=⟨_,rfl⟩
    rw[hz]
    have kk:1+C1=c:=oM
    clear g3 hM Z h8 hu ka kc ku hz kv kj k9 kf
    go_wp2
    go_loopg [0,32] M (fun gk s0 s32 wr=>∃ (i off ad L C:Nat),i+gk=M∧s32=.int .i64 i∧s0=.slice (some ⟨gi,ad,none⟩) L C∧off+L=m+1∧off+C=c∧Hid (0<C→ad=oz+off)∧Hid (off=offs k i∧∃ vs,vs.length=i∧RdI w Y wr w.heap.size R o (.slice (some ⟨A,0,none⟩) k k) (.slice (some ⟨y,0,none⟩) k k) (ordP o A 0 k y 0 k) vs (chk s k)))
    case atStart=>exact ⟨0,1,oz+1,m,C1,oM,rfl,rfl,oM,kk,fun _=>rfl,rfl,[],rfl,I0.out⟩
    case round =>
     clear I0
     obtain ⟨i,off,ad,L,C,hi,rfl,rfl,b3,b5,ke,K⟩:=hrel
     by_cases k7:i<M
     ·have h9:(i:Int)<(M:Int):=oM
      have kz:=idxPT R M hw i k7
      obtain ⟨H,vs,J,G⟩:=K.out
      obtain ⟨t,B,f,k1,k2,k3,b4,k4⟩:=ha.out _ _ G i k7
      have K4:=Hid.mkP k4
      obtain ⟨l,E⟩:∃ l,Hid (wr.alloc (.cells #[.pointer (some ⟨t,B,none⟩),.int .i64 f] 101)=l):=⟨_,rfl⟩
      have ba:Below wr.heap.size wr l:=by rw[← E.out];exact alloc_below _ _
      have za:l.heap.size=wr.heap.size+1:=by rw[← E.out,World.size_alloc]
      have a0:l.cell? ⟨wr.heap.size,0,none⟩=some (.pointer (some ⟨t,B,none⟩)):=by rw[← E.out];exact alloc_cell wr _ _ 0 _ rfl
      have a1:l.cell? ⟨wr.heap.size,1,none⟩=some (.int .i64 f):=by rw[← E.out];exact alloc_cell wr _ _ 1 _ rfl
      have U:Hid (RdI w Y l w.heap.size R o (.slice (some ⟨A,0,none⟩) k k) (.slice (some ⟨y,0,none⟩) k k) (ordP o A 0 k y 0 k) vs (chk s k)):=G.below Q.out ba
      have D:Hid (off=offs k i∧(ordS k k)[i]? = some f∧(ordP o A 0 k y 0 k)[vs.length]? = some (⟨t,B,none⟩,f)∧vs.length=i∧t<wr.heap.size∧l.heap.size=wr.heap.size+1):=by
       refine ⟨H,k1,by rw[J];exact k2,J,?_,za⟩
       obtain ⟨d,r,e',p1,-⟩:=Q.out.ad i _ k2
       injection e' with e' _ _
       have:=G.sz
       omega
      clear K k4 k2 k1 G ba za H J
      by_cases kx:L<f
      ·have hq:(L:Int)<(f:Int):=oM
       have S:=Hid.mkP (put11 (cs:=zR) (by rw[U.out.er];exact h7.out) rfl U.out.bl)
       have r:¬ RGood s:=fun h=>by
        have T:=F.out.1 h
        have V:=offs_le k (i+1)
        rw[ordS_sum,offs_succ k i f D.out.2.1] at V
        have:=D.out.1
        omega
       go_wp2_with (first|(refine wpList_load_mid rfl 101 _ rfl R (i*2) ?_ [.pointer (some ⟨t,B,none⟩),.int .i64 f] dP ?_ ?_ ?_ ?_ ?_;rfl;exact K4.out;exact k5;exact ht;exact iPt;skip)|(refine wpList_store_mid rfl 66 _ _ rfl w.heap.size 0 zR.toArray ?_ ?_ ?_ ?_ ?_ ?_;rfl;rfl;(rw[E.out];exact S.out.1);exact iRg;exact one11 zR_one;rw[show zR.toArray.toList=zR from rfl,E.out])|fail)
       refine bodyPost_ret (results_cP 2 3 66 rfl S.out.2.1 rfl rfl uRg iRg) rfl ?_
       exact Or.inl ⟨r,S.out.2.2,rfl⟩
      ·have hq:¬ (L:Int)<(f:Int):=oM
       have hr:Hid (ad=oz+off):=ke.out oM
       go_wp2_with (first|(refine wpList_load_mid rfl 101 _ rfl R (i*2) ?_ [.pointer (some ⟨t,B,none⟩),.int .i64 f] dP ?_ ?_ ?_ ?_ ?_;rfl;exact K4.out;exact k5;exact ht;exact iPt;skip)|fail)
       rw[E.out]
       have O:(chk s k i).size=f:=by
        unfold chk
        rw[offs_succ k i f D.out.2.1,Array.size_extract,Hm.out]
        have:=D.out.1
        omega
       have HX:Hid (∀ W,Below l.heap.size l W→Holds SP.encB W gi ad (chk s k i)):=fun W X j hj=>by
        have kp:Below w.heap.size w W:=U.out.bl.trans (X.mono U.out.bl.size)
        have d:off+j<s.size:=by rw[Hm.out];omega
        have T:=(SP.Holds.below HH.out kp k0) (off+j) d
        rw[show oz+(off+j)=ad+j by have:=hr.out;omega] at T
        have e:(chk s k i)[j]! = s[off+j]!:=by
         rw[D.out.1]
         exact chk_at s k i j hj (by rw[← D.out.1];exact d)
        rw[e]
        exact T
       have kg:=slB_hiP gi ad L C f oM
       obtain ⟨nx,hl,kb⟩:=slB_loQ gi ad L C f oM oM
       have km:Hid (0<C-f→nx=oz+(off+f)):=fun h=>by have:=hl h;have:=hr.out;omega
       clear hl
       have he:=Hid.mkP O
       clear O
       refine RG.flow_draws (FR l wr.heap.size t B f gi ad L C nx (chk s k i)) kR ⟨kR,RG.certs_of ?_,fun i j _ _ kr _ _ v w w' hE hR=>FR.stab (by have:=D.out.2.2.2.2;omega) i j kr v w w' hE hR,fun i b _ hk w w' hE hB=>FR.stabB (by have:=D.out.2.2.2.2;omega) i b hk w w' hE hB⟩ (fun b=>by
        match b with
        | 0=>exact (⟨rfl,rfl,rfl,Nat.le_refl _,fun _ _=>rfl⟩:Below l.heap.size l l.drew)
        | _+1=>exact ⟨a0,a1,by have:=D.out.2.2.2.2;omega,Nat.le_refl _⟩) ?_
       ·exact ⟨RG.cf_manyP fun a W d=>⟨[(7,.pointer (some ⟨wr.heap.size,0,none⟩))],_,W,⟨d.o 7 kR,trivial⟩,kR,Below.refl _ _,rfl⟩,
         RG.cf_ld1 99 42 rfl uPtrP fun a W d=>⟨wr.heap.size,0,.pointer (some ⟨t,B,none⟩),d.n 0 42 kR kR kR,(d.b 1 kR).1,Below.refl _ _,rfl⟩,
         RG.cf_manyP fun a W d=>⟨[(0,.slice (some ⟨gi,ad,none⟩) L C)],_,W,⟨d.o 0 kR,trivial⟩,kR,Below.refl _ _,rfl⟩,
         RG.cf_manyP fun a W d=>⟨[(7,.pointer (some ⟨wr.heap.size,0,none⟩))],_,W,⟨d.o 7 kR,trivial⟩,kR,Below.refl _ _,rfl⟩,
         RG.cf_ld1 3 45 rfl uIntP fun a W d=>⟨wr.heap.size,1,.int .i64 f,d.n 3 45 kR kR kR,(d.b 1 kR).2.1,Below.refl _ _,rfl⟩,
         cf_shiP 23 44 46 rfl fun a W d=>⟨_,_,_,d.n 2 44 kR kR kR,d.n 4 46 kR kR kR,kg W,Below.refl _ _,rfl⟩,
         cf_callsP fun a W d=>⟨[(47,.slice (some ⟨gi,ad,none⟩) f C)],159,#[.slice (some ⟨gi,ad,none⟩) f C],⟨d.n 5 47 kR kR kR,trivial⟩,kR,by
          have X:Below l.heap.size l W:=d.b 0 kR
          have hc:=cloneP_c gi ad C (chk s k i) (by rw[he.out];omega) W (by have T:=U.out.bl.size;have V:=X.size;omega) (HX.out W X)
          rw[he.out] at hc
          refine hc.mono ?_
          rintro e' W' ⟨v,rfl,T,V⟩
          refine ⟨v,rfl,T,?_⟩
          have h3:=X.size
          refine (⟨?_,V.nn⟩:FrC l.heap.size (chk s k i) v W')
          rcases V.own with ⟨x0,x1|⟨g,cap,cur,x1,x2,x3⟩⟩
          ·exact ⟨x0,Or.inl x1⟩
          ·exact ⟨x0,Or.inr ⟨g,cap,cur,x1,oM,x3⟩⟩⟩,
         RG.cf_manyP fun a W d=>⟨[(0,.slice (some ⟨gi,ad,none⟩) L C)],_,W,⟨d.o 0 kR,trivial⟩,kR,Below.refl _ _,rfl⟩,
         RG.cf_manyP fun a W d=>⟨[(7,.pointer (some ⟨wr.heap.size,0,none⟩))],_,W,⟨d.o 7 kR,trivial⟩,kR,Below.refl _ _,rfl⟩,
         RG.cf_ld1 3 50 rfl uIntP fun a W d=>⟨wr.heap.size,1,.int .i64 f,d.n 8 50 kR kR kR,(d.b 1 kR).2.1,Below.refl _ _,rfl⟩,
         cf_sloP 23 49 51 rfl fun a W d=>⟨_,_,_,d.n 7 49 kR kR kR,d.n 9 51 kR kR kR,kb W,Below.refl _ _,rfl⟩,
         RG.cf_manyP fun a W d=>⟨[(43,.pointer (some ⟨t,B,none⟩))],_,W,⟨d.n 1 43 kR kR kR,trivial⟩,kR,Below.refl _ _,rfl⟩,
         cf_storeP 23 53 48 rfl rfl i22 fun a W d=>by
          have X:Below l.heap.size l W:=d.b 0 kR
          have hF:FrC l.heap.size (chk s k i) (a.eval (.tmp 48)) W:=d.n 6 48 kR kR kR
          obtain ⟨⟨old,kn⟩,ko⟩:=U.out.th _ _ D.out.2.2.1
          have V:t<l.heap.size:=by have:=D.out.2.2.2.2;omega
          obtain ⟨q,c',hv⟩:=own_slice hF.own
          refine ⟨t,B,_,old,d.n 11 53 kR kR kR,rfl,?_,?_,by rw[hv];rfl,by rw[hv];rfl,⟨_,rfl⟩,?_⟩
          ·rw[X.cell (p:=⟨t,B,none⟩) V];exact kn
          ·have:W.frozen? ⟨t,B,none⟩=l.frozen? ⟨t,B,none⟩:=by unfold World.frozen?;rw[X.block t V]
           rw[this];exact ko
          ·refine (⟨_,below_set X _ _,⟨own_keep hF.own (fun g hg=>?_),hF.nn⟩⟩:StR l t B (chk s k i) _)
           have:=(own_lt hF.own hg).1
           rw[heap_set,if_neg (by show t≠g;omega)],
         RG.cf_one 52 fun a W d=>⟨a.eval (.tmp 52),W,kR,kR,Below.refl _ _,d.n 10 52 kR kR kR⟩,trivial⟩
       ·intro V w5 hV hB
        have hS:StR l t B (chk s k i) w5:=hV 12 (Nat.lt_of_succ_le (Nat.le_of_ble_eq_true kR)) rfl
        have d:V 13=.slice (some ⟨gi,nx,none⟩) (L-f) (C-f):=hV 13 (Nat.lt_of_succ_le (Nat.le_of_ble_eq_true kR)) rfl
        obtain ⟨v,k8⟩:=U.out.step Q.out D.out.2.2.1 (by rw[D.out.2.2.2.1];exact hS)
        have K5:Hid (off+f=offs k (i+1)∧∃ vs,vs.length=i+1∧RdI w Y w5 w.heap.size R o (.slice (some ⟨A,0,none⟩) k k) (.slice (some ⟨y,0,none⟩) k k) (ordP o A 0 k y 0 k) vs (chk s k)):=by
         refine ⟨by rw[offs_succ k i f D.out.2.1,D.out.1],_,?_,k8⟩
         rw[List.length_append,D.out.2.2.2.1]
         rfl
        dsimp only[RG.putV,Nat.reduceAdd]
        simp only[Act.put,List.setIfInBounds_toArray,List.set_cons_succ,List.set_cons_zero]
        rw[d]
        clear hV hB hS d k8 U D HX
        go_wp2
        go_roundg (gk-1)
        case measure=>omega
        case rel=>exact ⟨i+1,off+f,nx,L-f,C-f,oM,rfl,rfl,oM,oM,km,K5⟩
     ·have h9:=oM
      obtain ⟨H,vs,J,G⟩:=K.out
      have kw:off=293+66*k:=by
       rw[H,show i=k+k+9 by have:=N.out;omega]
       exact offs_all k
      have U:=Hid.mkP G
      by_cases ky:0<L
      ·have d:=oM
       have S:=Hid.mkP (put11 (cs:=zR) (by rw[G.er];exact h7.out) rfl G.bl)
       have r:¬ RGood s:=fun h=>by
        have T:=F.out.1 h
        omega
       go_wp2_with (first|(refine wpList_store_mid rfl 66 _ _ rfl w.heap.size 0 zR.toArray ?_ ?_ ?_ ?_ ?_ ?_;rfl;rfl;exact S.out.1;exact iRg;exact one11 zR_one;rw[show zR.toArray.toList=zR from rfl])|fail)
       refine bodyPost_ret (results_cP 2 3 66 rfl S.out.2.1 rfl rfl uRg iRg) rfl ?_
       exact Or.inl ⟨r,S.out.2.2,rfl⟩
      ·obtain rfl:L=0:=oM
       have D:RGood s:=F.out.2 oM
       obtain ⟨cs,d,E,k6⟩:=rd_cells G (by rw[J];have:=N.out;omega)
       have S:=Hid.mkP (put11 (cs:=cs) (by rw[G.er];exact h7.out) d G.bl)
       have HC:=Hid.mkP E
       have X:=Hid.mkP k6
       have l:=Hid.mkP d
       have KR:Hid (RdR w s k (.returned (.tuple #[.agg cs.toArray,.int .i64 0])) (wr.setCells w.heap.size 0 cs)):=Or.inr ⟨D,S.out.2.2,Y,wr,R,o,A,y,vs,cs,by rw[J];have:=N.out;omega,Q.out,G,d,E,rfl,rfl⟩
       obtain ⟨dR,V,O⟩:=Option.map_eq_some_iff.1 uRg
       go_wp2_with (first|(refine wpList_load_mid rfl 66 _ rfl o 0 ?_ cs dR ?_ ?_ ?_ ?_ ?_;rfl;exact HC.out;exact V;exact O;(rw[l.out];exact iRg);skip)|(refine wpList_store_mid rfl 66 _ _ rfl w.heap.size 0 cs.toArray ?_ ?_ ?_ ?_ ?_ ?_;rfl;rfl;exact S.out.1;(rw[List.size_toArray,l.out];exact iRg);exact one11 X.out;rw[show cs.toArray.toList=cs from rfl])|fail)
       refine bodyPost_ret (results_cP 2 3 66 rfl S.out.2.1 rfl rfl uRg (by rw[l.out];exact iRg)) rfl ?_
       exact KR.out
  ·have kd:=oM
   have r:¬ RGood s:=fun h=>h6 (by rw[hk.out];exact h.2.1)
   go_enter Tryz.func106,Tryz.ntmps106
   go_wp2_with (first|(refine wpList_opP (v:=.pointer (some ⟨w.heap.size,0,none⟩)) (w':=z) rfl (.alloc 66) rfl ?_ ?_;(rw[← I.out];kernel_rfl))|(refine wpList_store_mid rfl 66 _ _ rfl w.heap.size 0 zR.toArray ?_ ?_ ?_ ?_ ?_ ?_;rfl;rfl;exact P1.out.1;exact iRg;exact one11 zR_one;rw[show zR.toArray.toList=zR from rfl])|fail)
   refine bodyPost_ret (results_cP 2 3 66 rfl P1.out.2.1 rfl rfl uRg iRg) rfl ?_
   exact Or.inl ⟨r,P1.out.2.2,rfl⟩
 ·have d:n=0:=oM
  have r:¬ RGood s:=fun h=>h0 (by rw[hn.out];exact h.1)
  subst d
  go_enter Tryz.func106,Tryz.ntmps106
  go_wp2_with (first|(refine wpList_opP (v:=.pointer (some ⟨w.heap.size,0,none⟩)) (w':=z) rfl (.alloc 66) rfl ?_ ?_;(rw[← I.out];kernel_rfl))|(refine wpList_store_mid rfl 66 _ _ rfl w.heap.size 0 zR.toArray ?_ ?_ ?_ ?_ ?_ ?_;rfl;rfl;exact P1.out.1;exact iRg;exact one11 zR_one;rw[show zR.toArray.toList=zR from rfl])|fail)
  refine bodyPost_ret (results_cP 2 3 66 rfl P1.out.2.1 rfl rfl uRg iRg) rfl ?_
  exact Or.inl ⟨r,P1.out.2.2,rfl⟩
def RdG (w:World) (s:SP.Bs) (k:Nat) (e:Ending) (W:World):Prop:=Below w.heap.size w W∧∃ (p:Rg) (d c:List Value) (B:Nat),e=.returned (.tuple #[.agg p.cs.toArray,.int .i64 0])∧VL W p.l.q p.l.n d∧VL W p.r.q p.r.n c∧p.l.n=k∧p.r.n=k∧(∀ b o,p.l.q=some ⟨b,o,none⟩→0<k→w.heap.size≤b)∧(∀ b o,p.r.q=some ⟨b,o,none⟩→0<k→w.heap.size≤b)∧w.heap.size≤B∧B≤W.heap.size∧(∀ j,j<k+k+9→∃ u,(ordV p d c)[j]? = some u∧FrC B (chk s k j) u W)∧(∀ (j i:Nat) u f g,j<i→(ordV p d c)[j]? = some u→(ordV p d c)[i]? = some f→u.ownBlock=some g→f.ownBlock≠some g)∧∃ gl l,p.l.q=some ⟨gl,0,none⟩∧p.r.q=some ⟨l,0,none⟩
theorem cell_bk7 {W W':World} {g:Nat} (h:W'.heap[g]? = W.heap[g]?) (j:Nat):W'.cell? ⟨g,j,none⟩=W.cell? ⟨g,j,none⟩∧W'.frozen? ⟨g,j,none⟩=W.frozen? ⟨g,j,none⟩:=by
 unfold World.cell? World.frozen?
 rw[h]
 exact ⟨rfl,rfl⟩
theorem split_vs {k:Nat} (vs:List Value) (h:vs.length=k+k+9):∃ hd d c b,vs=hd++d++c++b∧hd.length=7∧d.length=k∧c.length=k∧b.length=2:=by
 refine ⟨vs.take 7,(vs.drop 7).take k,((vs.drop 7).drop k).take k,((vs.drop 7).drop k).drop k,?_,?_,?_,?_,?_⟩
 ·rw[List.append_assoc,List.take_append_drop,List.append_assoc,List.take_append_drop,List.take_append_drop]
 all_goals (simp only[List.length_take,List.length_drop];omega)
theorem len2:∀ (l:List Value),l.length=2→∃ k b,l=[k,b]
 | [k,b],_=>⟨k,b,rfl⟩
theorem len7:∀ (l:List Value),l.length=7→∃ d c b z3 e f k,l=[d,c,b,z3,e,f,k]
 | [d,c,b,z3,e,f,k],_=>⟨d,c,b,z3,e,f,k,rfl⟩
theorem len11:∀ (l:List Value),l.length=11→∃ e d c z3 f g b z7 j i k,l=[e,d,c,z3,f,g,b,z7,j,i,k]
 | [e,d,c,z3,f,g,b,z7,j,i,k],_=>⟨e,d,c,z3,f,g,b,z7,j,i,k,rfl⟩
theorem rdr_good {w W:World} {s:SP.Bs} {k:Nat} {e:Ending} (h:RdR w s k e W) (Q:RGood s):RdG w s k e W:=by
 rcases h with ⟨h,-⟩|⟨-,hb,X,r,gq,G,H,D,vs,cs,hl,T,A,hc,hr,rfl,rfl⟩
 ·exact absurd Q h
 have hz:=T.r
 have h3:=A.sz
 have kp:∀ b,b<r.heap.size→b≠w.heap.size→(r.setCells w.heap.size 0 cs).heap[b]? = r.heap[b]?:=fun b C N=>World.heap_setCells_other r _ 0 cs C N
 have hM:(ordP G H 0 k D 0 k).length=k+k+9:=by rw[← ordS_len k k,← ordP_S G H 0 k D 0 k,List.length_map]
 have z:∀ (j:Nat) u,vs[j]? = some u→∃ x,(ordP G H 0 k D 0 k)[j]? = some x∧r.cell? x.1=some u:=fun j u l=>by
  obtain ⟨x,hx⟩:∃ x,(ordP G H 0 k D 0 k)[j]? = some x:=⟨_,List.getElem?_eq_getElem (by have:=(List.getElem?_eq_some_iff.1 l).1;omega)⟩
  exact ⟨x,hx,A.st j x u hx l⟩
 have U:∀ (j:Nat) u,vs[j]? = some u→∃ t:Sv,u=t.v:=fun j u l=>by
  obtain ⟨q,c,hv⟩:∃ q c,u=.slice q (Array.size (chk s k j)) c:=by
   rcases (A.ow j u l).own with ⟨-,⟨rfl,i⟩|⟨g,cap,cur,rfl,-⟩⟩
   ·exact ⟨none,0,by rw[i]⟩
   ·exact ⟨_,_,rfl⟩
  exact ⟨⟨q,_,c⟩,hv⟩
 have hF:∀ (j:Nat) u,vs[j]? = some u→FrC X.heap.size (chk s k j) u (r.setCells w.heap.size 0 cs):=fun j u l=>by
  have C:=A.ow j u l
  exact ⟨own_keep C.own (fun g Q=>kp g (own_lt C.own Q).2.1 (by have:=(own_lt C.own Q).1;omega)),C.nn⟩
 have S:=A.ne
 have h4:=(below_setCells (B:=0) (b:=w.heap.size) (Nat.zero_le _) cs 0 r (Below.refl 0 r)).size
 have L:∀ (g V:Nat) (ys:List Value),ys.length=k→(∀ j,j<k→∃ u x,ys[j]? = some u∧vs[V+j]? = some u∧(ordP G H 0 k D 0 k)[V+j]? = some x∧x.1=⟨g,j,none⟩)→VL (r.setCells w.heap.size 0 cs) (some ⟨g,0,none⟩) k ys∧(0<k→w.heap.size≤g):=fun g V ys hn P=>by
  refine ⟨⟨hn,fun e=>(by cases e),?_,fun u l=>?_⟩,fun K=>?_⟩
  ·by_cases K:k=0
   ·exact Or.inl (List.length_eq_zero_iff.1 oM)
   ·obtain ⟨u0,F,-,-,m,E⟩:=P 0 oM
    obtain ⟨b,o,i,C,-,-,N,-⟩:=T.ad _ F m
    rw[E] at i
    injection i with i _ _
    subst i
    refine Or.inr ⟨g,0,rfl,oM,fun j u p=>?_⟩
    obtain ⟨J,M,n,v,O,I⟩:=P j (by have:=(List.getElem?_eq_some_iff.1 p).1;omega)
    rw[p] at n
    obtain rfl:=Option.some.inj n
    rw[Nat.zero_add,(cell_bk7 (kp g oM N) j).1,← I]
    exact A.st _ M u O v
  ·obtain ⟨j,p⟩:=List.getElem?_of_mem l
   obtain ⟨J,M,n,v,-⟩:=P j (by have:=(List.getElem?_eq_some_iff.1 p).1;omega)
   rw[p] at n
   obtain rfl:=Option.some.inj n
   obtain ⟨t,rfl⟩:=U _ u v
   rfl
  ·obtain ⟨u0,F,-,-,m,E⟩:=P 0 K
   obtain ⟨b,o,i,C,N,-⟩:=T.ad _ F m
   rw[E] at i
   injection i with i _ _
   subst i
   exact N
 obtain ⟨hd,F,E,J,rfl,O,R,n3,n4⟩:=split_vs vs hl
 have Y:=L H 7 F R (fun j p=>by
  obtain ⟨u,l⟩:∃ u,F[j]? = some u:=⟨_,List.getElem?_eq_getElem oM⟩
  have hv:(hd++F++E++J)[7+j]? = some u:=by
   rw[List.append_assoc,List.append_assoc,List.getElem?_append_right oM,O,Nat.add_sub_cancel_left,List.getElem?_append_left oM]
   exact l
  obtain ⟨x,hx,-⟩:=z _ u hv
  refine ⟨u,x,l,hv,hx,?_⟩
  rcases ordP_cases hx with ⟨n,m⟩|⟨n,i,m⟩|⟨n,i,m⟩|⟨n,i,m⟩
  ·omega
  ·rw[m,Nat.add_sub_cancel_left];congr 1;omega
  ·omega
  ·omega)
 have V2:=L D (7+k) E n3 (fun j p=>by
  obtain ⟨u,l⟩:∃ u,E[j]? = some u:=⟨_,List.getElem?_eq_getElem oM⟩
  have hv:(hd++F++E++J)[7+k+j]? = some u:=by
   rw[List.append_assoc,List.getElem?_append_right (by rw[List.length_append];omega),List.length_append,O,R,Nat.add_sub_cancel_left,List.getElem?_append_left oM]
   exact l
  obtain ⟨x,hx,-⟩:=z _ u hv
  refine ⟨u,x,l,hv,hx,?_⟩
  rcases ordP_cases hx with ⟨n,m⟩|⟨n,i,m⟩|⟨n,i,m⟩|⟨n,i,m⟩
  ·omega
  ·omega
  ·rw[m];congr 1;omega
  ·omega)
 have Z:∀ j,j<2→∀ u,J[j]? = some u→r.cell? ⟨G,9+j,none⟩=some u∧∃ t:Sv,u=t.v:=fun j p u l=>by
  have hv:(hd++F++E++J)[7+k+k+j]? = some u:=by
   rw[List.getElem?_append_right (by rw[List.length_append,List.length_append];omega),List.length_append,List.length_append,O,R,n3,Nat.add_sub_cancel_left]
   exact l
  refine ⟨?_,U _ u hv⟩
  obtain ⟨x,hx,v⟩:=z _ u hv
  rcases ordP_cases hx with ⟨n,m⟩|⟨n,i,m⟩|⟨n,i,m⟩|⟨n,i,m⟩
  ·omega
  ·omega
  ·omega
  ·rw[m,show 7+k+k+j-7-k-k=j by omega] at v
   exact v
 have I:∀ j,j<7→∀ u,hd[j]? = some u→r.cell? ⟨G,j,none⟩=some u∧∃ t:Sv,u=t.v:=fun j p u l=>by
  have hv:(hd++F++E++J)[j]? = some u:=by
   rw[List.append_assoc,List.append_assoc,List.getElem?_append_left oM]
   exact l
  refine ⟨?_,U _ u hv⟩
  obtain ⟨x,hx,v⟩:=z _ u hv
  rcases ordP_cases hx with ⟨n,m⟩|⟨n,i,m⟩|⟨n,i,m⟩|⟨n,i,m⟩
  ·rw[m] at v
   exact v
  ·omega
  ·omega
  ·omega
 have i:∀ j u,cs[j]? = some u→r.cell? ⟨G,j,none⟩=some u:=fun j u p=>by
  have:=hr j u p
  rw[Nat.zero_add] at this
  exact this
 have c7:=A.c7
 have c8:=A.c8
 obtain ⟨v0,v1,v2,v3,v4,v5,v6,rfl⟩:=len7 hd O
 obtain ⟨x,y,rfl⟩:=len2 J n4
 obtain ⟨z0,z1,z2,z3,z4,z5,z6,z7,z8,z9,m,rfl⟩:=len11 cs hc
 obtain ⟨q0,a,rfl⟩:=I 0 oM v0 rfl
 obtain ⟨q1,b,rfl⟩:=I 1 oM v1 rfl
 obtain ⟨q2,c,rfl⟩:=I 2 oM v2 rfl
 obtain ⟨q3,d,rfl⟩:=I 3 oM v3 rfl
 obtain ⟨q4,e,rfl⟩:=I 4 oM v4 rfl
 obtain ⟨q5,f,rfl⟩:=I 5 oM v5 rfl
 obtain ⟨q6,g,rfl⟩:=I 6 oM v6 rfl
 obtain ⟨q9,M,rfl⟩:=Z 0 oM x rfl
 obtain ⟨n,v,rfl⟩:=Z 1 oM y rfl
 obtain rfl:=Option.some.inj ((i 0 z0 rfl).symm.trans q0)
 obtain rfl:=Option.some.inj ((i 1 z1 rfl).symm.trans q1)
 obtain rfl:=Option.some.inj ((i 2 z2 rfl).symm.trans q2)
 obtain rfl:=Option.some.inj ((i 3 z3 rfl).symm.trans q3)
 obtain rfl:=Option.some.inj ((i 4 z4 rfl).symm.trans q4)
 obtain rfl:=Option.some.inj ((i 5 z5 rfl).symm.trans q5)
 obtain rfl:=Option.some.inj ((i 6 z6 rfl).symm.trans q6)
 obtain rfl:=Option.some.inj ((i 7 z7 rfl).symm.trans c7)
 obtain rfl:=Option.some.inj ((i 8 z8 rfl).symm.trans c8)
 obtain rfl:=Option.some.inj ((i 9 z9 rfl).symm.trans q9)
 obtain rfl:=Option.some.inj ((i 10 m rfl).symm.trans n)
 refine ⟨hb,⟨a,b,c,d,e,f,g,⟨some ⟨H,0,none⟩,k,k⟩,⟨some ⟨D,0,none⟩,k,k⟩,M,v⟩,F,E,X.heap.size,rfl,Y.1,V2.1,rfl,rfl,fun b o e K=>by injection e with e;injection e with e _ _;subst e;exact Y.2 K,fun b o e K=>by injection e with e;injection e with e _ _;subst e;exact V2.2 K,oM,oM,fun j p=>?_,S,H,D,rfl,rfl⟩
 obtain ⟨u,l⟩:∃ u,([a.v,b.v,c.v,d.v,e.v,f.v,g.v]++F++E++[M.v,v.v])[j]? = some u:=⟨_,List.getElem?_eq_getElem oM⟩
 exact ⟨u,l,hF j u l⟩
theorem own_elQ {W:World} {B:Nat} {v:Value} {b:SP.Bs} (h:W.ownsRow B 5 1 v b.size (bC b)) (d:0<b.size):ElQ (B≤·) b.size W v b:=by
 rcases id h with ⟨-,⟨-,f⟩|⟨g,cap,cur,rfl,k,e,c,-⟩⟩
 ·omega
 ·exact ⟨g,cap,rfl,c,rfl,k,(own_lt h rfl).2.1,own_holdsQ h⟩
structure RdB (B t:Nat) (BB:List SP.Bs) (e:Value) (W:World):Prop where
 ex:∃ (p:Rg) (l1 l2:List Value),e=.agg p.cs.toArray∧VL W p.l.q p.l.n l1∧VL W p.r.q p.r.n l2∧p.l.n=t∧p.r.n=t∧(∃ gl gr,p.l.q=some ⟨gl,0,none⟩∧p.r.q=some ⟨gr,0,none⟩∧(0<t→B≤gl∧B≤gr))∧∀ j,j<t+t+9→∃ u b,(ordV p l1 l2)[j]? = some u∧BB[j]? = some b∧ElQ (B≤·) b.size W u b
theorem read_cat {t:Nat} {BB:List SP.Bs} (k:GoodP t t BB) (W:World) (g o c:Nat) (n:Pt W (.slice (some ⟨g,o,none⟩) (Array.size (catI t BB (t+t+9))) c) (catI t BB (t+t+9))) (x:Array.size (catI t BB (t+t+9))≤c):Calls Tryz.prog 106 #[.slice (some ⟨g,o,none⟩) (Array.size (catI t BB (t+t+9))) c] W (Ret fun e W'=>Below W.heap.size W W'∧∃ e',e=.tuple #[e',.int .i64 0]∧RdB W.heap.size t BB e' W'):=by
 have M:=k.2.1
 have N:=good_len k
 have w:=catI_sz k (t+t+9) (Nat.le_refl _)
 rw[offs_all] at w
 obtain ⟨d,hG⟩:=cat_good k
 have m:∀ j b,BB[j]? = some b→chk (catI t BB (t+t+9)) t j=b:=fun j b=>chk_cat k
 generalize catI t BB (t+t+9)=s at w d hG m n x
 obtain ⟨q,Q,e,h|⟨P,O,D,y,A⟩⟩:=n
 ·omega
 injection e with e1 e2 e3
 rw[D] at e1
 injection e1 with e1
 injection e1 with e1 e4 e5
 subst e1 e4
 have:=sReadO_c s g o c oM x oM W y A
 rw[d] at this
 refine this.mono fun e W' h=>?_
 obtain ⟨E,p,K,H,B,rfl,v1,v2,z,C,F,G,I,-,a,-,gl,r,l,i⟩:=rdr_good h hG
 refine ⟨_,rfl,E,_,rfl,⟨p,K,H,rfl,v1,v2,z,C,⟨gl,r,l,i,fun d=>⟨F gl 0 l d,G r 0 i d⟩⟩,fun j J=>?_⟩⟩
 obtain ⟨u,L,hf⟩:=a j J
 have f:BB[j]? = some BB[j]:=List.getElem?_eq_getElem oM
 refine ⟨u,_,L,f,?_⟩
 have hf:=hf.own
 rw[m j _ f] at hf
 have v:=List.mem_of_getElem? (good_at k f)
 unfold ordS at v
 simp only[List.mem_append,List.mem_cons,List.not_mem_nil,or_false,List.mem_replicate] at v
 exact (own_elQ hf (by omega)).mono2 fun g _ k=>Nat.le_trans I k
end
section
open Go.RowKit Go.Sort Go.Deep SPA
variable {P:Nat} [NeZero P] {N:Nat}
def fsB (V:Nat→Bs):Nat→Bs
 | 0=>#[]
 | s+1=>fsB V s++V s
theorem fsB_sz {V:Nat→Bs} {m:Nat} (h:∀ s,(V s).size=m):∀ s,(fsB V s).size=m*s
 | 0=>rfl
 | s+1=>by
  rw[show fsB V (s+1)=fsB V s++V s from rfl,Array.size_append,fsB_sz h s,h,Nat.mul_succ]
theorem amN_lt {a b:Nat} (c:a<4294967296) (k:b<4294967296):∀ s,amN s a b<4294967296
 | 0=>c
 | _+1=>k
theorem row_eq {W W':World} {k:Nat} {vs:List Value} (h:Row W k vs) (c:W.heap.size≤W'.heap.size) (e:W'.heap[k]? = W.heap[k]?):Row W' k vs:=by
 refine ⟨Nat.lt_of_lt_of_le h.1 c,fun j u b=>?_,fun j b=>?_⟩
 ·have:=h.2.1 j u b
  unfold World.cell? at this ⊢
  rw[e]
  exact this
 ·have:=h.2.2 j b
  unfold World.cell? World.frozen? at this ⊢
  rw[e]
  exact this
theorem bsl8 (x:Int) (w:World):(Instr.buildSlice 23 1 #[(0,.int .u8 x)]).run Tryz.prog w=.ok (.slice (some ⟨w.heap.size,0,none⟩) 1 1) (w.alloc (.cells [Value.int .u8 x].toArray 5)):=kR
theorem bsl83 (k c1 c e c2 d f b:Nat) (w:World):(Instr.buildSlice 27 3 #[(0,.slice (some ⟨k,0,none⟩) 1 c1),(1,.slice (some ⟨c,0,none⟩) e c2),(2,.slice (some ⟨d,0,none⟩) f b)]).run Tryz.prog w=.ok (.slice (some ⟨w.heap.size,0,none⟩) 3 3) (w.alloc (.cells [Value.slice (some ⟨k,0,none⟩) 1 c1,Value.slice (some ⟨c,0,none⟩) e c2,Value.slice (some ⟨d,0,none⟩) f b].toArray 23)):=kR
def pElQ (b m:Nat) (B:Bs):RG.S1:=⟨fun x W=>ElQ (b≤·) m W x B,fun _ _ _ k h=>h.keep (Kq.of_below k)⟩
theorem PrT.below {T:Bs} {e:Value} {w w':World} (h:PrT T e w) (b:Below w.heap.size w w'):PrT T e w':=⟨h.cs,fun d W k us vs g c f=>h.put d W k us vs (b.trans (g.mono b.size)) c f⟩
def pPrT (T:Bs):RG.S1:=⟨fun x W=>∃ e',x=.tuple #[e',.int .i64 0]∧PrT T e' W,fun _ _ _ k ⟨e',c,b⟩=>⟨e',c,b.below k⟩⟩
def pPrE (T:Bs):RG.S1:=⟨fun x W=>PrT T x W,fun _ _ _ k h=>h.below k⟩
theorem ElQ.part {Q:Nat→Prop} {W:World} {x:Value} {b:Bs} (h:ElQ Q 32 W x b):∃ q c,x=.slice q 32 c∧SP.PartOk W x b.toList:=by
 obtain ⟨k,c,rfl,f,e,-,-,d⟩:=h
 exact ⟨_,_,rfl,some ⟨k,0,none⟩,k,0,c,b,by rw[e],rfl,oM,oM,Or.inr ⟨rfl,d⟩⟩
theorem written_c (O:Ord N) (k a b i:Nat) (hi:i<4294967296) (ha:a<4294967296) (p:b<4294967296) (D:Bs) (hy:D.size=32) (n:Option Addr) (sc:Nat) (V T:Nat→Bs) (hV:∀ s,(V s).size=33) (hT:∀ s,(T s).size=623) (hC:∀ s,Gives 14 #[nv (amN s a b),nv (blN N D s i)] (pvl (V s)))
 (km:∀ s (n:Option Addr) (sc:Nat) (v1:Value) (w:World),Arg w v1 (bx (blN N D s i))→SP.PartOk w (.slice n 32 sc) (psB D s i).toList→Calls Tryz.prog 20 #[.int .u64 (amN s a b:Int),v1,.int .i64 32,.slice n 32 sc] w (Ret fun e w'=>Below w.heap.size w w'∧∃ e',e=.tuple #[e',.int .i64 0]∧PrT (T s) e' w'))
 (w:World) (hs:SP.PartOk w (.slice n 32 sc) D.toList) :
 Calls Tryz.prog 7 #[.slice n 32 sc,.int .u32 i,.agg (opC k a b).toArray] w (Ret fun e w'=>Below w.heap.size w w'∧ElQ (w.heap.size≤·) 1313 w' e (#[UInt8.ofNat k]++fsB V 2++fsB T 2)):=by
 refine hG w.heap.size fun k5 h9=>?_
 refine hG (w.alloc (.cells (opC k a b).toArray 26)) fun w1 hn=>?_
 have K1:=mk1 ((Mp.start w).new h9 hn)
 have B:=boxOp k a b w
 rw[h9.out,hn.out] at B
 have HS:=mk1 (fun W=>sides_c O W)
 have HA:=mk1 (am_c k a b)
 have HB:=mk1 (fun s (W:World) (p:Below w.heap.size w W)=>bld_c O s i hi D hy n sc W (hs.below p))
 have HP:=mk1 (fun s (W:World) (p:Below w.heap.size w W)=>psd_c (N:=N) s i hi D hy n sc W (hs.below p))
 have HO:=mk1 (fun s=>ofN_c (amN s a b) (Nat.lt_trans (amN_lt ha p s) dC))
 have K:=mk3 hC km (And.intro hV hT)
 obtain ⟨vo,kw⟩:=hE (Value.agg (opC k a b).toArray)
 rw[kw.out] at B ⊢
 go_enter Tryz.func7,Tryz.ntmps7
 refine wp_seq ?_
 refine PW.begin ?_
 refine PW.ns B ?_
 refine PW.va (.slice none 0 0) ?_
 refine PW.dn ?_
 refine wp_seq ?_
 refine PW.begin ?_
 refine PW.va (.slice none 0 0) ?_
 refine PW.va (.slice none 0 0) ?_
 refine PW.dn ?_
 refine wp_seq ?_
 refine wp_seq ?_
 refine PW.begin ?_
 refine PW.ca (HS.out w1) ?_
 rintro e w3 ⟨h4,g,rfl,hg,kd⟩
 refine PW.va (.int .i64 2) ?_
 refine PW.va (.int .i64 0) ?_
 refine PW.dn ?_
 have H:=mk1 (K1.out.add h4 kd hg)
 have W0:Hid (Wt w3 w3 (.slice none 0 0) (.slice none 0 0) (fsB V 0) (fsB T 0)):=⟨Below.refl _ _,⟨rfl,Or.inl ⟨rfl,rfl⟩⟩,⟨rfl,Or.inl ⟨rfl,rfl⟩⟩,fun g e=>by cases e⟩
 refine wp_block ?_
 go_loopg [7,8,19] 2 (fun gk s7 s8 s19 wr=>∃ s:Nat,s+gk=2∧s19=.int .i64 s∧Hid (Wt w3 wr s7 s8 (fsB V s) (fsB T s)))
 case atStart=>exact ⟨0,oM,rfl,W0⟩
 case round =>
  obtain ⟨s,bc,rfl,J⟩:=hrel
  by_cases hs:s<2
  ·have k1:(s:Int)<2:=oM
   have kk:IntKind.i64.wrap ((s:Int)+1)=((s+1:Nat):Int):=by rw[IntKind.wrap_i64];omega
   refine hG wr.heap.size fun f G=>?_
   refine hG (wr.alloc (.cells z7.toArray 61)) fun w4 t=>?_
   refine hG (w4.setCells f 0 (sdC N s)) fun L q=>?_
   have M4:=mk1 ((Mp.start wr).new G t)
   have l:=mk1 (M4.out.put 0 q)
   have R0:=sd_at hs ((H.out.at_ 1).below J.out.bl)
   obtain ⟨vs,h6⟩:=hE (Value.agg (sdC N s).toArray)
   have kb:=fun W p=>HB.out s W p
   have k6:=K.out.1 s
   have Y:=fun n sc v1 W=>K.out.2.1 s n sc v1 W
   have k3:=blN_lt O D s i
   have S:(psB D s i).size=32:=derH_size _ _ _ _
   have hu:=fun W p=>HP.out s W p
   generalize blN N D s i=m at kb k6 Y k3
   generalize psB D s i=ps at Y hu S
   have H1:=mk3 kb k6 (And.intro Y hu)
   refine wp_seq ?_
   refine PW.begin ?_
   refine PW.va (.bool (decide ((s:Int)<2))) ?_
   rw[decide_eq_true k1]
   refine PW.dn ?_
   refine wp_seq ?_
   refine wp_cond_true rfl ?_
   refine wp_skip ?_
   refine wp_seq ?_
   refine wp_block ?_
   refine wp_seq ?_
   refine PW.begin ?_
   refine PW.ns (idxSd g s hs wr) ?_
   refine PW.ro R0 h6 uSd iSd ?_
   refine PW.al G t ?_
   refine PW.st q h6 (M4.out.th 0) iSd (sd_one s) ?_
   refine PW.dn ?_
   refine wp_seq ?_
   have k9:=mk1 (J.out.grow l.out.bl)
   have he:=mk1 (H.out.bl.trans (k9.out.bl.mono H.out.bl.size))
   obtain ⟨U,F⟩:=hE (L.heap.size)
   have E:∀ {W},Below L.heap.size L W→U≤W.heap.size:=fun h=>F.out ▸ h.size
   refine (RG.gwL [RG.pE (.pointer (some ⟨f,2,none⟩)),RG.pE (.func (.func (sdA s)) #[] #[]),RG.pE (.agg (opC k a b).toArray),RG.pE (.int .u64 (amN s a b:Int)),RG.pE (.agg (sdC N s).toArray),RG.pE (.slice n 32 sc),RG.pE (.int .u32 i),RG.pE (nv (m)),RG.pN U (RG.z 4)] (fun W=>Below L.heap.size L W) (fun W W' p h=>h.trans (p.mono h.size))).tail2 9 kR kR kR ⟨
    RG.gP 10 (.pointer (some ⟨f,0,none⟩)) (.pointer (some ⟨f,2,none⟩)),
    RG.gw_l1 59 0 23 f 2 (.func (.func (sdA s)) #[] #[]) uFnA (fun x W h=>h) (fun W d=>((l.out.at_ 0).below d).2.1 2 _ rfl) (fun _=>rfl),
    RG.gLo (cs:=opC k a b) 5 (fun W d=>(((H.out.at_ 0).below k9.out.bl).below d).2.1) uOp iOp,
    RG.gw_cv 1 24 2 25 (sdA s) (cf_sd s) (fun x W h=>h) (fun y W A d=>by
     obtain rfl:y=.agg (opC k a b).toArray:=A
     exact HA.out s W),
    RG.gLo (cs:=sdC N s) 10 (fun W d=>((l.out.at_ 0).below d).2.1) uSd iSd,
    RG.gP 0 (.slice n 32 sc) (.slice n 32 sc),
    RG.gP 1 (.int .u32 i) (.int .u32 i),
    RG.gw_c3 4 27 5 28 6 29 18 (fun x y z=>#[x,y,z]) (fun x y z W A e2 e3 d=>by
     obtain rfl:x=.agg (sdC N s).toArray:=A
     obtain rfl:y=.slice n 32 sc:=e2
     obtain rfl:z=.int .u32 i:=e3
     exact H1.out.1 W (he.out.trans (d.mono he.out.size))),
    RG.gw_a (RG.z 4) 44 (fun W W' h d=>⟨_,rfl,E d,h⟩),trivial⟩ ⟨rfl,rfl,rfl,Nat.le_refl _,fun _ _=>rfl⟩ ?_
   intro Vv w6 hR d
   have e0:=hR 3 dC
   have A:=hR 7 dC
   obtain ⟨C,e2,kt,hr⟩:=hR 8 dC
   dsimp only[RG.putV,Nat.reduceAdd,List.take,List.drop]
   rw[e0,A,e2]
   have b7:=mk1 hr
   refine hG (w6.setCells C 0 (wn (m))) fun w7 h7=>?_
   have M6:=mk1 (l.out.add d hr (by rw[F.out];exact kt))
   have M7:=mk1 (M6.out.put 1 h7)
   obtain ⟨vb,I⟩:=hE (nv (m))
   rw[I.out]
   refine PW.va (.int .u64 (amN s a b:Int)) ?_
   refine PW.st h7 I (M6.out.th 1) i40 (wn_one _) ?_
   refine PW.dn ?_
   have b3:=mk1 (J.out.grow M7.out.bl)
   obtain ⟨va,k8⟩:=hE (nv (amN s a b))
   obtain ⟨vp,ka⟩:=hE (pvl (V s))
   have kx:Hid (∀ W,Calls Tryz.prog 15 #[.int .u64 (amN s a b:Int)] W (Ret fun e w'=>Below W.heap.size W w'∧e=va)):=by rw[← k8.out];exact HO.out s
   have kf:Hid (∀ W,Calls Tryz.prog 14 #[va,vb] W (Ret fun e w'=>Below W.heap.size W w'∧e=vp)):=by rw[← k8.out,← I.out,← ka.out];exact H1.out.2.1
   have ke:Hid (∀ W,Calls Tryz.prog 19 #[vp] W (Ret fun e w'=>Below W.heap.size W w'∧ElQ (W.heap.size≤·) 33 w' e (V s)∧∃ g,e=r33 g)):=by rw[← ka.out];exact fun W=>ptBytesQ_c (K.out.2.2.1 s) W
   have M:∀ g,wr.heap.size≤g→u7.ownBlock≠some g:=fun g hg e=>by have:=(own_lt J.out.oA e).2.1;omega
   have k7:wr.heap.size≤f:=by rw[G.out];exact Nat.le_refl _
   have ht:=(M7.out.lt (g:=C) (by simp)).1
   refine wp_seq ?_
   refine AW.beg 6 6 ⟨fun W=>Row W f (sdC N s)∧Row W C (wn (m)),fun W W' p h=>⟨h.1.below p,h.2.below p⟩,false⟩ ⟨M7.out.drew.at_ 0,M7.out.drew.at_ 1⟩ ?_
   refine AW.mv 0 ?_
   refine AW.mv 1 ?_
   refine AW.ro 3 (fun W h=>h.2.2.1) I rSc nSc ?_
   refine AW.gi 2 (fun _=>kx.out _) fun W1 kj=>?_
   refine AW.gi 4 (fun _=>kf.out _) fun W2 kh=>?_
   refine AW.ca 5 (fun _=>ke.out _) (fun e w' h=>h.1) ?_
   rintro e W3 ⟨h4,b2,ky,rfl⟩
   have kr:=(((b3.out.grow (show Below w7.heap.size w7 w7.drew from ⟨rfl,rfl,rfl,Nat.le_refl _,fun _ _=>rfl⟩)).grow kj).grow kh).grow h4
   obtain ⟨g',c',e',-,-,-,-,hH⟩:=b2
   obtain rfl:ky=g':=by
    unfold r33 at e'
    injection e' with e' _ _
    injection e' with e'
    injection e' with e' _ _
   have kc:=K.out.2.2.1 s
   have hf:=fsB_sz K.out.2.2.1 s
   obtain ⟨v7,W4,r1,ku,hm,hq⟩:=kr.app (c:=33) hH (by rw[hf,kc];omega)
   rw[kc] at r1
   refine AW.nw 6 r1 (fun hJ=>⟨row_eq hJ.1 hm (hq f hJ.1.1 (M f k7)),row_eq hJ.2 hm (hq C hJ.2.1 (M C ht))⟩) ?_
   refine AW.nx 7 v7 ?_
   refine AW.dn fun hJ=>?_
   have hc:=mk1 ku
   have RJ:=mk1 hJ
   have b4:=mk1 (H.out.bl.trans (hc.out.bl.mono H.out.bl.size))
   obtain ⟨U,F⟩:=hE (W4.heap.size)
   have E:∀ {W},Below W4.heap.size W4 W→U≤W.heap.size:=fun h=>F.out ▸ h.size
   refine wp_seq (P:=Tryz.prog) ?_
   refine (RG.gwL [RG.pE (.int .u64 (amN s a b:Int)),RG.pE (nv m),pElQ U 32 (bx m),RG.pE (.agg (sdC N s).toArray),RG.pE (.slice n 32 sc),RG.pE (.int .u32 i),pElQ U 32 (ps),pPrT (T s),pPrT (T s),pPrE (T s),RG.pE (.int .i64 0),RG.pN U z11] (fun W=>Below W4.heap.size W4 W) (fun W W' p h=>h.trans (p.mono h.size))).late 12 [10] (fun j hj=>by
    obtain rfl:=List.mem_singleton.1 hj
    exact RG.late1 13 8 38 fun v W ⟨e',u,_⟩=>⟨.int .i64 0,rfl,fun o ho W'=>by
     cases ho
     rw[u]
     kernel_rfl⟩) (RG.als_of [11] ⟨RG.al1 z11 66 pN_lt,trivial⟩) kR kR kR ⟨
    RG.gO 11 (.int .u64 (amN s a b:Int)),
    RG.gLo (cs:=wn m) 12 (fun W d=>(RJ.out.2.below d).2.1) rSc nSc,
    RG.gw_c1 1 40 10 (fun x=>#[x]) (fun x W A d=>by
     obtain rfl:x=nv m:=A
     exact (scBytesQ_c O k3 W).mono fun e W' ⟨v,u,Q,R,_⟩=>⟨v,u,Q,R.mono2 fun g _ hg=>Nat.le_trans (E d) hg⟩),
    RG.gLo (cs:=sdC N s) 10 (fun W d=>(RJ.out.1.below d).2.1) uSd iSd,
    RG.gO 0 (.slice n 32 sc),
    RG.gO 1 (.int .u32 i),
    RG.gw_c3 3 42 4 43 5 44 21 (fun x y z=>#[x,y,z]) (fun x y z W A e2 e3 d=>by
     obtain rfl:x=.agg (sdC N s).toArray:=A
     obtain rfl:y=.slice n 32 sc:=e2
     obtain rfl:z=.int .u32 i:=e3
     refine (H1.out.2.2.2 W (b4.out.trans (d.mono b4.out.size))).mono ?_
     rintro e W' ⟨v,rfl,u,r,rfl,Q,R⟩
     exact ⟨_,rfl,u,r,32,rfl,Nat.le_refl _,S,Nat.le_trans (E d) Q,Holds.lt R (by rw[S];decide),R⟩),
    RG.gw_c3 0 39 2 41 6 45 20 (fun x y z=>#[x,y,.int .i64 32,z]) (fun x y z W A e2 e3 d=>by
     obtain rfl:x=.int .u64 (amN s a b:Int):=A
     obtain ⟨X,c',rfl,R⟩:=ElQ.part e3
     exact H1.out.2.2.1 X c' y W (ElQ.argS e2) R),
    RG.gw_m 7 46 id (fun x W h=>h),
    RG.gw_val fun a W R=>by
     obtain ⟨e',u,Q⟩:=R.n 8 38 kR kR
     exact ⟨[(38,.tuple #[e',.int .i64 0])],e',W,⟨u,trivial⟩,kR,Below.refl _ _,Q⟩,
    RG.gw_val fun a W R=>by
     obtain ⟨e',u,Q⟩:=R.n 8 38 kR kR
     exact ⟨[(38,.tuple #[e',.int .i64 0])],.int .i64 0,W,⟨u,trivial⟩,kR,Below.refl _ _,rfl⟩,
    RG.gw_a z11 66 (fun W W' h d=>⟨_,rfl,E d,h⟩),trivial⟩ ⟨rfl,rfl,rfl,Nat.le_refl _,fun _ _=>rfl⟩ ?_
   intro X w8 hR d hD
   have PR:=hR 9 dC
   have kv:=hR 10 dC
   obtain ⟨hw,kz,ko,h5⟩:=hR 11 dC
   dsimp only[RG.putV,Nat.reduceAdd,List.take,List.drop]
   simp only[Act.put,List.setIfInBounds_toArray,List.set_cons_succ,List.set_cons_zero]
   rw[kv,kz]
   obtain ⟨cs,hz,h0,ki⟩:=PR.cs
   have hl:(Tryz.prog.info? 66).map (·.size)=some cs.length:=by rw[h0];exact iAr
   refine hG (w8.setCells hw 0 cs) fun w9 R=>?_
   have k4:=mk1 ((Mp.start W4).add d h5 (by rw[F.out];exact ko))
   have MX:=mk1 (k4.out.put 0 R rfl (by rw[h0];rfl))
   have kp:=PR.put w8 w9 hw cs _ (Below.refl _ _) h5 (by rw[R.out];exact Below.refl _ _)
   refine PW.st R hz (k4.out.th 0 rfl (by rw[h0];rfl)) hl ki ?_
   refine PW.va (.int .i64 0) ?_
   refine PW.dn ?_
   have kg:=mk1 (hc.out.grow MX.out.bl)
   refine wp_seq (P:=Tryz.prog) ?_
   refine PW.begin ?_
   refine PW.ro (MX.out.at_ 0).2.1 hz uAr hl ?_
   refine PW.ca kp ?_
   rintro e b9 ⟨k0,h8,Z,rfl,b6,b8,k2⟩
   refine PW.mv ?_
   refine PW.va (.slice (some ⟨h8,0,none⟩) 623 Z) ?_
   refine PW.va (.int .i64 0) ?_
   refine PW.va (.slice (some ⟨h8,0,none⟩) 623 Z) ?_
   refine PW.va (.int .i64 0) ?_
   refine PW.dn ?_
   have hf:=fsB_sz K.out.2.2.2 s
   have hk:=K.out.2.2.2 s
   obtain ⟨v8,ba,r2,b5,-,-⟩:=(kg.out.grow k0).swap.app (c:=Z) k2 (by rw[hf,hk];omega)
   rw[hk] at r2
   have kn:=mk1 b5.swap
   refine PW.begin (P:=Tryz.prog) ?_
   refine PW.mv ?_
   refine PW.mv ?_
   refine PW.ns r2 ?_
   refine PW.va v8 ?_
   refine PW.dn ?_
   refine PW.begin (P:=Tryz.prog) ?_
   refine PW.va (.int .i64 (IntKind.i64.wrap ((s:Int)+1))) ?_
   rw[kk]
   go_wp2
   go_roundg (gk-1)
   case measure=>omega
   case rel=>exact ⟨s+1,oM,rfl,kn⟩
  ·have k1:¬ (s:Int)<2:=oM
   obtain rfl:s=2:=oM
   have R:=fsB_sz K.out.2.2.1 2
   have M:=fsB_sz K.out.2.2.2 2
   have S:=own_elQ J.out.oA (by rw[R];decide)
   have U:=own_elQ J.out.oB (by rw[M];decide)
   have Q0:=((H.out.at_ 0).below J.out.bl).2.1 0 _ rfl
   have bw:=mk1 (H.out.bl.trans (J.out.bl.mono H.out.bl.size))
   generalize fsB V 2=E at S R ⊢
   generalize fsB T 2=A at U M ⊢
   rw[R] at S
   rw[M] at U
   have I:=mk2 S U
   obtain ⟨g7,c7,rfl,-⟩:=S
   obtain ⟨g8,c8,rfl,-⟩:=U
   clear J H
   refine hG wr.heap.size fun F d=>?_
   refine hG (wr.alloc (.cells [Value.int .u8 (IntKind.u8.wrap (k:Int))].toArray 5)) fun w4 t=>?_
   have B1:=bsl8 (IntKind.u8.wrap (k:Int)) wr
   rw[d.out,t.out] at B1
   refine hG w4.heap.size fun X f=>?_
   refine hG (w4.alloc (.cells [Value.slice (some ⟨F,0,none⟩) 1 1,Value.slice (some ⟨g7,0,none⟩) (33*2) c7,Value.slice (some ⟨g8,0,none⟩) (623*2) c8].toArray 23)) fun L q=>?_
   have B2:=bsl83 F 1 g7 (33*2) c7 g8 (623*2) c8 w4
   rw[f.out,q.out] at B2
   have l:=mk1 (((Mp.start wr).new d t).new f q)
   have C:=concat_c X 3 3 (fun j=>if j=0 then #[UInt8.ofNat k] else if j=1 then E else A) dC (fun j hj=>by
    match j,hj with
    | 0,_=>show 1≤_;decide
    | 1,_=>show E.size≤_;omega
    | 2,_=>show A.size≤_;omega) L (l.out.at_ 1).1 (fun j hj=>by
    match j,hj with
    | 0,_=>exact ⟨_,(l.out.at_ 1).2.1 0 _ rfl,F,1,rfl,Nat.le_refl _,rfl,(l.out.at_ 0).1,fun i hi=>by
     obtain rfl:i=0:=by have:i<1:=hi;omega
     have u:=(l.out.at_ 0).2.1 0 _ rfl
     have Q:=((show Row L F [.int .u8 (IntKind.u8.wrap (k:Int))] from l.out.at_ 0).2.2 0 Nat.zero_lt_one).2
     rw[wrap8] at u
     exact ⟨u,Q⟩⟩
    | 1,_=>exact ⟨_,(l.out.at_ 1).2.1 1 _ rfl,by rw[show (if 1=0 then #[UInt8.ofNat k] else if 1=1 then E else A)=E from rfl,R];exact (I.out.1.keep (Kq.of_below l.out.bl)).el⟩
    | 2,_=>exact ⟨_,(l.out.at_ 1).2.1 2 _ rfl,by rw[show (if 2=0 then #[UInt8.ofNat k] else if 2=1 then E else A)=A from rfl,M];exact (I.out.2.keep (Kq.of_below l.out.bl)).el⟩)
   have eL:catL (fun j=>if j=0 then #[UInt8.ofNat k] else if j=1 then E else A) 3=(#[UInt8.ofNat k]++E++A).toList:=by
    rw[catL_succ,catL_succ,catL_succ]
    simp[catL]
   have Q:(#[UInt8.ofNat k]++E++A).size=1313:=by rw[Array.size_append,Array.size_append,R,M];rfl
   rw[eL] at C
   generalize #[UInt8.ofNat k]++E++A=Z at C Q ⊢
   have kl:=mk1 C
   have G:=mk1 (bw.out.trans (l.out.bl.mono bw.out.size))
   clear C eL I l bw d f t q
   refine wp_seq ?_
   refine PW.begin ?_
   refine PW.va (.bool false) ?_
   refine PW.dn ?_
   refine wp_seq ?_
   refine wp_cond_false rfl ?_
   refine wp_exit ?_
   refine wp_seq (P:=Tryz.prog) ?_
   refine PW.begin ?_
   refine PW.va (.pointer (some ⟨k5,0,none⟩)) ?_
   refine PW.ce Q0 u3r ?_
   refine PW.va (.int .u8 (IntKind.u8.wrap (k:Int))) ?_
   refine PW.ns B1 ?_
   refine PW.mv ?_
   refine PW.mv ?_
   refine PW.ns B2 ?_
   refine PW.ca kl.out ?_
   rintro e w6 ⟨Y,u⟩
   simp only[Act.put,List.setIfInBounds_toArray,List.set_cons_succ,List.set_cons_zero]
   refine PW.va e ?_
   refine PW.dn ?_
   have hE:=own_elQ (b:=Z) (show w6.ownsRow L.heap.size 5 1 e Z.size (bC Z) by rw[Array.length_toList] at u;exact u) oM
   rw[Q] at hE
   have KE:=mk2 (G.out.trans (Y.mono G.out.size)) (hE.mono2 (Q':=(w.heap.size≤·)) fun g _ hg=>Nat.le_trans G.out.size hg)
   go_wp2
   go_ret
   exact ⟨_,rfl,KE.out.1,KE.out.2⟩
end
section
open Go.RowKit Go.Sort Go.Deep SPA
theorem q33_of {Q:Nat→Prop} {W:World} {v:Value} {b:Bs} (h:ElQ Q 33 W v b):∃ g,v=q33 g:=by
 obtain ⟨k,c,rfl,-⟩:=h
 exact ⟨(k,c),rfl⟩
theorem q32_of {Q:Nat→Prop} {W:World} {v:Value} {b:Bs} (h:ElQ Q 32 W v b):∃ g,v=q32 g:=by
 obtain ⟨k,c,rfl,-⟩:=h
 exact ⟨(k,c),rfl⟩
theorem RdB.v {B t:Nat} {p:Rp} {d Rb:Nat→Bs} {m r:Bs} {e:Value} {W:World} (K:GoodP t t (rgB t p d Rb m r)) (h:RdB B t (rgB t p d Rb m r) e W):RgV t p d Rb m r e W:=by
 obtain ⟨q,i,f,rfl,v1,v2,D,G,⟨gl,U,Y,hr,-⟩,hF⟩:=h.ex
 have I:=good_len K
 have E:∀ (j:Nat) (b:Bs) (u:Value) (n:Nat),(rgB t p d Rb m r)[j]? = some b→(ordV q i f)[j]? = some u→(ordS t t)[j]? = some n→ElQ (fun _=>True) n W u b:=fun j b u n k A C=>by
  have c:=(List.getElem?_eq_some_iff.1 k).1
  obtain ⟨z,F,x,v,y⟩:=hF j oM
  rw[k] at v
  rw[A] at x
  obtain rfl:=Option.some.inj v
  obtain rfl:=Option.some.inj x
  have w:=good_at K k
  rw[C] at w
  rw[Option.some.inj w]
  exact y.mono2 fun _ _ _=>trivial
 have J:=E 0 p.a q.a.v 33 rfl rfl rfl
 have Q:=E 1 p.s q.b.v 33 rfl rfl rfl
 have e3:=E 2 p.c q.c.v 33 rfl rfl rfl
 have N:=E 3 p.d q.d.v 33 rfl rfl rfl
 have F:=E 4 (bx p.u) q.e.v 32 rfl rfl rfl
 have O:=E 5 (bx p.m) q.f.v 32 rfl rfl rfl
 have S:=E 6 (bx p.t) q.g.v 32 rfl rfl rfl
 have w:i.length=t:=by rw[v1.len,D]
 have z:f.length=t:=by rw[v2.len,G]
 have eL:∀ j,j<t→∃ u,i[j]? = some u∧ElQ (fun _=>True) 33 W u (d j):=fun j c=>by
  refine ⟨i[j],List.getElem?_eq_getElem oM,E (7+j) (d j) i[j] 33 ?_ ?_ ?_⟩
  ·unfold rgB
   rw[List.getElem?_append_left (by simp;omega),List.getElem?_append_left (by simp;omega),List.getElem?_append_right (by simp)]
   simp[c]
  ·unfold ordV
   rw[List.getElem?_append_left (by simp;omega),List.getElem?_append_left (by simp;omega),List.getElem?_append_right (by simp)]
   simp[w,c]
  ·unfold ordS
   rw[List.getElem?_append_left (by simp;omega),List.getElem?_append_left (by simp;omega),List.getElem?_append_right (by simp)]
   simp[c]
 have X:∀ j,j<t→∃ u,f[j]? = some u∧ElQ (fun _=>True) 33 W u (Rb j):=fun j c=>by
  refine ⟨f[j],List.getElem?_eq_getElem oM,E (7+t+j) (Rb j) f[j] 33 ?_ ?_ ?_⟩
  ·unfold rgB
   rw[List.getElem?_append_left (by simp;omega),List.getElem?_append_right (by simp;omega)]
   simp[c,show 7+t+j-(t+1+1+1+1+1+1+1)=j by omega]
  ·unfold ordV
   rw[List.getElem?_append_left (by simp;omega),List.getElem?_append_right (by simp;omega)]
   simp[w,z,c,show 7+t+j-(t+1+1+1+1+1+1+1)=j by omega]
  ·unfold ordS
   rw[List.getElem?_append_left (by simp;omega),List.getElem?_append_right (by simp;omega)]
   simp[c,show 7+t+j-(t+1+1+1+1+1+1+1)=j by omega]
 have e8:=E (7+t+t) m q.x.v 32 (by
  unfold rgB
  rw[List.getElem?_append_right (by simp;omega)]
  simp[show 7+t+t-(t+t+1+1+1+1+1+1+1)=0 by omega]) (by
  unfold ordV
  rw[List.getElem?_append_right (by simp;omega)]
  simp[w,z,show 7+t+t-(t+t+1+1+1+1+1+1+1)=0 by omega]) (by
  unfold ordS
  rw[List.getElem?_append_right (by simp;omega)]
  simp[show 7+t+t-(t+t+1+1+1+1+1+1+1)=0 by omega])
 have e9:=E (7+t+t+1) r q.y.v 32 (by
  unfold rgB
  rw[List.getElem?_append_right (by simp;omega)]
  simp[show 7+t+t+1-(t+t+1+1+1+1+1+1+1)=1 by omega]) (by
  unfold ordV
  rw[List.getElem?_append_right (by simp;omega)]
  simp[w,z,show 7+t+t+1-(t+t+1+1+1+1+1+1+1)=1 by omega]) (by
  unfold ordS
  rw[List.getElem?_append_right (by simp;omega)]
  simp[show 7+t+t+1-(t+t+1+1+1+1+1+1+1)=1 by omega])
 have tv:∀ (s:Sv) (l:List Value) (g:Nat) (B:Nat→Bs),VL W s.q s.n l→s.n=t→s.q=some ⟨g,0,none⟩→(∀ j,j<t→∃ u,l[j]? = some u∧ElQ (fun _=>True) 33 W u (B j))→TlV t W s.v B:=fun s l g B hv H L Z=>by
  refine ⟨s.q,s.c,by unfold Sv.v;rw[H],fun M=>⟨g,L,?_⟩⟩
  rcases hv.cells with k|⟨b,o,k,A,C⟩
  ·have:=hv.len
   rw[k,H] at this
   exact absurd this (by simp;omega)
  ·rw[L] at k
   injection k with k
   injection k with k x _
   subst k x
   refine ⟨A,fun j c=>?_⟩
   obtain ⟨u,v,y⟩:=Z j c
   have:=C j u v
   rw[Nat.zero_add] at this
   exact ⟨u,this,y.arg⟩
 obtain ⟨V,y⟩:=q33_of J
 obtain ⟨a2,f2⟩:=q33_of Q
 obtain ⟨a3,x⟩:=q33_of e3
 obtain ⟨a4,M⟩:=q33_of N
 obtain ⟨T,v⟩:=q32_of F
 obtain ⟨a6,P⟩:=q32_of O
 obtain ⟨a7,R⟩:=q32_of S
 refine ⟨V,a2,a3,a4,T,a6,a7,q.l.v,q.r.v,q.x.v,q.y.v,?_,⟨y ▸ J,f2 ▸ Q,x ▸ e3,M ▸ N,v ▸ F,P ▸ O,R ▸ S⟩,tv q.l i gl d v1 D Y eL,tv q.r f U Rb v2 G hr X,e8,e9⟩
 rw[← y,← f2,← x,← M,← v,← P,← R]
 rfl
theorem vl_keep {B t:Nat} {W W':World} {q:Option Addr} {g m:Nat} {ys:List Value} (h:VL W q m ys) (n:q=some ⟨g,0,none⟩) (i:0<t→B≤g) (r:m=t) (f:Kq (B≤·) W W'):VL W' q m ys:=by
 refine ⟨h.len,h.nil,?_,h.one⟩
 rcases h.cells with c|⟨b,o,k,d,l⟩
 ·exact Or.inl c
 ·by_cases c:0<t
  ·have e:b=g:=by
    rw[n] at k
    injection k with k
    injection k with k _ _
    exact k.symm
   subst e
   refine Or.inr ⟨b,o,k,Nat.lt_of_lt_of_le d f.1,fun j u p=>?_⟩
   have:=l j u p
   unfold World.cell? at this ⊢
   rw[f.2 b (i c) d]
   exact this
  ·exact Or.inl (List.length_eq_zero_iff.1 (by rw[h.len];omega))
theorem RdB.keep {B t:Nat} {BB:List Bs} {e:Value} {W W':World} (h:RdB B t BB e W) (k:Kq (B≤·) W W'):RdB B t BB e W':=by
 obtain ⟨p,w,s,m,v1,v2,d,g,⟨gl,n,f,i,c⟩,o⟩:=h.ex
 refine ⟨p,w,s,m,vl_keep v1 f (fun h=>(c h).1) d k,vl_keep v2 i (fun h=>(c h).2) g k,d,g,⟨gl,n,f,i,c⟩,fun j v=>?_⟩
 obtain ⟨u,b,r,l,q⟩:=o j v
 exact ⟨u,b,r,l,q.keep k⟩
structure VrT (B:Nat) (V:Bs) (e:Value) (w:World):Prop where
 cs:∃ cs:List Value,Hid (.agg cs.toArray=e)∧cs.length=11∧cs.toArray.all (·.oneCell')=true
 ver:∀ (W:World) (v0:Value),Kq (B≤·) w W→Arg33 W v0 V→Calls Tryz.prog 61 #[v0,.int .i64 32,e] W (Ret fun x W'=>Below W.heap.size W W'∧x=.bool true)
variable {P:Nat} [NeZero P] {N:Nat} [NeZero N]
theorem side_ex (C:Fld P) (O:Ord N) (d:∀ r:EC.Pt P,EC.On r→EC.mul N r=none) (R:NT.IsP N) (J:18446744073709551616≤N) (v:Nat) (hv:v<4294967296) (k:Fin N) (A:List UInt8):∃ V T:Bs,V=wP ((ptMd C d).cm (hPV C) (gPG C) (ofF N v) k)∧T.size=623 ∧
 (∀ (i:Option Addr) (sc:Nat) (v1:Value) (w:World),Arg w v1 (bx k.val)→SP.PartOk w (.slice i 32 sc) A→Calls Tryz.prog 20 #[.int .u64 v,v1,.int .i64 32,.slice i 32 sc] w (Ret fun e w'=>Below w.heap.size w w'∧∃ e',e=.tuple #[e',.int .i64 0]∧PrT T e' w')) ∧
 ∀ (g o c:Nat) (w:World),g<w.heap.size→Holds encB w g o T→623≤c→Calls Tryz.prog 106 #[.slice (some ⟨g,o,none⟩) 623 c] w (Ret fun e w'=>Below w.heap.size w w'∧∃ e',e=.tuple #[e',.int .i64 0]∧VrT w.heap.size V e' w'):=by
 have Q:Wd 32 5:=⟨rfl,dC,dC⟩
 obtain ⟨V,L,F,Rb,I,K,S,H,B,ok,G,q,z,f⟩:=span_ex C O d R J Q v hv k A
 have m:=good_of (t:=5) dC ok G q z f
 have a:=catI_sz m 19 (Nat.le_refl _)
 rw[show offs 5 19=623 from offs_all 5] at a
 have b:=a
 refine ⟨V,catI 5 (rgB 5 L F Rb I K) 19,S,a,fun i sc v1 w z l=>(H i sc v1 w z l).mono ?_,fun g o c w s M j=>?_⟩
 ·rintro e w' ⟨X,rfl,f,e',U,rfl,-,hR⟩
  obtain ⟨cs,c1,c2,E,-⟩:=hR.cl dC
  refine ⟨_,rfl,f,e',rfl,⟨cs,c1,c2,E⟩,fun Y W k us vs u q p=>((((hR.below u).set0 dC q).below p).put dC dC).mono ?_⟩
  rintro x W' ⟨y,rfl,n,D,rfl,l,g,c,rfl,j⟩
  have hh:=pt_holds l (by rw[b];decide)
  rw[b] at j
  exact ⟨_,rfl,n,g,c,by rw[b],j,hh.1,hh.2⟩
 ·have hR:=read_cat m w g o c ⟨_,c,rfl,Or.inr ⟨g,o,rfl,s,M⟩⟩ (by rw[b];exact j)
  rw[b] at hR
  refine hR.mono ?_
  rintro e w' ⟨y,rfl,f,e',rfl,n⟩
  obtain ⟨D,U,E,rfl,-⟩:=id n.ex
  refine ⟨_,rfl,f,_,rfl,⟨D.cs,rfl,rfl,by simp only[List.all_toArray,Rg.cs,rgC,Sv.v,List.all_cons,List.all_nil];rfl⟩,fun W v0 u p=>B _ v0 W p ((n.keep u).v m)⟩
end
section
open Go.RowKit Go.Sort Go.Deep SPA
variable {P:Nat} [NeZero P] {N:Nat}
theorem VrT.keep {B:Nat} {V:Bs} {e:Value} {w w':World} (h:VrT B V e w) (k:Kq (B≤·) w w'):VrT B V e w':=⟨h.cs,fun W v0 c f=>h.ver W v0 ⟨Nat.le_trans k.size c.size,fun g d b=>(c.block g d (Nat.lt_of_lt_of_le b k.size)).trans (k.block g d b)⟩ f⟩
theorem rdp_c (V:Bs) (v:Value) (w:World) (hR:∀ W,Below w.heap.size w W→Calls Tryz.prog 106 #[v] W (Ret fun e w'=>Below W.heap.size W w'∧∃ e',e=.tuple #[e',.int .i64 0]∧VrT W.heap.size V e' w')) :
 Calls Tryz.prog 60 #[v] w (Ret fun e w'=>Below w.heap.size w w'∧∃ e' B,e=.tuple #[e',.bool true]∧w.heap.size≤B∧VrT B V e' w'):=by
 refine hG w.heap.size fun q l=>?_
 refine hG (w.alloc (.cells z11.toArray 66)) fun y m=>?_
 have p:=mk1 ((Mp.start w).new l m)
 have t:=(p.out.at_ 0).1
 have G:=mk1 (hR y p.out.bl)
 go_enter Tryz.func60,Tryz.ntmps60
 refine wp_seq ?_
 refine PW.begin ?_
 refine PW.al l m ?_
 refine PW.va (.bool false) ?_
 refine PW.dn ?_
 refine wp_seq ?_
 refine PW.begin ?_
 refine PW.mv ?_
 refine PW.ca G.out ?_
 rintro e o ⟨r,e',rfl,E⟩
 obtain ⟨cs,d,k,n⟩:=E.cs
 have c:(Tryz.prog.info? 66).map (·.size)=some cs.length:=by rw[k];exact iAr
 refine hG o.heap.size fun F j=>?_
 refine hG (o.alloc (.cells z11.toArray 66)) fun I i=>?_
 refine hG (I.setCells F 0 cs) fun D f=>?_
 refine hG (D.setCells q 0 cs) fun C b=>?_
 have H:=mk1 (p.out.grow r)
 have z:=mk1 (H.out.new j i)
 have s:=mk1 (z.out.put 1 f rfl (by rw[k];rfl))
 have x:=mk1 (s.out.put 0 b rfl (by rw[k];rfl))
 have a:=((Mp.start o).new j i).put 0 f rfl (by rw[k];rfl)
 have kq:Kq (y.heap.size≤·) o C:=by
  refine ⟨?_,fun g J u=>?_⟩
  ·rw[← b.out,RG.setCells_size]
   exact a.bl.size
  ·rw[← b.out,RG.setCells_other q cs 0 D g (by omega)]
   exact a.bl.block g u
 have u:=mk2 (E.keep kq) p.out.bl.size
 refine PW.mv ?_
 refine PW.va e' ?_
 refine PW.va (.int .i64 0) ?_
 refine PW.al j i ?_
 refine PW.st f d (z.out.th 1 rfl (by rw[k];rfl)) c n ?_
 refine PW.va (.int .i64 0) ?_
 refine PW.dn ?_
 refine wp_seq ?_
 refine PW.begin ?_
 refine PW.ro (s.out.at_ 1).2.1 d uAr c ?_
 refine PW.mv ?_
 refine PW.va (.bool true) ?_
 refine PW.st b d (s.out.th 0 rfl (by rw[k];rfl)) c n ?_
 refine PW.va (.bool true) ?_
 refine PW.dn ?_
 refine wp_ret ?_
 refine bodyPost_ret (results_cP 2 3 66 rfl (show C.rangeAt q 0 cs from (x.out.at_ 0).2.1) rfl rfl uAr c) rfl ?_
 exact ⟨_,rfl,x.out.bl,e',_,by rw[d.out];rfl,u.out.2,u.out.1⟩
theorem pieces_c (b d c m n cap:Nat) (w:World) (u:0<c) (B:n=c*m) (y:m≤1024) (g:n≤cap) (i:n≤1073741824) :
 Calls Tryz.prog 58 #[.slice (some ⟨b,d,none⟩) n cap,.int .i64 c] w (Ret fun e w'=>Below w.heap.size w w'∧w'.ownsRow w.heap.size 23 1 e m ((List.range m).map (chv b d c))):=by
 obtain ⟨x,f⟩:=hE ((w.alloc (.cells #[.slice (some ⟨b,d,none⟩) n cap] 23)).alloc (.cells #[.int .i64 c] 3))
 obtain ⟨k,v⟩:=hE w.heap.size
 have z:=row_new w [Value.slice (some ⟨b,d,none⟩) n cap] 23
 have a2:=row_new (w.alloc (.cells #[.slice (some ⟨b,d,none⟩) n cap] 23)) [Value.int .i64 c] 3
 have b1:=below1 w (.cells #[.slice (some ⟨b,d,none⟩) n cap] 23)
 have q:=below1 (w.alloc (.cells #[.slice (some ⟨b,d,none⟩) n cap] 23)) (.cells #[.int .i64 c] 3)
 have p:=Row.below z q
 have a:(w.alloc (.cells #[.slice (some ⟨b,d,none⟩) n cap] 23)).heap.size=w.heap.size+1:=World.size_alloc _ _
 rw[a] at a2
 have r:=b1.trans (q.mono b1.size)
 have l:=chunk0_c b d n cap c u w
 have t:=chunks_c b d c m n cap x u B y g i w.heap.size (by rw[← f.out];exact a2.1) (by rw[← f.out];exact p.2.1 0 _ rfl) (by rw[← f.out];exact a2.2.1 0 _ rfl)
 rw[f.out] at l r
 rw[v.out] at l t
 have j:=mk3 l t r
 go_enter Tryz.func58,Tryz.ntmps58
 refine wp_seq ?_
 refine PW.begin ?_
 refine PW.va (.slice none 0 0) ?_
 refine PW.dn ?_
 refine wp_seq ?_
 refine PW.begin ?_
 refine PW.mv ?_
 refine PW.mv ?_
 refine PW.ca j.out.1 ?_
 rintro e D ⟨rfl,rfl⟩
 refine PW.ca j.out.2.1 ?_
 rintro e C ⟨o,ho,-⟩
 refine PW.va e ?_
 refine PW.dn ?_
 have s:=mk2 (j.out.2.2.trans (o.mono j.out.2.2.size)) (own_base ho j.out.2.2.size)
 go_wp2
 go_ret
 exact ⟨_,rfl,s.out.1,s.out.2⟩
def z22:List Value:=List.replicate 22 (.slice none 0 0)
theorem mkR2 (w:World):(Instr.makeSlice 117 (.int .i64 2) (.int .i64 2)).run Tryz.prog w=.ok (.slice (some ⟨w.heap.size,0,none⟩) 2 2) (w.alloc (.cells z22.toArray 66)):=kR
theorem idxR (k i:Nat) (d:i<2) (w:World):(Instr.indexAt 117 (.slice (some ⟨k,0,none⟩) 2 2) (.int .i64 i)).run Tryz.prog w=.ok (.pointer (some ⟨k,11*i,none⟩)) w:=by
 have e:¬ (i:Int)<0:=oM
 have c:(i:Int)<2:=oM
 have b:=addP0 k 0 (11*i)
 rw[Nat.zero_add] at b
 go_simp
theorem uSbA:(Tryz.prog.underlying 23).map (·.isRow)=some false:=kR
theorem cf_rd:∀ args W,(callFunc 60 args).run Tryz.prog W=.ok (.enter 60 args) W:=fun _ _=>kR
def PrL (w W:World) (K i:Nat) (V:Nat→Bs):Prop:=Below w.heap.size w W∧w.heap.size≤K∧K<W.heap.size∧W.there K 0 22∧∀ j,j<i→∃ e cs B,Hid (.agg cs.toArray=e)∧cs.length=11∧W.rangeAt K (11*j) cs∧K<B∧VrT B (V j) e W
theorem PrL.grow {w W W':World} {K i:Nat} {V:Nat→Bs} (h:PrL w W K i V) (k:Below W.heap.size W W'):PrL w W' K i V:=by
 obtain ⟨f,g,c,n,o⟩:=h
 refine ⟨f.trans (k.mono f.size),g,Nat.lt_of_lt_of_le c k.size,fun j d=>?_,fun j d=>?_⟩
 ·have:=n j d
  have e:=k.block K c
  unfold World.cell? World.frozen? at this ⊢
  rw[e]
  exact this
 ·obtain ⟨e,cs,B,m,p,l,q,b⟩:=o j d
  exact ⟨e,cs,B,m,p,range_below l k c,q,b.keep (Kq.of_below k)⟩
theorem PrL.put {w W W':World} {K i:Nat} {V:Nat→Bs} {e:Value} {cs:List Value} {B:Nat} (h:PrL w W K i V) (a:i<2) (d:Hid (.agg cs.toArray=e)) (t:cs.length=11) (f:K<B) (z:VrT B (V i) e W) (k:Hid (W.setCells K (11*i) cs=W')):W.there K (11*i) cs.length∧PrL w W' K (i+1) V:=by
 obtain ⟨o,m,x,n,u⟩:=h
 have th:W.there K (11*i) cs.length:=fun j y=>by
  have:=n (11*i+j) oM
  rw[Nat.zero_add] at this
  exact this
 have kq:∀ B,K<B→Kq (B≤·) W W':=fun B f=>by
  rw[← k.out]
  exact ⟨by rw[RG.setCells_size];exact Nat.le_refl _,fun g o _=>RG.setCells_other K cs (11*i) W g oM⟩
 refine ⟨th,by rw[← k.out];exact RG.below_setCells m _ _ _ o,m,by rw[← k.out,RG.setCells_size];exact x,?_,fun j y=>?_⟩
 ·rw[← k.out]
  exact World.there_setCells n _ _ _
 ·by_cases b:j<i
  ·obtain ⟨e',l,q,s,v,r,p,c⟩:=u j b
   refine ⟨e',l,q,s,v,?_,p,c.keep (kq q p)⟩
   rw[← k.out]
   exact World.rangeAt_setCells_apart r _ _ _ oM
  ·obtain rfl:j=i:=oM
   refine ⟨e,cs,B,d,t,?_,f,z.keep (kq B f)⟩
   rw[← k.out]
   exact World.rangeAt_setCells_same _ _ _ _ th
theorem allR_c (g c:Nat) (V:Nat→Bs) (x:Nat→Value) (w:World) (T:g<w.heap.size) (hx:∀ i,i<2→w.cell? ⟨g,i,none⟩=some (x i)) (hs:∀ i,∃ q n c,x i=.slice q n c) (hR:∀ i W,i<2→Below w.heap.size w W→Calls Tryz.prog 60 #[x i] W (Ret fun e w'=>Below W.heap.size W w'∧∃ e' B,e=.tuple #[e',.bool true]∧W.heap.size≤B∧VrT B (V i) e' w')) :
 Calls Tryz.prog 59 #[.func (.func 60) #[] #[],.slice (some ⟨g,0,none⟩) 2 c] w (Ret fun e w'=>∃ K,e=.tuple #[.slice (some ⟨K,0,none⟩) 2 2,.bool true]∧PrL w w' K 2 V):=by
 refine hG w.heap.size fun K A=>?_
 refine hG (w.alloc (.cells z22.toArray 66)) fun J s=>?_
 have Q:=mkR2 w
 rw[A.out,s.out] at Q
 have E:=(Mp.start w).new A s
 have U:Hid (PrL w J K 0 V):=⟨E.bl,Nat.le_of_eq A.out,(E.at_ 0).1,(show Row J K z22 from E.at_ 0).2.2,fun j hj=>absurd hj (Nat.not_lt_zero _)⟩
 have a:=mk3 T hx (And.intro hs hR)
 go_enter Tryz.func59,Tryz.ntmps59
 refine wp_seq ?_
 refine PW.begin ?_
 refine PW.va (.slice none 0 0) ?_
 refine PW.va (.bool false) ?_
 refine PW.dn ?_
 refine wp_seq ?_
 refine PW.begin ?_
 refine PW.mv ?_
 refine PW.va (.int .i64 2) ?_
 refine PW.ns Q ?_
 refine PW.va (.slice (some ⟨K,0,none⟩) 2 2) ?_
 refine PW.dn ?_
 refine wp_seq ?_
 refine wp_seq ?_
 refine PW.begin ?_
 refine PW.mv ?_
 refine PW.va (.int .i64 2) ?_
 refine PW.va (.int .i64 0) ?_
 refine PW.dn ?_
 refine wp_block ?_
 go_loopg [16] 2 (fun gk s16 wr=>∃ i:Nat,i+gk=2∧s16=.int .i64 i∧Hid (PrL w wr K i V))
 case atStart=>exact ⟨0,oM,rfl,U⟩
 case round =>
  obtain ⟨i,h0,rfl,r⟩:=hrel
  by_cases t:i<2
  ·have y:(i:Int)<2:=oM
   have H:IntKind.i64.wrap ((i:Int)+1)=((i+1:Nat):Int):=by rw[IntKind.wrap_i64];omega
   have I:wr.cell? ⟨g,i,none⟩=some (x i):=by rw[r.out.1.cell (p:=⟨g,i,none⟩) a.out.1];exact a.out.2.1 i t
   have v:=a.out.2.2.2 i wr t r.out.1
   obtain ⟨S,X,R,ex⟩:=a.out.2.2.1 i
   rw[ex] at I v
   refine wp_seq ?_
   refine PW.begin ?_
   refine PW.va (.bool (decide ((i:Int)<2))) ?_
   rw[decide_eq_true y]
   refine PW.dn ?_
   refine wp_seq ?_
   refine wp_cond_true rfl ?_
   refine wp_skip ?_
   refine wp_seq ?_
   refine wp_block ?_
   refine wp_seq ?_
   refine PW.begin ?_
   refine PW.mv ?_
   refine PW.ns (idxP g 2 c i t wr) ?_
   refine PW.ce I uSbA ?_
   refine PW.va (.int .i64 i) ?_
   refine PW.va (.slice S X R) ?_
   refine PW.dn ?_
   refine wp_seq ?_
   refine PW.begin ?_
   refine PW.mv ?_
   refine PW.mv ?_
   refine PW.ca v ?_ rfl rfl (callv1 cf_rd rfl rfl rfl)
   rintro e C ⟨D,e',B,rfl,F,M⟩
   obtain ⟨cs,b,k,u⟩:=M.cs
   have d:(Tryz.prog.info? 66).map (·.size)=some cs.length:=by rw[k];exact iAr
   refine hG C.heap.size fun Z z=>?_
   refine hG (C.alloc (.cells z11.toArray 66)) fun Y m=>?_
   refine hG (Y.setCells Z 0 cs) fun N l=>?_
   refine hG (N.setCells K (11*i) cs) fun w6 f=>?_
   have L:=mk1 ((Mp.start C).new z m)
   have G:=mk1 (L.out.put 0 l rfl (by rw[k];rfl))
   have o:=((r.out.grow D).grow G.out.bl).put t b k (Nat.lt_of_lt_of_le r.out.2.2.1 F) (M.keep (Kq.of_below G.out.bl)) f
   have O:=mk2 o.1 o.2
   refine PW.mv ?_
   refine PW.va e' ?_
   refine PW.va (.bool true) ?_
   refine PW.al z m ?_
   refine PW.st l b (L.out.th 0 rfl (by rw[k];rfl)) d u ?_
   refine PW.va (.bool true) ?_
   refine PW.dn ?_
   refine wp_seq ?_
   refine wp_seq ?_
   refine PW.begin ?_
   refine PW.mv ?_
   refine PW.va (.bool false) ?_
   refine PW.dn ?_
   refine wp_cond_false rfl ?_
   refine wp_skip ?_
   refine PW.begin (P:=Tryz.prog) ?_
   refine PW.mv ?_
   refine PW.mv ?_
   refine PW.ro (G.out.at_ 0).2.1 b uAr d ?_
   refine PW.ns (idxR K i t N) ?_
   refine PW.st f b O.out.1 d u ?_
   refine PW.dn ?_
   refine PW.begin (P:=Tryz.prog) ?_
   refine PW.va (.int .i64 (IntKind.i64.wrap ((i:Int)+1))) ?_
   rw[H]
   go_wp2
   go_roundg (gk-1)
   case measure=>omega
   case rel=>exact ⟨i+1,oM,rfl,O.out.2⟩
  ·have y:¬ (i:Int)<2:=oM
   obtain rfl:i=2:=oM
   refine wp_seq ?_
   refine PW.begin ?_
   refine PW.va (.bool false) ?_
   refine PW.dn ?_
   refine wp_seq ?_
   refine wp_cond_false rfl ?_
   refine wp_exit ?_
   refine wp_seq (P:=Tryz.prog) ?_
   refine PW.begin ?_
   refine PW.mv ?_
   refine PW.va (.slice (some ⟨K,0,none⟩) 2 2) ?_
   refine PW.va (.bool true) ?_
   refine PW.dn ?_
   refine wp_ret ?_
   refine bodyPost_ret (RG.results_tt 4 5 rfl _ _ rfl rfl) rfl ?_
   exact ⟨_,rfl,K,rfl,r.out⟩
end
section
open Go.RowKit Go.Sort Go.Deep SPA
theorem fsB2 (V:Nat→Bs):fsB V 2=V 0++V 1:=by
 show (#[]++V 0)++V 1=_
 rw[Array.empty_append]
theorem holds_app {w:World} {g o:Nat} {A B:Bs} (h:Holds encB w g o (A++B)):Holds encB w g o A∧Holds encB w g (o+A.size) B:=by
 refine ⟨?_,?_⟩
 ·have:=Holds.part (p:=0) (e:=A) h (by rw[Array.size_append];omega) (fun j k=>by
   rw[Nat.zero_add,getElem!_pos A j k,getElem!_pos (A++B) j (by rw[Array.size_append];omega),Array.getElem_append_left])
  exact this
 ·exact Holds.part (p:=A.size) (e:=B) h (by rw[Array.size_append];exact Nat.le_refl _) (fun j k=>by
   rw[getElem!_pos B j k,getElem!_pos (A++B) (A.size+j) (by rw[Array.size_append];omega),Array.getElem_append_right oM]
   simp)
theorem ent_at {W:World} {g k:Nat} {V T:Nat→Bs} (d:∀ s,(V s).size=33) (o:∀ s,(T s).size=623) (h:Holds encB W g 0 (#[UInt8.ofNat k]++fsB V 2++fsB T 2)) :
 W.cell? ⟨g,0,none⟩=some (encB (UInt8.ofNat k))∧(∀ s,s<2→Holds encB W g (1+33*s) (V s))∧∀ s,s<2→Holds encB W g (67+623*s) (T s):=by
 rw[fsB2,fsB2] at h
 obtain ⟨n,i⟩:=holds_app h
 obtain ⟨m,j⟩:=holds_app n
 obtain ⟨l,e⟩:=holds_app j
 obtain ⟨f,b⟩:=holds_app i
 have z:(#[UInt8.ofNat k]++(V 0++V 1)).size=67:=by rw[Array.size_append,Array.size_append,d,d];rfl
 rw[z] at f b
 rw[d] at e
 rw[o] at b
 refine ⟨(m 0 Nat.zero_lt_one).1,fun s c=>?_,fun s c=>?_⟩
 ·match s,c with
  | 0,_=>exact l
  | 1,_=>exact e
 ·match s,c with
  | 0,_=>exact f
  | 1,_=>exact b
theorem sl67 (g c:Nat) (b:1313≤c) (w:World):(Instr.sliceAt 23 (.slice (some ⟨g,0,none⟩) 1313 c) (some (.int .i64 1)) (some (.int .i64 67)) none).run Tryz.prog w=.ok (.slice (some ⟨g,1,none⟩) 66 (c-1)) w:=by
 have d:¬ c=1:=oM
 have k:(67:Int)≤(c:Int):=oM
 go_simp
theorem sl1246 (g c:Nat) (k:1313≤c) (w:World):(Instr.sliceAt 23 (.slice (some ⟨g,0,none⟩) 1313 c) (some (.int .i64 67)) none none).run Tryz.prog w=.ok (.slice (some ⟨g,67,none⟩) 1246 (c-67)) w:=by
 have b:¬ c=67:=oM
 go_simp
theorem idxE (g c:Nat) (w:World):(Instr.indexAt 23 (.slice (some ⟨g,0,none⟩) 1313 c) (.int .i64 0)).run Tryz.prog w=.ok (.pointer (some ⟨g,0,none⟩)) w:=by
 go_simp
variable {P:Nat} [NeZero P]
theorem read_c (C:Fld P) (g c k:Nat) (hc:1313≤c) (X:1≤k) (h8:k≤3) (V T:Nat→Bs) (hV:∀ s,(V s).size=33) (hT:∀ s,(T s).size=623) (hp:∀ s,∃ p,rd P (V s)=some p)
 (h9:∀ s (g o c:Nat) (w:World),g<w.heap.size→Holds encB w g o (T s)→623≤c→Calls Tryz.prog 106 #[.slice (some ⟨g,o,none⟩) 623 c] w (Ret fun e w'=>Below w.heap.size w w'∧∃ e',e=.tuple #[e',.int .i64 0]∧VrT w.heap.size (V s) e' w'))
 (w:World) (hg:g<w.heap.size) (hH:Holds encB w g 0 (#[UInt8.ofNat k]++fsB V 2++fsB T 2)) :
 Calls Tryz.prog 30 #[.slice (some ⟨g,0,none⟩) 1313 c] w (Ret fun e w'=>Below w.heap.size w w'∧∃ K,e=.tuple #[.slice (some ⟨K,0,none⟩) 2 2,.bool true]∧w.heap.size≤K∧K<w'.heap.size∧∀ s,s<2→w'.rangeAt K (33*s) (bl33 (V s))):=by
 obtain ⟨c0,h6,R⟩:=ent_at hV hT hH
 have e8:encB (UInt8.ofNat k)=.int .u8 k:=by
  show Value.int .u8 _=_
  congr 1
  rw[← wrap8,IntKind.wrap_u8]
  omega
 rw[e8] at c0
 have Z:IntKind.i64.wrap (k:Int)=(k:Int):=by rw[IntKind.wrap_i64];omega
 have HI:=mk1 (isK_c k X h8)
 have x:=mk3 h6 R hg
 have L:=mk3 hV hp h9
 go_enter Tryz.func30,Tryz.ntmps30
 refine wp_seq ?_
 refine PW.begin ?_
 refine PW.va (.slice none 0 0) ?_
 refine PW.va (.bool false) ?_
 refine PW.dn ?_
 refine wp_seq ?_
 refine wp_seq ?_
 refine PW.begin ?_
 refine PW.mv ?_
 refine PW.va (.int .i64 1313) ?_
 refine PW.va (.bool false) ?_
 refine PW.mv ?_
 refine PW.gd ?_
 refine PW.mv ?_
 refine PW.gd ?_
 refine PW.ns (idxE g c w) ?_
 refine PW.gd ?_
 refine PW.ce c0 kR ?_
 refine PW.gd ?_
 refine PW.va (.int .i64 (IntKind.i64.wrap (k:Int))) ?_
 rw[Z]
 refine PW.gd ?_
 refine PW.gi (HI.out w) fun w1 n=>?_
 refine PW.gd ?_
 refine PW.va (.bool false) ?_
 refine PW.va (.bool false) ?_
 refine PW.dn ?_
 refine wp_cond_false rfl ?_
 refine wp_skip ?_
 refine wp_seq ?_
 refine PW.begin ?_
 refine PW.mv ?_
 refine PW.ns (sl67 g c hc w1) ?_
 refine PW.ca (pieces_c g 1 33 2 66 (c-1) w1 dC rfl dC oM dC) ?_
 rintro e w2 ⟨a,t⟩
 have z:=n.trans (a.mono n.size)
 obtain ⟨g2,c2,rfl⟩:=own_shapeQ t dC
 have hA:=allP_c C g2 2 c2 dC V w2 (own_lt t rfl).2.1 (fun j u=>⟨chv g 1 33 j,own_cellQ t (by
  rw[List.getElem?_map,List.getElem?_range u]
  rfl),some ⟨g,1+33*j,none⟩,33,33,rfl,L.out.1 j,fun _=>⟨g,1+33*j,rfl,Nat.le_refl _,Nat.lt_of_lt_of_le x.out.2.2 z.size,Holds.below (x.out.1 j u) z x.out.2.2⟩⟩)
 refine PW.ca hA ?_
 rintro e w3 ⟨h7,⟨-,K,rfl,m,O,h1⟩|⟨⟨j,-,u⟩,-⟩⟩
 rotate_left
 ·obtain ⟨p,b⟩:=L.out.2.1 j
  rw[u] at b
  cases b
 have b3:=mk1 (z.trans (h7.mono z.size))
 have J:=mk3 (Nat.le_trans z.size m) O h1
 refine PW.mv ?_
 refine PW.va (.slice (some ⟨K,0,none⟩) 2 2) ?_
 refine PW.va (.bool true) ?_
 refine PW.va (.slice (some ⟨K,0,none⟩) 2 2) ?_
 refine PW.va (.bool true) ?_
 refine PW.dn ?_
 refine wp_seq ?_
 refine PW.begin ?_
 refine PW.mv ?_
 refine PW.ns (sl1246 g c hc w3) ?_
 refine PW.ca (pieces_c g 67 623 2 1246 (c-67) w3 dC rfl dC oM dC) ?_
 rintro e w4 ⟨G,q⟩
 obtain ⟨g4,c4,rfl⟩:=own_shapeQ q dC
 have I:=b3.out.trans (G.mono b3.out.size)
 have hR:=allR_c g4 c4 V (fun j=>chv g 67 623 j) w4 (own_lt q rfl).2.1 (fun j u=>own_cellQ q (by
  rw[List.getElem?_map,List.getElem?_range u]
  rfl)) (fun j=>⟨_,_,_,rfl⟩) (fun s W d f=>rdp_c (V s) _ W fun W' i=>by
   have b:=(I.trans (f.mono I.size)).trans (i.mono (Nat.le_trans I.size f.size))
   exact L.out.2.2 s g (67+623*s) 623 W' (Nat.lt_of_lt_of_le x.out.2.2 b.size) (Holds.below (x.out.2.1 s d) b x.out.2.2) (Nat.le_refl _))
 refine PW.ca hR ?_
 rintro e F ⟨K2,rfl,h4⟩
 have l:=mk2 h4 (And.intro I G)
 refine PW.mv ?_
 refine PW.va (.slice (some ⟨K2,0,none⟩) 2 2) ?_
 refine PW.va (.bool true) ?_
 refine PW.va (.slice (some ⟨K2,0,none⟩) 2 2) ?_
 refine PW.va (.bool true) ?_
 refine PW.dn ?_
 refine wp_seq ?_
 refine wp_seq ?_
 refine PW.begin ?_
 refine PW.mv ?_
 refine PW.va (.bool false) ?_
 refine PW.mv ?_
 refine PW.gd ?_
 refine PW.mv ?_
 refine PW.gd ?_
 refine PW.va (.bool false) ?_
 refine PW.va (.bool false) ?_
 refine PW.dn ?_
 refine wp_cond_false rfl ?_
 refine wp_skip ?_
 have r:=l.out.1.1
 have b5:=mk1 (l.out.2.1.trans (r.mono l.out.2.1.size))
 have RK:Hid (∀ s,s<2→F.rangeAt K (33*s) (bl33 (V s))):=fun s d=>by
  have b:=l.out.2.2.trans (r.mono l.out.2.2.size)
  exact range_below (J.out.2.2 s d) b J.out.2.1
 have Y:=Nat.lt_of_lt_of_le J.out.2.1 (Nat.le_trans l.out.2.2.size r.size)
 have HP:=mk1 l.out.1.2.2.2.2
 have S:=l.out.1.2.2.1
 have m:=J.out.1
 have W0:=mk1 (Below.refl F.heap.size F)
 refine wp_seq ?_
 refine wp_seq ?_
 refine PW.begin ?_
 refine PW.mv ?_
 refine PW.va (.int .i64 2) ?_
 refine PW.va (.int .i64 0) ?_
 refine PW.dn ?_
 refine wp_block ?_
 go_loopg [43] 2 (fun gk s43 wr=>∃ s:Nat,s+gk=2∧s43=.int .i64 s∧Hid (Below F.heap.size F wr))
 case atStart=>exact ⟨0,oM,rfl,W0⟩
 case round =>
  obtain ⟨s,hk,rfl,v⟩:=hrel
  by_cases d:s<2
  ·have E:(s:Int)<2:=oM
   have h0:IntKind.i64.wrap ((s:Int)+1)=((s+1:Nat):Int):=by rw[IntKind.wrap_i64];omega
   have b:=L.out.1 s
   have lV:=bl33_length b
   have Q:(Tryz.prog.info? 51).map (·.size)=some (bl33 (V s)).length:=by rw[bl33_length b];exact iCP
   refine hG wr.heap.size fun k9 D=>?_
   refine hG (wr.alloc (.cells z33.toArray 51)) fun w7 A=>?_
   refine hG (w7.setCells k9 0 (bl33 (V s))) fun w8 H=>?_
   have M7:=mk1 ((Mp.start wr).new D A)
   have M8:=mk1 (M7.out.put 0 H rfl lV)
   have R0:=range_below (RK.out s d) v.out Y
   rw[← Nat.zero_add (33*s)] at R0
   obtain ⟨vp,i⟩:=hE (pvl (V s))
   obtain ⟨ee,cs,B,h2,h5,h3,he,ha⟩:=HP.out s d
   have U:(Tryz.prog.info? 66).map (·.size)=some cs.length:=by rw[h5];exact iAr
   have M:Hid (∀ W,Calls Tryz.prog 19 #[vp] W (Ret fun e w'=>Below W.heap.size W w'∧ElQ (W.heap.size≤·) 33 w' e (V s)∧∃ g,e=r33 g)):=by rw[← i.out];exact fun W=>ptBytesQ_c b W
   have y:=mk1 (v.out.trans (M8.out.bl.mono v.out.size))
   refine wp_seq ?_
   refine PW.begin ?_
   refine PW.va (.bool (decide ((s:Int)<2))) ?_
   rw[decide_eq_true E]
   refine PW.dn ?_
   refine wp_seq ?_
   refine wp_cond_true rfl ?_
   refine wp_skip ?_
   refine wp_seq ?_
   refine wp_block ?_
   refine wp_seq ?_
   refine PW.begin ?_
   refine PW.mv ?_
   refine PW.ns (atP K 0 2 2 s d wr) ?_
   refine PW.ro R0 i uCP Q ?_
   refine PW.al D A ?_
   refine PW.va (.int .i64 s) ?_
   refine PW.st H i (M7.out.th 0 rfl lV) Q (bl33_one _) ?_
   refine PW.dn ?_
   refine wp_seq ?_
   refine AW.beg 7 7 ⟨fun W=>Below w8.heap.size w8 W,fun _ _ f h=>h.trans (f.mono h.size),false⟩ ⟨rfl,rfl,rfl,Nat.le_refl _,fun _ _=>rfl⟩ ?_
   refine AW.ro 0 (fun W f=>((M8.out.at_ 0).below f).2.1) i uCP Q ?_
   refine AW.mv 2 ?_
   refine AW.mv 3 ?_
   refine AW.iv 4 (idxR K2 s d) ?_
   refine AW.ro 5 (fun W f=>range_below h3 (y.out.trans (f.mono y.out.size)) S) h2 uAr U ?_
   refine AW.ca 1 (fun _=>M.out _) (fun e w' h=>h.1) ?_
   rintro e W1 ⟨n,N,hi,rfl⟩
   refine AW.gi 6 (fun f=>ha.ver W1 _ (Kq.of_below (y.out.trans (f.mono y.out.size))) N.arg) fun W2 a=>?_
   refine AW.nx 7 (.bool false) ?_
   refine AW.dn fun hJ=>?_
   have KC:=mk1 (y.out.trans (Below.mono hJ y.out.size))
   refine wp_cond_false (P:=Tryz.prog) rfl ?_
   refine wp_skip ?_
   refine PW.begin (P:=Tryz.prog) ?_
   refine PW.va (.int .i64 (IntKind.i64.wrap ((s:Int)+1))) ?_
   rw[h0]
   go_wp2
   go_roundg (gk-1)
   case measure=>omega
   case rel=>exact ⟨s+1,oM,rfl,KC⟩
  ·have E:¬ (s:Int)<2:=oM
   obtain rfl:s=2:=oM
   refine wp_seq ?_
   refine PW.begin ?_
   refine PW.va (.bool false) ?_
   refine PW.dn ?_
   refine wp_seq ?_
   refine wp_cond_false rfl ?_
   refine wp_exit ?_
   refine wp_seq (P:=Tryz.prog) ?_
   refine PW.begin ?_
   refine PW.mv ?_
   refine PW.va (.slice (some ⟨K,0,none⟩) 2 2) ?_
   refine PW.va (.bool true) ?_
   refine PW.dn ?_
   refine wp_ret ?_
   refine bodyPost_ret (RG.results_tt 2 3 rfl _ _ rfl rfl) rfl ?_
   exact ⟨_,rfl,b5.out.trans (v.out.mono b5.out.size),K,rfl,m,Nat.lt_of_lt_of_le Y v.out.size,fun s d=>range_below (RK.out s d) v.out Y⟩
end
section
open Go.RowKit Go.Sort Go.Deep SPA
variable {P:Nat} [NeZero P] {N:Nat}
def tmP (f:Nat→Nat→Nat × Bs):Nat→List (Nat × Bs)
 | 0=>[]
 | i+1=>(tmP f i++[f i 0])++[f i 1]
def tmQ (f:Nat→Nat→Nat × Bs) (i:Nat):Nat→List (Nat × Bs)
 | 0=>tmP f i
 | s+1=>tmQ f i s++[f i s]
theorem tmP_len (f:Nat→Nat→Nat × Bs):∀ i,(tmP f i).length=2*i
 | 0=>rfl
 | i+1=>by
  show ((tmP f i++[f i 0])++[f i 1]).length=_
  rw[List.length_append,List.length_append,tmP_len f i]
  simp only[List.length_cons,List.length_nil]
  omega
theorem tmQ_len (f:Nat→Nat→Nat × Bs) (i:Nat):∀ s,(tmQ f i s).length=2*i+s
 | 0=>tmP_len f i
 | s+1=>by
  show (tmQ f i s++[f i s]).length=_
  rw[List.length_append,tmQ_len f i s]
  simp only[List.length_cons,List.length_nil]
  omega
theorem tmP_33 {f:Nat→Nat→Nat × Bs} (h:∀ i s,(f i s).2.size=33):∀ i,∀ x∈tmP f i,x.2.size=33
 | 0,x,hx=>by cases hx
 | i+1,x,hx=>by
  rcases List.mem_append.1 hx with hx|hx
  ·rcases List.mem_append.1 hx with hx|hx
   ·exact tmP_33 h i x hx
   ·rw[List.mem_singleton.1 hx];exact h i 0
  ·rw[List.mem_singleton.1 hx];exact h i 1
theorem tmQ_33 {f:Nat→Nat→Nat × Bs} (h:∀ i s,(f i s).2.size=33) (i:Nat):∀ s,∀ x∈tmQ f i s,x.2.size=33
 | 0,x,hx=>tmP_33 h i x hx
 | s+1,x,hx=>by
  rcases List.mem_append.1 hx with hx|hx
  ·exact tmQ_33 h i s x hx
  ·rw[List.mem_singleton.1 hx];exact h i s
theorem u23A:(Tryz.prog.underlying 23).map (·.isRow)=some false:=kR
theorem summed_c (O:Ord N) (q:Option Addr) (n c:Nat) (hn:n≤64) (V:Nat→Nat→Bs) (hV:∀ i s,(V i s).size=33) (x:Nat→Value) (X:Bs) (hX:X.size=33) (w:World) (hq:0<n→∃ g,q=some ⟨g,0,none⟩∧g<w.heap.size∧∀ i,i<n→w.cell? ⟨g,i,none⟩=some (x i)) (t:∀ i,∃ q n c,x i=.slice q n c)
 (hR:∀ i W,i<n→Below w.heap.size w W→Calls Tryz.prog 30 #[x i] W (Ret fun e w'=>Below W.heap.size W w'∧∃ K,e=.tuple #[.slice (some ⟨K,0,none⟩) 2 2,.bool true]∧W.heap.size≤K∧K<w'.heap.size∧∀ s,s<2→w'.rangeAt K (33*s) (bl33 (V i s))))
 (hP:∀ (v:Value) (W:World),SmZ 0 W v (tmP (fun i s=>(sdW N s,V i s)) n)→(n=0→v=.slice none 0 0)→Calls Tryz.prog 33 #[v] W (Ret fun e w'=>Below W.heap.size W w'∧e=pvl X)) :
 Calls Tryz.prog 13 #[.slice q n c] w (Ret fun e w'=>Below w.heap.size w w'∧e=.tuple #[pvl X,.bool true]):=by
 obtain ⟨f,hf⟩:=hE (fun i s=>(sdW N s,V i s))
 rw[hf.out] at hP
 have D:∀ i s,(f i s).2.size=33:=fun i s=>by rw[← hf.out];exact hV i s
 have HS:=mk1 (fun W=>sides_c O W)
 refine hG w.heap.size fun m J=>?_
 refine hG (w.alloc (.cells z33.toArray 51)) fun w1 G=>?_
 have K1:=mk1 ((Mp.start w).new J G)
 have R:=mk3 hq t (And.intro hR hP)
 have S0:Hid (SmZ 0 w1 (.slice none 0 0) (tmP f 0)∧Mp w w1 [(m,z33)] []):=⟨Or.inl ⟨rfl,rfl⟩,K1.out⟩
 clear hq t hR hP K1
 go_enter Tryz.func13,Tryz.ntmps13
 refine wp_seq ?_
 refine PW.begin ?_
 refine PW.al J G ?_
 refine PW.va (.bool false) ?_
 refine PW.dn ?_
 refine wp_seq ?_
 refine PW.begin ?_
 refine PW.va (.slice none 0 0) ?_
 refine PW.dn ?_
 refine wp_seq ?_
 refine wp_seq ?_
 refine PW.begin ?_
 refine PW.mv ?_
 refine PW.va (.int .i64 n) ?_
 refine PW.va (.int .i64 0) ?_
 refine PW.dn ?_
 refine wp_block ?_
 go_loopg [4,13] n (fun gk s4 s13 wr=>∃ i:Nat,i+gk=n∧s13=.int .i64 i∧(i=0→s4=.slice none 0 0)∧Hid (SmZ 0 wr s4 (tmP f i)∧Mp w wr [(m,z33)] []))
 case atStart=>exact ⟨0,oM,rfl,fun _=>rfl,S0⟩
 case round =>
  obtain ⟨i,ha,rfl,hz,k⟩:=hrel
  by_cases hi:i<n
  ·clear hz
   have r:(i:Int)<(n:Int):=oM
   have h0:IntKind.i64.wrap ((i:Int)+1)=((i+1:Nat):Int):=by rw[IntKind.wrap_i64];omega
   obtain ⟨g,rfl,hg,hx⟩:=R.out.1 oM
   have cx:wr.cell? ⟨g,i,none⟩=some (x i):=by rw[k.out.2.bl.cell (p:=⟨g,i,none⟩) hg];exact hx i hi
   have L:=R.out.2.2.1 i wr hi k.out.2.bl
   obtain ⟨q8,n8,c8,ex⟩:=R.out.2.1 i
   rw[ex] at cx L
   refine wp_seq ?_
   refine PW.begin ?_
   refine PW.va (.bool (decide ((i:Int)<(n:Int)))) ?_
   rw[decide_eq_true r]
   refine PW.dn ?_
   refine wp_seq ?_
   refine wp_cond_true rfl ?_
   refine wp_skip ?_
   refine wp_seq ?_
   refine wp_block ?_
   refine wp_seq ?_
   refine PW.begin ?_
   refine PW.ns (idxP g n c i hi wr) ?_
   refine PW.ce cx u23A ?_
   refine PW.va (.slice q8 n8 c8) ?_
   refine PW.dn ?_
   refine wp_seq ?_
   refine PW.begin ?_
   refine PW.mv ?_
   refine PW.ca L ?_
   rintro e I ⟨B,K,rfl,-,lK,rK⟩
   have a:=mk2 (k.out.1.grow B) (k.out.2.grow B)
   have RK:=mk1 rK
   refine PW.mv ?_
   refine PW.va (.slice (some ⟨K,0,none⟩) 2 2) ?_
   refine PW.va (.bool true) ?_
   refine PW.va (.slice (some ⟨K,0,none⟩) 2 2) ?_
   refine PW.va (.bool true) ?_
   refine PW.dn ?_
   refine wp_seq ?_
   refine wp_seq ?_
   refine PW.begin ?_
   refine PW.mv ?_
   refine PW.va (.bool false) ?_
   refine PW.dn ?_
   refine wp_cond_false rfl ?_
   refine wp_skip ?_
   refine wp_seq ?_
   refine PW.begin ?_
   refine PW.ca (HS.out I) ?_
   rintro e w6 ⟨l,S,rfl,h3,Q⟩
   refine PW.va (.int .i64 2) ?_
   refine PW.va (.int .i64 0) ?_
   refine PW.dn ?_
   obtain ⟨h2,h8⟩:∃ x,x=gk:=⟨_,rfl⟩
   have S6:=mk3 (a.out.1.grow l) (a.out.2.add l Q h3) l
   refine wp_block ?_
   go_loopg [4,27] 2 (fun gk s4 s27 wr=>∃ s:Nat,s+gk=2∧s27=.int .i64 s∧Hid (SmZ 0 wr s4 (tmQ f i s)∧Mp w wr [(m,z33),(S,sdC N 0++sdC N 1)] []∧Below I.heap.size I wr))
   case atStart=>exact ⟨0,oM,rfl,S6⟩
   case round =>
    obtain ⟨s,h9,rfl,k⟩:=hrel
    by_cases t:s<2
    ·have H:(s:Int)<2:=oM
     have Y:IntKind.i64.wrap ((s:Int)+1)=((s+1:Nat):Int):=by rw[IntKind.wrap_i64];omega
     have d:=hV i s
     have iV:(Tryz.prog.info? 51).map (·.size)=some (bl33 (V i s)).length:=by rw[bl33_length d];exact iCP
     have Z:f i s=(sdW N s,V i s):=by rw[← hf.out]
     refine hG wr.heap.size fun o b=>?_
     refine hG (wr.alloc (.cells z7.toArray 61)) fun w7 j=>?_
     refine hG (w7.setCells o 0 (sdC N s)) fun w8 z=>?_
     have M7:=mk1 (k.out.2.1.new b j)
     have F:=mk1 (M7.out.put 2 z)
     have Q8:=mk1 (((Mp.start wr).new b j).put 0 z).bl
     have R0:=sd_at t (k.out.2.1.at_ 1)
     have T:=mk1 (k.out.2.2.trans (Q8.out.mono k.out.2.2.size))
     have S8:=mk1 (k.out.1.grow Q8.out)
     obtain ⟨vs,C⟩:=hE (Value.agg (sdC N s).toArray)
     obtain ⟨vp,M⟩:=hE (pvl (V i s))
     obtain ⟨vw,E⟩:=hE (nv (sdW N s))
     have HT:Hid (∀ W,Calls Tryz.prog 32 #[vp,vw] W (Ret fun e w'=>Below W.heap.size W w'∧Sm W.heap.size w' e [f i s])):=by rw[← M.out,← E.out,Z];exact fun W=>ptm_c (V i s) d (sdW N s) W
     have RV:w8.rangeAt K (0+33*s) (bl33 (V i s)):=by
      rw[Nat.zero_add]
      exact range_below (RK.out s t) T.out lK
     have h5:=Nat.lt_of_lt_of_le lK T.out.size
     refine wp_seq ?_
     refine PW.begin ?_
     refine PW.va (.bool (decide ((s:Int)<2))) ?_
     rw[decide_eq_true H]
     refine PW.dn ?_
     refine wp_seq ?_
     refine wp_cond_true rfl ?_
     refine wp_skip ?_
     refine wp_seq ?_
     refine wp_block ?_
     refine wp_seq ?_
     refine PW.begin ?_
     refine PW.mv ?_
     refine PW.ns (idxSd S s t wr) ?_
     refine PW.ro R0 C uSd iSd ?_
     refine PW.al b j ?_
     refine PW.va (.int .i64 s) ?_
     refine PW.st z C (M7.out.th 2) iSd (sd_one s) ?_
     refine PW.dn ?_
     refine AW.beg 9 9 ⟨fun W=>Below w8.heap.size w8 W,fun _ _ u h=>h.trans (u.mono h.size),false⟩ ⟨rfl,rfl,rfl,Nat.le_refl _,fun _ _=>rfl⟩ ?_
     refine AW.mv 0 ?_
     refine AW.mv 1 ?_
     refine AW.mv 2 ?_
     refine AW.iv 3 (atP K 0 2 2 s t) ?_
     refine AW.ro 4 (fun W u=>range_below RV u h5) M uCP iV ?_
     refine AW.va 5 (.pointer (some ⟨o,3,none⟩)) ?_
     refine AW.ro 6 (fun W u=>rnB (xs:=[.string (sdL s),.string (sdP s),.func (.func (sdA s)) #[] #[]]) ((F.out.at_ 2).below u).2.1 rfl) E rSc nSc ?_
     refine AW.ca 7 (fun _=>HT.out _) (fun e w' h=>h.1) ?_
     rintro e W1 ⟨h7,h4⟩
     refine AW.ca 8 (fun u=>sumPlusZ_c 0 u4 e (tmQ f i s) [f i s] (by simp) (by rw[tmQ_len];omega) (show 1≤500 by decide) (tmQ_33 D i s) (fun y hy=>by rw[List.mem_singleton.1 hy];exact D i s) W1 (S8.out.grow u) (Or.inr (h4.mono (Nat.zero_le _)))) (fun e w' h=>h.1) ?_
     rintro e' U ⟨h6,h1⟩
     refine AW.nx 9 e' ?_
     refine AW.dn fun hJ=>?_
     have A:Below w8.heap.size w8 U:=hJ
     have S9:Hid (SmZ 0 U e' (tmQ f i (s+1))∧Mp w U [(m,z33),(S,sdC N 0++sdC N 1)] []∧Below I.heap.size I U):=⟨Or.inr (h1.mono (Nat.zero_le _)),Mp.pop (x:=(o,sdC N s)) (F.out.grow A),T.out.trans (A.mono T.out.size)⟩
     refine PW.begin (P:=Tryz.prog) ?_
     refine PW.va (.int .i64 (IntKind.i64.wrap ((s:Int)+1))) ?_
     rw[Y]
     go_wp2
     go_roundg (gk-1)
     case measure=>omega
     case rel=>exact ⟨s+1,oM,rfl,S9⟩
    ·have H:¬ (s:Int)<2:=oM
     obtain rfl:s=2:=oM
     have S9:Hid (SmZ 0 wr u4 (tmP f (i+1))∧Mp w wr [(m,z33)] []):=⟨k.out.1,Mp.pop (x:=(S,sdC N 0++sdC N 1)) k.out.2.1⟩
     refine wp_seq ?_
     refine PW.begin ?_
     refine PW.va (.bool false) ?_
     refine PW.dn ?_
     refine wp_seq ?_
     refine wp_cond_false rfl ?_
     refine wp_exit ?_
     refine PW.begin (P:=Tryz.prog) ?_
     refine PW.va (.int .i64 (IntKind.i64.wrap ((i:Int)+1))) ?_
     rw[h0]
     go_wp2
     go_roundg (h2-1)
     case measure=>omega
     case rel=>exact ⟨i+1,oM,rfl,nofun,S9⟩
  ·have r:¬ (i:Int)<(n:Int):=oM
   obtain rfl:i=n:=oM
   obtain ⟨A,b⟩:=hE (pvl X)
   have j:=R.out.2.2.2 u4 wr k.out.1 hz
   rw[b.out] at j ⊢
   have o:(Tryz.prog.info? 51).map (·.size)=some (bl33 X).length:=by rw[bl33_length hX];exact iCP
   have z:=bl33_length hX
   refine wp_seq ?_
   refine PW.begin ?_
   refine PW.va (.bool (decide ((i:Int)<(i:Int)))) ?_
   rw[decide_eq_false r]
   refine PW.dn ?_
   refine wp_seq ?_
   refine wp_cond_false rfl ?_
   refine wp_exit ?_
   refine wp_seq (P:=Tryz.prog) ?_
   refine PW.begin ?_
   refine PW.mv ?_
   refine PW.gi j fun w8 l=>?_
   refine hG (w8.setCells m 0 (bl33 X)) fun a d=>?_
   have F:=mk1 (k.out.2.grow l)
   have u:=mk1 (F.out.put 0 d rfl z)
   refine PW.st d b (F.out.th 0 rfl z) o (bl33_one _) ?_
   refine PW.va (.bool true) ?_
   refine PW.dn ?_
   refine wp_ret ?_
   refine bodyPost_ret (results_ct 2 3 51 rfl (show Row a m (bl33 X) from u.out.at_ 0) rfl rfl uCP o) rfl ?_
   exact ⟨_,rfl,u.out.bl,by rw[← b.out];rfl⟩
end
section
open Go.RowKit Go.Sort Go.Deep
variable {P:Nat} [NeZero P] {N:Nat}
end
section
open Go.RowKit Go.Sort Go.Deep
namespace TG
def Row (W:World) (k:Nat) (vs:List Value):Prop:=k<W.heap.size∧W.rangeAt k 0 vs∧W.there k 0 vs.length
theorem row_new (w:World) (c:List Value) (T:TypeId):Row (w.alloc (.cells c.toArray T)) w.heap.size c:=
 have h:=RG.Made.alloc w c T
 ⟨h.lt,h.range,h.there⟩
theorem results_ct {P:Program} {c:Func} {tmps:Array Value} {W:World} {k:Nat} {vs:List Value} {v:Value} (t u:Tmp) (T:TypeId) (i:c.results=#[.cell t T,.tmp u]) (h:Row W k vs) (l:tmps[t]? = some (.pointer (some ⟨k,0,none⟩))) (hv:tmps[u]? = some v)
 (b:(P.underlying T).map (·.isRow)=some true) (j:(P.info? T).map (·.size)=some vs.length):(results c tmps).run P W=.ok (.tuple #[.agg vs.toArray,v]) W:=by
 obtain ⟨d,b,hd⟩:=Option.map_eq_some_iff.1 b
 have g:=run_loadVar_mid (P:=P) W k 0 T vs d h.2.1 b hd j
 have e:tmps.getD t undef=.pointer (some ⟨k,0,none⟩):=by rw[Array.getD_eq_getD_getElem?,l];rfl
 have f:tmps.getD u undef=v:=by rw[Array.getD_eq_getD_getElem?,hv];rfl
 unfold results
 rw[i]
 simp only[Array.mapM_eq_mapM_toList,List.mapM_cons,List.mapM_nil,e,f,asAddr]
 simp[Sem.run_bind,g]
theorem below2 (w:World) (a b:Obj):Below w.heap.size w ((w.alloc a).alloc b):=((Below.refl _ _).alloc (Nat.le_refl _) _).alloc (by rw[World.size_alloc];exact Nat.le_succ _) _
end TG
end
section
open Go.RowKit Go.Sort Go.Deep
namespace RG
variable {P:Program} {ops:Array Oper} {Q:Exit→Act→World→Prop} {a0:Act} {F:Flow}
end RG
namespace TG
def PS (w:World) (v:Value) (T:Bs):Prop:=PartS w v T.toList
def Slc (v:Value):Prop:=∃ q n c,v=.slice q n c
def Two (w:World) (r:Nat):Prop:=∃ x y,Slc x∧Slc y∧Row w r [x,y]
def Ex (r K i:Nat) (w w':World):Prop:=Below w.heap.size w w'∨(i=K∧Two w r∧∃ x y,Slc x∧Slc y∧w'=w.setCells r 0 [x,y])
def Bx (b:World) (r g:Nat) (f k c:Value) (e i d:Bs) (w:World):Prop:=Below b.heap.size b w∧Row w g [k,c]∧Two w r∧PS w f e∧PS w k i∧PS w c d
def Fin2 (r:Nat) (k b:Bs) (w:World):Prop:=∃ x y,Row w r [x,y]∧PS w x k∧PS w y b
def Agg2 (w:World) (v:Value) (k b:Bs):Prop:=∃ x y,v=.agg #[x,y]∧PS w x k∧PS w y b
def F9 (j:World) (r d:Nat) (c f g:Value) (e b k:Bs) (ok:Bool):RG.Flow where
 R i v w:=match i with
  | 0=>v=c
  | 1=>v=.pointer (some ⟨d,0,none⟩)
  | 2=>v=f
  | 3=>PS w v (nodeH e b)
  | 4=>v=c
  | 5=>v=.pointer (some ⟨d,1,none⟩)
  | 6=>v=g
  | 7=>PS w v (nodeH e k)
  | 8=>Agg2 w v (nodeH e b) (nodeH e k)
  | 9=>v=.bool ok
  | 10=>Fin2 r (nodeH e b) (nodeH e k) w
  | _=>v=.bool ok
 B _ w:=Bx j r d c f g e b k w
 E:=Ex r 10
 kill _:=[]
 killB _:=[]
end TG
end
section
open Go.RowKit Go.Sort Go.Deep
variable {P:Nat} [NeZero P] {N:Nat}
def noneH:Bs:=SP.tagL [110,111,110,101] []
theorem noneH_size:noneH.size=32:=SP.tagL_size _ _
def rootR (S:Nat→Bs) (a n:Nat):Bs:=
 if _h0:n=0 then noneH else if _h1:n=1 then leafH (S a) else nodeH (rootR S a (hf n)) (rootR S (a+hf n) (n-hf n))
termination_by n
decreasing_by all_goals (have:=hf_lt (n:=n) oM;omega)
theorem rootR_0 (S:Nat→Bs) (a:Nat):rootR S a 0=noneH:=by rw[rootR,dif_pos rfl]
theorem rootR_1 (S:Nat→Bs) (a:Nat):rootR S a 1=leafH (S a):=by rw[rootR,dif_neg dC,dif_pos rfl]
theorem rootR_2 (S:Nat→Bs) (a n:Nat) (h:2≤n):rootR S a n=nodeH (rootR S a (hf n)) (rootR S (a+hf n) (n-hf n)):=by rw[rootR,dif_neg oM,dif_neg oM]
theorem rootR_size (S:Nat→Bs) (a n:Nat):(rootR S a n).size=32:=by
 rw[rootR]
 by_cases k:n=0
 ·rw[dif_pos k];exact noneH_size
 ·rw[dif_neg k]
  by_cases b:n=1
  ·rw[dif_pos b];exact leafH_size _
  ·rw[dif_neg b];exact nodeH_size _ _
def NewH (w:World) (T:Bs) (e:Value) (w':World):Prop:=Below w.heap.size w w'∧∃ r,e=.slice (some ⟨r,0,none⟩) 32 32∧w.heap.size≤r∧Holds encB w' r 0 T
theorem part_h {w:World} {r:Nat} {T:Bs} (k:T.size=32) (h:Holds encB w r 0 T):SP.PartOk w (.slice (some ⟨r,0,none⟩) 32 32) T.toList:=
 ⟨_,r,0,32,T,by rw[k],rfl,by rw[k];exact Nat.le_refl _,by rw[k];decide,Or.inr ⟨rfl,h⟩⟩
theorem leafHash_n (q:Option Addr) (n c:Nat) (b:Bs) (w:World) (hv:SP.PartOk w (.slice q n c) b.toList):Calls Tryz.prog 47 #[.slice q n c] w (Ret (NewH w (leafH b))):=by
 obtain ⟨i,d⟩:=hE (w.alloc (.cells #[.slice q n c] 23))
 have l:=RG.Made.alloc w [.slice q n c] 23
 have k:RG.Made w w.heap.size [.slice q n c] i:=by rw[← d.out];exact l
 have p:=SP.Tag_any ⟨#[108,101,97,102]⟩ (some ⟨w.heap.size,0,none⟩) 1 [b.toList] i dC (Nat.le_of_ble_eq_true rfl) (Or.inr ⟨_,_,rfl,fun j s=>by
  have f:j=0:=by simpa using s
  subst f
  exact ⟨_,k.range 0 _ rfl,hv.below k.bel⟩⟩)
 have g:=mk1 (k.bel)
 go_enter Tryz.func47,Tryz.ntmps47
 go_wp2_with fail
 rw[d.out]
 refine p.mono ?_
 rintro e t ⟨r,rfl,m,f,o⟩
 have K:=mk3 (g.out.trans (f.mono g.out.size)) (Nat.le_trans g.out.size m) o
 go_wp2_with fail
 go_ret
 exact ⟨_,rfl,K.out.1,_,rfl,K.out.2.1,K.out.2.2⟩
theorem node_n (q f:Option Addr) (n c g i:Nat) (b o:Bs) (w:World) (hv:SP.PartOk w (.slice q n c) b.toList) (l:SP.PartOk w (.slice f g i) o.toList):Calls Tryz.prog 49 #[.slice q n c,.slice f g i] w (Ret (NewH w (nodeH b o))):=by
 obtain ⟨s,d⟩:=hE (w.alloc (.cells #[.slice q n c,.slice f g i] 23))
 have t:=RG.Made.alloc w [.slice q n c,.slice f g i] 23
 have k:RG.Made w w.heap.size [.slice q n c,.slice f g i] s:=by rw[← d.out];exact t
 have x:=SP.Tag_any ⟨#[110,111,100,101]⟩ (some ⟨w.heap.size,0,none⟩) 2 [b.toList,o.toList] s dC (Nat.le_of_ble_eq_true rfl) (Or.inr ⟨_,_,rfl,fun j y=>by
  have m:j=0∨j=1:=by simp at y;omega
  rcases m with rfl|rfl
  ·exact ⟨_,k.range 0 _ rfl,hv.below k.bel⟩
  ·exact ⟨_,k.range 1 _ rfl,l.below k.bel⟩⟩)
 have p:=mk1 (k.bel)
 go_enter Tryz.func49,Tryz.ntmps49
 go_wp2_with fail
 rw[d.out]
 refine x.mono ?_
 rintro e z ⟨r,rfl,u,m,v⟩
 have K:=mk3 (p.out.trans (m.mono p.out.size)) (Nat.le_trans p.out.size u) v
 go_wp2_with fail
 go_ret
 exact ⟨_,rfl,K.out.1,_,rfl,K.out.2.1,K.out.2.2⟩
theorem halves_c (d b n c:Nat) (f:2≤n) (m:n≤1048576) (p:n≤c) (w:World):Calls Tryz.prog 48 #[.slice (some ⟨d,b,none⟩) n c] w (Ret fun e w'=>Below w.heap.size w w'∧e=.tuple #[.slice (some ⟨d,b,none⟩) (hf n) c,.slice (some ⟨d,b+hf n,none⟩) (n-hf n) (c-hf n)]):=by
 have hh:=half_c n f m w
 have g:=hf_lt f
 generalize hf n=k at hh g ⊢
 have i:∀ w:World,(Instr.sliceAt 27 (.slice (some ⟨d,b,none⟩) n c) none (some (.int .i64 k)) none).run Tryz.prog w=.ok (.slice (some ⟨d,b,none⟩) k c) w:=fun w=>by
  have j:(k:Int)≤c:=oM
  go_simp
 have l:∀ w:World,(Instr.sliceAt 27 (.slice (some ⟨d,b,none⟩) n c) (some (.int .i64 k)) none none).run Tryz.prog w=.ok (.slice (some ⟨d,b+k,none⟩) (n-k) (c-k)) w:=fun w=>by
  have j:(k:Int)≤n:=oM
  have f:(n:Int)≤c:=oM
  have o:¬ c=k:=oM
  go_simp
 go_enter Tryz.func48,Tryz.ntmps48
 go_wp2_with fail
 refine hh.mono ?_
 rintro e w' ⟨rfl,rfl⟩
 go_wp2_with fail
 go_quiet (fail)
 go_wp2
 go_ret2
 exact ⟨_,rfl,⟨rfl,rfl,rfl,Nat.le_refl _,fun _ _=>rfl⟩,rfl⟩
theorem Lists.part {w:World} {c b n k:Nat} {S:Nat→Bs} {a:Nat} (h:Lists w (some ⟨c,b,none⟩) n (fun j=>S (a+j))) (m:k≤n):Lists w (some ⟨c,b+k,none⟩) (n-k) (fun j=>S (a+k+j)):=fun l=>by
 obtain ⟨f,g,e,d,i⟩:=h oM
 cases e
 refine ⟨c,b+k,rfl,d,fun j o=>?_⟩
 have:=i (k+j) oM
 rw[← Nat.add_assoc] at this
 show ∃ v,_∧PartS w v (S (a+k+j)).toList
 rw[Nat.add_assoc a k j]
 exact this
theorem root_c (S:Nat→Bs):∀ (N n a:Nat) (q:Option Addr) (c:Nat) (w:World),n≤N→n≤1048576→n≤c→Lists w q n (fun j=>S (a+j))→Calls Tryz.prog 24 #[.slice q n c] w (Ret (NewH w (rootR S a n))):=by
 intro N
 induction N with
 | zero =>
  intro n a q c w Y _ _ _
  obtain rfl:n=0:=oM
  rw[rootR_0]
  have b:=SP.Tag_any ⟨#[110,111,110,101]⟩ none 0 [] w dC (Nat.le_of_ble_eq_true rfl) (Or.inl rfl)
  go_enter Tryz.func24,Tryz.ntmps24
  go_wp2_with fail
  refine b.mono ?_
  rintro e m ⟨r,rfl,i,d,l⟩
  have K:=mk3 d i l
  go_wp2
  go_ret
  exact ⟨_,rfl,K.out.1,_,rfl,K.out.2.1,K.out.2.2⟩
 | succ N ih =>
  intro n a q c w Y T U f
  by_cases h0:n=0
  ·exact ih n a q c w oM T U f
  obtain ⟨x,t,rfl,Z,b⟩:=f oM
  by_cases X:n=1
  ·subst X
   rw[rootR_1]
   obtain ⟨v,hv,⟨s,p,o,rfl⟩,g⟩:=b 0 oM
   have y:=leafHash_n s p o (S a) w g
   have u:w.cell? ⟨x,t,none⟩=some (.slice s p o):=hv
   clear g f b ih hv
   go_enter Tryz.func24,Tryz.ntmps24
   go_wp2_with fail
   refine y.mono ?_
   rintro e m ⟨v2,rfl,d,r,rfl,i,l⟩
   have K:=mk3 d i l
   go_wp2
   go_ret
   exact ⟨_,rfl,K.out.1,_,rfl,K.out.2.1,K.out.2.2⟩
  ·rw[rootR_2 S a n oM]
   have I:=hf_lt (n:=n) oM
   have B:=Hid.mk2 (halves_c x t n c oM T U w)
   have K:Hid (∀ w',Below w.heap.size w w'→Calls Tryz.prog 24 #[.slice (some ⟨x,t,none⟩) (hf n) c] w' (Ret (NewH w' (rootR S a (hf n))))):=fun w' E=>ih (hf n) a _ c w' oM oM oM ((f.less oM).below E)
   have C:Hid (∀ w',Below w.heap.size w w'→Calls Tryz.prog 24 #[.slice (some ⟨x,t+hf n,none⟩) (n-hf n) (c-hf n)] w' (Ret (NewH w' (rootR S (a+hf n) (n-hf n))))):=fun w' E=>ih (n-hf n) (a+hf n) _ (c-hf n) w' oM oM oM ((f.part oM).below E)
   have i:=rootR_size S a (hf n)
   have s:=rootR_size S (a+hf n) (n-hf n)
   generalize rootR S a (hf n)=y at K i ⊢
   generalize rootR S (a+hf n) (n-hf n)=Q at C s ⊢
   have M:¬ (n:Int)=1:=oM
   have g0:((n:Int) == 1)=false:=by simpa using M
   have P:¬ (n:Int)=0:=oM
   have g3:((n:Int) == 0)=false:=by simpa using P
   clear f b ih I M P
   generalize hf n=k at B K C
   go_enter Tryz.func24,Tryz.ntmps24
   go_wp2_with fail
   refine B.out.mono ?_
   rintro e O ⟨v1,rfl,l,rfl⟩
   have H:Hid (Below w.heap.size w O):=l
   clear l B
   go_wp2_with fail
   refine (K.out O H.out).mono ?_
   rintro e m ⟨v2,rfl,d,G,rfl,W,A⟩
   have o:Hid (Below w.heap.size w m∧Holds encB m G 0 y):=⟨H.out.trans (d.mono H.out.size),A⟩
   go_wp2_with fail
   refine (C.out m o.out.1).mono ?_
   rintro e u ⟨v3,rfl,g,R,rfl,V,D⟩
   have p:Hid (Below w.heap.size w u∧Holds encB u G 0 y∧Holds encB u R 0 Q):=⟨o.out.1.trans (g.mono o.out.1.size),Holds.below o.out.2 g (Holds.lt o.out.2 oM),D⟩
   go_wp2_with fail
   refine (node_n (some ⟨G,0,none⟩) (some ⟨R,0,none⟩) 32 32 32 32 y Q u (part_h i p.out.2.1) (part_h s p.out.2.2)).mono ?_
   rintro e w4 ⟨v4,rfl,z,r4,rfl,J,L⟩
   have F:=mk3 (p.out.1.trans (z.mono p.out.1.size)) (Nat.le_trans p.out.1.size J) L
   go_wp2
   go_ret
   exact ⟨_,rfl,F.out.1,_,rfl,F.out.2.1,F.out.2.2⟩
def HL (W:World) (B U:Nat) (v:Value) (L:List Bs):Prop:=
 (L=[]∧v=.slice none 0 0)∨∃ (g cap:Nat) (vs:List Value) (cur:Array Value) (k:Nat→Nat),v=.slice (some ⟨g,0,none⟩) L.length cap∧vs.length=L.length∧0<L.length∧B≤g∧ListAt W g cap vs cur∧(∀ j,j<L.length→vs[j]! = .slice (some ⟨k j,0,none⟩) 32 32∧B≤k j∧k j<U∧L[j]!.size=32∧Holds encB W (k j) 0 L[j]!)∧∀ i j,i<j→j<L.length→k i<k j
theorem Root_c (S:Nat→Bs) (n:Nat) (q:Option Addr) (c:Nat) (w:World) (f:n≤1024) (b:n≤c) (d:Lists w q n S):Calls Tryz.prog 8 #[.slice q n c] w (Ret fun e w'=>∃ v,e=.tuple #[v,.int .i64 0]∧NewH w (rootR S 0 n) v w'):=by
 have hR:=root_c S n n 0 q c w (Nat.le_refl _) oM b (by simpa using d)
 go_enter Tryz.func8,Tryz.ntmps8
 go_wp2_with fail
 refine hR.mono ?_
 rintro e g ⟨v2,rfl,k⟩
 have K:=mk1 (k)
 go_wp2
 go_ret2
 exact ⟨_,rfl,_,rfl,K.out⟩
end
section
open Go.RowKit Go.Sort Go.Deep SPA
structure EnL (w W:World) (i:Nat) (v:Value) (B:Nat→Bs):Prop where
 bl:Below w.heap.size w W
 ex:∃ xs,W.ownsRow w.heap.size 23 1 v i xs∧∀ j,j<i→∃ x,xs[j]? = some x∧ElQ (fun g=>w.heap.size≤g∧v.ownBlock≠some g) 1313 W x (B j)
section
variable {w W W':World} {i:Nat} {v:Value} {B:Nat→Bs}
theorem EnL.grow (h:EnL w W i v B) (k:Below W.heap.size W W'):EnL w W' i v B:=by
 obtain ⟨xs,b,c⟩:=h.ex
 refine ⟨h.bl.trans (k.mono h.bl.size),xs,own_keep b fun g d=>k.block g (own_lt b d).2.1,fun j e=>?_⟩
 obtain ⟨x,f,l⟩:=c j e
 exact ⟨x,f,l.keep (Kq.of_below k)⟩
theorem EnL.qn (h:EnL w W i v B):∀ g,W.heap.size≤g→v.ownBlock≠some g:=fun g b e=>by
 obtain ⟨xs,k,-⟩:=h.ex
 have:=(own_lt k e).2.1
 omega
theorem EnL.app {x:Value} {ga:Nat} (h:EnL w W i v B) (hx:ElQ (fun g=>w.heap.size≤g∧v.ownBlock≠some g) 1313 W x (B i)) (A:W.cell? ⟨ga,0,none⟩=some x) (D:i≤900) :
 ∃ d W',(Builtin.append_ #[27,27] 27 #[v,.slice (some ⟨ga,0,none⟩) 1 1]).run Tryz.prog W=.ok d W'∧EnL w W' (i+1) d B∧W.heap.size≤W'.heap.size∧∀ k,k<W.heap.size→v.ownBlock≠some k→W'.heap[k]? = W.heap[k]?:=by
 obtain ⟨xs,n,r⟩:=h.ex
 obtain ⟨d,W',C,a,b⟩:=app_own n hx.one.2 A oM h.bl.size
 have p:∀ g,g<W.heap.size→(w.heap.size≤g∧v.ownBlock≠some g)→w.heap.size≤g∧d.ownBlock≠some g:=fun g c q=>⟨q.1,fun e=>by
  rcases b.mv with m|⟨⟨l,m,f⟩,-⟩
  ·rw[m] at e;exact q.2 e
  ·rw[m] at e;have:=Option.some.inj e;omega⟩
 have kq:Kq (fun g=>w.heap.size≤g∧d.ownBlock≠some g) W W':=⟨b.size,fun g q c=>by
  rcases b.mv with m|⟨-,m⟩
  ·exact b.keep g c (by rw[← m];exact q.2)
  ·exact m g c⟩
 have f:∀ g,v.ownBlock=some g→w.heap.size≤g:=fun g c=>(own_lt n c).1
 refine ⟨d,W',C,⟨⟨b.os.trans h.bl.os,b.tape.trans h.bl.tape,b.output.trans h.bl.output,Nat.le_trans h.bl.size b.size,fun g c=>(b.keep g (Nat.lt_of_lt_of_le c h.bl.size) fun e=>by have:=f g e;omega).trans (h.bl.block g c)⟩,xs++[x],a,fun j E=>?_⟩,b.size,fun k t o=>b.keep k t o⟩
 have u:xs.length=i:=by have:=n.1;omega
 by_cases l:j<i
 ·obtain ⟨y,z,s⟩:=r j l
  exact ⟨y,by rw[List.getElem?_append_left oM];exact z,(s.mono2 p).keep kq⟩
 ·obtain rfl:j=i:=oM
  exact ⟨x,by rw[List.getElem?_append_right oM,u,Nat.sub_self];rfl,(hx.mono2 p).keep kq⟩
theorem EnL.set {k:Nat} {us:List Value} (h:EnL w W i v B) (n:k<w.heap.size):∃ f xs,(W.setCells k 0 us).ownsRow f 23 1 v i xs∧∀ j,j<i→∃ x,xs[j]? = some x∧ElQ (fun _=>True) 1313 (W.setCells k 0 us) x (B j):=by
 obtain ⟨xs,c,d⟩:=h.ex
 refine ⟨_,xs,own_keep c fun g b=>RG.setCells_other k us 0 W g (by have:=(own_lt c b).1;omega),fun j e=>?_⟩
 obtain ⟨x,l,m⟩:=d j e
 exact ⟨x,l,(m.keep ⟨by rw[RG.setCells_size];exact Nat.le_refl _,fun g b _=>RG.setCells_other k us 0 W g (by have:=b.1;omega)⟩).mono2 fun _ _ _=>trivial⟩
theorem own_lists {Q:Nat→Prop} {p:Nat} {xs:List Value} (b:W.ownsRow p 23 1 v i xs) (m:∀ j,j<i→∃ x,xs[j]? = some x∧ElQ Q 1313 W x (B j)):∃ q c,v=.slice q i c∧i≤c∧Lists W q i B∧(0<i→∃ g,q=some ⟨g,0,none⟩∧g<W.heap.size∧∀ j,j<i→∃ x,W.cell? ⟨g,j,none⟩=some x∧ElQ Q 1313 W x (B j)):=by
 rcases id b with ⟨t,⟨rfl,o⟩|⟨g,cap,cur,rfl,-,-,s,-⟩⟩
 ·exact ⟨none,0,by rw[o],oM,fun d=>absurd d oM,fun d=>absurd d oM⟩
 ·refine ⟨_,cap,rfl,s,fun d=>⟨g,0,rfl,(own_lt b rfl).2.1,fun j l=>?_⟩,fun d=>⟨g,rfl,(own_lt b rfl).2.1,fun j l=>?_⟩⟩
  ·obtain ⟨x,f,e⟩:=m j l
   refine ⟨x,by rw[Nat.zero_add];exact own_cellQ b f,?_⟩
   obtain ⟨k,c,rfl,u,n,-,-,r⟩:=e
   exact ⟨⟨_,_,_,rfl⟩,some ⟨k,0,none⟩,k,0,c,B j,by rw[n],rfl,oM,oM,Or.inr ⟨rfl,r⟩⟩
  ·obtain ⟨x,f,e⟩:=m j l
   exact ⟨x,own_cellQ b f,e⟩
theorem EnL.lists (h:EnL w W i v B):∃ q c,v=.slice q i c∧i≤c∧Lists W q i B:=by
 obtain ⟨xs,f,k⟩:=h.ex
 obtain ⟨q,c,d,e,b,-⟩:=own_lists f k
 exact ⟨q,c,d,e,b⟩
end
end
section
open Go.RowKit Go.Sort Go.Deep SPA
variable {P:Nat} [NeZero P] {N:Nat}
def zcl:List Value:=[.int .i64 0,.slice none 0 0,.int .u64 0,.slice none 0 0]
theorem uCl:(Tryz.prog.underlying 29).map (·.isRow)=some true:=kR
theorem iCl:(Tryz.prog.info? 29).map (·.size)=some 4:=kR
theorem close_c (O:Ord N) (n c:Nat) (q:Option Addr) (K A B:Nat→Nat) (hn:n≤64) (hK:∀ i,1≤K i∧K i≤3) (hA:∀ i,A i<4294967296) (hB:∀ i,B i<4294967296) (Q:sumN A n≤sumN B n) (z:Bs) (ha:z.size=32) (Y:Option Addr) (sc:Nat) (t:Nat→Bs) (w:World) (hL:OpL w q n K A B) (hs:SP.PartOk w (.slice Y 32 sc) z.toList)
 (hW:∀ i W,i<n→Below w.heap.size w W→Calls Tryz.prog 7 #[.slice Y 32 sc,.int .u32 i,.agg (opC (K i) (A i) (B i)).toArray] W (Ret fun e w'=>Below W.heap.size W w'∧ElQ (W.heap.size≤·) 1313 w' e (t i))) :
 Calls Tryz.prog 4 #[.slice Y 32 sc,.slice q n c] w (Ret fun e w'=>Below w.heap.size w w'∧∃ v r b B0 xs,e=.tuple #[v,.agg #[.int .i64 n,.slice (some ⟨r,0,none⟩) 32 32,.int .u64 ((sumN B n-sumN A n:Nat):Int),b],.int .i64 0]∧(w'.ownsRow B0 23 1 v n xs∧∀ j,j<n→∃ x,xs[j]? = some x∧ElQ (fun _=>True) 1313 w' x (t j))∧Holds encB w' r 0 (rootR t 0 n)∧r<w'.heap.size∧ElQ (fun _=>True) 32 w' b (bx (opA N (blW N z) n))):=by
 refine hG w.heap.size fun V C=>?_
 refine hG (w.alloc (.cells zcl.toArray 29)) fun w1 G=>?_
 have K1:=mk1 ((Mp.start w).new C G)
 have H:=mk1 (bal_c O n c q K A B hn hK hA hB Q w1 (hL.below K1.out.bl))
 have E:=mk1 (fun (W:World) (hb:Below w.heap.size w W)=>opening_c O n hn z ha Y sc W (hs.below hb))
 have U:=mk3 hL hW (opA_lt O (blW N z) n)
 have h2:decide ((64:Int)<(n:Int))=false:=decide_eq_false oM
 generalize hT:(sumN B n-sumN A n:Nat)=tot at H ⊢
 generalize opA N (blW N z) n=Z at U E ⊢
 clear hL hW hs hK hA hB Q
 go_enter Tryz.func4,Tryz.ntmps4
 refine wp_seq ?_
 refine PW.begin ?_
 refine PW.va (.slice none 0 0) ?_
 refine PW.al C G ?_
 refine PW.va (.int .i64 0) ?_
 refine PW.dn ?_
 refine wp_seq ?_
 refine wp_seq ?_
 refine PW.begin ?_
 refine PW.mv ?_
 refine PW.va (.int .i64 32) ?_
 refine PW.va (.bool false) ?_
 refine PW.dn ?_
 refine wp_cond_false rfl ?_
 refine wp_skip ?_
 refine wp_seq ?_
 refine wp_seq ?_
 refine PW.begin ?_
 refine PW.mv ?_
 refine PW.va (.int .i64 n) ?_
 refine PW.va (.bool (decide ((64:Int)<(n:Int)))) ?_
 rw[h2]
 refine PW.dn ?_
 refine wp_cond_false rfl ?_
 refine wp_skip ?_
 refine wp_seq ?_
 refine PW.begin ?_
 refine PW.mv ?_
 refine PW.gi H.out fun T h1=>?_
 refine PW.mv ?_
 refine PW.va (.int .u64 tot) ?_
 refine PW.va (.int .i64 0) ?_
 refine PW.va (.int .u64 tot) ?_
 refine PW.va (.int .i64 0) ?_
 refine PW.dn ?_
 refine wp_seq ?_
 refine wp_seq ?_
 refine PW.begin ?_
 refine PW.mv ?_
 refine PW.va (.bool false) ?_
 refine PW.dn ?_
 refine wp_cond_false rfl ?_
 refine wp_skip ?_
 have y:=mk1 (K1.out.grow h1)
 have E0:Hid (EnL T T 0 (.slice none 0 0) t):=⟨Below.refl _ _,[],⟨rfl,Or.inl ⟨rfl,rfl⟩⟩,fun j hj=>absurd hj (Nat.not_lt_zero _)⟩
 refine wp_seq ?_
 refine wp_seq ?_
 refine PW.begin ?_
 refine PW.mv ?_
 refine PW.va (.int .i64 n) ?_
 refine PW.va (.int .i64 0) ?_
 refine PW.dn ?_
 refine wp_block ?_
 go_loopg [4,32] n (fun gk s4 s32 wr=>∃ i:Nat,i+gk=n∧s32=.int .i64 i∧Hid (EnL T wr i s4 t))
 case atStart=>exact ⟨0,oM,rfl,E0⟩
 case round =>
  obtain ⟨i,ht,rfl,u⟩:=hrel
  by_cases hi:i<n
  ·have s:(i:Int)<(n:Int):=oM
   have S:IntKind.i64.wrap ((i:Int)+1)=((i+1:Nat):Int):=by rw[IntKind.wrap_i64];omega
   have he:IntKind.u32.wrap (i:Int)=(i:Int):=by rw[IntKind.wrap_u32];omega
   have bw:=mk1 (y.out.bl.trans (u.out.bl.mono y.out.bl.size))
   obtain ⟨g,rfl,hg,hk⟩:=(U.out.1.below bw.out) oM
   refine hG wr.heap.size fun h6 f=>?_
   refine hG (wr.alloc (.cells z3.toArray 26)) fun w4 I=>?_
   refine hG (w4.setCells h6 0 (opC (K i) (A i) (B i))) fun w5 D=>?_
   have M4:=mk1 ((Mp.start wr).new f I)
   have M5:=mk1 (M4.out.put 0 D)
   have R0:=hk i hi
   obtain ⟨vo,d⟩:=hE (Value.agg (opC (K i) (A i) (B i)).toArray)
   have J:=U.out.2.1 i w5 hi (bw.out.trans (M5.out.bl.mono bw.out.size))
   rw[d.out] at J
   have l:=mk1 (u.out.grow M5.out.bl)
   refine wp_seq ?_
   refine PW.begin ?_
   refine PW.va (.bool (decide ((i:Int)<(n:Int)))) ?_
   rw[decide_eq_true s]
   refine PW.dn ?_
   refine wp_seq ?_
   refine wp_cond_true rfl ?_
   refine wp_skip ?_
   refine wp_seq ?_
   refine wp_block ?_
   refine wp_seq ?_
   refine PW.begin ?_
   refine PW.mv ?_
   refine PW.ns (idxOp g n c i hi wr) ?_
   refine PW.ro R0 d uOp iOp ?_
   refine PW.al f I ?_
   refine PW.va (.int .i64 i) ?_
   refine PW.st D d (M4.out.th 0) iOp (opC_one _ _ _) ?_
   refine PW.dn ?_
   refine PW.begin (P:=Tryz.prog) ?_
   refine PW.mv ?_
   refine PW.mv ?_
   refine PW.mv ?_
   refine PW.va (.int .u32 (IntKind.u32.wrap (i:Int))) ?_
   rw[he]
   refine PW.ro (M5.out.at_ 0).2.1 d uOp iOp ?_
   refine PW.ca J ?_
   rintro e m ⟨h3,F⟩
   have h9:=l.out.grow h3
   have o:=F.mono2 (Q':=fun g=>T.heap.size≤g∧u4.ownBlock≠some g) fun g' _ a=>⟨Nat.le_trans l.out.bl.size a,l.out.qn g' a⟩
   have h5:∃ p n c,e=.slice p n c:=by obtain ⟨k,c,rfl,-⟩:=F;exact ⟨_,_,_,rfl⟩
   have bs:=bsl1 e h5 m
   have bb:=below1 m (.cells #[e] 23)
   obtain ⟨v',w8,L,R,-,-⟩:=(h9.grow bb).app (ga:=m.heap.size) (o.keep (Kq.of_below bb)) ((row_new m [e] 23).2.1 0 _ rfl) oM
   refine hG m.heap.size fun hr M=>?_
   refine hG (m.alloc (.cells #[e] 23)) fun w7 X=>?_
   rw[M.out,X.out] at bs L
   have KF:=mk1 R
   refine PW.ns bs ?_
   refine PW.ns L ?_
   refine PW.va v' ?_
   refine PW.dn ?_
   refine PW.begin (P:=Tryz.prog) ?_
   refine PW.va (.int .i64 (IntKind.i64.wrap ((i:Int)+1))) ?_
   rw[S]
   go_wp2
   go_roundg (gk-1)
   case measure=>omega
   case rel=>exact ⟨i+1,oM,rfl,KF⟩
  ·have s:¬ (i:Int)<(n:Int):=oM
   obtain rfl:i=n:=oM
   obtain ⟨q4,c4,rfl,h8,hc⟩:=u.out.lists
   have hl:=mk1 (Root_c t i q4 c4 wr oM h8 hc)
   have bw:=mk1 (y.out.bl.trans (u.out.bl.mono y.out.bl.size))
   have Rk:=mk1 ((y.out.at_ 0).below u.out.bl)
   have lk:=(y.out.at_ 0).1
   have h7:=(y.out.lt (g:=V) (by simp)).1
   refine wp_seq ?_
   refine PW.begin ?_
   refine PW.va (.bool (decide ((i:Int)<(i:Int)))) ?_
   rw[decide_eq_false s]
   refine PW.dn ?_
   refine wp_seq ?_
   refine wp_cond_false rfl ?_
   refine wp_exit ?_
   refine wp_seq (P:=Tryz.prog) ?_
   refine PW.begin ?_
   refine PW.mv ?_
   refine PW.ca hl.out ?_
   rintro e w8 ⟨v8,rfl,l,r,rfl,hp,D⟩
   refine PW.mv ?_
   refine PW.va (.slice (some ⟨r,0,none⟩) 32 32) ?_
   refine PW.va (.int .i64 0) ?_
   refine PW.va (.slice (some ⟨r,0,none⟩) 32 32) ?_
   refine PW.va (.int .i64 0) ?_
   refine PW.dn ?_
   obtain ⟨vb,a⟩:=hE (nv Z)
   have R:=E.out w8 (bw.out.trans (l.mono bw.out.size))
   rw[a.out] at R
   have h0:Hid (∀ W,Calls Tryz.prog 10 #[vb] W (Ret fun e w'=>Below W.heap.size W w'∧ElQ (W.heap.size≤·) 32 w' e (bx Z)∧∃ g,e=r32 g)):=by rw[← a.out];exact fun W=>scBytesQ_c O U.out.2.2 W
   refine wp_seq ?_
   refine PW.begin ?_
   refine PW.mv ?_
   refine PW.mv ?_
   refine PW.va (.int .i64 i) ?_
   refine PW.mv ?_
   refine PW.mv ?_
   refine PW.mv ?_
   refine PW.mv ?_
   refine PW.va (.int .i64 i) ?_
   refine PW.gi R fun w9 m=>?_
   refine PW.ca (h0.out w9) ?_
   rintro e F ⟨I,M,o,rfl⟩
   have bA:=m.trans (I.mono m.size)
   have bB:=l.trans (bA.mono l.size)
   refine PW.va (.agg #[.int .i64 i,.slice (some ⟨r,0,none⟩) 32 32,.int .u64 tot,r32 o]) ?_
   refine PW.va (.slice q4 i c4) ?_
   refine hG (F.setCells V 0 [.int .i64 i,.slice (some ⟨r,0,none⟩) 32 32,.int .u64 tot,r32 o]) fun f d=>?_
   have J:=Rk.out.below bB
   have hq:=u.out.bl.size
   have h4:Hid (Row f V [.int .i64 i,.slice (some ⟨r,0,none⟩) 32 32,.int .u64 tot,r32 o]):=by rw[← d.out];exact J.put rfl
   have X:=(u.out.grow bB).set (us:=[.int .i64 i,.slice (some ⟨r,0,none⟩) 32 32,.int .u64 tot,r32 o]) lk
   have L:=Holds.lt D (by rw[rootR_size];decide)
   have F2:Holds encB f r 0 (rootR t 0 i):=by
    rw[← d.out]
    exact holds_set (Holds.below D bA L) oM
   have F3:ElQ (fun _=>True) 32 f (r32 o) (bx Z):=by
    rw[← d.out]
    exact (M.keep ⟨by rw[RG.setCells_size];exact Nat.le_refl _,fun g hg _=>RG.setCells_other V _ 0 F g (by have:=l.size;have:=m.size;omega)⟩).mono2 fun _ _ _=>trivial
   have F4:Below w.heap.size w f:=by
    rw[← d.out]
    exact RG.below_setCells h7 _ _ _ (bw.out.trans (bB.mono bw.out.size))
   have F5:r<f.heap.size:=by
    rw[← d.out,RG.setCells_size]
    exact Nat.lt_of_lt_of_le L bA.size
   rw[d.out] at X
   obtain ⟨B0,xs,X,hm⟩:=X
   have S:=mk3 F4 (And.intro X hm) (And.intro F2 (And.intro F5 F3))
   have th:=J.2.2
   refine PW.st (cs:=[.int .i64 i,.slice (some ⟨r,0,none⟩) 32 32,.int .u64 tot,r32 o]) d (Hid.mk' rfl) th iCl kR ?_
   refine PW.va (.int .i64 0) ?_
   refine PW.dn ?_
   refine wp_ret ?_
   refine bodyPost_ret (results_tct 4 5 6 29 rfl h4.out rfl rfl rfl uCl iCl) rfl ?_
   exact ⟨_,rfl,S.out.1,_,r,r32 o,B0,xs,rfl,S.out.2.1,S.out.2.2.1,S.out.2.2.2.1,S.out.2.2.2.2⟩
end
section
open Go.RowKit Go.Sort Go.Deep SPA
section
variable {P:Program} {ops:Array Oper} {Q:Exit→Act→World→Prop} {p r:Nat} {J:Iv} {fuel:Nat} {o:Oper} {listed:Array Bool} {a a':Act} {w w':World} {d:Option Tmp} {x v:Value} {t:Tmp} {T:TypeId} {b off:Nat} {cs:List Value}
theorem AG.va (i:Nat) (x:Value) (h:AW P ops Q p r J fuel (listed.setIfInBounds i true) a' w) (ho:ops[i]? = some o:=by (simp only[List.getElem?_toArray,List.getElem?_cons_succ,List.getElem?_cons_zero])<;>rfl) (hd:o.dst=d:=by rfl) (e:Region.wanted o (yielded ops a.tmps)=true:=by kernel_rfl) (hv:∀ w,(execOp a.eval o).run P w=.ok (.value x) w:=by intro _;kernel_rfl)
 (f:a.put d x=a':=by (simp only[Act.put,List.setIfInBounds_toArray,List.set_cons_succ,List.set_cons_zero])<;>rfl) (b:aw1 ops p r (fw ops i) i listed=true:=by kernel_rfl) (k:∀ c a w,Q (.panic c) (a.put o.dst x) w→Q (.panic c) a w:=by exact fun _ _ _ h=>h):AW P ops Q p r J (fuel+1) listed a w:=
 AW.take i (fw ops i) ho hd (Or.inl ⟨e,fun w _=>hv w⟩) f b k h
theorem AG.iv (i:Nat) {I:Sem Value} (e:∀ w,I.run P w=.ok x w) (h:AW P ops Q p r J fuel (listed.setIfInBounds i true) a' w) (ho:ops[i]? = some o:=by (simp only[List.getElem?_toArray,List.getElem?_cons_succ,List.getElem?_cons_zero])<;>rfl) (hd:o.dst=d:=by rfl) (g:Region.wanted o (yielded ops a.tmps)=true:=by kernel_rfl) (k:execOp a.eval o=I >>= fun v=>pure (Next.value v):=by kernel_rfl)
 (j:a.put d x=a':=by (simp only[Act.put,List.setIfInBounds_toArray,List.set_cons_succ,List.set_cons_zero])<;>rfl) (f:aw1 ops p r (fw ops i) i listed=true:=by kernel_rfl) (b:∀ c a w,Q (.panic c) (a.put o.dst x) w→Q (.panic c) a w:=by exact fun _ _ _ h=>h):AW P ops Q p r J (fuel+1) listed a w:=
 AW.take i (fw ops i) ho hd (Or.inl ⟨g,fun w _=>by rw[k,Sem.run_bind,e w];rfl⟩) j f b h
theorem AG.ce (i:Nat) (m:(P.underlying T).map (·.isRow)=some false) (j:∀ W,J.p W→W.cell? ⟨b,off,none⟩=some x) (h:AW P ops Q p r J fuel (listed.setIfInBounds i true) a' w) (ho:ops[i]? = some o:=by (simp only[List.getElem?_toArray,List.getElem?_cons_succ,List.getElem?_cons_zero])<;>rfl) (hd:o.dst=d:=by rfl) (l:Region.wanted o (yielded ops a.tmps)=true:=by kernel_rfl) (e:o.op=.load T (.tmp t):=by rfl) (hx:a.eval (.tmp t)=.pointer (some ⟨b,off,none⟩):=by rfl)
 (n:a.put d x=a':=by (simp only[Act.put,List.setIfInBounds_toArray,List.set_cons_succ,List.set_cons_zero])<;>rfl) (g:aw1 ops p r (qw ops J.b p r i) i listed=true:=by kernel_rfl) (f:∀ c a w,Q (.panic c) (a.put o.dst x) w→Q (.panic c) a w:=by exact fun _ _ _ h=>h):AW P ops Q p r J (fuel+1) listed a w:=
 AW.take i (qw ops J.b p r i) ho hd (Or.inl ⟨l,fun w k=>by
  unfold execOp
  rw[e]
  dsimp only
  rw[hx,Sem.run_bind,RG.run_load1 (j w (Sa.bel k)) m]
  rfl⟩) n g f h
end
end
section
open Go.RowKit Go.Sort Go.Deep SPA
variable {P:Nat} [NeZero P] {N:Nat}
theorem boxCl (a b c d:Value) (w:World):(Instr.box 29 (.agg #[a,b,c,d])).run Tryz.prog w=.ok (.pointer (some ⟨w.heap.size,0,none⟩)) (w.alloc (.cells [a,b,c,d].toArray 29)):=kR
theorem check_c (O:Ord N) (n c:Nat) (q:Option Addr) (hn:n≤64) (U:n≤c) (S:Nat→Bs) (tot m:Nat) (ht:tot<18446744073709551616) (h0:m<N) (X:Bs) (I:X.size=33) (rq o:Option Addr) (f p s:Nat) (w:World) (hL:Lists w q n S) (hr:SP.PartOk w (.slice rq 32 f) (rootR S 0 n).toList) (b:Arg w (.slice o p s) (bx m))
 (z:∀ W,Below w.heap.size w W→Calls Tryz.prog 13 #[.slice q n c] W (Ret fun e w'=>Below W.heap.size W w'∧e=.tuple #[pvl X,.bool true])) (hC:Gives 14 #[nv tot,nv m] (pvl X)) :
 Calls Tryz.prog 5 #[.slice q n c,.agg #[.int .i64 n,.slice rq 32 f,.int .u64 tot,.slice o p s]] w (Ret fun e w'=>Below w.heap.size w w'∧e=.bool true):=by
 refine hG w.heap.size fun G D=>?_
 refine hG (w.alloc (.cells [.int .i64 n,.slice rq 32 f,.int .u64 tot,.slice o p s].toArray 29)) fun J x=>?_
 have K:=mk1 ((Mp.start w).new D x)
 have F:=boxCl (.int .i64 n) (.slice rq 32 f) (.int .u64 tot) (.slice o p s) w
 rw[D.out,x.out] at F
 have i:=sread_c O _ (bx m) J (b.below K.out.bl)
 rw[rq_bxO O h0] at i
 obtain ⟨Y,d⟩:=hE (nv m)
 obtain ⟨vt,y⟩:=hE (nv tot)
 obtain ⟨l,k⟩:=hE (pvl X)
 have v:Hid (Calls Tryz.prog 11 #[.slice o p s] J (Ret fun e w'=>Below J.heap.size J w'∧e=.tuple #[Y,.bool true])):=by rw[← d.out];exact i
 have HO:Hid (∀ W,Calls Tryz.prog 15 #[.int .u64 tot] W (Ret fun e w'=>Below W.heap.size W w'∧e=vt)):=by rw[← y.out];exact ofN_c tot ht
 have HC:Hid (∀ W,Calls Tryz.prog 14 #[vt,Y] W (Ret fun e w'=>Below W.heap.size W w'∧e=l)):=by rw[← y.out,← d.out,← k.out];exact hC
 have h3:Hid (∀ W,Below w.heap.size w W→Calls Tryz.prog 13 #[.slice q n c] W (Ret fun e w'=>Below W.heap.size W w'∧e=.tuple #[l,.bool true])):=by rw[← k.out];exact z
 have M:Hid (∀ W:World,(eqGuard .eql 51 (.tmp 47) (.tmp 52) l l >>= fun _=>binOp .eql 51 l l).run Tryz.prog W=.ok (.bool true) W):=fun W=>by
  rw[← k.out,Sem.run_bind,show (eqGuard .eql 51 (.tmp 47) (.tmp 52) (pvl X) (pvl X)).run Tryz.prog W=.ok () W by kernel_rfl]
  have:=eqPtY I I W
  rw[decide_eq_true rfl] at this
  exact this
 have HL:=mk2 hL hr
 have n1:decide ((64:Int)<(n:Int))=false:=decide_eq_false (by omega)
 have n2:((n:Int) != (n:Int))=false:=by simp
 have iX:(Tryz.prog.info? 51).map (·.size)=some (bl33 X).length:=by rw[bl33_length I];exact iCP
 have lX:(bl33 X).length=z33.length:=bl33_length I
 clear hL hr b z hC i
 obtain ⟨vc,Z⟩:=hE (Value.agg #[.int .i64 n,.slice rq 32 f,.int .u64 tot,.slice o p s])
 rw[Z.out] at F ⊢
 go_enter Tryz.func5,Tryz.ntmps5
 refine wp_seq ?_
 refine PW.begin ?_
 refine PW.ns F ?_
 refine PW.va (.bool false) ?_
 refine PW.dn ?_
 refine wp_seq ?_
 refine PW.begin ?_
 refine PW.va (.pointer (some ⟨G,3,none⟩)) ?_
 refine PW.ce ((K.out.at_ 0).2.1 3 _ rfl) u23A ?_
 refine PW.gi v.out fun w2 g=>?_
 refine hG w2.heap.size fun k5 u=>?_
 refine hG (w2.alloc (.cells (RG.z 4).toArray 44)) fun w3 B=>?_
 refine hG (w3.setCells k5 0 (wn m)) fun w4 A=>?_
 have K3:=mk1 ((K.out.grow g).new u B)
 have K4:=mk1 (K3.out.put 1 A)
 clear K g v F
 refine PW.mv ?_
 refine PW.va Y ?_
 refine PW.va (.bool true) ?_
 refine PW.al u B ?_
 refine PW.st A d (K3.out.th 1) i40 (wn_one _) ?_
 refine PW.va (.bool true) ?_
 refine PW.dn ?_
 refine wp_seq ?_
 refine wp_seq ?_
 refine PW.begin ?_
 refine PW.mv ?_
 refine PW.va (.bool false) ?_
 refine PW.mv ?_
 refine PW.gd ?_
 refine PW.mv ?_
 refine PW.gd ?_
 refine PW.va (.int .i64 n) ?_
 refine PW.gd ?_
 refine PW.va (.bool (decide ((64:Int)<(n:Int)))) ?_
 rw[n1]
 refine PW.va (.bool false) ?_
 refine PW.mv ?_
 refine PW.gd ?_
 refine PW.mv ?_
 refine PW.gd ?_
 refine PW.va (.int .i64 n) ?_
 refine PW.gd ?_
 refine PW.va (.pointer (some ⟨G,0,none⟩)) ?_
 refine PW.gd ?_
 refine PW.ce ((K4.out.at_ 0).2.1 0 _ rfl) u3r ?_
 refine PW.gd ?_
 refine PW.va (.bool ((n:Int) != (n:Int))) ?_
 rw[n2]
 refine PW.va (.bool false) ?_
 refine PW.dn ?_
 refine wp_cond_false rfl ?_
 refine wp_skip ?_
 refine wp_seq ?_
 refine wp_seq ?_
 refine PW.begin ?_
 refine PW.mv ?_
 refine PW.ca (Root_c S n q c w4 (by omega) U (HL.out.1.below K4.out.bl)) ?_
 rintro e H ⟨v5,rfl,Q,r,rfl,h6,L⟩
 simp only[Act.put,List.setIfInBounds_toArray,List.set_cons_succ,List.set_cons_zero]
 have R:=mk1 (K4.out.grow Q)
 have h4:Calls Tryz.prog 12 #[.slice (some ⟨r,0,none⟩) 32 32,.slice rq 32 f] H (Ret fun e w'=>Below H.heap.size H w'∧e=.bool true):=(equal_c (some ⟨r,0,none⟩) rq 32 32 32 f (rootR S 0 n) (rootR S 0 n) H (part_h (rootR_size _ _ _) L) (HL.out.2.below R.out.bl)).mono fun e w' ⟨h1,h2⟩=>⟨_,h1,h2 ▸ Below.refl _ _,by rw[decide_eq_true rfl]⟩
 refine PW.mv ?_
 refine PW.va (.slice (some ⟨r,0,none⟩) 32 32) ?_
 refine PW.va (.int .i64 0) ?_
 refine PW.va (.slice (some ⟨r,0,none⟩) 32 32) ?_
 refine PW.va (.int .i64 0) ?_
 refine PW.dn ?_
 refine wp_seq ?_
 refine PW.begin ?_
 refine PW.mv ?_
 refine PW.va (.pointer (some ⟨G,1,none⟩)) ?_
 refine PW.ce ((R.out.at_ 0).2.1 1 _ rfl) u23A ?_
 refine PW.gi h4 fun w6 T=>?_
 refine PW.va (.bool false) ?_
 refine PW.dn ?_
 have K6:=mk1 (R.out.grow T)
 refine wp_cond_false rfl ?_
 refine wp_skip ?_
 refine wp_seq (P:=Tryz.prog) ?_
 refine PW.begin ?_
 refine PW.mv ?_
 refine PW.gi (h3.out w6 K6.out.bl) fun w7 V=>?_
 refine hG w7.heap.size fun k9 a=>?_
 refine hG (w7.alloc (.cells z33.toArray 51)) fun w8 E=>?_
 refine hG (w8.setCells k9 0 (bl33 X)) fun w9 t=>?_
 have K8:=mk1 ((K6.out.grow V).new a E)
 have C:=mk1 (K8.out.put 2 t rfl lX)
 refine PW.mv ?_
 refine PW.va l ?_
 refine PW.va (.bool true) ?_
 refine PW.al a E ?_
 refine PW.st t k (K8.out.th 2 rfl lX) iX (bl33_one _) ?_
 refine PW.va (.bool true) ?_
 refine PW.dn ?_
 refine wp_seq ?_
 refine AW.beg 10 10 ⟨fun W=>Below w9.heap.size w9 W,fun _ _ b h=>h.trans (b.mono h.size),false⟩ ⟨rfl,rfl,rfl,Nat.le_refl _,fun _ _=>rfl⟩ ?_
 refine AW.mv 0 ?_
 refine AW.mv 1 ?_
 refine AG.ro 2 (fun W b=>((C.out.at_ 2).below b).2.1) k uCP iX ?_
 refine AG.va 3 (.pointer (some ⟨G,2,none⟩)) ?_
 refine AG.ce 4 u64r (fun W b=>((C.out.at_ 0).below b).2.1 2 _ rfl) ?_
 refine AG.ro 6 (fun W b=>((C.out.at_ 1).below b).2.1) d u40 i40 ?_
 refine AG.cw 5 (fun _=>HO.out _) (fun e w' j h=>Below.trans j (h.1.mono (Below.size j))) ?_
 rintro e W1 ⟨h5,rfl⟩
 refine AG.cw 7 (fun _=>HC.out _) (fun e w' j h=>Below.trans j (h.1.mono (Below.size j))) ?_
 rintro e W2 ⟨g,rfl⟩
 refine AG.iv 8 M.out ?_
 refine AW.nx 9 (.bool true) ?_
 refine AW.nx 10 (.bool true) ?_
 refine AW.dn fun j=>?_
 have KE:=mk1 (C.out.bl.trans (Below.mono j C.out.bl.size))
 go_wp2
 go_ret
 exact ⟨_,rfl,KE.out,rfl⟩
end
section
open Go.RowKit Go.Sort Go.Deep SPA
section
variable {N:Nat} [NeZero N] {M:Type} (D:Md N M)
theorem cm_ad (H G:M) (a b u v w:Fin N):D.ad (D.cm H G a b) (D.ac w (D.cm H G u v))=D.cm H G (a+w*u) (b+v*w):=by
 unfold Md.cm
 rw[D.acAd,D.swap,D.acAc,D.acAc,← D.adAc,← D.adAc,show w*v=v*w by grind]
def totF (w:Nat→Fin N) (f:Nat→Nat→Fin N):Nat→Fin N
 | 0=>0
 | i+1=>totF w f i+w 0*f i 0+w 1*f i 1
def opnF (w:Nat→Fin N) (f:Nat→Nat→Fin N):Nat→Fin N
 | 0=>0
 | i+1=>opnF w f i+f i 0*w 0+f i 1*w 1
theorem cm_zo (H G:M):D.cm H G 0 0=D.zo:=by
 unfold Md.cm
 rw[D.zac,D.zac,D.zadd]
end
variable {P:Nat} [NeZero P] {N:Nat} [NeZero N]
theorem Tl.term (C:Fld P) (k:∀ r:EC.Pt P,EC.On r→EC.mul N r=none) (b:1<N) (n:Fin N) (X:OnP P):Tl N [(n.val,wP X)] ((ptMd C k).ac n X):=by
 have h:=(Tl.one C b X).tm C k n
 have e:[(1,wr X.1)].map (tmT N n.val)=[(n.val,wP X)]:=by
  show [(n.val*1%N,wr X.1)]=_
  rw[Nat.mul_one,Nat.mod_eq_of_lt n.isLt]
 rw[e] at h
 exact h
theorem tmP_tl (C:Fld P) (k:∀ r:EC.Pt P,EC.On r→EC.mul N r=none) (c:1<N) (H G:OnP P) (w:Nat→Fin N) (a b:Nat→Nat→Fin N) (f:Nat→Nat→Nat × Bs) (hf:∀ i s,f i s=((w s).val,wP ((ptMd C k).cm H G (a i s) (b i s)))) :
 ∀ n,Tl N (tmP f n) ((ptMd C k).cm H G (totF w a n) (opnF w b n))
 | 0=>by
  show Tl N [] ((ptMd C k).cm H G 0 0)
  rw[cm_zo]
  exact Tl.nil C k
 | n+1=>by
  have h:=(Tl.app C k (Tl.app C k (tmP_tl C k c H G w a b f hf n) (Tl.term C k c (w 0) ((ptMd C k).cm H G (a n 0) (b n 0)))) (Tl.term C k c (w 1) ((ptMd C k).cm H G (a n 1) (b n 1))))
  rw[cm_ad,cm_ad,← hf n 0,← hf n 1] at h
  exact h
theorem opn_val (O:Ord N) (w:Nat→Fin N) (f:Nat→Nat→Fin N):∀ n,(opnF w f n).val=opA N (fun i s=>sTi N (f i s).val (w s).val) n
 | 0=>rfl
 | n+1=>by
  show (opnF w f n+f n 0*w 0+f n 1*w 1).val=sPl N (sPl N (opA N _ n) (sTi N _ _)) (sTi N _ _)
  rw[pl_val,pl_val,ti_val,ti_val,opn_val O w f n]
def wF (N:Nat) [NeZero N]:Nat→Fin N
 | 0=>-1
 | _=>1
theorem wF_val (O:Ord N):∀ s,(wF N s).val=sdW N s
 | 0=>by
  show (-1:Fin N).val=sMi N 0 1
  rw[ne_val]
  have:=O.n2
  congr 1
  exact Nat.mod_eq_of_lt (show 1<N by omega)
 | _+1=>by
  have:=O.n2
  exact Nat.mod_eq_of_lt (show 1<N by omega)
theorem tot_of (A B:Nat→Nat):∀ n,totF (wF N) (fun i s=>ofF N (amN s (A i) (B i))) n+ofF N (sumN A n)=ofF N (sumN B n)
 | 0=>by
  show (0:Fin N)+ofF N 0=ofF N 0
  rw[ofF_zero]
  grind
 | n+1=>by
  have h:=tot_of A B n
  show totF (wF N) _ n+-1*ofF N (A n)+1*ofF N (B n)+ofF N (sumN A n+A n)=ofF N (sumN B n+B n)
  rw[ofF_add,ofF_add,← h]
  grind
theorem tot_is (A B:Nat→Nat) (n:Nat) (h:sumN A n≤sumN B n):totF (wF N) (fun i s=>ofF N (amN s (A i) (B i))) n=ofF N (sumN B n-sumN A n):=by
 have b:=tot_of (N:=N) A B n
 have k:=ofF_add (N:=N) (sumN B n-sumN A n) (sumN A n)
 rw[Nat.sub_add_cancel h,← b] at k
 grind
end
end Go.Proofs.YtlofhpkoaljmeaaGreat
