import Derived.Deep.LoopGhost
import Derived.Deep.RegionHeld3
import Derived.Deep.CutRange
import Derived.Deep.DeepCutAuto
import Derived.Laws.MakeOwn
import Derived.ChangeKeysEq
import Derived.Deep.AppendSrc
import Derived.Lib.AppendZeros
import Derived.LoopN
import Derived.Deep.RegionWith
import Derived.WalkKit
import Derived.Sort.Row
import Derived.Deep.Draws
import Derived.Below
import Derived.Deep.OwnRows
import Derived.Test.YtlofhpkoaljmeaaGreatRows
import Derived.Deep.QuietTactic
import Derived.StillTailTactics
import Derived.BigRegion
import Derived.BigQuiet
import Derived.WalkSpells
import Derived.WalkLawsBesides
import Derived.KernelRfl
import Derived.Lib.LazyBuf
import Derived.Lib.SliceRun
import Derived.Lib.ConvBytes
import Derived.Test.YtlofhpkoaljmeaaGreatat2
set_option linter.unusedVariables false
set_option linter.constructorNameAsVariable false
set_option linter.unusedSimpArgs false
set_option maxRecDepth 1000000
set_option maxHeartbeats 4000000
namespace Go.Proofs.YtlofhpkoaljmeaaGreat
section
open Go.RowKit Go.Sort
variable {P:Nat} [NeZero P] {N:Nat}
theorem times_n (F:Fld P) (b o k:Nat) (p:k<8) (s:T3 P) (w:World) (q:b<w.heap.size) (u:w.rangeAt b (o+0+12*k) (tw s)):Calls Tryz.prog 115 #[(.pointer (some ⟨b,o,none⟩)),(.int .i8 (-(2*(k:Int)+1)))] w (Ret fun e w'=>Below w.heap.size w w'∧e=tv (opJ s)):=by
 obtain ⟨s2,c⟩:∃ s2,opJ s=s2:=⟨_,rfl⟩
 have j:=c ▸ opJ_c F s
 have f:∀ w,(binOp .lss 213 (.int .i8 (-(2*(k:Int)+1))) (.int .i8 0)).run Tryz.prog w=.ok (.bool true) w:=fun w=>by
  go_simp
  try omega
 have d:∀ w,(Op.unary .neg (.int .i8 (-(2*(k:Int)+1)))).run Tryz.prog w=.ok (.int .i8 (2*(k:Int)+1)) w:=fun w=>by
  rw[i8neg _ oM,Int.neg_neg]
 go_enter Tryz.func115,Tryz.ntmps115
 refine RG.var2 (v0:=(.pointer (some ⟨b,o,none⟩))) (v1:=(.int .i8 (-(2*(k:Int)+1)))) (n:=23) kR kR kR kR ?_
 intro a0 i x t
 have l:=RG.St.begin w
 have y:RG.M w w.heap.size [] 23 [] [] [(0,(.v (.pointer (some ⟨b,o,none⟩)))),(1,(.v (.int .i8 (-(2*(k:Int)+1)))))] a0 _:=⟨l,i,⟨x,t,trivial⟩⟩
 repeat refine wp_seq ?_
 refine y.T [.m 0] [(0,(RG.z 12))] [] [(RG.z 12)] [0,1,4] ⟨RG.mk 0 211,trivial⟩ ?_
 intro B C a r
 repeat refine wp_seq ?_
 refine r.U [.x (.int .i8 (-(2*(k:Int)+1))),.x (.bool true)] [0,1,4,6] ⟨RG.st,RG.cert_binc rfl .lss 213 213 5 (.int .i8 (-(2*(k:Int)+1))) (.int .i8 0) (.bool true) rfl rfl RG.sx (fun w=>kR) (f),trivial⟩ ?_
 intro a2 A m
 repeat refine wp_seq ?_
 refine wp_cond_true m.ev ?_
 repeat refine wp_seq ?_
 refine m.T [.x (.pointer (some ⟨b,o,none⟩)),.x (.int .i8 (-(2*(k:Int)+1))),.x (.int .i8 (2*(k:Int)+1)),.x (.int .i8 k),.x (.pointer (some ⟨b,o,none⟩)),.x (.pointer (some ⟨b,(o+0),none⟩)),.x (.pointer (some ⟨b,((o+0)+12*k),none⟩)),.x (tv s),.c (tv s2),.u 0] [] [(0,9,(tw s2))] [(tw s2)] [4] ⟨RG.st,RG.st,RG.cert_un rfl .neg 213 8 (.int .i8 (-(2*(k:Int)+1))) (.int .i8 (2*(k:Int)+1)) rfl rfl RG.sx (d),RG.cert_binc rfl .quo 213 213 9 (.int .i8 (2*(k:Int)+1)) (.int .i8 2) (.int .i8 k) rfl rfl RG.sx (fun w=>kR) (i8quo k p),RG.st,RG.st,RG.cert_idx rfl 212 12 10 rfl (.v (.pointer (some ⟨b,(o+0),none⟩))) (.int .i8 k) RG.sx RG.sx (fun μ w=>at136b _ _ k p w),RG.cert_loadB rfl b ((o+0)+12*k) q List.not_mem_nil 211 13 rfl (tw s) rfl RG.sx u u117 i117,RG.cl (j),RG.pt i117,trivial⟩ ?_
 intro D z g
 refine wp_ret ?_
 refine bodyPost_ret (v:=tv s2) (RG.results_row g.st 4 211 rfl 0 _ rfl (g.at (s:=(.p 0 0))) u117 i117) g.sl.defers ?_
 exact ⟨_,rfl,g.st.bel.below,by rw[c]⟩
theorem times_p (F:Fld P) (b o k:Nat) (m:k<8) (s:T3 P) (w:World) (p:b<w.heap.size) (t:w.rangeAt b (o+0+12*k) (tw s)):Calls Tryz.prog 115 #[(.pointer (some ⟨b,o,none⟩)),(.int .i8 (2*(k:Int)+1))] w (Ret fun e w'=>Below w.heap.size w w'∧e=tv s):=by
 obtain ⟨s2,l⟩:∃ s2,opJ s=s2:=⟨_,rfl⟩
 have c:∀ w,(binOp .lss 213 (.int .i8 (2*(k:Int)+1)) (.int .i8 0)).run Tryz.prog w=.ok (.bool false) w:=fun w=>by
  go_simp
  try omega
 have j:∀ w,(Op.unary .neg (.int .i8 (-(2*(k:Int)+1)))).run Tryz.prog w=.ok (.int .i8 (2*(k:Int)+1)) w:=fun w=>by
  rw[i8neg _ oM,Int.neg_neg]
 go_enter Tryz.func115,Tryz.ntmps115
 refine RG.var2 (v0:=(.pointer (some ⟨b,o,none⟩))) (v1:=(.int .i8 (2*(k:Int)+1))) (n:=23) kR kR kR kR ?_
 intro a0 f u r
 have g:=RG.St.begin w
 have x:RG.M w w.heap.size [] 23 [] [] [(0,(.v (.pointer (some ⟨b,o,none⟩)))),(1,(.v (.int .i8 (2*(k:Int)+1))))] a0 _:=⟨g,f,⟨u,r,trivial⟩⟩
 repeat refine wp_seq ?_
 refine x.T [.m 0] [(0,(RG.z 12))] [] [(RG.z 12)] [0,1,4] ⟨RG.mk 0 211,trivial⟩ ?_
 intro A B z q
 repeat refine wp_seq ?_
 refine q.U [.x (.int .i8 (2*(k:Int)+1)),.x (.bool false)] [0,1,4,6] ⟨RG.st,RG.cert_binc rfl .lss 213 213 5 (.int .i8 (2*(k:Int)+1)) (.int .i8 0) (.bool false) rfl rfl RG.sx (fun w=>kR) (c),trivial⟩ ?_
 intro a2 a i
 repeat refine wp_seq ?_
 refine wp_cond_false i.ev ?_
 refine wp_skip ?_
 repeat refine wp_seq ?_
 refine i.T [.x (.pointer (some ⟨b,o,none⟩)),.x (.int .i8 (2*(k:Int)+1)),.x (.int .i8 k),.x (.pointer (some ⟨b,o,none⟩)),.x (.pointer (some ⟨b,(o+0),none⟩)),.x (.pointer (some ⟨b,((o+0)+12*k),none⟩)),.x (tv s),.u 0] [] [(0,7,(tw s))] [(tw s)] [4] ⟨RG.st,RG.st,RG.cert_binc rfl .quo 213 213 17 (.int .i8 (2*(k:Int)+1)) (.int .i8 2) (.int .i8 k) rfl rfl RG.sx (fun w=>kR) (i8quo k m),RG.st,RG.st,RG.cert_idx rfl 212 20 18 rfl (.v (.pointer (some ⟨b,(o+0),none⟩))) (.int .i8 k) RG.sx RG.sx (fun μ w=>at136b _ _ k m w),RG.cert_loadB rfl b ((o+0)+12*k) p List.not_mem_nil 211 21 rfl (tw s) rfl RG.sx t u117 i117,RG.pt i117,trivial⟩ ?_
 intro C y d
 refine wp_ret ?_
 refine bodyPost_ret (v:=tv s) (RG.results_row d.st 4 211 rfl 0 _ rfl (d.at (s:=(.p 0 0))) u117 i117) d.sl.defers ?_
 exact ⟨_,rfl,d.st.bel.below,rfl⟩
def tmJ (x y:Fin P) (d:Int):T3 P:=if d<0 then opJ (od x y ((-d).toNat/2)) else od x y (d.toNat/2)
theorem tmJ_J (C:Fld P) {x y:Fin P} {p:EC.Pt P} (h:EC.Pair x y p) (b:EC.On p) {d:Int} (hd:d%2=1):JacT (tmJ x y d) (EC.zmul d p):=by
 unfold tmJ
 by_cases c:d<0
 ·rw[if_pos c]
  have k:=(od_J C h b ((-d).toNat/2)).neg
  rw[← EC.zmul_neg C.cur b] at k
  rw[show -((2*((-d).toNat/2)+1:Nat):Int)=d by omega] at k
  exact k
 ·rw[if_neg c]
  have k:=od_J C h b (d.toNat/2)
  rw[show ((2*(d.toNat/2)+1:Nat):Int)=d by omega] at k
  exact k
def inn (ns:Nat→Nat) (xs ys:Nat→Fin P) (st:T3 P) (place:Nat):Nat→T3 P
 | 0=>st
 | i+1=>if digs (ns i) place=0 then inn ns xs ys st place i else plJ (inn ns xs ys st place i) (tmJ (xs i) (ys i) (digs (ns i) place))
def sumJ (ns:Nat→Nat) (xs ys:Nat→Fin P) (N:Nat):Nat→T3 P
 | 0=>(0,0,0)
 | m+1=>inn ns xs ys (twJ (sumJ ns xs ys N m)) (256-m) N
theorem inn_J (C:Fld P) {ns:Nat→Nat} {xs ys:Nat→Fin P} {p:Nat→EC.Pt P} {N:Nat} (b:∀ i,i<N→ns i<2^256) (l:∀ i,i<N→EC.Pair (xs i) (ys i) (p i)) (ho:∀ i,i<N→EC.On (p i)) {st:T3 P} {g:Nat→Int} {place:Nat}
 (h:JacT st (EC.tot p N g)):∀ i,i≤N→JacT (inn ns xs ys st place i) (EC.tot p N (fun j=>if j<i then g j+digs (ns j) place else g j))
 | 0,_=>by
  have:EC.tot p N (fun j=>if j<0 then g j+digs (ns j) place else g j)=EC.tot p N g:=EC.tot_congr N fun j _=>if_neg oM
  rw[this]
  exact h
 | i+1,hi=>by
  have f:=inn_J C b l ho (place:=place) h i oM
  have e:EC.tot p N (fun j=>if j<i+1 then g j+digs (ns j) place else g j)=EC.add (EC.tot p N (fun j=>if j<i then g j+digs (ns j) place else g j)) (EC.zmul (digs (ns i) place) (p i)):=by
   rw[← EC.tot_upd C.cur _ i (digs (ns i) place) N oM ho]
   refine EC.tot_congr N fun j _=>?_
   by_cases k:j=i
   ·subst k
    rw[if_pos oM,if_pos rfl,if_neg oM]
   ·rw[if_neg k]
    by_cases d:j<i
    ·rw[if_pos oM,if_pos d]
    ·rw[if_neg oM,if_neg d]
  rw[e]
  unfold inn
  by_cases d:digs (ns i) place=0
  ·rw[if_pos d,d,EC.zmul_zero,EC.add_none]
   exact f
  ·rw[if_neg d]
   obtain ⟨q,c,-,m⟩:=digs_DI (b i oM)
   rcases m.ho place with k|k
   ·exact absurd k d
   ·exact f.plus C (tmJ_J C (l i oM) (ho i oM) k.1)
theorem sumJ_J (C:Fld P) {ns:Nat→Nat} {xs ys:Nat→Fin P} {p:Nat→EC.Pt P} {N:Nat} (k:∀ i,i<N→ns i<2^256) (b:∀ i,i<N→EC.Pair (xs i) (ys i) (p i)) (ho:∀ i,i<N→EC.On (p i)) :
 ∀ m,m≤257→JacT (sumJ ns xs ys N m) (EC.tot p N (fun j=>DG.hor (digs (ns j)) m))
 | 0,_=>by
  rw[show EC.tot p N (fun j=>DG.hor (digs (ns j)) 0)=.none from EC.tot_zero p N (fun _ _=>rfl)]
  exact JacT.none
 | m+1,hm=>by
  have c:=(sumJ_J C k b ho m oM).twice C
  rw[← EC.tot_twice C.cur _ N ho] at c
  have f:=inn_J C k b ho (place:=256-m) c N (Nat.le_refl _)
  have e:EC.tot p N (fun j=>DG.hor (digs (ns j)) (m+1))=EC.tot p N (fun j=>if j<N then 2*DG.hor (digs (ns j)) m+digs (ns j) (256-m) else 2*DG.hor (digs (ns j)) m):=
   EC.tot_congr N fun j d=>by rw[if_pos d];rfl
  rw[e]
  exact f
theorem sumJ_all (C:Fld P) {ns:Nat→Nat} {xs ys:Nat→Fin P} {p:Nat→EC.Pt P} {N:Nat} (k:∀ i,i<N→ns i<2^256) (b:∀ i,i<N→EC.Pair (xs i) (ys i) (p i)) (ho:∀ i,i<N→EC.On (p i)) :
 JacT (sumJ ns xs ys N 257) (EC.tot p N (fun j=>(ns j:Int))):=by
 have h:=sumJ_J C k b ho 257 (Nat.le_refl _)
 have e:EC.tot p N (fun j=>(ns j:Int))=EC.tot p N (fun j=>DG.hor (digs (ns j)) 257):=EC.tot_congr N fun j f=>by
  obtain ⟨q,c,g,d⟩:=digs_DI (k j f)
  exact (DG.hor_all d g).symm
 rw[e]
 exact h
def cc (ns:Nat→Nat) (xs ys:Nat→Fin P) (C0:List Value):Nat→List Value
 | 0=>C0
 | i+1=>fc (xs i) (ys i) (digs (ns i)) (cc ns xs ys C0 i) (353*i) 8
theorem cc_at {ns:Nat→Nat} {xs ys:Nat→Fin P} {C0:List Value} {N:Nat} (e:C0.length=353*N):∀ i,i≤N→(cc ns xs ys C0 i).length=353*N ∧
 ∀ j,j<i→(∀ q,q<257→(cc ns xs ys C0 i)[353*j+96+q]? = some (.int .i8 (digs (ns j) q)))∧∀ q r,q<8→r<12→(cc ns xs ys C0 i)[353*j+12*q+r]? = (tw (od (xs j) (ys j) q))[r]?
 | 0,_=>⟨e,fun j n=>oM⟩
 | i+1,hi=>by
  obtain ⟨f,l⟩:=cc_at e i oM
  have k:=fc_Fi (x:=xs i) (y:=ys i) (D:=digs (ns i)) (C0:=cc ns xs ys C0 i) (off:=353*i) (by rw[f];omega) 8 (Nat.le_refl _)
  refine ⟨by rw[← f];exact k.len,fun j n=>?_⟩
  by_cases c:j=i
  ·subst c
   exact ⟨k.dig,fun q r b d=>k.odd q r b d⟩
  ·obtain ⟨g,m⟩:=l j oM
   exact ⟨fun q b=>(k.out _ oM).trans (g q b),fun q r b d=>(k.out _ oM).trans (m q r b d)⟩
theorem mk135 (N:Nat) (f:N≤512):∃ C0:List Value,C0.length=353*N∧∀ w:World,(Instr.makeSlice 208 (.int .i64 N) (.int .i64 N)).run Tryz.prog w=.ok (.slice (some ⟨w.heap.size,0,none⟩) N N) (w.alloc (.cells C0.toArray 216)):=by
 have g:Tryz.prog.underlying 208=some (.slice 216):=kR
 have j:(Tryz.prog.info? 216).map (fun i=>(i.size,decide (i.bytes≤4000),i.zero.isSome))=some (353,true,true):=kR
 obtain ⟨i,b,k⟩:=Option.map_eq_some_iff.1 j
 simp only[Prod.mk.injEq,decide_eq_true_eq] at k
 obtain ⟨n,e,m⟩:=k
 obtain ⟨z,d⟩:=Option.isSome_iff_exists.1 m
 refine ⟨(madeCells z.cells (N*353)).toList,by rw[Array.length_toList,size_madeCells,Nat.mul_comm],fun w=>?_⟩
 have c:(i.bytes:Int)*(N:Int)≤281474976710656:=by
  have:i.bytes*N≤4000*512:=Nat.mul_le_mul e f
  have l:((i.bytes*N:Nat):Int)≤281474976710656:=oM
  rwa[Int.natCast_mul] at l
 have:=run_make (P:=Tryz.prog) w 208 216 i z g b d .i64 .i64 (N:Int) (N:Int) oM oM c oM
 rw[Int.toNat_natCast,n] at this
 rw[Array.toArray_toList]
 exact this
theorem fill_put (F:Fld P) {n:Nat} (c:n<top) (x y:Fin P) (C0:List Value) (b off:Nat) (k:off+353≤C0.length) (w:World) (d:w.there b 0 C0.length) (j:w.rangeAt b 0 C0) :
 Calls Tryz.prog 112 #[.pointer (some ⟨b,off,none⟩),nv n,pv x y] w (Ret fun r w'=>RG.PutTo b C0.length (fc x y (digs n) C0 off 8) w w'∧r=.tuple #[]):=by
 have g:b<w.heap.size:=by
  have i:=(d 0 oM).1
  exact Classical.byContradiction fun c=>by
   have f:w.heap[b]? = none:=Array.getElem?_eq_none oM
   simp[World.cell?,f] at i
 refine (fill_c F c x y C0 b off k w g d j).mono ?_
 rintro e w' ⟨v,rfl,⟨C,f,i⟩,rfl⟩
 refine ⟨_,rfl,?_,rfl⟩
 rw[(fc_Fi k 8 (Nat.le_refl _)).uniq f]
 exact i
theorem times_d (F:Fld P) (k o:Nat) (x y:Fin P) {d:Int} (hd:d%2=1) (i:-15≤d∧d≤15) (w:World) (g:k<w.heap.size) (c:∀ q,q<8→w.rangeAt k (o+0+12*q) (tw (od x y q))) :
 Calls Tryz.prog 115 #[.pointer (some ⟨k,o,none⟩),.int .i8 d] w (Ret fun e w'=>Below w.heap.size w w'∧e=tv (tmJ x y d)):=by
 unfold tmJ
 by_cases f:d<0
 ·rw[if_pos f]
  have b:=times_n F k o ((-d).toNat/2) oM (od x y ((-d).toNat/2)) w g (c _ oM)
  rw[show -(2*(((-d).toNat/2:Nat):Int)+1)=d by omega] at b
  exact b
 ·rw[if_neg f]
  have b:=times_p F k o (d.toNat/2) oM (od x y (d.toNat/2)) w g (c _ oM)
  rw[show 2*((d.toNat/2:Nat):Int)+1=d by omega] at b
  exact b
theorem al117 {P:Nat} [NeZero P] (w:World):(Instr.alloc 211 true (.tuple #[])).run Tryz.prog w=.ok (.pointer (some ⟨w.heap.size,0,none⟩)) (w.alloc (.cells (tw ((0,0,0):T3 P)).toArray 211)):=by
 show _=Result.ok _ (w.alloc (.cells (ws (0:Fin P)++(ws (0:Fin P)++ws (0:Fin P))).toArray 211))
 rw[← ws_zero]
 kernel_rfl
theorem ne8_f (w:World):(binOp .neq 213 (.int .i8 0) (.int .i8 0)).run Tryz.prog w=.ok (.bool false) w:=kR
theorem ne8_t {d:Int} (h:¬ d=0) (w:World):(binOp .neq 213 (.int .i8 d) (.int .i8 0)).run Tryz.prog w=.ok (.bool true) w:=by
 go_simp
theorem sub1' (q:Nat) (k:q<1000) (w:World):(binOp .sub 3 (.int .i64 q) (.int .i64 1)).run Tryz.prog w=.ok (.int .i64 ((q:Int)-1)) w:=sub64i _ _ oM oM w
theorem geq0' (i:Nat) (w:World):(binOp .geq 3 (.int .i64 i) (.int .i64 0)).run Tryz.prog w=.ok (.bool true) w:=by
 go_simp
theorem sums_c (F:Fld P) (N:Nat) (hN:N≤512) (ns:Nat→Nat) (xs ys:Nat→Fin P) (kk:∀ i,i<N→ns i<top) (l o:Nat) (w:World) (bj:l<w.heap.size) (b9:o<w.heap.size)
 (X:∀ i,i<N→w.rangeAt l (4*i) (wn (ns i))) (ha:∀ i,i<N→w.rangeAt o (8*i) (ws (xs i)++ws (ys i))) :
 Calls Tryz.prog 66 #[(.slice (some ⟨l,0,none⟩) N N),(.slice (some ⟨o,0,none⟩) N N)] w (Ret fun e w'=>Below w.heap.size w w'∧∃ s,s=sumJ ns xs ys N 257∧e=pv (s.1*(EC.inv s.2.2*EC.inv s.2.2)) (s.2.1*(EC.inv s.2.2*EC.inv s.2.2)*EC.inv s.2.2)):=by
 obtain ⟨C,b5,bg⟩:=mk135 N hN
 have W:∀ (i:Nat) (c2:List Value),fc (xs i) (ys i) (digs (ns i)) (cc ns xs ys C i) (353*i) 8=c2→cc ns xs ys C (i+1)=c2:=fun i c2 h=>h
 obtain ⟨i,-⟩:∃ i:Nat,i=0:=⟨_,rfl⟩
 obtain ⟨q,-⟩:∃ i:Nat,i=0:=⟨_,rfl⟩
 obtain ⟨d,-⟩:∃ i:Int,i=0:=⟨_,rfl⟩
 obtain ⟨C2,-⟩:∃ c:List Value,c=C:=⟨_,rfl⟩
 obtain ⟨s,-⟩:∃ s:T3 P,s=(0,0,0):=⟨_,rfl⟩
 obtain ⟨s2,-⟩:∃ s:T3 P,s=(0,0,0):=⟨_,rfl⟩
 obtain ⟨s3,-⟩:∃ s:T3 P,s=(0,0,0):=⟨_,rfl⟩
 obtain ⟨s4,-⟩:∃ s:T3 P,s=(0,0,0):=⟨_,rfl⟩
 go_enter Tryz.func66,Tryz.ntmps66
 refine RG.var2 (v0:=(.slice (some ⟨l,0,none⟩) N N)) (v1:=(.slice (some ⟨o,0,none⟩) N N)) (n:=62) kR kR kR kR ?_
 intro a0 b3 f0 f1
 have bc:=RG.St.begin w
 have M0:RG.M w w.heap.size [] 62 [] [] [(0,(.v (.slice (some ⟨l,0,none⟩) N N))),(1,(.v (.slice (some ⟨o,0,none⟩) N N)))] a0 _:=⟨bc,b3,⟨f0,f1,trivial⟩⟩
 repeat refine wp_seq ?_
 refine M0.T [.m 0] [(0,(RG.z 8))] [] [(RG.z 8)] [0,1,4] ⟨RG.mk 0 131,trivial⟩ ?_
 intro j1 a1 w1 M1
 repeat refine wp_seq ?_
 refine M1.t [.x 11 [] (.slice (some ⟨l,0,none⟩) N N),.x 12 [(11,0)] (.int .i64 N),⟨some 13,[(12,1)],(.s 1 N N),.make 1⟩,.s 5 [(13,2)] (.s 1 N N)] [(2,C)] [] [(RG.z 8),C] [(0,(.v (.slice (some ⟨l,0,none⟩) N N))),(1,(.v (.slice (some ⟨o,0,none⟩) N N))),(4,(.p 0 0)),(5,(.s 1 N N))] ⟨RG.st,RG.cert_one rfl 11 (.v (.slice (some ⟨l,0,none⟩) N N)) (.int .i64 N) rfl RG.sx (fun a w=>kR) (fun μ w=>kR),RG.cert_makes 1 rfl _ rfl 208 216 12 12 N rfl rfl RG.sx RG.sx (bg),RG.st,trivial⟩ ?_
 intro j2 a2 w2 M2
 repeat refine wp_seq ?_
 refine M2.U [.s (.s 1 N N),.x (.int .i64 N),.x (.int .i64 0)] [0,1,4,5,15,16] ⟨RG.st,RG.cert_one rfl 14 (.s 1 N N) (.int .i64 N) rfl RG.sx (fun a w=>kR) (fun μ w=>kR),RG.st,trivial⟩ ?_
 intro a3 w3 M3
 have km:a3.tmps[0]? = some (.slice (some ⟨l,0,none⟩) N N):=M3.at (s:=(.v (.slice (some ⟨l,0,none⟩) N N)))
 have ke:a3.tmps[1]? = some (.slice (some ⟨o,0,none⟩) N N):=M3.at (s:=(.v (.slice (some ⟨o,0,none⟩) N N)))
 have kg:a3.tmps[4]? = some (.pointer (some ⟨j1,0,none⟩)):=M3.at (s:=(.p 0 0))
 have kh:a3.tmps[5]? = some (.slice (some ⟨j2,0,none⟩) N N):=M3.at (s:=(.s 1 N N))
 have hl:a3.tmps[15]? = some (.int .i64 N):=M3.at (s:=(.v (.int .i64 N)))
 have k3:a3.tmps[16]? = some (.int .i64 0):=M3.at (s:=(.v (.int .i64 0)))
 repeat refine wp_seq ?_
 refine wp_block ?_
 refine wp_loop_ghost (fun m a wr=>∃ i,i+m=N∧RG.Sl a 62∧a.tmps[0]? = some (.slice (some ⟨l,0,none⟩) N N)∧a.tmps[1]? = some (.slice (some ⟨o,0,none⟩) N N)∧a.tmps[4]? = some (.pointer (some ⟨j1,0,none⟩))∧a.tmps[5]? = some (.slice (some ⟨j2,0,none⟩) N N)∧a.tmps[15]? = some (.int .i64 N)∧a.tmps[16]? = some (.int .i64 i)∧RG.St w w.heap.size [] [[.int .u64 0,.int .u64 0,.int .u64 0,.int .u64 0,.int .u64 0,.int .u64 0,.int .u64 0,.int .u64 0],cc ns xs ys C i] [j1,j2] wr) N ⟨0,oM,M3.sl,km,ke,kg,kh,hl,k3,M3.st⟩ ?_
 intro m a wr
 rintro ⟨i,bi,sl,p0,p1,p4,p5,kf,ko,Q⟩
 generalize j1=p at p4 Q
 generalize j2=A at p5 Q
 obtain ⟨C,kc⟩:∃ c,cc ns xs ys C i=c:=⟨_,rfl⟩
 have V:=cc_at (ns:=ns) (xs:=xs) (ys:=ys) b5 i oM
 rw[kc] at Q V
 by_cases u:i<N
 ·obtain ⟨C2,x⟩:∃ c,fc (xs i) (ys i) (digs (ns i)) C (353*i) 8=c:=⟨_,rfl⟩
  have B:353*i+353≤C.length:=by rw[V.1];omega
  have K:C2.length=C.length:=x ▸ (fc_Fi B 8 (Nat.le_refl _)).len
  have G:∀ (k:Nat) (w:World),w.there k 0 C.length→w.rangeAt k 0 C→Calls Tryz.prog 112 #[.pointer (some ⟨k,353*i,none⟩),nv (ns i),pv (xs i) (ys i)] w (Ret fun r w'=>RG.PutTo k C.length C2 w w'∧r=.tuple #[]):=fun k w L hr=>x ▸ fill_put F (kk i u) (xs i) (ys i) C k (353*i) B w L hr
  have O:w.rangeAt l (0+4*i) (wn (ns i)):=by rw[Nat.zero_add];exact X i u
  have R:w.rangeAt o (0+8*i) (ws (xs i)++ws (ys i)):=by rw[Nat.zero_add];exact ha i u
  have T:RG.M w w.heap.size [] 62 [(RG.z 8),C] [p,A] [(0,(.v (.slice (some ⟨l,0,none⟩) N N))),(1,(.v (.slice (some ⟨o,0,none⟩) N N))),(4,(.p 0 0)),(5,(.s 1 N N)),(15,(.v (.int .i64 N))),(16,(.v (.int .i64 i)))] a _:=⟨Q,sl,⟨p0,p1,p4,p5,kf,ko,trivial⟩⟩
  repeat refine wp_seq ?_
  refine T.U [.x (.bool true)] [0,1,4,5,15,16,17] ⟨RG.cert_bin rfl .lss 3 3 16 15 (.int .i64 i) (.int .i64 N) (.bool true) rfl rfl RG.sx RG.sx (fun w=>kR) (lssn_t u),trivial⟩ ?_
  intro U bs J
  repeat refine wp_seq ?_
  refine wp_cond_true J.ev ?_
  refine wp_skip ?_
  refine wp_seq ?_
  refine wp_block ?_
  repeat refine wp_seq ?_
  refine J.U [.x (.int .i64 i),.x (.int .i64 i)] [0,1,4,5,6,15,16] ⟨RG.st,RG.st,trivial⟩ ?_
  intro c3 Y M
  repeat refine wp_seq ?_
  refine M.dr kR [.s 19 [] (.s 1 N N),.x 20 [] (.int .i64 i),.s 21 [(19,0),(20,1)] (.p 1 (353*i)),.x 22 [] (.slice (some ⟨l,0,none⟩) N N),.x 23 [] (.int .i64 i),.x 24 [(22,3),(23,4)] (.pointer (some ⟨l,(0+4*i),none⟩)),.x 25 [(24,5)] (nv (ns i)),.x 26 [] (.slice (some ⟨o,0,none⟩) N N),.x 27 [] (.int .i64 i),.x 28 [(26,7),(27,8)] (.pointer (some ⟨o,(0+8*i),none⟩)),.x 29 [(28,9)] (pv (xs i) (ys i)),⟨some 30,[(21,2),(25,6),(29,10)],(.v (.tuple #[])),.put 1⟩] [] [(1,11,C2)] [(RG.z 8),C2] [(0,(.v (.slice (some ⟨l,0,none⟩) N N))),(1,(.v (.slice (some ⟨o,0,none⟩) N N))),(4,(.p 0 0)),(5,(.s 1 N N)),(15,(.v (.int .i64 N))),(16,(.v (.int .i64 i)))] kR (congrArg (fun n=>[n]) K) ⟨RG.st,RG.st,RG.cert_idx rfl 208 19 20 rfl (.s 1 N N) (.int .i64 i) RG.sx RG.sx (fun μ w=>at135 _ _ _ i u w),RG.st,RG.st,RG.cert_idx rfl 127 22 23 rfl (.v (.slice (some ⟨l,0,none⟩) N N)) (.int .i64 i) RG.sx RG.sx (fun μ w=>at82 _ _ _ _ i u w),RG.cert_loadB rfl l (0+4*i) bj List.not_mem_nil 42 24 rfl (wn (ns i)) rfl RG.sx O u85 i85,RG.st,RG.st,RG.cert_idx rfl 138 26 27 rfl (.v (.slice (some ⟨o,0,none⟩) N N)) (.int .i64 i) RG.sx RG.sx (fun μ w=>at112 _ _ _ _ i u w),RG.cert_loadB rfl o (0+8*i) b9 List.not_mem_nil 131 28 rfl (ws (xs i)++ws (ys i)) rfl RG.sx R u109 i109,RG.cert_callput3 1 rfl _ rfl 112 21 25 29 (.p 1 (353*i)) (nv (ns i)) (pv (xs i) (ys i)) (.tuple #[]) rfl (fun a w=>kR) RG.sx RG.sx RG.sx (fun μ w L hr=>G (μ 1) w L hr),trivial⟩ ?_
  intro bv Z S
  repeat refine wp_seq ?_
  refine S.U [.x (.int .i64 ((i+1:Nat):Int)),.x (.int .i64 ((i+1:Nat):Int))] [0,1,4,5,15,16] ⟨RG.cert_binc rfl .add 3 3 16 (.int .i64 i) (.int .i64 1) (.int .i64 ((i+1:Nat):Int)) rfl rfl RG.sx (fun w=>kR) (addn i 1 oM oM),RG.st,trivial⟩ ?_
  intro g c4 f
  have I:g.tmps[0]? = some (.slice (some ⟨l,0,none⟩) N N):=f.at (s:=(.v (.slice (some ⟨l,0,none⟩) N N)))
  have D:g.tmps[1]? = some (.slice (some ⟨o,0,none⟩) N N):=f.at (s:=(.v (.slice (some ⟨o,0,none⟩) N N)))
  have E:g.tmps[4]? = some (.pointer (some ⟨p,0,none⟩)):=f.at (s:=(.p 0 0))
  have H:g.tmps[5]? = some (.slice (some ⟨A,0,none⟩) N N):=f.at (s:=(.s 1 N N))
  have y:g.tmps[15]? = some (.int .i64 N):=f.at (s:=(.v (.int .i64 N)))
  have z:g.tmps[16]? = some (.int .i64 ((i+1:Nat):Int)):=f.at (s:=(.v (.int .i64 ((i+1:Nat):Int))))
  show ∃ n',_
  refine ⟨m-1,oM,i+1,oM,f.sl,I,D,E,H,y,z,?_⟩
  rw[W i C2 (by rw[kc];exact x)]
  exact f.st
 ·have b7:i=N:=oM
  rw[b7] at V
  have ku:=V.2
  have b8:RG.M w w.heap.size [] 62 [(RG.z 8),C] [p,A] [(0,(.v (.slice (some ⟨l,0,none⟩) N N))),(1,(.v (.slice (some ⟨o,0,none⟩) N N))),(4,(.p 0 0)),(5,(.s 1 N N)),(15,(.v (.int .i64 N))),(16,(.v (.int .i64 i)))] a _:=⟨Q,sl,⟨p0,p1,p4,p5,kf,ko,trivial⟩⟩
  repeat refine wp_seq ?_
  refine b8.U [.x (.bool false)] [4,5,17] ⟨RG.cert_bin rfl .lss 3 3 16 15 (.int .i64 i) (.int .i64 N) (.bool false) rfl rfl RG.sx RG.sx (fun w=>kR) (lssn_f u),trivial⟩ ?_
  intro bm bk kj
  repeat refine wp_seq ?_
  refine wp_cond_false kj.ev ?_
  refine wp_exit ?_
  dsimp only[Exit.then,Exit.inBlock]
  rw[if_pos rfl]
  repeat refine wp_seq ?_
  refine kj.T [.m 2] [(0,(tw ((0,0,0):T3 P)))] [] [(RG.z 8),C,(tw ((0,0,0):T3 P))] [4,5,7] ⟨RG.cert_alloc 2 rfl rfl _ rfl 211 rfl (al117),trivial⟩ ?_
  intro S bo bt bf
  repeat refine wp_seq ?_
  refine bf.U [.x (.int .i64 256)] [4,5,7,8] ⟨RG.st,trivial⟩ ?_
  intro T bn I
  have hp:T.tmps[4]? = some (.pointer (some ⟨p,0,none⟩)):=I.at (s:=(.p 0 0))
  have hc:T.tmps[5]? = some (.slice (some ⟨A,0,none⟩) N N):=I.at (s:=(.s 1 N N))
  have h9:T.tmps[7]? = some (.pointer (some ⟨S,0,none⟩)):=I.at (s:=(.p 2 0))
  have hu:T.tmps[8]? = some (.int .i64 256):=I.at (s:=(.v (.int .i64 256)))
  repeat refine wp_seq ?_
  refine wp_block ?_
  refine wp_loop_ghost (fun m a wr=>m≤257∧RG.Sl a 62∧a.tmps[4]? = some (.pointer (some ⟨p,0,none⟩))∧a.tmps[5]? = some (.slice (some ⟨A,0,none⟩) N N)∧a.tmps[7]? = some (.pointer (some ⟨S,0,none⟩))∧a.tmps[8]? = some (.int .i64 ((m:Int)-1))∧RG.St w w.heap.size [] [[.int .u64 0,.int .u64 0,.int .u64 0,.int .u64 0,.int .u64 0,.int .u64 0,.int .u64 0,.int .u64 0],C,tw (sumJ ns xs ys N (257-m))] [p,A,S] wr) 257 ⟨Nat.le_refl _,I.sl,hp,hc,h9,hu,?_⟩ ?_
  ·rw[Nat.sub_self,sumJ]
   exact I.st
  intro m b wr
  rintro ⟨hm,kb,q4,q5,q7,q8,E⟩
  generalize S=L at q7 E
  by_cases hz:m=0
  ·subst hz
   rw[show 257-0=257 from rfl] at E
   obtain ⟨s,K⟩:∃ s,sumJ ns xs ys N 257=s:=⟨_,rfl⟩
   rw[K] at E
   have x:RG.M w w.heap.size [] 62 [(RG.z 8),C,(tw s)] [p,A,L] [(4,(.p 0 0)),(5,(.s 1 N N)),(7,(.p 2 0)),(8,(.v (.int .i64 (-1))))] b _:=⟨E,kb,⟨q4,q5,q7,q8,trivial⟩⟩
   repeat refine wp_seq ?_
   refine x.U [.x (.int .i64 (-1)),.x (.bool false)] [4,7,33] ⟨RG.st,RG.st,trivial⟩ ?_
   intro D z g
   repeat refine wp_seq ?_
   refine wp_cond_false g.ev ?_
   refine wp_exit ?_
   dsimp only[Exit.then,Exit.inBlock]
   rw[if_pos rfl]
   repeat refine wp_seq ?_
   refine g.T [.x (tv s),.c (pv (s.1*(EC.inv s.2.2*EC.inv s.2.2)) (s.2.1*(EC.inv s.2.2*EC.inv s.2.2)*EC.inv s.2.2)),.u 0] [] [(0,2,(ws (s.1*(EC.inv s.2.2*EC.inv s.2.2))++(ws (s.2.1*(EC.inv s.2.2*EC.inv s.2.2)*EC.inv s.2.2))))] [(ws (s.1*(EC.inv s.2.2*EC.inv s.2.2))++(ws (s.2.1*(EC.inv s.2.2*EC.inv s.2.2)*EC.inv s.2.2))),C,(tw s)] [4] ⟨RG.ld u117 i117,RG.cl (ptJ_c F s),RG.pt i109,trivial⟩ ?_
   intro B y f
   refine wp_ret ?_
   refine bodyPost_ret (v:=pv (s.1*(EC.inv s.2.2*EC.inv s.2.2)) (s.2.1*(EC.inv s.2.2*EC.inv s.2.2)*EC.inv s.2.2)) (RG.results_row f.st 4 131 rfl 0 _ rfl (f.at (s:=(.p 0 0))) u109 i109) f.sl.defers ?_
   exact ⟨_,rfl,f.st.bel.below,s,K.symm,rfl⟩
  ·obtain ⟨q,rfl⟩:∃ q,m=q+1:=⟨m-1,oM⟩
   have hq:q<257:=oM
   replace q8:b.tmps[8]? = some (.int .i64 q):=by rw[q8];congr 2;omega
   obtain ⟨s,K⟩:∃ s,sumJ ns xs ys N (257-(q+1))=s:=⟨_,rfl⟩
   rw[K] at E
   obtain ⟨s2,h6⟩:∃ t,twJ s=t:=⟨_,rfl⟩
   have kw:=h6 ▸ twJ_c F s
   have M:sumJ ns xs ys N (257-q)=inn ns xs ys s2 q N:=by
    rw[show 257-q=257-(q+1)+1 by omega]
    show inn ns xs ys (twJ (sumJ ns xs ys N (257-(q+1)))) (256-(257-(q+1))) N=_
    rw[K,h6,show 256-(257-(q+1))=q by omega]
   have b2:RG.M w w.heap.size [] 62 [(RG.z 8),C,(tw s)] [p,A,L] [(4,(.p 0 0)),(5,(.s 1 N N)),(7,(.p 2 0)),(8,(.v (.int .i64 q)))] b _:=⟨E,kb,⟨q4,q5,q7,q8,trivial⟩⟩
   repeat refine wp_seq ?_
   refine b2.U [.x (.int .i64 q),.x (.bool true)] [4,5,7,8,33] ⟨RG.st,RG.cert_binc rfl .geq 3 3 32 (.int .i64 q) (.int .i64 0) (.bool true) rfl rfl RG.sx (fun w=>kR) (geq0' q),trivial⟩ ?_
   intro bq br kd
   repeat refine wp_seq ?_
   refine wp_cond_true kd.ev ?_
   refine wp_skip ?_
   refine wp_seq ?_
   refine wp_block ?_
   repeat refine wp_seq ?_
   refine kd.T [.x (tv s),.c (tv s2),.u 2] [] [(2,2,(tw s2))] [(RG.z 8),C,(tw s2)] [4,5,7,8] ⟨RG.ld u117 i117,RG.cl (kw),RG.pt i117,trivial⟩ ?_
   intro bl bz bb
   repeat refine wp_seq ?_
   refine bb.U [.s (.s 1 N N),.x (.int .i64 N),.x (.int .i64 0)] [4,5,7,8,39,40] ⟨RG.st,RG.cert_one rfl 38 (.s 1 N N) (.int .i64 N) rfl RG.sx (fun a w=>kR) (fun μ w=>kR),RG.st,trivial⟩ ?_
   intro G bu y
   have hs:G.tmps[4]? = some (.pointer (some ⟨p,0,none⟩)):=y.at (s:=(.p 0 0))
   have k0:G.tmps[5]? = some (.slice (some ⟨A,0,none⟩) N N):=y.at (s:=(.s 1 N N))
   have k6:G.tmps[7]? = some (.pointer (some ⟨L,0,none⟩)):=y.at (s:=(.p 2 0))
   have k2:G.tmps[8]? = some (.int .i64 q):=y.at (s:=(.v (.int .i64 q)))
   have Y:G.tmps[39]? = some (.int .i64 N):=y.at (s:=(.v (.int .i64 N)))
   have h0:G.tmps[40]? = some (.int .i64 0):=y.at (s:=(.v (.int .i64 0)))
   repeat refine wp_seq ?_
   refine wp_block ?_
   refine wp_loop_ghost (fun m a wr=>∃ i,i+m=N∧RG.Sl a 62∧a.tmps[4]? = some (.pointer (some ⟨p,0,none⟩))∧a.tmps[5]? = some (.slice (some ⟨A,0,none⟩) N N)∧a.tmps[7]? = some (.pointer (some ⟨L,0,none⟩))∧a.tmps[8]? = some (.int .i64 q)∧a.tmps[39]? = some (.int .i64 N)∧a.tmps[40]? = some (.int .i64 i)∧RG.St w w.heap.size [] [[.int .u64 0,.int .u64 0,.int .u64 0,.int .u64 0,.int .u64 0,.int .u64 0,.int .u64 0,.int .u64 0],C,tw (inn ns xs ys s2 q i)] [p,A,L] wr) N ⟨0,oM,y.sl,hs,k0,k6,k2,Y,h0,y.st⟩ ?_
   intro m' c wr
   rintro ⟨i,bi,hg,r4,r5,r7,r8,h8,hw,U⟩
   obtain ⟨s,D⟩:∃ s,inn ns xs ys s2 q i=s:=⟨_,rfl⟩
   rw[D] at U
   by_cases u:i<N
   ·obtain ⟨h1,h2⟩:=ku i u
    obtain ⟨d,h3⟩:∃ d,digs (ns i) q=d:=⟨_,rfl⟩
    have z:=h3 ▸ h1 q hq
    have ki:C≠[]:=by intro h;rw[h] at z;simp at z
    have f:inn ns xs ys s2 q (i+1)=if d=0 then s else plJ s (tmJ (xs i) (ys i) d):=by rw[← D,← h3];rfl
    by_cases R:d=0
    ·rw[if_pos R] at f
     rw[R] at z
     have k7:RG.M w w.heap.size [] 62 [(RG.z 8),C,(tw s)] [p,A,L] [(4,(.p 0 0)),(5,(.s 1 N N)),(7,(.p 2 0)),(8,(.v (.int .i64 q))),(39,(.v (.int .i64 N))),(40,(.v (.int .i64 i)))] c _:=⟨U,hg,⟨r4,r5,r7,r8,h8,hw,trivial⟩⟩
     repeat refine wp_seq ?_
     refine k7.U [.x (.bool true)] [4,5,7,8,39,40,41] ⟨RG.cert_bin rfl .lss 3 3 40 39 (.int .i64 i) (.int .i64 N) (.bool true) rfl rfl RG.sx RG.sx (fun w=>kR) (lssn_t u),trivial⟩ ?_
     intro b4 ba J
     repeat refine wp_seq ?_
     refine wp_cond_true J.ev ?_
     refine wp_skip ?_
     refine wp_seq ?_
     refine wp_block ?_
     repeat refine wp_seq ?_
     refine J.U [.x (.int .i64 i),.x (.int .i64 i)] [4,5,7,8,9,39,40] ⟨RG.st,RG.st,trivial⟩ ?_
     intro be kv hy
     repeat refine wp_seq ?_
     refine hy.U [.s (.s 1 N N),.x (.int .i64 i),.x (.int .i64 q),.s (.p 1 (353*i)),.s (.p 1 ((353*i)+96)),.s (.p 1 (((353*i)+96)+q)),.x (.int .i8 0),.x (.int .i8 0)] [4,5,7,8,10,39,40] ⟨RG.st,RG.st,RG.st,RG.cert_idx rfl 208 43 44 rfl (.s 1 N N) (.int .i64 i) RG.sx RG.sx (fun μ w=>at135 _ _ _ i u w),RG.st,RG.cert_idx rfl 214 47 45 rfl (.p 1 ((353*i)+96)) (.int .i64 q) RG.sx RG.sx (fun μ w=>at138 _ _ q hq w),RG.cert_load1 rfl 1 (((353*i)+96)+q) _ rfl rfl kR 213 48 rfl (.int .i8 0) rfl RG.sx z u137,RG.st,trivial⟩ ?_
     intro bh kx he
     repeat refine wp_seq ?_
     refine he.U [.x (.int .i8 0),.x (.bool false)] [4,5,7,8,39,40,51] ⟨RG.st,RG.cert_binc rfl .neq 213 213 50 (.int .i8 0) (.int .i8 0) (.bool false) rfl rfl RG.sx (fun w=>kR) (ne8_f),trivial⟩ ?_
     intro bd kz O
     repeat refine wp_seq ?_
     refine wp_cond_false O.ev ?_
     refine wp_skip ?_
     repeat refine wp_seq ?_
     refine O.U [.x (.int .i64 ((i+1:Nat):Int)),.x (.int .i64 ((i+1:Nat):Int))] [4,5,7,8,39,40] ⟨RG.cert_binc rfl .add 3 3 40 (.int .i64 i) (.int .i64 1) (.int .i64 ((i+1:Nat):Int)) rfl rfl RG.sx (fun w=>kR) (addn i 1 oM oM),RG.st,trivial⟩ ?_
     intro B kp g
     have k5:B.tmps[4]? = some (.pointer (some ⟨p,0,none⟩)):=g.at (s:=(.p 0 0))
     have Z:B.tmps[5]? = some (.slice (some ⟨A,0,none⟩) N N):=g.at (s:=(.s 1 N N))
     have X:B.tmps[7]? = some (.pointer (some ⟨L,0,none⟩)):=g.at (s:=(.p 2 0))
     have k8:B.tmps[8]? = some (.int .i64 q):=g.at (s:=(.v (.int .i64 q)))
     have H:B.tmps[39]? = some (.int .i64 N):=g.at (s:=(.v (.int .i64 N)))
     have x:B.tmps[40]? = some (.int .i64 ((i+1:Nat):Int)):=g.at (s:=(.v (.int .i64 ((i+1:Nat):Int))))
     show ∃ n',_
     exact ⟨m'-1,oM,i+1,oM,g.sl,k5,Z,X,k8,H,x,by rw[f];exact g.st⟩
    ·rw[if_neg R] at f
     have h4:d%2=1∧-15≤d∧d≤15:=by
      obtain ⟨_,_,-,x⟩:=digs_DI (show ns i<2^256 from kk i u)
      rcases x.ho q with h|h
      ·exact absurd (h3 ▸ h) R
      ·exact h3 ▸ h
     obtain ⟨s3,h7⟩:∃ t,tmJ (xs i) (ys i) d=t:=⟨_,rfl⟩
     obtain ⟨s4,h5⟩:∃ t,plJ s s3=t:=⟨_,rfl⟩
     have ky:=h5 ▸ plJ_c F s s3
     have b6:∀ (k:Nat) (w:World),k<w.heap.size→w.rangeAt k 0 C→Calls Tryz.prog 115 #[.pointer (some ⟨k,353*i,none⟩),.int .i8 d] w (Ret fun r w'=>Below w.heap.size w w'∧r=tv s3):=fun k w k1 hr =>
      h7 ▸ times_d F k (353*i) (xs i) (ys i) h4.1 h4.2 w k1 (fun X x=>RG.range_sub hr (fun j H=>by rw[Nat.add_zero];exact h2 X j x (by rw[tw_length] at H;exact H)))
     rw[h7,h5] at f
     have k7:RG.M w w.heap.size [] 62 [(RG.z 8),C,(tw s)] [p,A,L] [(4,(.p 0 0)),(5,(.s 1 N N)),(7,(.p 2 0)),(8,(.v (.int .i64 q))),(39,(.v (.int .i64 N))),(40,(.v (.int .i64 i)))] c _:=⟨U,hg,⟨r4,r5,r7,r8,h8,hw,trivial⟩⟩
     repeat refine wp_seq ?_
     refine k7.U [.x (.bool true)] [4,5,7,8,39,40,41] ⟨RG.cert_bin rfl .lss 3 3 40 39 (.int .i64 i) (.int .i64 N) (.bool true) rfl rfl RG.sx RG.sx (fun w=>kR) (lssn_t u),trivial⟩ ?_
     intro b4 ba J
     repeat refine wp_seq ?_
     refine wp_cond_true J.ev ?_
     refine wp_skip ?_
     refine wp_seq ?_
     refine wp_block ?_
     repeat refine wp_seq ?_
     refine J.U [.x (.int .i64 i),.x (.int .i64 i)] [4,5,7,8,9,39,40] ⟨RG.st,RG.st,trivial⟩ ?_
     intro be kv hy
     repeat refine wp_seq ?_
     refine hy.U [.s (.s 1 N N),.x (.int .i64 i),.x (.int .i64 q),.s (.p 1 (353*i)),.s (.p 1 ((353*i)+96)),.s (.p 1 (((353*i)+96)+q)),.x (.int .i8 d),.x (.int .i8 d)] [4,5,7,8,9,10,39,40] ⟨RG.st,RG.st,RG.st,RG.cert_idx rfl 208 43 44 rfl (.s 1 N N) (.int .i64 i) RG.sx RG.sx (fun μ w=>at135 _ _ _ i u w),RG.st,RG.cert_idx rfl 214 47 45 rfl (.p 1 ((353*i)+96)) (.int .i64 q) RG.sx RG.sx (fun μ w=>at138 _ _ q hq w),RG.cert_load1 rfl 1 (((353*i)+96)+q) _ rfl rfl kR 213 48 rfl (.int .i8 d) rfl RG.sx z u137,RG.st,trivial⟩ ?_
     intro bh kx he
     repeat refine wp_seq ?_
     refine he.U [.x (.int .i8 d),.x (.bool true)] [4,5,7,8,9,10,39,40,51] ⟨RG.st,RG.cert_binc rfl .neq 213 213 50 (.int .i8 d) (.int .i8 0) (.bool true) rfl rfl RG.sx (fun w=>kR) (ne8_t R),trivial⟩ ?_
     intro bd kz O
     repeat refine wp_seq ?_
     refine wp_cond_true O.ev ?_
     repeat refine wp_seq ?_
     refine O.D [.x (tv s),.s (.s 1 N N),.x (.int .i64 i),.s (.p 1 (353*i)),.x (.int .i8 d),.c (tv s3),.c (tv s4),.u 2] [] [(2,7,(tw s4))] [(RG.z 8),C,(tw s4)] [4,5,7,8,39,40] ⟨RG.ld u117 i117,RG.st,RG.st,RG.cert_idx rfl 208 53 54 rfl (.s 1 N N) (.int .i64 i) RG.sx RG.sx (fun μ w=>at135 _ _ _ i u w),RG.st,RG.cert_callM2 rfl 1 _ rfl rfl kR ki 115 55 56 (.p 1 (353*i)) (.int .i8 d) (tv s3) rfl (fun a w=>kR) RG.sx RG.sx (fun μ w k1 hr=>b6 (μ 1) w k1 hr),RG.cl (ky),RG.pt i117,trivial⟩ ?_
     intro B kp g
     repeat refine wp_seq ?_
     refine g.U [.x (.int .i64 ((i+1:Nat):Int)),.x (.int .i64 ((i+1:Nat):Int))] [4,5,7,8,39,40] ⟨RG.cert_binc rfl .add 3 3 40 (.int .i64 i) (.int .i64 1) (.int .i64 ((i+1:Nat):Int)) rfl rfl RG.sx (fun w=>kR) (addn i 1 oM oM),RG.st,trivial⟩ ?_
     intro H bp x
     have hk:H.tmps[4]? = some (.pointer (some ⟨p,0,none⟩)):=x.at (s:=(.p 0 0))
     have k9:H.tmps[5]? = some (.slice (some ⟨A,0,none⟩) N N):=x.at (s:=(.s 1 N N))
     have hb:H.tmps[7]? = some (.pointer (some ⟨L,0,none⟩)):=x.at (s:=(.p 2 0))
     have k4:H.tmps[8]? = some (.int .i64 q):=x.at (s:=(.v (.int .i64 q)))
     have X:H.tmps[39]? = some (.int .i64 N):=x.at (s:=(.v (.int .i64 N)))
     have Z:H.tmps[40]? = some (.int .i64 ((i+1:Nat):Int)):=x.at (s:=(.v (.int .i64 ((i+1:Nat):Int))))
     show ∃ n',_
     exact ⟨m'-1,oM,i+1,oM,x.sl,hk,k9,hb,k4,X,Z,by rw[f];exact x.st⟩
   ·have O:i=N:=oM
    rw[O] at D
    rw[D] at M
    have R:RG.M w w.heap.size [] 62 [(RG.z 8),C,(tw s)] [p,A,L] [(4,(.p 0 0)),(5,(.s 1 N N)),(7,(.p 2 0)),(8,(.v (.int .i64 q))),(39,(.v (.int .i64 N))),(40,(.v (.int .i64 i)))] c _:=⟨U,hg,⟨r4,r5,r7,r8,h8,hw,trivial⟩⟩
    repeat refine wp_seq ?_
    refine R.U [.x (.bool false)] [4,5,7,8,41] ⟨RG.cert_bin rfl .lss 3 3 40 39 (.int .i64 i) (.int .i64 N) (.bool false) rfl rfl RG.sx RG.sx (fun w=>kR) (lssn_f u),trivial⟩ ?_
    intro Z X J
    repeat refine wp_seq ?_
    refine wp_cond_false J.ev ?_
    refine wp_exit ?_
    dsimp only[Exit.then,Exit.inBlock]
    rw[if_pos rfl]
    repeat refine wp_seq ?_
    refine J.U [.x (.int .i64 q),.x (.int .i64 ((q:Int)-1)),.x (.int .i64 ((q:Int)-1))] [4,5,7,8] ⟨RG.st,RG.cert_binc rfl .sub 3 3 34 (.int .i64 q) (.int .i64 1) (.int .i64 ((q:Int)-1)) rfl rfl RG.sx (fun w=>kR) (sub1' q oM),RG.st,trivial⟩ ?_
    intro g c0 f
    have B:g.tmps[4]? = some (.pointer (some ⟨p,0,none⟩)):=f.at (s:=(.p 0 0))
    have x:g.tmps[5]? = some (.slice (some ⟨A,0,none⟩) N N):=f.at (s:=(.s 1 N N))
    have z:g.tmps[7]? = some (.pointer (some ⟨L,0,none⟩)):=f.at (s:=(.p 2 0))
    have H:g.tmps[8]? = some (.int .i64 ((q:Int)-1)):=f.at (s:=(.v (.int .i64 ((q:Int)-1))))
    show ∃ n',_
    exact ⟨q,Nat.lt_succ_self q,oM,f.sl,B,x,z,H,by rw[M];exact f.st⟩
def rt (m:Fin P):Option (Fin P):=if m.val^(P/4+1)%P*(m.val^(P/4+1)%P)%P=m.val then some (Fin.ofNat P (even P (m.val^(P/4+1)%P))) else none
omit [NeZero P] in
theorem even_lt {r:Nat} (k:0<P) (h:r<P):even P r<P:=by unfold even;split<;>omega
theorem rt_four {m y:Fin P} {v:Value} (h:rt m=some y) (k:Four v (even P (m.val^(P/4+1)%P))):v=fv y:=by
 unfold rt at h
 split at h
 ·obtain rfl:=Option.some.inj h
  have:(Fin.ofNat P (even P (m.val^(P/4+1)%P))).val=even P (m.val^(P/4+1)%P):=Nat.mod_eq_of_lt (even_lt (Nat.pos_of_neZero P) (Nat.mod_lt _ (Nat.pos_of_neZero P)))
  show v=nv _
  rw[this]
  exact k.nv
 ·cases h
theorem rt_yes {m y:Fin P} (h:rt m=some y):m.val^(P/4+1)%P*(m.val^(P/4+1)%P)%P=m.val:=by
 unfold rt at h
 split at h
 ·assumption
 ·cases h
theorem rt_no {m:Fin P} (h:rt m=none):¬ m.val^(P/4+1)%P*(m.val^(P/4+1)%P)%P=m.val:=by
 unfold rt at h
 split at h
 ·cases h
 ·assumption
theorem RootR.val {m:Fin P} {e:Value} (h:RootR P m.val (m.val^(P/4+1)%P) e):(∀ y,rt m=some y→e=.tuple #[fv y,.bool true])∧(rt m=none→e=.tuple #[fv (0:Fin P),.bool false]):=by
 obtain ⟨i,l,j,g,ok,rfl,b,c,f⟩:=h
 refine ⟨fun y k=>?_,fun d=>?_⟩
 ·cases ok with
  | true=>rw[rt_four k (b rfl).2]
  | false=>exact absurd (rt_yes k) (c rfl)
 ·cases ok with
  | true=>exact absurd (b rfl).1 (rt_no d)
  | false =>
   obtain ⟨rfl,rfl,rfl,rfl⟩:=f rfl
   rw[← zero_fv]
   rfl
theorem Root_y (h:Fld P) {m y:Fin P} (e:rt m=some y):Gives 177 #[gv0,fv m] (.tuple #[fv y,.bool true]):=fun w =>
 (Root_any 4294968273 0 0 P _ m.val h.gap h.p4 (h.four m) w).mono (by rintro e' w' ⟨v,rfl,k,b⟩;exact ⟨_,rfl,k,b.val.1 y e⟩)
theorem Root_n (h:Fld P) {m:Fin P} (e:rt m=none):Gives 177 #[gv0,fv m] (.tuple #[fv (0:Fin P),.bool false]):=fun w =>
 (Root_any 4294968273 0 0 P _ m.val h.gap h.p4 (h.four m) w).mono (by rintro e' w' ⟨v,rfl,k,b⟩;exact ⟨_,rfl,k,b.val.2 e⟩)
def gl0:List Value:=[.int .u64 4294968273,.int .u64 0,.int .u64 0,.int .u64 0]
theorem above_y_c (C:Fld P) (x y:Fin P)(n:rt (x*x*x+7)=some y) :Gives 119 #[(fv x)] (.tuple #[pv x y,.bool true]):=by
 intro w
 obtain ⟨c1,e⟩:∃ c,c=x*x:=⟨_,rfl⟩
 obtain ⟨c2,i⟩:∃ c,c=c1*x:=⟨_,rfl⟩
 obtain ⟨k,g⟩:∃ c,c=c2+(7:Fin P):=⟨_,rfl⟩
 have b:((.tuple #[(pv x y),(.bool true)]):Value)=(.tuple #[pv x y,.bool true]):=by
  subst_vars;rfl
 rw[← b]
 go_enter Tryz.func119,Tryz.ntmps119
 refine RG.M.enter [(0,(.v (fv x)))] 31 kR ?_
 intro a0 q
 repeat refine wp_seq ?_
 refine q.T [.m 0,.m 1,.x (.bool false)] [(0,(ws x)),(1,(RG.z 8))] [] [(ws x),(RG.z 8)] [1,2,3] ⟨RG.mk 0 42,RG.mk 1 131,RG.st,trivial⟩ ?_
 intro A E D u m
 repeat refine wp_seq ?_
 refine m.T [.c gv0,.m 2,.u 2] [(1,(RG.z 4))] [(2,2,gl0)] [(ws x),(RG.z 8),gl0] [1,2,3,4] ⟨RG.cl (Coordinates_c),RG.mk 2 78,RG.pt i79,trivial⟩ ?_
 intro G a2 z l
 repeat refine wp_seq ?_
 refine l.D [.x gv0,.x gv0,.x gv0,.x (fv x),.x (fv x),.c (fv c1),.x (fv x),.c (fv c2),.x (fv (7:Fin P)),.c (fv k),.m 3,.u 3] [(10,(RG.z 4))] [(3,11,(ws k))] [(ws x),(RG.z 8),gl0,(ws k)] [1,2,3,4,5] ⟨RG.ld u79 i79,RG.ld u79 i79,RG.ld u79 i79,RG.ld u85 i85,RG.ld u85 i85,RG.cl ((PTimes_c C x x).e e),RG.ld u85 i85,RG.cl ((PTimes_c C c1 x).e i),RG.se (seven_fv C),RG.cl ((PPlus_c C c2 (7:Fin P)).e g),RG.mk 3 42,RG.pt i85,trivial⟩ ?_
 intro H I r o
 repeat refine wp_seq ?_
 refine o.T [.x gv0,.x (fv k),.c (.tuple #[(fv y),(.bool true)]),.x (.tuple #[(fv y),(.bool true)]),.x (fv y),.x (.bool true),.m 4,.u 4,.x (.bool true)] [(6,(RG.z 4))] [(4,7,(ws y))] [(ws x),(RG.z 8),gl0,(ws k),(ws y)] [1,2,3,6,7] ⟨RG.ld u79 i79,RG.ld u85 i85,RG.cl (f:=177) (args:=#[gv0,(fv k)]) (v:=(.tuple #[(fv y),(.bool true)])) (Root_y C (by subst_vars;exact n)),RG.st,RG.st,RG.st,RG.mk 4 42,RG.pt i85,RG.st,trivial⟩ ?_
 intro a F B p
 repeat refine wp_seq ?_
 refine p.U [.x (.bool true),.x (.bool false)] [1,2,3,6,26] ⟨RG.st,RG.st,trivial⟩ ?_
 intro t K j
 repeat refine wp_seq ?_
 refine wp_cond_false j.ev ?_
 refine wp_skip ?_
 repeat refine wp_seq ?_
 refine j.T [.x (fv x),.x (fv y),.x (pv x y),.u 1,.x (.bool true)] [] [(1,3,(ws x++(ws y)))] [(ws x),(ws x++(ws y)),gl0,(ws k),(ws y)] [2,3] ⟨RG.ld u85 i85,RG.ld u85 i85,RG.st,RG.pt i109,RG.st,trivial⟩ ?_
 intro L J d
 refine wp_ret ?_
 refine bodyPost_ret (v:=(.tuple #[(pv x y),(.bool true)])) (RG.results_rt d.st 2 3 131 rfl 1 _ rfl (d.at (s:=(.p 1 0))) _ (d.at (s:=(.v (.bool true)))) u109 i109) d.sl.defers ?_
 exact ⟨_,rfl,d.st.bel.below,rfl⟩
theorem above_n_c (C:Fld P) (x:Fin P)(n:rt (x*x*x+7)=none) :Gives 119 #[(fv x)] (.tuple #[pv (0:Fin P) 0,.bool false]):=by
 intro w
 obtain ⟨c1,e⟩:∃ c,c=x*x:=⟨_,rfl⟩
 obtain ⟨c2,i⟩:∃ c,c=c1*x:=⟨_,rfl⟩
 obtain ⟨k,g⟩:∃ c,c=c2+(7:Fin P):=⟨_,rfl⟩
 have b:((.tuple #[(pv (0:Fin P) (0:Fin P)),(.bool false)]):Value)=(.tuple #[pv (0:Fin P) 0,.bool false]):=by
  subst_vars;rfl
 rw[← b]
 go_enter Tryz.func119,Tryz.ntmps119
 refine RG.M.enter [(0,(.v (fv x)))] 31 kR ?_
 intro a0 q
 repeat refine wp_seq ?_
 refine q.T [.m 0,.m 1,.x (.bool false)] [(0,(ws x)),(1,(RG.z 8))] [] [(ws x),(RG.z 8)] [1,2,3] ⟨RG.mk 0 42,RG.mk 1 131,RG.st,trivial⟩ ?_
 intro a D B u m
 repeat refine wp_seq ?_
 refine m.T [.c gv0,.m 2,.u 2] [(1,(RG.z 4))] [(2,2,gl0)] [(ws x),(RG.z 8),gl0] [1,2,3,4] ⟨RG.cl (Coordinates_c),RG.mk 2 78,RG.pt i79,trivial⟩ ?_
 intro F a2 y l
 repeat refine wp_seq ?_
 refine l.D [.x gv0,.x gv0,.x gv0,.x (fv x),.x (fv x),.c (fv c1),.x (fv x),.c (fv c2),.x (fv (7:Fin P)),.c (fv k),.m 3,.u 3] [(10,(RG.z 4))] [(3,11,(ws k))] [(ws x),(RG.z 8),gl0,(ws k)] [2,3,4,5] ⟨RG.ld u79 i79,RG.ld u79 i79,RG.ld u79 i79,RG.ld u85 i85,RG.ld u85 i85,RG.cl ((PTimes_c C x x).e e),RG.ld u85 i85,RG.cl ((PTimes_c C c1 x).e i),RG.se (seven_fv C),RG.cl ((PPlus_c C c2 (7:Fin P)).e g),RG.mk 3 42,RG.pt i85,trivial⟩ ?_
 intro G H r o
 repeat refine wp_seq ?_
 refine o.T [.x gv0,.x (fv k),.c (.tuple #[(fv (0:Fin P)),(.bool false)]),.x (.tuple #[(fv (0:Fin P)),(.bool false)]),.x (fv (0:Fin P)),.x (.bool false),.m 4,.u 4,.x (.bool false)] [(6,(RG.z 4))] [(4,7,(ws (0:Fin P)))] [(ws x),(RG.z 8),gl0,(ws k),(ws (0:Fin P))] [2,3,7] ⟨RG.ld u79 i79,RG.ld u85 i85,RG.cl (f:=177) (args:=#[gv0,(fv k)]) (v:=(.tuple #[(fv (0:Fin P)),(.bool false)])) (Root_n C (by subst_vars;exact n)),RG.st,RG.st,RG.st,RG.mk 4 42,RG.pt i85,RG.st,trivial⟩ ?_
 intro z E A p
 repeat refine wp_seq ?_
 refine p.U [.x (.bool false),.x (.bool true)] [2,3,26] ⟨RG.st,RG.st,trivial⟩ ?_
 intro t J j
 repeat refine wp_seq ?_
 refine wp_cond_true j.ev ?_
 repeat refine wp_seq ?_
 refine j.T [.x (pv (0:Fin P) (0:Fin P)),.u 1,.x (.bool false)] [] [(1,1,(ws (0:Fin P)++(ws (0:Fin P))))] [(ws x),(ws (0:Fin P)++(ws (0:Fin P))),gl0,(ws k),(ws (0:Fin P))] [2,3] ⟨RG.se (zero_pv (P:=P)),RG.pt i109,RG.st,trivial⟩ ?_
 intro K I d
 refine wp_ret ?_
 refine bodyPost_ret (v:=(.tuple #[(pv (0:Fin P) (0:Fin P)),(.bool false)])) (RG.results_rt d.st 2 3 131 rfl 1 _ rfl (d.at (s:=(.p 1 0))) _ (d.at (s:=(.v (.bool false)))) u109 i109) d.sl.defers ?_
 exact ⟨_,rfl,d.st.bel.below,rfl⟩
theorem popp_c (C:Fld P) (x y:Fin P):Gives 196 #[(pv x y)] (pv x (0-y)):=by
 intro w
 obtain ⟨c1,d⟩:∃ c,c=(0:Fin P)-y:=⟨_,rfl⟩
 have k:((pv x c1):Value)=(pv x (0-y)):=by
  subst_vars;rfl
 rw[← k]
 go_enter Tryz.func196,Tryz.ntmps196
 refine RG.M.enter [(0,(.v (pv x y)))] 11 kR ?_
 intro a0 e
 repeat refine wp_seq ?_
 refine e.T [.m 0,.m 1] [(0,(ws x++(ws y))),(1,(RG.z 8))] [] [(ws x++(ws y)),(RG.z 8)] [1,2] ⟨RG.mk 0 131,RG.mk 1 131,trivial⟩ ?_
 intro m i l g f
 repeat refine wp_seq ?_
 refine f.D [.s (.p 0 0),.x (fv x),.c gv0,.x (fv (0:Fin P)),.s (.p 0 4),.x (fv y),.c (fv c1),.x (pv x c1),.u 1] [] [(1,8,(ws x++(ws c1)))] [(ws x++(ws y)),(ws x++(ws c1))] [2] ⟨RG.st,RG.ld u85 i85,RG.cl (Coordinates_c),RG.se (zero_fv (P:=P)),RG.st,RG.ld u85 i85,RG.cl ((PMinus_c C (0:Fin P) y).e d),RG.st,RG.pt i109,trivial⟩ ?_
 intro a2 j b
 refine wp_ret ?_
 refine bodyPost_ret (v:=(pv x c1)) (RG.results_row b.st 2 131 rfl 1 _ rfl (b.at (s:=(.p 1 0))) u109 i109) b.sl.defers ?_
 exact ⟨_,rfl,b.st.bel.below,rfl⟩
end
section
open Go.RowKit Go.Sort Go.Deep
variable {P:Nat} [NeZero P] {N:Nat}
theorem readS_of {w W:World} {k j e a b c d i f g:Nat} (h:Kept w k [⟨e,0,a,b,c,d⟩,⟨k,0,i,f,g,0⟩,⟨j,0,0,0,0,0⟩] W):W.cell? ⟨e,0,none⟩=some (.int .u64 a)∧W.cell? ⟨e,1,none⟩=some (.int .u64 b)∧W.cell? ⟨e,2,none⟩=some (.int .u64 c)∧W.cell? ⟨e,3,none⟩=some (.int .u64 d)∧W.cell? ⟨k,0,none⟩=some (.int .u64 i)∧W.cell? ⟨k,1,none⟩=some (.int .u64 f)∧W.cell? ⟨k,2,none⟩=some (.int .u64 g)∧W.cell? ⟨k,3,none⟩=some (.int .u64 0)∧Kept w k [⟨e,0,a,b,c,d⟩,⟨k,0,i,f,g,0⟩,⟨j,0,0,0,0,0⟩] W:=⟨h.head.c0,h.head.c1,h.head.c2,h.head.c3,h.tail.head.c0,h.tail.head.c1,h.tail.head.c2,h.tail.head.c3,h⟩
theorem readS_get {w W:World} {k j e a b c d i f g:Nat} (h:W.cell? ⟨e,0,none⟩=some (.int .u64 a)∧W.cell? ⟨e,1,none⟩=some (.int .u64 b)∧W.cell? ⟨e,2,none⟩=some (.int .u64 c)∧W.cell? ⟨e,3,none⟩=some (.int .u64 d)∧W.cell? ⟨k,0,none⟩=some (.int .u64 i)∧W.cell? ⟨k,1,none⟩=some (.int .u64 f)∧W.cell? ⟨k,2,none⟩=some (.int .u64 g)∧W.cell? ⟨k,3,none⟩=some (.int .u64 0)∧Kept w k [⟨e,0,a,b,c,d⟩,⟨k,0,i,f,g,0⟩,⟨j,0,0,0,0,0⟩] W):Kept w k [⟨e,0,a,b,c,d⟩,⟨k,0,i,f,g,0⟩,⟨j,0,0,0,0,0⟩] W:=h.2.2.2.2.2.2.2.2
theorem readS_alloc {w W:World} {k j e a b c d i f g:Nat} {o:Obj} (h:W.cell? ⟨e,0,none⟩=some (.int .u64 a)∧W.cell? ⟨e,1,none⟩=some (.int .u64 b)∧W.cell? ⟨e,2,none⟩=some (.int .u64 c)∧W.cell? ⟨e,3,none⟩=some (.int .u64 d)∧W.cell? ⟨k,0,none⟩=some (.int .u64 i)∧W.cell? ⟨k,1,none⟩=some (.int .u64 f)∧W.cell? ⟨k,2,none⟩=some (.int .u64 g)∧W.cell? ⟨k,3,none⟩=some (.int .u64 0)∧Kept w k [⟨e,0,a,b,c,d⟩,⟨k,0,i,f,g,0⟩,⟨j,0,0,0,0,0⟩] W):(W.alloc o).cell? ⟨e,0,none⟩=some (.int .u64 a)∧(W.alloc o).cell? ⟨e,1,none⟩=some (.int .u64 b)∧(W.alloc o).cell? ⟨e,2,none⟩=some (.int .u64 c)∧(W.alloc o).cell? ⟨e,3,none⟩=some (.int .u64 d)∧(W.alloc o).cell? ⟨k,0,none⟩=some (.int .u64 i)∧(W.alloc o).cell? ⟨k,1,none⟩=some (.int .u64 f)∧(W.alloc o).cell? ⟨k,2,none⟩=some (.int .u64 g)∧(W.alloc o).cell? ⟨k,3,none⟩=some (.int .u64 0)∧Kept w k [⟨e,0,a,b,c,d⟩,⟨k,0,i,f,g,0⟩,⟨j,0,0,0,0,0⟩] (W.alloc o):=readS_of ((readS_get h).alloc o)
theorem readS_allocd {w W:World} {k j e a b c d i f g:Nat} {o:Obj} (h:W.drew.cell? ⟨e,0,none⟩=some (.int .u64 a)∧W.drew.cell? ⟨e,1,none⟩=some (.int .u64 b)∧W.drew.cell? ⟨e,2,none⟩=some (.int .u64 c)∧W.drew.cell? ⟨e,3,none⟩=some (.int .u64 d)∧W.drew.cell? ⟨k,0,none⟩=some (.int .u64 i)∧W.drew.cell? ⟨k,1,none⟩=some (.int .u64 f)∧W.drew.cell? ⟨k,2,none⟩=some (.int .u64 g)∧W.drew.cell? ⟨k,3,none⟩=some (.int .u64 0)∧Kept w k [⟨e,0,a,b,c,d⟩,⟨k,0,i,f,g,0⟩,⟨j,0,0,0,0,0⟩] W.drew):(W.alloc o).drew.cell? ⟨e,0,none⟩=some (.int .u64 a)∧(W.alloc o).drew.cell? ⟨e,1,none⟩=some (.int .u64 b)∧(W.alloc o).drew.cell? ⟨e,2,none⟩=some (.int .u64 c)∧(W.alloc o).drew.cell? ⟨e,3,none⟩=some (.int .u64 d)∧(W.alloc o).drew.cell? ⟨k,0,none⟩=some (.int .u64 i)∧(W.alloc o).drew.cell? ⟨k,1,none⟩=some (.int .u64 f)∧(W.alloc o).drew.cell? ⟨k,2,none⟩=some (.int .u64 g)∧(W.alloc o).drew.cell? ⟨k,3,none⟩=some (.int .u64 0)∧Kept w k [⟨e,0,a,b,c,d⟩,⟨k,0,i,f,g,0⟩,⟨j,0,0,0,0,0⟩] (W.alloc o).drew:=readS_of (((readS_get h).undrew).alloc o).drew
theorem Read_len (pv:Value) (p:Option Addr) (n cap:Nat) (w:World) (d k c:Nat) (b:pv=.agg #[.int .u64 d,.int .u64 k,.int .u64 c,.int .u64 0]) (f:n≠32) :
 Calls Tryz.prog 29 #[pv,.slice p n cap] w (Ret fun e w'=>Below w.heap.size w w'∧e=.tuple #[.agg #[.int .u64 0,.int .u64 0,.int .u64 0,.int .u64 0],.bool false]):=by
 subst b
 go_enter Tryz.func29,Tryz.ntmps29
 go_wp2
 refine bodyPost_ret (v:=?v) ?hr rfl ?hR
 case hr=>simp[results,Tryz.results29,go_sem];rfl
 exact ⟨_,rfl,below2 _ _ _,rfl⟩
theorem Read_any (l m j P g o cap:Nat) (p:Bs) (hG:Gap l m j P) (w:World) (S:p.size=32) (hc:32≤cap) (W:g<w.heap.size) (R:Holds encB w g o p) :
 Calls Tryz.prog 29 #[.agg #[.int .u64 l,.int .u64 m,.int .u64 j,.int .u64 0],.slice (some ⟨g,o,none⟩) 32 cap] w
  (Ret fun e w'=>Below w.heap.size w w'∧((beV p.toList<P∧∃ v,e=.tuple #[v,.bool true]∧Four v (beV p.toList))∨(P≤beV p.toList∧e=.tuple #[.agg #[.int .u64 0,.int .u64 0,.int .u64 0,.int .u64 0],.bool false]))):=by
 have F:Hid (Gap l m j P):=hG
 have J:Hid (Holds encB w g o p):=R
 have HS:Hid (p.size=32):=S
 clear hG R S
 go_enter Tryz.func29,Tryz.ntmps29
 go_wp2_with fail
 have PR:=(At4.made w 78 l m j 0 rfl).alloc (.cells #[.int .u64 0,.int .u64 0,.int .u64 0,.int .u64 0] 42)
 have X:=At4.made (w.alloc (.cells #[.int .u64 l,.int .u64 m,.int .u64 j,.int .u64 0] 78)) 42 0 0 0 0 (World.size_alloc _ _)
 have s:=((Kept.mk1 (below2 w (.cells #[.int .u64 l,.int .u64 m,.int .u64 j,.int .u64 0] 78) (.cells #[.int .u64 0,.int .u64 0,.int .u64 0,.int .u64 0] 42)) (below2 w (.cells #[.int .u64 l,.int .u64 m,.int .u64 j,.int .u64 0] 78) (.cells #[.int .u64 0,.int .u64 0,.int .u64 0,.int .u64 0] 42)).size).cons X.blk).cons PR.blk
 have r:=Holds.below J.out (below2 w (.cells #[.int .u64 l,.int .u64 m,.int .u64 j,.int .u64 0] 78) (.cells #[.int .u64 0,.int .u64 0,.int .u64 0,.int .u64 0] 42)) W
 clear PR X
 generalize World.alloc _ _=W0 at s r ⊢
 refine (fromBytes_any (some ⟨g,o,none⟩) g o 32 cap p _ (Nat.le_refl 32) hc HS.out (Or.inr ⟨rfl,r⟩)).mono ?_
 rintro e O ⟨v,rfl,i,L⟩
 obtain ⟨a,b,c,d,rfl,ha,hb,K,hd,N⟩:=id L
 have M:Hid (Four _ _):=L
 have Q:=s.call i
 clear N L i s r
 go_wp2_with fail
 have f:=(Q.alloc (.cells #[.int .u64 a,.int .u64 b,.int .u64 c,.int .u64 d] 42)).cons (At4.made O 42 a b c d rfl).blk
 have A:O.heap.size≠w.heap.size:=Nat.ne_of_gt Q.head.lt
 clear Q
 generalize World.alloc _ _=W1 at f ⊢
 generalize O.heap.size=y at f A ⊢
 generalize I:w.heap.size+1=B at f ⊢
 have H:Hid (w.heap.size≤B):=by unfold Hid;omega
 generalize Y:w.heap.size=q at f H W A ⊢
 have U:Hid (w.heap.size=q):=Y
 clear Y I
 go_cut [8] (fun s8 wx=>∃ k:Nat,s8=.int .u64 k∧k≤1∧Hid (∃ t,t<top∧t+top*k=beV p.toList+val l m j 0)∧Kept w q [⟨y,0,a,b,c,d⟩,⟨q,0,l,m,j,0⟩,⟨B,0,0,0,0,0⟩] wx)
 case first =>
  go_region_held3 (fun w'=>w'.cell? ⟨y,0,none⟩=some (.int .u64 a)∧w'.cell? ⟨y,1,none⟩=some (.int .u64 b)∧w'.cell? ⟨y,2,none⟩=some (.int .u64 c)∧w'.cell? ⟨y,3,none⟩=some (.int .u64 d)∧w'.cell? ⟨q,0,none⟩=some (.int .u64 l)∧w'.cell? ⟨q,1,none⟩=some (.int .u64 m)∧w'.cell? ⟨q,2,none⟩=some (.int .u64 j)∧w'.cell? ⟨q,3,none⟩=some (.int .u64 0)∧Kept w q [⟨y,0,a,b,c,d⟩,⟨q,0,l,m,j,0⟩,⟨B,0,0,0,0,0⟩] w') (first|(with_reducible exact readS_of f)|(with_reducible exact readS_of f.drew)|(with_reducible exact readS_allocd (by assumption))|(with_reducible exact readS_alloc (by assumption))|(with_reducible exact readS_of (f.alloc _))|(with_reducible exact readS_of (f.set4' C (fun x hx=>Nat.ne_of_gt (E x hx)) _ _ _ _))|(with_reducible exact readS_of (f.alloc _).drew)|(with_reducible exact readS_of (f.set4' C (fun x hx=>Nat.ne_of_gt (E x hx)) _ _ _ _).drew)|fail) (first|(go_at_call 55;refine (four_any _ _ M.out _).mono ?_;rintro e w2 ⟨v,rfl,i,rfl⟩;(try (with_reducible have z:=T.call i;clear T;have T:=z;clear z));(try (first|(with_reducible have T:=(At4.made _ 76 0 0 0 0 rfl).call i)|(with_reducible have T:=(At4.made _ 76 0 0 0 0 rfl).drew.call i));have E:=f.lts;have C:=f.le);have n:=Kept.call (readS_get (by assumption)) i;clear f;have f:=n;clear n i)|(go_at_call 54;refine (plus_any _ _ _ _ M.out (Four.mk F.h0 F.h1 F.h2 dC rfl) _).mono ?_;rintro e w2 ⟨v,rfl,i,v2,t,k,rfl,u,D,V⟩;obtain ⟨a',b',c',d',rfl,h6,h7,K,h3,N⟩:=id u;have HT:Hid (t<top∧t+top*k=beV p.toList+val l m j 0):=⟨u.lt,V⟩;clear N V u;(try (with_reducible have z:=T.call i;clear T;have T:=z;clear z));(try (first|(with_reducible have T:=(At4.made _ 76 0 0 0 0 rfl).call i)|(with_reducible have T:=(At4.made _ 76 0 0 0 0 rfl).drew.call i));have E:=f.lts;have C:=f.le);have n:=Kept.call (readS_get (by assumption)) i;clear f;have f:=n;clear n i;(try (obtain ⟨Z,h4,h5,hj,tf⟩:=id T;have zt:=T.lt))))
  all_goals (try go_wp2)
  all_goals (have G:Hid (∃ t,t<top∧t+top*k=beV p.toList+val l m j 0):=⟨t,HT.out⟩)
  all_goals (go_meet;first|(with_reducible exact ⟨k,rfl,D,G,f.alloc _⟩)|(with_reducible exact ⟨k,rfl,D,G,(f.alloc _).drew⟩)|(with_reducible exact ⟨k,rfl,D,G,f.set4' C (fun x hx=>Nat.ne_of_gt (E x hx)) _ _ _ _⟩)|(with_reducible exact ⟨k,rfl,D,G,(f.set4' C (fun x hx=>Nat.ne_of_gt (E x hx)) _ _ _ _).drew⟩)|fail)
 case rest =>
  clear f
  obtain ⟨k,rfl,D,V,f⟩:=hcut
  have G:k=0∨k=1:=oM
  rcases G with rfl|rfl
  ·obtain ⟨h9,Z,hi,h8,xf⟩:=f.head.at4
   obtain ⟨E,u,z,C,rf⟩:=f.tail.tail.head.at4
   have z1:=f.tail.tail.head.lt
   go_wp2
   have n:=f.tail.tail.head.at4.self4 a b c d
   unfold set4 at n
   refine bodyPost_ret (v:=?v0) ?hr0 rfl ?hR0
   case hr0=>simp[results,Tryz.results29,go_sem,n.c0,n.c1,n.c2,n.c3];rfl
   refine ⟨_,rfl,?_,Or.inl ⟨?_,_,rfl,M.out⟩⟩
   ·rw[U.out];exact below_set4 f.bl H.out _ _ _ _
   ·obtain ⟨t,I,h2⟩:=V.out
    have:=F.hP
    omega
  ·obtain ⟨E,u,z,C,rf⟩:=f.tail.tail.head.at4
   have z1:=f.tail.tail.head.lt
   go_wp2
   have n:At4 (set4 wc B (.int .u64 0) (.int .u64 0) (.int .u64 0) (.int .u64 0)) B 0 0 0 0:=f.tail.tail.head.at4.self4 0 0 0 0
   unfold set4 at n
   refine bodyPost_ret (v:=?v1) ?hr1 rfl ?hR1
   case hr1=>simp[results,Tryz.results29,go_sem,n.c0,n.c1,n.c2,n.c3];rfl
   refine ⟨_,rfl,?_,Or.inr ⟨?_,rfl⟩⟩
   ·rw[U.out];exact below_set4 f.bl H.out _ _ _ _
   ·obtain ⟨t,I,h2⟩:=V.out
    have:=F.hP
    omega
def Arg (w:World) (v:Value) (k:Bs):Prop:=∃ (p:Option Addr) (n cap:Nat),v=.slice p n cap∧k.size=n∧(n=32→∃ g o,p=some ⟨g,o,none⟩∧32≤cap∧g<w.heap.size∧Holds encB w g o k)
theorem Arg.below {w b:World} {v:Value} {d:Bs} (h:Arg w v d) (c:Below w.heap.size w b):Arg b v d:=by
 obtain ⟨p,n,cap,rfl,m,l⟩:=h
 refine ⟨p,n,cap,rfl,m,fun e=>?_⟩
 obtain ⟨g,o,j,f,k,i⟩:=l e
 exact ⟨g,o,j,f,Nat.lt_of_lt_of_le k c.size,Holds.below i c k⟩
def Args (w:World) (q:Option Addr) (n:Nat) (L:Nat→Bs):Prop:=0<n→∃ k,q=some ⟨k,0,none⟩∧k<w.heap.size∧∀ j,j<n→∃ v,w.cell? ⟨k,j,none⟩=some v∧Arg w v (L j)
end
section
open Go.RowKit Go.Sort
theorem u131:(Tryz.prog.underlying 50).map (·.isRow)=some true:=kR
theorem i131:(Tryz.prog.info? 50).map (·.size)=some 33:=kR
theorem u5:(Tryz.prog.underlying 5).map (·.isRow)=some false:=kR
theorem und131:Tryz.prog.underlying 50=some (.array 33 5):=kR
theorem und5:Tryz.prog.underlying 5=some (.int .u8):=kR
theorem cells5:Tryz.prog.cellsOf 5=1:=kR
theorem sl33 (g o cap:Nat) (k:33≤cap) (w:World):(Instr.sliceAt 23 (.slice (some ⟨g,o,none⟩) 33 cap) (some (.int .i64 1)) none none).run Tryz.prog w=.ok (.slice (some ⟨g,o+1,none⟩) 32 (cap-1)) w:=by
 go_simp
 omega
theorem arr33 (g o cap:Nat) (w:World):(Instr.arrayAt 50 (.slice (some ⟨g,o,none⟩) 33 cap)).run Tryz.prog w=.ok (.pointer (some ⟨g,o,none⟩)) w:=kR
theorem at23 (g o n cap:Nat) (k:0<n) (w:World):(Instr.indexAt 23 (.slice (some ⟨g,o,none⟩) n cap) (.int .i64 0)).run Tryz.prog w=.ok (.pointer (some ⟨g,o,none⟩)) w:=by
 go_simp
theorem part5 (xs:Array Value) (i:Nat) (v:Value) (h:xs[i]? = some v) (w:World):(part 5 xs i).run Tryz.prog w=.ok v w:=by
 go_simp
theorem eqI (xs ys:Array Value) (a b:Nat→Int) (D:Nat) (w:World):∀ (k:List Nat),(∀ i∈k,xs[i]? = some (.int .u8 (a i)))→(∀ i∈k,ys[i]? = some (.int .u8 (b i))) →
 (Op.eqItems (D+1) 5 1 xs ys k).run Tryz.prog w=.ok (decide (∀ i∈k,a i=b i)) w
 | [],_,_=>by
  rw[Op.eqItems]
  simp
 | i :: k,hx,hy=>by
  have e:=eqI xs ys a b D w k (fun j c=>hx j (List.mem_cons_of_mem _ c)) (fun j c=>hy j (List.mem_cons_of_mem _ c))
  have p1:=part5 xs (i*1) _ (by rw[Nat.mul_one];exact hx i List.mem_cons_self) w
  have p2:=part5 ys (i*1) _ (by rw[Nat.mul_one];exact hy i List.mem_cons_self) w
  have f:=run_equalIn_int (P:=Tryz.prog) w D 5 .u8 .u8 (a i) (b i) und5
  rw[Op.eqItems]
  simp only[Sem.run_bind,p1,p2,f,Result.andThen_ok]
  by_cases h:a i=b i
  ·simp only[h,beq_self_eq_true,Bool.not_true,Bool.false_eq_true,if_false,e,List.forall_mem_cons,true_and]
  ·have d:(a i == b i)=false:=by simpa using h
   simp only[d,Bool.not_false,if_true,Sem.run_pure,List.forall_mem_cons,h,false_and,decide_false]
def bl33 (k:Bs):List Value:=k.toList.map encB
def z33:List Value:=List.replicate 33 (.int .u8 0)
theorem bl33_at (k:Bs) (i:Nat) (h:i<k.size):(bl33 k)[i]? = some (.int .u8 (ub k[i]!)):=by
 unfold bl33
 rw[List.getElem?_map,Array.getElem?_toList,Array.getElem?_eq_getElem h,getElem!_pos k i h]
 rfl
theorem eqz (b:Bs) (h:b.size=33) (w:World):(binOp .eql 50 (.agg (bl33 b).toArray) (.agg z33.toArray)).run Tryz.prog w=.ok (.bool (decide (∀ i∈List.range 33,ub b[i]! = 0))) w:=by
 have k:(Tryz.prog.info? 5).isSome=true:=kR
 obtain ⟨d,c⟩:=Option.isSome_iff_exists.1 k
 rw[run_eql_struct,run_equalIn_array w 9999 _ _ und131 c,cells5,
  eqI _ _ (fun i=>ub b[i]!) (fun _=>0) 9998 w (List.range 33) (fun i k=>by
   rw[List.getElem?_toArray]
   exact bl33_at b i (by rw[h];exact List.mem_range.1 k)) (fun i k=>by
   rw[List.getElem?_toArray]
   unfold z33
   rw[List.getElem?_replicate,if_pos (List.mem_range.1 k)])]
 rfl
@[reducible] def Zero33 (bs:Bs):Prop:=∀ i∈List.range 33,ub bs[i]! = 0
theorem eqz_t {k:Bs} (h:k.size=33) (b:Zero33 k) (w:World):(binOp .eql 50 (.agg (bl33 k).toArray) (.agg z33.toArray)).run Tryz.prog w=.ok (.bool true) w:=by rw[eqz k h,decide_eq_true (show ∀ i∈List.range 33,ub k[i]! = 0 from b)]
theorem eqz_f {k:Bs} (h:k.size=33) (b:¬ Zero33 k) (w:World):(binOp .eql 50 (.agg (bl33 k).toArray) (.agg z33.toArray)).run Tryz.prog w=.ok (.bool false) w:=by rw[eqz k h,decide_eq_false (show ¬ ∀ i∈List.range 33,ub k[i]! = 0 from b)]
theorem bl33_length {k:Bs} (h:k.size=33):(bl33 k).length=33:=by unfold bl33;rw[List.length_map,Array.length_toList,h]
theorem bl33_range {k:Bs} {w:World} {g o:Nat} (c:Holds encB w g o k):w.rangeAt g o (bl33 k):=fun j v hv=>by
 have b:j<k.size:=by
  have:=(List.getElem?_eq_some_iff.1 hv).1
  unfold bl33 at this
  rwa[List.length_map,Array.length_toList] at this
 rw[bl33_at k j b] at hv
 rw[(c j b).1]
 exact hv
def tl33 (k:Bs):Bs:=k.extract 1 33
theorem tl33_size {k:Bs} (h:k.size=33):(tl33 k).size=32:=by unfold tl33;rw[Array.size_extract,h];rfl
theorem tl33_holds {k:Bs} {w:World} {g o:Nat} (h:k.size=33) (c:Holds encB w g o k):Holds encB w g (o+1) (tl33 k):=
 Holds.part c (by rw[tl33_size h,h];decide) (fun j b=>by
  rw[tl33_size h] at b
  unfold tl33
  rw[getElem!_pos _ j (by rw[Array.size_extract,h];omega),getElem!_pos _ (1+j) (by rw[h];omega),Array.getElem_extract])
variable {P:Nat} [NeZero P]
theorem Read_y (C:Fld P) {g o cap:Nat} {k:Bs} (j:k.size=32) (l:32≤cap) {x:Fin P} (hx:beV k.toList=x.val) {w:World} (d:g<w.heap.size) (i:Holds encB w g o k) :
 Calls Tryz.prog 29 #[gv0,.slice (some ⟨g,o,none⟩) 32 cap] w (Ret fun e w'=>Below w.heap.size w w'∧e=.tuple #[fv x,.bool true]):=
 (Read_any 4294968273 0 0 P g o cap k C.gap w j l d i).mono (by
  rintro e w' ⟨v,rfl,f,⟨c,m,rfl,b⟩|⟨c,rfl⟩⟩
  ·refine ⟨_,rfl,f,?_⟩
   rw[hx] at b
   rw[b.nv]
  ·have:=x.isLt
   omega)
theorem Read_n (C:Fld P) {g o cap:Nat} {k:Bs} (i:k.size=32) (j:32≤cap) (hx:¬ beV k.toList<P) {w:World} (c:g<w.heap.size) (f:Holds encB w g o k) :
 Calls Tryz.prog 29 #[gv0,.slice (some ⟨g,o,none⟩) 32 cap] w (Ret fun e w'=>Below w.heap.size w w'∧e=.tuple #[fv (0:Fin P),.bool false]):=
 (Read_any 4294968273 0 0 P g o cap k C.gap w i j c f).mono (by
  rintro e w' ⟨v,rfl,d,⟨b,m,rfl,l⟩|⟨b,rfl⟩⟩
  ·exact absurd b hx
  ·refine ⟨_,rfl,d,?_⟩
   rw[← zero_fv])
def rdx (P:Nat) [NeZero P] (k:Bs):Fin P:=Fin.ofNat P (beV (tl33 k).toList)
def rd (P:Nat) [NeZero P] (k:Bs):Option (Fin P × Fin P):=
 if k.size=33 then
  if Zero33 k then some (0,0) else
  if ub k[0]! = 2∨ub k[0]! = 3 then
   if beV (tl33 k).toList<P then
    (rt (rdx P k*rdx P k*rdx P k+7)).map (fun y=>(rdx P k,if ub k[0]! = 3 then 0-y else y))
   else none
  else none
 else none
def rdV:Option (Fin P × Fin P)→Value
 | none=>.tuple #[pv (0:Fin P) 0,.bool false]
 | some p=>.tuple #[pv p.1 p.2,.bool true]
end
section
open Go.RowKit Go.Sort
variable {P:Nat} [NeZero P] {N:Nat}
theorem rp_len (C:Fld P) (q:Option Addr) (n cap:Nat) (x:Fin P) (w:World) (t:¬ n=33):Calls Tryz.prog 156 #[(.slice q n cap)] w (Ret fun e w'=>Below w.heap.size w w'∧e=(.tuple #[pv (0:Fin P) 0,.bool false])):=by
 have c:∀ w,(binOp .neq 3 (.int .i64 n) (.int .i64 33)).run Tryz.prog w=.ok (.bool true) w:=fun w=>by
  have h:¬ (n:Int)=33:=oM
  go_simp
 go_enter Tryz.func156,Tryz.ntmps156
 refine RG.var1 (v0:=(.slice q n cap)) (n:=54) kR kR kR ?_
 intro a0 b i
 have d:=RG.St.begin w
 have j:RG.M w w.heap.size [] 54 [] [] [(0,(.v (.slice q n cap)))] a0 _:=⟨d,b,⟨i,trivial⟩⟩
 repeat refine wp_seq ?_
 refine j.T [.m 0,.x (.bool false)] [(0,(RG.z 8))] [] [(RG.z 8)] [0,2,3] ⟨RG.mk 0 131,RG.st,trivial⟩ ?_
 intro p r m g
 repeat refine wp_seq ?_
 refine g.U [.x (.slice q n cap),.x (.int .i64 n),.x (.bool true)] [2,3,9] ⟨RG.st,RG.cert_one rfl 7 (.v (.slice q n cap)) (.int .i64 n) rfl RG.sx (fun a w=>kR) (fun μ w=>kR),RG.cert_binc rfl .neq 3 3 8 (.int .i64 n) (.int .i64 33) (.bool true) rfl rfl RG.sx (fun w=>kR) (c),trivial⟩ ?_
 intro a2 o f
 repeat refine wp_seq ?_
 refine wp_cond_true f.ev ?_
 repeat refine wp_seq ?_
 refine f.T [.x (pv (0:Fin P) (0:Fin P)),.u 0,.x (.bool false)] [] [(0,1,(ws (0:Fin P)++(ws (0:Fin P))))] [(ws (0:Fin P)++(ws (0:Fin P)))] [2,3] ⟨RG.se (zero_pv (P:=P)),RG.pt i109,RG.st,trivial⟩ ?_
 intro u l k
 refine wp_ret ?_
 refine bodyPost_ret (v:=(.tuple #[(pv (0:Fin P) (0:Fin P)),(.bool false)])) (RG.results_rt k.st 2 3 131 rfl 0 _ rfl (k.at (s:=(.p 0 0))) _ (k.at (s:=(.v (.bool false)))) u109 i109) k.sl.defers ?_
 exact ⟨_,rfl,k.st.bel.below,rfl⟩
abbrev v33 (g o cap:Nat):Value:=.slice (some ⟨g,o,none⟩) 33 cap
theorem rp33 (C:Fld P) (g o cap:Nat) (k:Bs) (w:World) (p:k.size=33) (Y:33≤cap) (d:g<w.heap.size) (J:Holds encB w g o k):Calls Tryz.prog 156 #[v33 g o cap] w (Ret fun e w'=>Below w.heap.size w w'∧e=rdV (rd P k)):=by
 have E:=bl33_range J
 have b:w.cell? ⟨g,o,none⟩=some (.int .u8 (ub k[0]!)):=by
  have:=(J 0 (by rw[p];decide)).1
  rw[Nat.add_zero] at this
  exact this
 go_enter Tryz.func156,Tryz.ntmps156
 refine RG.var1 (v0:=(v33 g o cap)) (n:=54) kR kR kR ?_
 intro a0 L f0
 have N:=RG.St.begin w
 have M0:RG.M w w.heap.size [] 54 [] [] [(0,(.v (v33 g o cap)))] a0 _:=⟨N,L,⟨f0,trivial⟩⟩
 repeat refine wp_seq ?_
 refine M0.T [.m 0,.x (.bool false)] [(0,(RG.z 8))] [] [(RG.z 8)] [0,2,3] ⟨RG.mk 0 131,RG.st,trivial⟩ ?_
 intro j1 a1 w1 M1
 repeat refine wp_seq ?_
 refine M1.U [.x (v33 g o cap),.x (.int .i64 33),.x (.bool false)] [0,2,3,9] ⟨RG.st,RG.cert_one rfl 7 (.v (v33 g o cap)) (.int .i64 33) rfl RG.sx (fun a w=>kR) (fun μ w=>kR),RG.st,trivial⟩ ?_
 intro a2 w2 K
 repeat refine wp_seq ?_
 refine wp_cond_false K.ev ?_
 refine wp_skip ?_
 repeat refine wp_seq ?_
 unfold rd
 rw[if_pos p]
 by_cases I:Zero33 k
 ·rw[if_pos I]
  refine K.U [.x (v33 g o cap),.x (.pointer (some ⟨g,o,none⟩)),.x (.agg (bl33 k).toArray),.x (.agg z33.toArray),.x (.bool true)] [2,3,15] ⟨RG.st,RG.cert_s2a rfl 50 11 (v33 g o cap) (.pointer (some ⟨g,o,none⟩)) rfl rfl RG.sx (arr33 g o cap),RG.cert_loadB rfl g o d List.not_mem_nil 50 12 rfl (bl33 k) rfl RG.sx E u131 (by rw[bl33_length p];exact i131),RG.st,RG.cert_bin rfl .eql 50 50 13 14 (.agg (bl33 k).toArray) (.agg z33.toArray) (.bool true) rfl rfl RG.sx RG.sx (fun w=>kR) (eqz_t p I),trivial⟩ ?_
  intro a3 w3 A
  repeat refine wp_seq ?_
  refine wp_cond_true A.ev ?_
  repeat refine wp_seq ?_
  refine A.T [.x (pv (0:Fin P) (0:Fin P)),.u 0,.x (.bool true)] [] [(0,1,(ws (0:Fin P)++(ws (0:Fin P))))] [(ws (0:Fin P)++(ws (0:Fin P)))] [2,3] ⟨RG.se (zero_pv (P:=P)),RG.pt i109,RG.st,trivial⟩ ?_
  intro X W f
  refine wp_ret ?_
  refine bodyPost_ret (v:=(.tuple #[(pv (0:Fin P) (0:Fin P)),(.bool true)])) (RG.results_rt f.st 2 3 131 rfl 0 _ rfl (f.at (s:=(.p 0 0))) _ (f.at (s:=(.v (.bool true)))) u109 i109) f.sl.defers ?_
  exact ⟨_,rfl,f.st.bel.below,rfl⟩
 rw[if_neg I]
 refine K.U [.x (v33 g o cap),.x (.pointer (some ⟨g,o,none⟩)),.x (.agg (bl33 k).toArray),.x (.agg z33.toArray),.x (.bool false)] [0,2,3,15] ⟨RG.st,RG.cert_s2a rfl 50 11 (v33 g o cap) (.pointer (some ⟨g,o,none⟩)) rfl rfl RG.sx (arr33 g o cap),RG.cert_loadB rfl g o d List.not_mem_nil 50 12 rfl (bl33 k) rfl RG.sx E u131 (by rw[bl33_length p];exact i131),RG.st,RG.cert_bin rfl .eql 50 50 13 14 (.agg (bl33 k).toArray) (.agg z33.toArray) (.bool false) rfl rfl RG.sx RG.sx (fun w=>kR) (eqz_f p I),trivial⟩ ?_
 intro a3 w3 A
 repeat refine wp_seq ?_
 refine wp_cond_false A.ev ?_
 refine wp_skip ?_
 repeat refine wp_seq ?_
 by_cases i:ub k[0]! = 2∨ub k[0]! = 3
 rotate_left
 ·rw[if_neg i]
  generalize ub k[0]! = m at b i
  have O:¬ m=2:=fun h=>i (.inl h)
  have H:¬ m=3:=fun h=>i (.inr h)
  have c:∀ w,(binOp .neq 5 (.int .u8 m) (.int .u8 2)).run Tryz.prog w=.ok (.bool true) w:=fun w=>by
   go_simp
  have j:∀ w,(binOp .neq 5 (.int .u8 m) (.int .u8 3)).run Tryz.prog w=.ok (.bool true) w:=fun w=>by
   go_simp
  refine A.U [.x (v33 g o cap),.x (.pointer (some ⟨g,o,none⟩)),.x (.int .u8 m),.x (.bool true),.x (.bool true),.x (v33 g o cap),.x (.pointer (some ⟨g,o,none⟩)),.x (.int .u8 m),.x (.bool true),.x (.bool true)] [2,3,26] ⟨RG.st,RG.cert_idxc rfl 23 17 (.int .i64 0) rfl (.v (v33 g o cap)) RG.sx (fun μ w=>at23 g o 33 cap dC w),RG.cert_load1B rfl g o d List.not_mem_nil 5 18 rfl (.int .u8 m) rfl RG.sx b u5,RG.cert_binc rfl .neq 5 5 19 (.int .u8 m) (.int .u8 2) (.bool true) rfl rfl RG.sx (fun w=>kR) (c),RG.st,RG.st,RG.cert_idxc rfl 23 22 (.int .i64 0) rfl (.v (v33 g o cap)) RG.sx (fun μ w=>at23 g o 33 cap dC w),RG.cert_load1B rfl g o d List.not_mem_nil 5 23 rfl (.int .u8 m) rfl RG.sx b u5,RG.cert_binc rfl .neq 5 5 24 (.int .u8 m) (.int .u8 3) (.bool true) rfl rfl RG.sx (fun w=>kR) (j),RG.st,trivial⟩ ?_
  intro X W f
  repeat refine wp_seq ?_
  refine wp_cond_true f.ev ?_
  repeat refine wp_seq ?_
  refine f.T [.x (pv (0:Fin P) (0:Fin P)),.u 0,.x (.bool false)] [] [(0,1,(ws (0:Fin P)++(ws (0:Fin P))))] [(ws (0:Fin P)++(ws (0:Fin P)))] [2,3] ⟨RG.se (zero_pv (P:=P)),RG.pt i109,RG.st,trivial⟩ ?_
  intro S w5 r
  refine wp_ret ?_
  refine bodyPost_ret (v:=(.tuple #[(pv (0:Fin P) (0:Fin P)),(.bool false)])) (RG.results_rt r.st 2 3 131 rfl 0 _ rfl (r.at (s:=(.p 0 0))) _ (r.at (s:=(.v (.bool false)))) u109 i109) r.sl.defers ?_
  exact ⟨_,rfl,r.st.bel.below,rfl⟩
 rw[if_pos i]
 rcases i with i|i
 case' inl=>refine A.u [.x 17 [] (v33 g o cap),.x 18 [(17,0)] (.pointer (some ⟨g,o,none⟩)),.x 19 [(18,1)] (.int .u8 2),.x 20 [(19,2)] (.bool false),.x 21 [(20,3)] (.bool false),⟨some 22,[],(.v undef),.pass⟩,⟨some 23,[],(.v undef),.pass⟩,⟨some 24,[],(.v undef),.pass⟩,⟨some 25,[],(.v undef),.pass⟩,.x 26 [(21,4),(25,8)] (.bool false)] [(0,(.v (v33 g o cap))),(2,(.p 0 0)),(3,(.v (.bool false))),(26,(.v (.bool false)))] ⟨RG.st,RG.cert_idxc rfl 23 17 (.int .i64 0) rfl (.v (v33 g o cap)) RG.sx (fun μ w=>at23 g o 33 cap dC w),RG.cert_load1B rfl g o d List.not_mem_nil 5 18 rfl (.int .u8 2) rfl RG.sx (b.trans (by rw[i])) u5,RG.st,RG.st,RG.cert_pass rfl rfl,RG.cert_pass rfl rfl,RG.cert_pass rfl rfl,RG.cert_pass rfl rfl,RG.st,trivial⟩ ?_
 case' inr=>refine A.U [.x (v33 g o cap),.x (.pointer (some ⟨g,o,none⟩)),.x (.int .u8 3),.x (.bool true),.x (.bool true),.x (v33 g o cap),.x (.pointer (some ⟨g,o,none⟩)),.x (.int .u8 3),.x (.bool false),.x (.bool false)] [0,2,3,26] ⟨RG.st,RG.cert_idxc rfl 23 17 (.int .i64 0) rfl (.v (v33 g o cap)) RG.sx (fun μ w=>at23 g o 33 cap dC w),RG.cert_load1B rfl g o d List.not_mem_nil 5 18 rfl (.int .u8 3) rfl RG.sx (b.trans (by rw[i])) u5,RG.st,RG.st,RG.st,RG.cert_idxc rfl 23 22 (.int .i64 0) rfl (.v (v33 g o cap)) RG.sx (fun μ w=>at23 g o 33 cap dC w),RG.cert_load1B rfl g o d List.not_mem_nil 5 23 rfl (.int .u8 3) rfl RG.sx (b.trans (by rw[i])) u5,RG.st,RG.st,trivial⟩ ?_
 all_goals
  intro X W f
  repeat refine wp_seq ?_
  refine wp_cond_false f.ev ?_
  refine wp_skip ?_
  repeat refine wp_seq ?_
  by_cases hx:beV (tl33 k).toList<P
  rotate_left
  ·rw[if_neg hx]
   have z:∀ w',RG.BelX w.heap.size [] w w'→Calls Tryz.prog 29 #[gv0,.slice (some ⟨g,o+1,none⟩) 32 (cap-1)] w' (Ret fun e B=>Below w'.heap.size w' B∧e=.tuple #[fv (0:Fin P),.bool false]):=fun w' F=>Read_n C (tl33_size p) oM hx (Nat.lt_of_lt_of_le d F.size) (Holds.below (tl33_holds p J) F.below d)
   refine f.D [.c gv0,.x (v33 g o cap),.x (.slice (some ⟨g,o+1,none⟩) 32 (cap-1)),.c (.tuple #[(fv (0:Fin P)),(.bool false)]),.x (.tuple #[(fv (0:Fin P)),(.bool false)]),.x (fv (0:Fin P)),.x (.bool false),.m 1,.u 1,.x (.bool false)] [(7,(RG.z 4))] [(1,8,(ws (0:Fin P)))] [(RG.z 8),(ws (0:Fin P))] [2,3,5] ⟨RG.cl (Coordinates_c),RG.st,RG.cert_slice1 rfl 23 30 (.int .i64 1) (v33 g o cap) (.slice (some ⟨g,o+1,none⟩) 32 (cap-1)) rfl rfl RG.sx (sl33 g o cap Y),RG.cert_callB2 rfl 29 29 31 gv0 (.slice (some ⟨g,o+1,none⟩) 32 (cap-1)) (.tuple #[(fv (0:Fin P)),(.bool false)]) rfl (fun a w=>kR) RG.sx RG.sx z,RG.st,RG.st,RG.st,RG.mk 1 42,RG.pt i85,RG.st,trivial⟩ ?_
   intro j5 S w5 r
   repeat refine wp_seq ?_
   refine r.U [.x (.bool false),.x (.bool true)] [2,3,36] ⟨RG.st,RG.st,trivial⟩ ?_
   intro a6 w6 D
   repeat refine wp_seq ?_
   refine wp_cond_true D.ev ?_
   repeat refine wp_seq ?_
   refine D.T [.x (pv (0:Fin P) (0:Fin P)),.u 0,.x (.bool false)] [] [(0,1,(ws (0:Fin P)++(ws (0:Fin P))))] [(ws (0:Fin P)++(ws (0:Fin P))),(ws (0:Fin P))] [2,3] ⟨RG.se (zero_pv (P:=P)),RG.pt i109,RG.st,trivial⟩ ?_
   intro T R l
   refine wp_ret ?_
   refine bodyPost_ret (v:=(.tuple #[(pv (0:Fin P) (0:Fin P)),(.bool false)])) (RG.results_rt l.st 2 3 131 rfl 0 _ rfl (l.at (s:=(.p 0 0))) _ (l.at (s:=(.v (.bool false)))) u109 i109) l.sl.defers ?_
   exact ⟨_,rfl,l.st.bel.below,rfl⟩
  rw[if_pos hx]
  have G:beV (tl33 k).toList=(rdx P k).val:=(Nat.mod_eq_of_lt hx).symm
  generalize rdx P k=x at G
  have z:∀ w',RG.BelX w.heap.size [] w w'→Calls Tryz.prog 29 #[gv0,.slice (some ⟨g,o+1,none⟩) 32 (cap-1)] w' (Ret fun e B=>Below w'.heap.size w' B∧e=.tuple #[fv x,.bool true]):=fun w' F=>Read_y C (tl33_size p) oM G (Nat.lt_of_lt_of_le d F.size) (Holds.below (tl33_holds p J) F.below d)
  refine f.D [.c gv0,.x (v33 g o cap),.x (.slice (some ⟨g,o+1,none⟩) 32 (cap-1)),.c (.tuple #[(fv x),(.bool true)]),.x (.tuple #[(fv x),(.bool true)]),.x (fv x),.x (.bool true),.m 1,.u 1,.x (.bool true)] [(7,(RG.z 4))] [(1,8,(ws x))] [(RG.z 8),(ws x)] [0,2,3,4,5] ⟨RG.cl (Coordinates_c),RG.st,RG.cert_slice1 rfl 23 30 (.int .i64 1) (v33 g o cap) (.slice (some ⟨g,o+1,none⟩) 32 (cap-1)) rfl rfl RG.sx (sl33 g o cap Y),RG.cert_callB2 rfl 29 29 31 gv0 (.slice (some ⟨g,o+1,none⟩) 32 (cap-1)) (.tuple #[(fv x),(.bool true)]) rfl (fun a w=>kR) RG.sx RG.sx z,RG.st,RG.st,RG.st,RG.mk 1 42,RG.pt i85,RG.st,trivial⟩ ?_
  intro j5 S w5 r
  repeat refine wp_seq ?_
  refine r.U [.x (.bool true),.x (.bool false)] [0,2,3,4,5,36] ⟨RG.st,RG.st,trivial⟩ ?_
  intro a6 w6 D
  repeat refine wp_seq ?_
  refine wp_cond_false D.ev ?_
  refine wp_skip ?_
  repeat refine wp_seq ?_
  cases V:rt (x*x*x+7) with
  | none =>
   refine D.T [.x (fv x),.c (.tuple #[(pv (0:Fin P) (0:Fin P)),(.bool false)]),.x (.tuple #[(pv (0:Fin P) (0:Fin P)),(.bool false)]),.x (pv (0:Fin P) (0:Fin P)),.x (.bool false),.m 2,.u 2,.x (.bool false)] [(5,(RG.z 8))] [(2,6,(ws (0:Fin P)++(ws (0:Fin P))))] [(RG.z 8),(ws x),(ws (0:Fin P)++(ws (0:Fin P)))] [2,3,5,6] ⟨RG.ld u85 i85,RG.cert_call1 rfl 119 39 (fv x) (.tuple #[(pv (0:Fin P) (0:Fin P)),(.bool false)]) rfl (fun a w=>kR) RG.sx (above_n_c C x V),RG.st,RG.st,RG.st,RG.mk 2 131,RG.pt i109,RG.st,trivial⟩ ?_
   intro j7 T R l
   repeat refine wp_seq ?_
   refine l.u [.x 43 [] (.bool false),.x 44 [(43,0)] (.bool false),⟨some 45,[],(.v undef),.pass⟩,⟨some 46,[],(.v undef),.pass⟩,⟨some 47,[],(.v undef),.pass⟩,⟨some 48,[],(.v undef),.pass⟩,.x 49 [(44,1),(48,5)] (.bool false)] [(2,(.p 0 0)),(3,(.v (.bool false))),(5,(.v (.bool false))),(6,(.p 2 0)),(49,(.v (.bool false)))] ⟨RG.st,RG.st,RG.cert_pass rfl rfl,RG.cert_pass rfl rfl,RG.cert_pass rfl rfl,RG.cert_pass rfl rfl,RG.st,trivial⟩ ?_
   intro Z w8 u
   repeat refine wp_seq ?_
   refine wp_cond_false u.ev ?_
   refine wp_skip ?_
   repeat refine wp_seq ?_
   refine u.T [.x (pv (0:Fin P) (0:Fin P)),.x (.bool false),.u 0,.x (.bool false)] [] [(0,2,(ws (0:Fin P)++(ws (0:Fin P))))] [(ws (0:Fin P)++(ws (0:Fin P))),(ws x),(ws (0:Fin P)++(ws (0:Fin P)))] [2,3] ⟨RG.ld u109 i109,RG.st,RG.pt i109,RG.st,trivial⟩ ?_
   intro U Q c
   refine wp_ret ?_
   refine bodyPost_ret (v:=(.tuple #[(pv (0:Fin P) (0:Fin P)),(.bool false)])) (RG.results_rt c.st 2 3 131 rfl 0 _ rfl (c.at (s:=(.p 0 0))) _ (c.at (s:=(.v (.bool false)))) u109 i109) c.sl.defers ?_
   exact ⟨_,rfl,c.st.bel.below,rfl⟩
  | some y =>
   refine D.T [.x (fv x),.c (.tuple #[(pv x y),(.bool true)]),.x (.tuple #[(pv x y),(.bool true)]),.x (pv x y),.x (.bool true),.m 2,.u 2,.x (.bool true)] [(5,(RG.z 8))] [(2,6,(ws x++(ws y)))] [(RG.z 8),(ws x),(ws x++(ws y))] [0,2,3,5,6] ⟨RG.ld u85 i85,RG.cert_call1 rfl 119 39 (fv x) (.tuple #[(pv x y),(.bool true)]) rfl (fun a w=>kR) RG.sx (above_y_c C x y V),RG.st,RG.st,RG.st,RG.mk 2 131,RG.pt i109,RG.st,trivial⟩ ?_
   intro j7 T R l
   repeat refine wp_seq ?_
   rw[Option.map_some]
   by_cases H:ub k[0]! = 3
   ·rw[if_pos H]
    generalize M:0-y=t
    have q:Gives 196 #[pv x y] (pv x t):=M ▸ popp_c C x y
    refine l.U [.x (.bool true),.x (.bool true),.x (v33 g o cap),.x (.pointer (some ⟨g,o,none⟩)),.x (.int .u8 3),.x (.bool true),.x (.bool true)] [2,3,5,6,49] ⟨RG.st,RG.st,RG.st,RG.cert_idxc rfl 23 45 (.int .i64 0) rfl (.v (v33 g o cap)) RG.sx (fun μ w=>at23 g o 33 cap dC w),RG.cert_load1B rfl g o d List.not_mem_nil 5 46 rfl (.int .u8 3) rfl RG.sx (b.trans (by rw[H])) u5,RG.st,RG.st,trivial⟩ ?_
    intro Z w8 u
    repeat refine wp_seq ?_
    refine wp_cond_true u.ev ?_
    repeat refine wp_seq ?_
    refine u.T [.x (pv x y),.c (pv x t),.u 2] [] [(2,2,(ws x++(ws t)))] [(RG.z 8),(ws x),(ws x++(ws t))] [2,3,5,6] ⟨RG.ld u109 i109,RG.cl (q),RG.pt i109,trivial⟩ ?_
    intro U Q c
    repeat refine wp_seq ?_
    refine c.T [.x (pv x t),.x (.bool true),.u 0,.x (.bool true)] [] [(0,2,(ws x++(ws t)))] [(ws x++(ws t)),(ws x),(ws x++(ws t))] [2,3] ⟨RG.ld u109 i109,RG.st,RG.pt i109,RG.st,trivial⟩ ?_
    intro h0 h1 j
    refine wp_ret ?_
    refine bodyPost_ret (v:=(.tuple #[(pv x t),(.bool true)])) (RG.results_rt j.st 2 3 131 rfl 0 _ rfl (j.at (s:=(.p 0 0))) _ (j.at (s:=(.v (.bool true)))) u109 i109) j.sl.defers ?_
    exact ⟨_,rfl,j.st.bel.below,rfl⟩
   ·rw[if_neg H]
    have O:ub k[0]! = 2:=oM
    refine l.U [.x (.bool true),.x (.bool true),.x (v33 g o cap),.x (.pointer (some ⟨g,o,none⟩)),.x (.int .u8 2),.x (.bool false),.x (.bool false)] [2,3,5,6,49] ⟨RG.st,RG.st,RG.st,RG.cert_idxc rfl 23 45 (.int .i64 0) rfl (.v (v33 g o cap)) RG.sx (fun μ w=>at23 g o 33 cap dC w),RG.cert_load1B rfl g o d List.not_mem_nil 5 46 rfl (.int .u8 2) rfl RG.sx (b.trans (by rw[O])) u5,RG.st,RG.st,trivial⟩ ?_
    intro Z w8 u
    repeat refine wp_seq ?_
    refine wp_cond_false u.ev ?_
    refine wp_skip ?_
    repeat refine wp_seq ?_
    refine u.T [.x (pv x y),.x (.bool true),.u 0,.x (.bool true)] [] [(0,2,(ws x++(ws y)))] [(ws x++(ws y)),(ws x),(ws x++(ws y))] [2,3] ⟨RG.ld u109 i109,RG.st,RG.pt i109,RG.st,trivial⟩ ?_
    intro U Q c
    refine wp_ret ?_
    refine bodyPost_ret (v:=(.tuple #[(pv x y),(.bool true)])) (RG.results_rt c.st 2 3 131 rfl 0 _ rfl (c.at (s:=(.p 0 0))) _ (c.at (s:=(.v (.bool true)))) u109 i109) c.sl.defers ?_
    exact ⟨_,rfl,c.st.bel.below,rfl⟩
def Arg33 (w:World) (v:Value) (k:Bs):Prop:=∃ (p:Option Addr) (n cap:Nat),v=.slice p n cap∧k.size=n∧(n=33→∃ g o,p=some ⟨g,o,none⟩∧33≤cap∧g<w.heap.size∧Holds encB w g o k)
theorem Arg33.below {w b:World} {v:Value} {d:Bs} (h:Arg33 w v d) (c:Below w.heap.size w b):Arg33 b v d:=by
 obtain ⟨p,n,cap,rfl,m,l⟩:=h
 refine ⟨p,n,cap,rfl,m,fun e=>?_⟩
 obtain ⟨g,o,j,f,k,i⟩:=l e
 exact ⟨g,o,j,f,Nat.lt_of_lt_of_le k c.size,Holds.below i c k⟩
theorem readPoint_c (C:Fld P) (v:Value) (k:Bs) (w:World) (hv:Arg33 w v k):Calls Tryz.prog 156 #[v] w (Ret fun e w'=>Below w.heap.size w w'∧e=rdV (rd P k)):=by
 obtain ⟨p,n,cap,rfl,c,f⟩:=hv
 by_cases b:n=33
 ·subst b
  obtain ⟨g,o,rfl,j,d,i⟩:=f rfl
  exact rp33 C g o cap k w c j d i
 ·unfold rd
  rw[if_neg (by rw[c];exact b)]
  exact rp_len C p n cap 0 w b
end
section
open Go.RowKit Go.Sort Go.Deep
variable {P:Nat} [NeZero P] {N:Nat}
def bx (n:Nat):Bs:=be32 (n%18446744073709551616) (n/18446744073709551616%18446744073709551616) (n/340282366920938463463374607431768211456%18446744073709551616) (n/6277101735386680763835789423207666416102355444464034512896%18446744073709551616)
theorem bx_size (n:Nat):(bx n).size=32:=by unfold bx;exact be32_size _ _ _ _
def mark (n:Nat):UInt8:=if n%2=1 then 3 else 2
def by33 (x y:Fin P):Bs:=if x=0∧y=0 then Array.replicate 33 0 else #[mark y.val]++bx x.val
theorem Bytes_c (C:Fld P) (x:Fin P) (w:World):Calls Tryz.prog 27 #[fv x] w (Ret fun e w'=>Below w.heap.size w w'∧∃ g,e=.slice (some ⟨g,0,none⟩) 32 32∧w.heap.size≤g∧Holds encB w' g 0 (bx x.val)):=
 (Bytes_any _ _ w (C.four x)).mono (by
  rintro e w' ⟨v,rfl,f,g,a,b,c,d,rfl,j,k,l⟩
  refine ⟨_,rfl,f,g,rfl,j,?_⟩
  have i:fv x=.agg #[.int .u64 ((x.val%18446744073709551616:Nat):Int),.int .u64 ((x.val/18446744073709551616%18446744073709551616:Nat):Int),.int .u64 ((x.val/340282366920938463463374607431768211456%18446744073709551616:Nat):Int),.int .u64 ((x.val/6277101735386680763835789423207666416102355444464034512896%18446744073709551616:Nat):Int)]:=rfl
  rw[i] at k
  simp only[Value.agg.injEq,Array.mk.injEq,List.cons.injEq,Value.int.injEq,true_and,and_true,Int.ofNat_inj] at k
  obtain ⟨rfl,rfl,rfl,rfl⟩:=k
  exact l)
theorem Odd_c (C:Fld P) (y:Fin P):Gives 120 #[fv y] (.bool (decide (y.val%2=1))):=fun w =>
 (Odd_any _ _ (C.four y) w).mono (by rintro e w' ⟨v,rfl,k,rfl⟩;exact ⟨_,rfl,k,rfl⟩)
theorem info5b:(Tryz.prog.info? 5).map (fun i=>(i.zero,i.size,i.bytes))=some (some (.int .u8 0),1,1):=kR
theorem und23:Tryz.prog.underlying 23=some (.slice 5):=kR
def BytesR (w:World) (T:Bs) (e:Value) (w':World):Prop:=∃ g cap,e=.slice (some ⟨g,0,none⟩) 33 cap∧33≤cap∧w.heap.size≤g∧g<w'.heap.size∧Holds encB w' g 0 T
theorem mk33 (w:World):(Instr.makeSlice 23 (.int .i64 33) (.int .i64 33)).run Tryz.prog w=.ok (.slice (some ⟨w.heap.size,0,none⟩) 33 33) (w.alloc (.cells (madeCells #[.int .u8 0] 33) 5)):=
 run_make_row' (P:=Tryz.prog) 23 5 (.int .u8 0) 1 und23 info5b rfl .i64 .i64 33 dC dC w
theorem made33 (w:World) (o:Obj):Holds encB ((w.alloc o).alloc (.cells (madeCells #[.int .u8 0] 33) 5)) (w.heap.size+1) 0 (Array.replicate 33 0):=by
 have h:=Holds.made (enc:=encB) (w.alloc o) 5 33 (0:UInt8)
 rw[World.size_alloc] at h
 exact h
omit [NeZero P] in
theorem pv_words (x y:Fin P):pv x y=.agg #[.int .u64 ((x.val%18446744073709551616:Nat):Int),.int .u64 ((x.val/18446744073709551616%18446744073709551616:Nat):Int),.int .u64 ((x.val/340282366920938463463374607431768211456%18446744073709551616:Nat):Int),.int .u64 ((x.val/6277101735386680763835789423207666416102355444464034512896%18446744073709551616:Nat):Int),.int .u64 ((y.val%18446744073709551616:Nat):Int),.int .u64 ((y.val/18446744073709551616%18446744073709551616:Nat):Int),.int .u64 ((y.val/340282366920938463463374607431768211456%18446744073709551616:Nat):Int),.int .u64 ((y.val/6277101735386680763835789423207666416102355444464034512896%18446744073709551616:Nat):Int)]:=rfl
theorem bytes_zero (C:Fld P) (x y:Fin P) (g:x=0∧y=0) (w:World):Calls Tryz.prog 70 #[pv x y] w (Ret fun e w'=>Below w.heap.size w w'∧BytesR w (Array.replicate 33 0) e w'):=by
 have k:=eqPt_t C (x:=x) (y:=y) (z:=0) (t:=0) g
 rw[← zero_pv,pv_words] at k
 rw[pv_words]
 generalize ((x.val%18446744073709551616:Nat):Int)=a at k ⊢
 generalize ((x.val/18446744073709551616%18446744073709551616:Nat):Int)=b at k ⊢
 generalize ((x.val/340282366920938463463374607431768211456%18446744073709551616:Nat):Int)=c at k ⊢
 generalize ((x.val/6277101735386680763835789423207666416102355444464034512896%18446744073709551616:Nat):Int)=d at k ⊢
 generalize ((y.val%18446744073709551616:Nat):Int)=p at k ⊢
 generalize ((y.val/18446744073709551616%18446744073709551616:Nat):Int)=q at k ⊢
 generalize ((y.val/340282366920938463463374607431768211456%18446744073709551616:Nat):Int)=r at k ⊢
 generalize ((y.val/6277101735386680763835789423207666416102355444464034512896%18446744073709551616:Nat):Int)=s at k ⊢
 have i:=mk33
 generalize j:(Array.replicate 33 0:Bs)=T
 go_enter Tryz.func70,Tryz.ntmps70
 go_wp2
 go_ret
 have f:=made33 w (.cells #[.int .u64 a,.int .u64 b,.int .u64 c,.int .u64 d,.int .u64 p,.int .u64 q,.int .u64 r,.int .u64 s] 131)
 rw[j] at f
 exact ⟨_,rfl,below2 _ _ _,_,33,rfl,oM,oM,by simp,f⟩
theorem grow33 (w:World) (k g m:Nat) (B:Bs) (f:B.size=32) (s:w.cell? ⟨k,0,none⟩=some (.int .u8 m)) (r:Holds encB w g 0 B) (n:m<256:=by decide) :
 ∃ (w':World) (cap:Nat),(Builtin.append_ #[23,23] 23 #[.slice (some ⟨k,0,none⟩) 1 1,.slice (some ⟨g,0,none⟩) 32 32]).run Tryz.prog w=.ok (.slice (some ⟨w.heap.size,0,none⟩) 33 cap) w'∧Below w.heap.size w w'∧33≤cap∧w.heap.size<w'.heap.size∧Holds encB w' w.heap.size 0 (#[UInt8.ofNat m]++B):=by
 obtain ⟨i,q,d⟩:=Option.map_eq_some_iff.1 info5b
 simp only[Prod.mk.injEq] at d
 obtain ⟨p,l,o⟩:=d
 have e:=run_append_grow (P:=Tryz.prog) w 23 23 5 i (.int .u8 0) und23 q p ⟨k,0,none⟩ 1 1 [.int .u8 m] (by rw[l];rfl) (fun j v b=>by
  cases j with
  | zero =>
   obtain rfl:Value.int .u8 m=v:=by simpa using b
   rw[Addr.add_mid]
   exact s
  | succ j=>simp at b) ⟨g,0,none⟩ 32 32 (B.toList.map encB) (by rw[l,List.length_map,Array.length_toList,f]) (fun j v b=>by
  have c:j<B.size:=by
   have:=(List.getElem?_eq_some_iff.1 b).1
   rwa[List.length_map,Array.length_toList] at this
  rw[Addr.add_mid,(r j c).1]
  rw[List.getElem?_map,Array.getElem?_toList,Array.getElem?_eq_getElem c] at b
  rw[getElem!_pos B j c]
  exact b) dC dC (by rw[o];decide)
 refine ⟨_,_,e,?_,?_,?_,?_⟩
 ·exact (Below.refl _ w).drew.trans (below1 w.drew _)
 ·exact grownCap_ge w (1+32) 1 5
 ·show w.drew.heap.size<(w.drew.alloc _).heap.size
  rw[World.size_alloc]
  exact Nat.lt_succ_self _
 ·intro j b
  have c:(#[UInt8.ofNat m]++B).size=33:=by rw[Array.size_append,f];rfl
  refine ⟨?_,World.frozen?_alloc_new w.drew _ _ _⟩
  show (w.drew.alloc _).cell? ⟨w.drew.heap.size,0+j,none⟩=_
  rw[Nat.zero_add,World.cell?_alloc_new,getElem!_pos _ j b,Array.getElem?_append_left (by
   rw[Array.size_append,List.size_toArray,List.size_toArray,List.length_map,Array.length_toList]
   show j<1+B.size
   omega)]
  cases j with
  | zero =>
   rw[Array.getElem?_append_left (by simp),Array.getElem_append_left (by simp)]
   show some (Value.int .u8 m)=some (encB (UInt8.ofNat m))
   unfold encB
   rw[ub_ofNat,Nat.mod_eq_of_lt n]
  | succ i =>
   rw[Array.getElem?_append_right (by simp),Array.getElem_append_right (by simp),List.getElem?_toArray,List.getElem?_map,Array.getElem?_toList]
   show Option.map encB B[i]? = some (encB B[i])
   rw[Array.getElem?_eq_getElem oM]
   rfl
theorem keptP (w:World) (a b c d p q r s:Nat):Kept w w.heap.size [⟨w.heap.size,0,a,b,c,d⟩,⟨w.heap.size,4,p,q,r,s⟩] (w.alloc (.cells #[.int .u64 a,.int .u64 b,.int .u64 c,.int .u64 d,.int .u64 p,.int .u64 q,.int .u64 r,.int .u64 s] 131)):=by
 have F:=At8.made w 131 a b c d p q r s rfl
 refine ((Kept.mk1 (below1 w _) (below1 w _).size).cons ?_).cons ?_
 ·exact ⟨F.c4,F.c5,F.c6,F.c7,F.fz⟩
 ·exact ⟨F.c0,F.c1,F.c2,F.c3,F.fz⟩
theorem bytes_odd (C:Fld P) (x y:Fin P) (N:¬ (x=0∧y=0)) (ho:y.val%2=1) (w:World):Calls Tryz.prog 70 #[pv x y] w (Ret fun e w'=>Below w.heap.size w w'∧BytesR w (#[3]++bx x.val) e w'):=by
 have f:=eqPt_f C (x:=x) (y:=y) (z:=0) (t:=0) N
 rw[← zero_pv,pv_words] at f
 rw[pv_words]
 have i:∀ w,Calls Tryz.prog 120 #[.agg #[.int .u64 ((y.val%18446744073709551616:Nat):Int),.int .u64 ((y.val/18446744073709551616%18446744073709551616:Nat):Int),.int .u64 ((y.val/340282366920938463463374607431768211456%18446744073709551616:Nat):Int),.int .u64 ((y.val/6277101735386680763835789423207666416102355444464034512896%18446744073709551616:Nat):Int)]] w (Ret fun e w'=>Below w.heap.size w w'∧e=.bool true):=fun w=>by
  have h:=Odd_c C y w
  rw[decide_eq_true ho] at h
  exact h
 have k:∀ w,Calls Tryz.prog 27 #[.agg #[.int .u64 ((x.val%18446744073709551616:Nat):Int),.int .u64 ((x.val/18446744073709551616%18446744073709551616:Nat):Int),.int .u64 ((x.val/340282366920938463463374607431768211456%18446744073709551616:Nat):Int),.int .u64 ((x.val/6277101735386680763835789423207666416102355444464034512896%18446744073709551616:Nat):Int)]] w (Ret fun e w'=>Below w.heap.size w w'∧∃ g,e=.slice (some ⟨g,0,none⟩) 32 32∧w.heap.size≤g∧Holds encB w' g 0 (bx x.val)):=Bytes_c C x
 have n:=bx_size x.val
 generalize bx x.val=B at k n ⊢
 generalize x.val%18446744073709551616=a at f i k ⊢
 generalize x.val/18446744073709551616%18446744073709551616=b at f i k ⊢
 generalize x.val/340282366920938463463374607431768211456%18446744073709551616=c at f i k ⊢
 generalize x.val/6277101735386680763835789423207666416102355444464034512896%18446744073709551616=d at f i k ⊢
 generalize y.val%18446744073709551616=p at f i k ⊢
 generalize y.val/18446744073709551616%18446744073709551616=q at f i k ⊢
 generalize y.val/340282366920938463463374607431768211456%18446744073709551616=r at f i k ⊢
 generalize y.val/6277101735386680763835789423207666416102355444464034512896%18446744073709551616=s at f i k ⊢
 have V:=mk1 (f)
 go_enter Tryz.func70,Tryz.ntmps70
 go_wp2_with fail
 have j:=keptP w a b c d p q r s
 generalize I:w.heap.size=X at j ⊢
 refine (i _).mono ?_
 rintro e u ⟨v,rfl,E,rfl⟩
 replace j:=j.call E
 obtain ⟨K,R,L,S,U⟩:=j.head
 have zx:=j.head.lt
 go_wp2_with fail
 refine (k _).mono ?_
 rintro e J ⟨v,rfl,l,g,rfl,T,O⟩
 have Q:J.cell? ⟨u.heap.size,0,none⟩=some (.int .u8 3):=by
  rw[l.cell (p:=⟨u.heap.size,0,none⟩) (by show u.heap.size<_;rw[World.size_alloc];omega),World.cell?_alloc_new]
  rfl
 have o:=Nat.le_trans j.le (Nat.le_trans (by rw[World.size_alloc];omega) l.size)
 have A:=mk1 (((j.alloc _).call l).bl)
 obtain ⟨W,M,H,D,G,m,F⟩:=grow33 J u.heap.size g 3 B n Q O
 go_wp2_with (at_builtin;refine Lib.wpList_append_run _ rfl _ _ 23 23 rfl _ _ rfl rfl _ _ H ?_)
 go_ret
 refine ⟨_,rfl,?_,_,M,rfl,G,?_,m,F⟩
 ·rw[I];exact A.trans (D.mono o)
 ·rw[I];exact o
theorem bytes_even (C:Fld P) (x y:Fin P) (N:¬ (x=0∧y=0)) (ho:¬ y.val%2=1) (w:World):Calls Tryz.prog 70 #[pv x y] w (Ret fun e w'=>Below w.heap.size w w'∧BytesR w (#[2]++bx x.val) e w'):=by
 have f:=eqPt_f C (x:=x) (y:=y) (z:=0) (t:=0) N
 rw[← zero_pv,pv_words] at f
 rw[pv_words]
 have i:∀ w,Calls Tryz.prog 120 #[.agg #[.int .u64 ((y.val%18446744073709551616:Nat):Int),.int .u64 ((y.val/18446744073709551616%18446744073709551616:Nat):Int),.int .u64 ((y.val/340282366920938463463374607431768211456%18446744073709551616:Nat):Int),.int .u64 ((y.val/6277101735386680763835789423207666416102355444464034512896%18446744073709551616:Nat):Int)]] w (Ret fun e w'=>Below w.heap.size w w'∧e=.bool false):=fun w=>by
  have h:=Odd_c C y w
  rw[decide_eq_false ho] at h
  exact h
 have k:∀ w,Calls Tryz.prog 27 #[.agg #[.int .u64 ((x.val%18446744073709551616:Nat):Int),.int .u64 ((x.val/18446744073709551616%18446744073709551616:Nat):Int),.int .u64 ((x.val/340282366920938463463374607431768211456%18446744073709551616:Nat):Int),.int .u64 ((x.val/6277101735386680763835789423207666416102355444464034512896%18446744073709551616:Nat):Int)]] w (Ret fun e w'=>Below w.heap.size w w'∧∃ g,e=.slice (some ⟨g,0,none⟩) 32 32∧w.heap.size≤g∧Holds encB w' g 0 (bx x.val)):=Bytes_c C x
 have n:=bx_size x.val
 generalize bx x.val=B at k n ⊢
 generalize x.val%18446744073709551616=a at f i k ⊢
 generalize x.val/18446744073709551616%18446744073709551616=b at f i k ⊢
 generalize x.val/340282366920938463463374607431768211456%18446744073709551616=c at f i k ⊢
 generalize x.val/6277101735386680763835789423207666416102355444464034512896%18446744073709551616=d at f i k ⊢
 generalize y.val%18446744073709551616=p at f i k ⊢
 generalize y.val/18446744073709551616%18446744073709551616=q at f i k ⊢
 generalize y.val/340282366920938463463374607431768211456%18446744073709551616=r at f i k ⊢
 generalize y.val/6277101735386680763835789423207666416102355444464034512896%18446744073709551616=s at f i k ⊢
 have V:=mk1 (f)
 go_enter Tryz.func70,Tryz.ntmps70
 go_wp2_with fail
 have j:=keptP w a b c d p q r s
 generalize I:w.heap.size=X at j ⊢
 refine (i _).mono ?_
 rintro e u ⟨v,rfl,E,rfl⟩
 replace j:=j.call E
 obtain ⟨K,R,L,S,U⟩:=j.head
 have zx:=j.head.lt
 go_wp2_with fail
 refine (k _).mono ?_
 rintro e J ⟨v,rfl,l,g,rfl,T,O⟩
 have Q:J.cell? ⟨u.heap.size,0,none⟩=some (.int .u8 2):=by
  rw[l.cell (p:=⟨u.heap.size,0,none⟩) (by show u.heap.size<_;rw[World.size_alloc];omega),World.cell?_alloc_new]
  rfl
 have o:=Nat.le_trans j.le (Nat.le_trans (by rw[World.size_alloc];omega) l.size)
 have A:=mk1 (((j.alloc _).call l).bl)
 obtain ⟨W,M,H,D,G,m,F⟩:=grow33 J u.heap.size g 2 B n Q O
 go_wp2_with (at_builtin;refine Lib.wpList_append_run _ rfl _ _ 23 23 rfl _ _ rfl rfl _ _ H ?_)
 go_ret
 refine ⟨_,rfl,?_,_,M,rfl,G,?_,m,F⟩
 ·rw[I];exact A.trans (D.mono o)
 ·rw[I];exact o
theorem bytes_c (C:Fld P) (x y:Fin P) (w:World):Calls Tryz.prog 70 #[pv x y] w (Ret fun e w'=>Below w.heap.size w w'∧BytesR w (by33 x y) e w'):=by
 unfold by33 mark
 by_cases k:x=0∧y=0
 ·rw[if_pos k]
  exact bytes_zero C x y k w
 ·rw[if_neg k]
  by_cases ho:y.val%2=1
  ·rw[if_pos ho]
   exact bytes_odd C x y k ho w
  ·rw[if_neg ho]
   exact bytes_even C x y k ho w
theorem u23:(Tryz.prog.underlying 23).map (·.isRow)=some false:=kR
theorem at46 (k o n c i:Nat) (b:i<n) (w:World):(Instr.indexAt 27 (.slice (some ⟨k,o,none⟩) n c) (.int .i64 i)).run Tryz.prog w=.ok (.pointer (some ⟨k,o+i,none⟩)) w:=by
 go_simp
theorem mk112 (N:Nat) (f:N≤512):∃ C0:List Value,C0.length=8*N∧∀ w:World,(Instr.makeSlice 138 (.int .i64 N) (.int .i64 N)).run Tryz.prog w=.ok (.slice (some ⟨w.heap.size,0,none⟩) N N) (w.alloc (.cells C0.toArray 131)):=by
 have g:Tryz.prog.underlying 138=some (.slice 131):=kR
 have j:(Tryz.prog.info? 131).map (fun i=>(i.size,decide (i.bytes≤4000),i.zero.isSome))=some (8,true,true):=kR
 obtain ⟨i,b,k⟩:=Option.map_eq_some_iff.1 j
 simp only[Prod.mk.injEq,decide_eq_true_eq] at k
 obtain ⟨n,e,m⟩:=k
 obtain ⟨z,d⟩:=Option.isSome_iff_exists.1 m
 refine ⟨(madeCells z.cells (N*8)).toList,by rw[Array.length_toList,size_madeCells,Nat.mul_comm],fun w=>?_⟩
 have c:(i.bytes:Int)*(N:Int)≤281474976710656:=by
  have:i.bytes*N≤4000*512:=Nat.mul_le_mul e f
  have l:((i.bytes*N:Nat):Int)≤281474976710656:=oM
  rwa[Int.natCast_mul] at l
 have:=run_make (P:=Tryz.prog) w 138 131 i z g b d .i64 .i64 (N:Int) (N:Int) oM oM c oM
 rw[Int.toNat_natCast,n] at this
 rw[Array.toArray_toList]
 exact this
theorem mk82 (N:Nat) (f:N≤512):∃ C0:List Value,C0.length=4*N∧∀ w:World,(Instr.makeSlice 127 (.int .i64 N) (.int .i64 N)).run Tryz.prog w=.ok (.slice (some ⟨w.heap.size,0,none⟩) N N) (w.alloc (.cells C0.toArray 42)):=by
 have g:Tryz.prog.underlying 127=some (.slice 42):=kR
 have j:(Tryz.prog.info? 42).map (fun i=>(i.size,decide (i.bytes≤4000),i.zero.isSome))=some (4,true,true):=kR
 obtain ⟨i,b,k⟩:=Option.map_eq_some_iff.1 j
 simp only[Prod.mk.injEq,decide_eq_true_eq] at k
 obtain ⟨n,e,m⟩:=k
 obtain ⟨z,d⟩:=Option.isSome_iff_exists.1 m
 refine ⟨(madeCells z.cells (N*4)).toList,by rw[Array.length_toList,size_madeCells,Nat.mul_comm],fun w=>?_⟩
 have c:(i.bytes:Int)*(N:Int)≤281474976710656:=by
  have:i.bytes*N≤4000*512:=Nat.mul_le_mul e f
  have l:((i.bytes*N:Nat):Int)≤281474976710656:=oM
  rwa[Int.natCast_mul] at l
 have:=run_make (P:=Tryz.prog) w 127 42 i z g b d .i64 .i64 (N:Int) (N:Int) oM oM c oM
 rw[Int.toNat_natCast,n] at this
 rw[Array.toArray_toList]
 exact this
structure Rows (sz N:Nat) (cell:Nat→List Value) (m:Nat) (C:List Value):Prop where
 len:C.length=sz*N
 row:∀ j r,j<m→r<sz→C[sz*j+r]? = (cell j)[r]?
theorem Rows.next {sz N m:Nat} {cell:Nat→List Value} {C:List Value} (h:Rows sz N cell m C) (f:m<N) (b:(cell m).length=sz):Rows sz N cell (m+1) (RG.rep C (0+sz*m) (cell m)):=by
 have k:=h.len
 have g:sz*m+sz≤sz*N:=by rw[← Nat.mul_succ];exact Nat.mul_le_mul_left _ f
 have d:0+sz*m+(cell m).length≤C.length:=by rw[b];omega
 refine ⟨by rw[RG.rep_length d];exact k,fun j r l e=>?_⟩
 rw[RG.rep_at d]
 by_cases c:j=m
 ·subst c
  rw[if_pos (by rw[b];omega),show sz*j+r-(0+sz*j)=r by omega]
 ·have i:sz*j+sz≤sz*m:=by rw[← Nat.mul_succ];exact Nat.mul_le_mul_left _ oM
  rw[if_neg (by rw[b];omega)]
  exact h.row j r oM e
def rq (N:Nat) (k:Bs):Option Nat:=if k.size=32∧beV k.toList<N then some (beV k.toList) else none
def rqV:Option Nat→Value
 | none=>.tuple #[nv 0,.bool false]
 | some n=>.tuple #[nv n,.bool true]
theorem Scalars_c:Gives 28 #[] gv1:=fun w=>(Scalars_any w).mono (by rintro e w' ⟨rfl,rfl⟩;exact ⟨_,rfl,below1 _ _,rfl⟩)
theorem readQ_c {N:Nat} (hG:Gap 4624529908474429119 4994812053365940164 1 N) (v:Value) (b:Bs) (w:World) (hv:Arg w v b):Calls Tryz.prog 29 #[gv1,v] w (Ret fun e w'=>Below w.heap.size w w'∧e=rqV (rq N b)):=by
 obtain ⟨p,n,cap,rfl,d,q⟩:=hv
 unfold rq
 by_cases c:n=32
 ·subst c
  obtain ⟨g,o,rfl,l,j,m⟩:=q rfl
  refine (Read_any _ _ _ N g o cap b hG w d l j m).mono ?_
  rintro e w' ⟨v,rfl,k,⟨f,r,rfl,i⟩|⟨f,rfl⟩⟩
  ·rw[if_pos ⟨d,f⟩]
   exact ⟨_,rfl,k,by rw[i.nv];rfl⟩
  ·rw[if_neg (fun h=>oM)]
   exact ⟨_,rfl,k,rfl⟩
 ·refine (Read_len _ p n cap w _ _ _ rfl c).mono ?_
  rintro e w' ⟨v,rfl,k,rfl⟩
  rw[if_neg (fun h=>c (d.symm.trans h.1))]
  exact ⟨_,rfl,k,rfl⟩
end
section
open Go.RowKit Go.Sort
variable {P:Nat} [NeZero P] {N:Nat}
structure RefP (p0 p1 p2 p3 c0 c1 c2 c3 P:Nat):Prop where
 hp0:p0<18446744073709551616
 hp1:p1<18446744073709551616
 hp2:p2<18446744073709551616
 hp3:p3<18446744073709551616
 hc0:c0<18446744073709551616
 hc1:c1<18446744073709551616
 hc2:c2<18446744073709551616
 hc3:c3<18446744073709551616
 eP:P=val p0 p1 p2 p3
 hP:P+val c0 c1 c2 c3=top
 hP2:top<2*P
theorem refP1:RefP 13822214165235122497 13451932020343611451 18446744073709551614 18446744073709551615 4624529908474429119 4994812053365940164 1 0 Go.Proofs.YtlofhpkoaljmeaaGreat.p1:=
 ⟨dC,dC,dC,dC,dC,dC,dC,dC,dK,dK,dK⟩
def Eight (v:Value) (n:Nat):Prop:=∃ a b c d k e f g:Nat,v=.agg #[.int .u64 a,.int .u64 b,.int .u64 c,.int .u64 d,.int .u64 k,.int .u64 e,.int .u64 f,.int .u64 g] ∧
 a<18446744073709551616∧b<18446744073709551616∧c<18446744073709551616∧d<18446744073709551616∧k<18446744073709551616∧e<18446744073709551616∧f<18446744073709551616∧g<18446744073709551616 ∧
 n=val a b c d+top*val k e f g
end
section
open Go.RowKit Go.Sort
section
variable {w w0:World} {k a b c d e f g h j B:Nat}
end
end
section
open Go.RowKit Go.Sort
variable {P:Nat} [NeZero P] {N:Nat}
end
section
open Go.RowKit Go.Sort Go.Deep
variable {P:Nat} [NeZero P] {N:Nat}
def wordOf (a b c d k:Nat):Nat:=if k<8 then a else if k<16 then b else if k<24 then c else d
end
section
open Go.RowKit Go.Sort Go.Deep
structure Ord (N:Nat):Prop where
 gap:Gap 4624529908474429119 4994812053365940164 1 N
 ref:RefP 13822214165235122497 13451932020343611451 18446744073709551614 18446744073709551615 4624529908474429119 4994812053365940164 1 0 N
 le:N≤top
 n2:2≤N%18446744073709551616
variable {N:Nat}
theorem Ord.pos (O:Ord N):0<N:=by have:=O.n2;omega
theorem Ord.four (O:Ord N) {a:Nat} (h:a<N):Four (nv a) a:=four_nv (Nat.lt_of_lt_of_le h O.le)
def sMi (N a b:Nat):Nat:=(a+N-b)%N
def sTi (N a b:Nat):Nat:=a*b%N
def sIn (N a:Nat):Nat:=a^(N-2)%N
theorem sMinus_c (O:Ord N) {a b:Nat} (c:a<N) (k:b<N):Gives 121 #[gv1,nv a,nv b] (nv (sMi N a b)):=fun w =>
 (Minus_any _ _ _ N _ _ a b O.gap (O.four c) (O.four k) c k w).mono (by rintro e w' ⟨v,rfl,k,d⟩;exact ⟨_,rfl,k,d.nv⟩)
theorem sTimes_c (O:Ord N) {a b:Nat} (c:a<N) (k:b<N):Gives 51 #[gv1,nv a,nv b] (nv (sTi N a b)):=fun w =>
 (Times_any _ _ _ N _ _ a b O.gap (O.four c) (O.four k) w).mono (by rintro e w' ⟨v,rfl,k,d⟩;exact ⟨_,rfl,k,d.nv⟩)
theorem sInv_c (O:Ord N) {a:Nat} (c:a<N):Gives 174 #[gv1,nv a] (nv (sIn N a)):=fun w =>
 (Inverse_any _ _ _ N _ a O.gap O.n2 (O.four c) w).mono (by rintro e w' ⟨v,rfl,k,b⟩;exact ⟨_,rfl,k,b.nv⟩)
theorem nv_words {a x y z u:Nat} (h:nv a=.agg #[.int .u64 x,.int .u64 y,.int .u64 z,.int .u64 u]):be32 x y z u=bx a:=by
 have k:wn a=[.int .u64 x,.int .u64 y,.int .u64 z,.int .u64 u]:=by
  unfold nv at h
  injection h with h
  exact congrArg Array.toList h
 unfold wn at k
 simp only[List.cons.injEq,Value.int.injEq,true_and,and_true,Int.natCast_inj] at k
 obtain ⟨rfl,rfl,rfl,rfl⟩:=k
 rfl
def cb (b:Bs):List Value:=b.toList.map encB
theorem cb_length (b:Bs):(cb b).length=b.size:=by unfold cb;rw[List.length_map,Array.length_toList]
theorem cb_range {w:World} {g:Nat} {b:Bs} (h:Holds encB w g 0 b):w.rangeAt g 0 (cb b)∧w.there g 0 (cb b).length:=by
 refine ⟨fun j v hv=>?_,fun j k=>?_⟩
 ·have k:j<b.size:=by rw[← cb_length];exact (List.getElem?_eq_some_iff.1 hv).1
  rw[(h j k).1]
  unfold cb at hv
  rw[List.getElem?_map,Array.getElem?_toList,Array.getElem?_eq_getElem k] at hv
  rw[getElem!_pos b j k]
  exact hv
 ·rw[cb_length] at k
  exact ⟨by rw[(h j k).1];rfl,(h j k).2⟩
theorem cb_holds {w:World} {g:Nat} {b:Bs} (d:w.rangeAt g 0 (cb b)) (c:w.there g 0 (cb b).length):Holds encB w g 0 b:=fun j k=>by
 refine ⟨d j _ ?_,(c j (by rw[cb_length];exact k)).2⟩
 unfold cb
 rw[List.getElem?_map,Array.getElem?_toList,Array.getElem?_eq_getElem k,getElem!_pos b j k]
 rfl
def GivesB (f:FuncId) (args:Array Value) (b:Bs) (n:Nat):Prop:=∀ w,Calls Tryz.prog f args w (Ret fun e w'=>∃ k,RG.Made w k (cb b) w'∧e=.slice (some ⟨k,0,none⟩) n n)
theorem sBytes_c (O:Ord N) {a:Nat} (j:a<N):GivesB 27 #[nv a] (bx a) 32:=fun w =>
 (Bytes_any _ a w (O.four j)).mono (by
  rintro e w' ⟨v,rfl,i,g,x,y,z,u,rfl,k,d,b⟩
  rw[nv_words d] at b
  obtain ⟨f,c⟩:=cb_range b
  exact ⟨_,rfl,g,⟨i,k,Holds.lt b (by rw[bx_size];omega),f,c⟩,rfl⟩)
end
section
open Go.RowKit Go.Sort Go.Deep
variable {P:Nat} [NeZero P] {N:Nat}
theorem eqS2 (a b c d p q r s:Nat) (w:World):(binOp .eql 44 (.agg #[.int .u64 a,.int .u64 b,.int .u64 c,.int .u64 d]) (.agg #[.int .u64 p,.int .u64 q,.int .u64 r,.int .u64 s])).run Tryz.prog w=.ok (.bool (decide (a=p∧b=q∧c=r∧d=s))) w:=by
 go_simp
 rw[eqP_d 9997,Result.andThen_ok]
 by_cases k:a=p∧b=q∧c=r∧d=s
 ·rw[decide_eq_true k]
  obtain ⟨rfl,rfl,rfl,rfl⟩:=k
  simp
 ·have e:(decide (a=p) && (decide (b=q) && (decide (c=r) && decide (d=s))))=false:=by
   rw[← Bool.not_eq_true,Bool.and_eq_true,Bool.and_eq_true,Bool.and_eq_true]
   simpa using k
  rw[decide_eq_false k,e]
  simp
theorem eqS {a b:Nat} (c:a<top) (k:b<top) (w:World):(binOp .eql 44 (nv a) (nv b)).run Tryz.prog w=.ok (.bool (decide (a=b))) w:=by
 refine (eqS2 (a%18446744073709551616) (a/18446744073709551616%18446744073709551616) (a/340282366920938463463374607431768211456%18446744073709551616) (a/6277101735386680763835789423207666416102355444464034512896%18446744073709551616) (b%18446744073709551616) (b/18446744073709551616%18446744073709551616) (b/340282366920938463463374607431768211456%18446744073709551616) (b/6277101735386680763835789423207666416102355444464034512896%18446744073709551616) w).trans ?_
 simp only[wn_inj c k]
theorem u40:(Tryz.prog.underlying 44).map (·.isRow)=some true:=kR
theorem i40:(Tryz.prog.info? 44).map (·.size)=some 4:=kR
theorem u38:(Tryz.prog.underlying 42).map (·.isRow)=some true:=kR
theorem i38:(Tryz.prog.info? 42).map (·.size)=some 4:=kR
theorem sMin_c (O:Ord N) (a b:Nat) (d:a<N) (c:b<N):Gives 71 #[(nv a),(nv b)] (nv (sMi N a b)):=by
 intro w
 go_enter Tryz.func71,Tryz.ntmps71
 refine RG.M.enter [(0,(.v (nv a))),(1,(.v (nv b)))] 12 kR ?_
 intro a0 e
 repeat refine wp_seq ?_
 refine e.T [.m 0,.m 1,.m 2] [(0,(wn a)),(1,(wn b)),(2,(RG.z 4))] [] [(wn a),(wn b),(RG.z 4)] [2,3,4] ⟨RG.mk 0 44,RG.mk 1 44,RG.mk 2 44,trivial⟩ ?_
 intro g l i n j f
 repeat refine wp_seq ?_
 refine f.D [.c gv1,.s (.p 0 0),.x (nv a),.s (.p 1 0),.x (nv b),.c (nv (sMi N a b)),.x (nv (sMi N a b)),.u 2] [] [(2,7,(wn (sMi N a b)))] [(wn a),(wn b),(wn (sMi N a b))] [4] ⟨RG.cl (Scalars_c),RG.st,RG.ld u38 i38,RG.st,RG.ld u38 i38,RG.cl (sMinus_c O d c),RG.st,RG.pt i40,trivial⟩ ?_
 intro a2 m k
 refine wp_ret ?_
 refine bodyPost_ret (v:=(nv (sMi N a b))) (RG.results_row k.st 4 44 rfl 2 _ rfl (k.at (s:=(.p 2 0))) u40 i40) k.sl.defers ?_
 exact ⟨_,rfl,k.st.bel.below,rfl⟩
theorem sTim_c (O:Ord N) (a b:Nat) (d:a<N) (c:b<N):Gives 26 #[(nv a),(nv b)] (nv (sTi N a b)):=by
 intro w
 go_enter Tryz.func26,Tryz.ntmps26
 refine RG.M.enter [(0,(.v (nv a))),(1,(.v (nv b)))] 12 kR ?_
 intro a0 e
 repeat refine wp_seq ?_
 refine e.T [.m 0,.m 1,.m 2] [(0,(wn a)),(1,(wn b)),(2,(RG.z 4))] [] [(wn a),(wn b),(RG.z 4)] [2,3,4] ⟨RG.mk 0 44,RG.mk 1 44,RG.mk 2 44,trivial⟩ ?_
 intro g l i n j f
 repeat refine wp_seq ?_
 refine f.D [.c gv1,.s (.p 0 0),.x (nv a),.s (.p 1 0),.x (nv b),.c (nv (sTi N a b)),.x (nv (sTi N a b)),.u 2] [] [(2,7,(wn (sTi N a b)))] [(wn a),(wn b),(wn (sTi N a b))] [4] ⟨RG.cl (Scalars_c),RG.st,RG.ld u38 i38,RG.st,RG.ld u38 i38,RG.cl (sTimes_c O d c),RG.st,RG.pt i40,trivial⟩ ?_
 intro a2 m k
 refine wp_ret ?_
 refine bodyPost_ret (v:=(nv (sTi N a b))) (RG.results_row k.st 4 44 rfl 2 _ rfl (k.at (s:=(.p 2 0))) u40 i40) k.sl.defers ?_
 exact ⟨_,rfl,k.st.bel.below,rfl⟩
theorem sInv2_c (O:Ord N) (a:Nat) (b:a<N):Gives 144 #[(nv a)] (nv (sIn N a)):=by
 intro w
 go_enter Tryz.func144,Tryz.ntmps144
 refine RG.M.enter [(0,(.v (nv a)))] 8 kR ?_
 intro a0 c
 repeat refine wp_seq ?_
 refine c.T [.m 0,.m 1] [(0,(wn a)),(1,(RG.z 4))] [] [(wn a),(RG.z 4)] [1,2] ⟨RG.mk 0 44,RG.mk 1 44,trivial⟩ ?_
 intro e g j f d
 repeat refine wp_seq ?_
 refine d.D [.c gv1,.s (.p 0 0),.x (nv a),.c (nv (sIn N a)),.x (nv (sIn N a)),.u 1] [] [(1,5,(wn (sIn N a)))] [(wn a),(wn (sIn N a))] [2] ⟨RG.cl (Scalars_c),RG.st,RG.ld u38 i38,RG.cl (sInv_c O b),RG.st,RG.pt i40,trivial⟩ ?_
 intro a2 i k
 refine wp_ret ?_
 refine bodyPost_ret (v:=(nv (sIn N a))) (RG.results_row k.st 2 44 rfl 1 _ rfl (k.at (s:=(.p 1 0))) u40 i40) k.sl.defers ?_
 exact ⟨_,rfl,k.st.bel.below,rfl⟩
theorem sread_m (v:Value) (m:Nat) (ok:Bool) (w:World) (b:∀ w',RG.BelX w.heap.size [] w w'→Calls Tryz.prog 29 #[gv1,v] w' (Ret fun e c=>Below w'.heap.size w' c∧e=.tuple #[nv m,.bool ok])) :
 Calls Tryz.prog 11 #[v] w (Ret fun e w'=>Below w.heap.size w w'∧e=.tuple #[nv m,.bool ok]):=by
 go_enter Tryz.func11,Tryz.ntmps11
 refine RG.M.enter [(0,.v v)] 15 kR ?_
 intro a0 g
 repeat refine wp_seq ?_
 refine g.T [.m 0,.x (.bool false)] [(0,(RG.z 4))] [] [(RG.z 4)] [0,2,3] ⟨RG.mk 0 44,RG.st,trivial⟩ ?_
 intro n o j f
 repeat refine wp_seq ?_
 refine f.T [.c gv1,.x v,.c (.tuple #[(nv m),(.bool ok)]),.x (.tuple #[(nv m),(.bool ok)]),.x (nv m),.x (.bool ok),.m 1,.u 1,.x (.bool ok)] [(6,(RG.z 4))] [(1,7,(wn m))] [(RG.z 4),(wn m)] [2,3,4,5] ⟨RG.cl (Scalars_c),RG.st,RG.clB (fun _ _=>kR) b,RG.st,RG.st,RG.st,RG.mk 1 42,RG.pt i38,RG.st,trivial⟩ ?_
 intro p a2 l d
 repeat refine wp_seq ?_
 refine d.T [.x (nv m),.x (nv m),.x (.bool ok),.u 0,.x (.bool ok)] [] [(0,3,(wn m))] [(wn m),(wn m)] [2,3] ⟨RG.ld u38 i38,RG.st,RG.st,RG.pt i40,RG.st,trivial⟩ ?_
 intro q i k
 refine wp_ret ?_
 refine bodyPost_ret (v:=.tuple #[nv m,.bool ok]) (RG.results_rt k.st 2 3 44 rfl 0 _ rfl (k.at (s:=.p 0 0)) _ (k.av (v:=.bool ok) kR) u40 i40) k.sl.defers ?_
 exact ⟨_,rfl,k.st.bel.below,rfl⟩
theorem sread_c (O:Ord N) (v:Value) (k:Bs) (w:World) (hv:Arg w v k):Calls Tryz.prog 11 #[v] w (Ret fun e w'=>Below w.heap.size w w'∧e=.tuple #[nv ((rq N k).getD 0),.bool (rq N k).isSome]):=by
 refine sread_m v _ _ w fun w' c=>?_
 have h:=readQ_c O.gap v k w' (hv.below c.below)
 cases b:rq N k with
 | none=>rw[b] at h;exact h
 | some n=>rw[b] at h;exact h
theorem sbytes_c (O:Ord N) {a:Nat} (e:a<N):GivesB 10 #[nv a] (bx a) 32:=by
 intro w
 go_enter Tryz.func10,Tryz.ntmps10
 refine RG.M.enter [(0,.v (nv a))] 6 kR ?_
 intro a0 c
 repeat refine wp_seq ?_
 refine c.T [.m 0,.x (.slice none 0 0)] [(0,(wn a))] [] [(wn a)] [1,2] ⟨RG.mk 0 44,RG.st,trivial⟩ ?_
 intro f l i d
 repeat refine wp_seq ?_
 refine d.t [.s 3 [] (.p 0 0),.x 4 [(3,0)] (nv a),⟨some 5,[(4,1)],(.s 1 32 32),.make 1⟩,.s 2 [(5,2)] (.s 1 32 32)] [(2,(cb (bx a)))] [] [(wn a),(cb (bx a))] [(2,(.s 1 32 32))] ⟨RG.st,RG.ld u38 i38,RG.cm 1 (fun w _=>sBytes_c O e w) fun _ _=>kR,RG.st,trivial⟩ ?_
 intro g a2 j k
 refine wp_ret ?_
 refine bodyPost_ret (v:=_) (RG.results_t 2 rfl _ (k.at (s:=.s 1 32 32))) k.sl.defers ?_
 exact ⟨_,rfl,_,k.st.made (b:=1) rfl,rfl⟩
end
namespace SP
open Go.RowKit
theorem lt64 (x:BitVec 64):(x.toNat:Int)<18446744073709551616:=by
 have:=x.isLt
 omega
theorem ofInt_toNat64 (x:BitVec 64):BitVec.ofInt 64 (x.toNat:Int)=x:=by
 apply BitVec.eq_of_toNat_eq
 rw[BitVec.ofInt_natCast,BitVec.toNat_ofNat]
 exact Nat.mod_eq_of_lt x.isLt
theorem wrap_u64_toNat (x:BitVec 64):IntKind.u64.wrap (x.toNat:Int)=x.toNat:=by
 rw[IntKind.wrap_u64]
 have:=lt64 x
 exact Int.emod_eq_of_lt oM this
def u (v:BitVec 64):Int:=(v.toNat:Int)
theorem bits_xor64 (a b:BitVec 64):bits .xor .u64 (u a) (u b)=u (a ^^^ b):=by
 show IntKind.u64.wrap ((BitVec.ofInt 64 (a.toNat:Int) ^^^ BitVec.ofInt 64 (b.toNat:Int)).toNat:Int)=_
 rw[ofInt_toNat64,ofInt_toNat64,wrap_u64_toNat]
 rfl
theorem bits_and64 (a b:BitVec 64):bits .and .u64 (u a) (u b)=u (a &&& b):=by
 show IntKind.u64.wrap ((BitVec.ofInt 64 (a.toNat:Int) &&& BitVec.ofInt 64 (b.toNat:Int)).toNat:Int)=_
 rw[ofInt_toNat64,ofInt_toNat64,wrap_u64_toNat]
 rfl
theorem bits_or64 (a b:BitVec 64):bits .or .u64 (u a) (u b)=u (a ||| b):=by
 show IntKind.u64.wrap ((BitVec.ofInt 64 (a.toNat:Int) ||| BitVec.ofInt 64 (b.toNat:Int)).toNat:Int)=_
 rw[ofInt_toNat64,ofInt_toNat64,wrap_u64_toNat]
 rfl
theorem bits_not64 (a:BitVec 64):bits .xor .u64 IntKind.u64.max (u a)=u (~~~a):=by
 have e:IntKind.u64.max=u (BitVec.allOnes 64):=dK
 rw[e,bits_xor64,BitVec.allOnes_xor]
theorem and63 (k:Nat) (b:k<64):bits .and .u64 (k:Int) 63=k:=by
 have h:∀ j:Fin 64,bits .and .u64 ((j.val:Nat):Int) 63=(j.val:Int):=dK
 exact h ⟨k,b⟩
theorem shl64 (x:BitVec 64) (k:Nat):IntKind.u64.wrap (u x*2^k)=u (x <<< k):=by
 unfold u
 rw[IntKind.wrap_u64,BitVec.toNat_shiftLeft,Nat.shiftLeft_eq,Int.natCast_emod,Int.natCast_mul,Int.natCast_pow]
 rfl
theorem shr64 (x:BitVec 64) (k:Nat):u x/2^k=u (x >>> k):=by
 unfold u
 rw[BitVec.toNat_ushiftRight,Nat.shiftRight_eq_div_pow,Int.natCast_ediv,Int.natCast_pow]
 rfl
def rol (w:BitVec 64) (n:Nat):BitVec 64:=w <<< n ||| w >>> (64-n)
abbrev St:=Array (BitVec 64)
def enc (v:BitVec 64):Value:=.int .u64 (u v)
def colsum (d:St) (x:Nat):BitVec 64:=d[x]! ^^^ d[x+5]! ^^^ d[x+10]! ^^^ d[x+15]! ^^^ d[x+20]!
def sumsTo (d:St):Nat→St
 | 0=>#[0,0,0,0,0]
 | k+1=>(sumsTo d k).setIfInBounds k (colsum d k)
def xorAt (d:St) (i:Nat) (v:BitVec 64):St:=d.setIfInBounds i (d[i]! ^^^ v)
def innerTo (v:BitVec 64) (x:Nat) (d:St):Nat→St
 | 0=>d
 | m+1=>xorAt (innerTo v x d m) (x+5*m) v
def dcol (s:St) (x:Nat):BitVec 64:=s[(x+4)%5]! ^^^ rol s[(x+1)%5]! 1
def thetaTo (s d:St):Nat→St
 | 0=>d
 | k+1=>innerTo (dcol s k) k (thetaTo s d k) 5
def theta (d:St):St:=thetaTo (sumsTo d 5) d 5
theorem xorAt_size (d:St) (i:Nat) (v:BitVec 64):(xorAt d i v).size=d.size:=by simp[xorAt]
theorem sumsTo_size (d:St) (k:Nat):(sumsTo d k).size=5:=by
 induction k with
 | zero=>rfl
 | succ k ih=>simp[sumsTo,ih]
theorem innerTo_size (v:BitVec 64) (x:Nat) (d:St) (m:Nat):(innerTo v x d m).size=d.size:=by
 induction m with
 | zero=>rfl
 | succ k ih=>simp[innerTo,xorAt_size,ih]
theorem thetaTo_size (s d:St) (m:Nat):(thetaTo s d m).size=d.size:=by
 induction m with
 | zero=>rfl
 | succ k ih=>simp[thetaTo,innerTo_size,ih]
structure Tm where
 x:Nat
 y:Nat
 m:BitVec 64
 d:St
def offs (t:Nat):Nat:=(t+1)*(t+2)/2%64
def tmStep (t:Nat) (s:Tm):Tm:=
 { x:=s.y,y:=(2*s.x+3*s.y)%5,m:=s.d[s.y+5*((2*s.x+3*s.y)%5)]!,d:=s.d.setIfInBounds (s.y+5*((2*s.x+3*s.y)%5)) (rol s.m (offs t)) }
def tmTo (d:St):Nat→Tm
 | 0=>{ x:=1,y:=0,m:=d[1]!,d:=d }
 | t+1=>tmStep t (tmTo d t)
def rhopi (d:St):St:=(tmTo d 24).d
theorem tmTo_ok (d:St) (hd:d.size=25) (t:Nat):(tmTo d t).x<5∧(tmTo d t).y<5∧(tmTo d t).d.size=25:=by
 induction t with
 | zero=>exact ⟨show 1<5 by decide,show 0<5 by decide,hd⟩
 | succ t ih =>
  obtain ⟨c,k,b⟩:=ih
  refine ⟨k,?_,?_⟩
  ·show (2*(tmTo d t).x+3*(tmTo d t).y)%5<5
   omega
  ·show ((tmTo d t).d.setIfInBounds _ _).size=25
   rw[Array.size_setIfInBounds,b]
def rowAt (d:St) (i:Nat):St:=
 xorAt (xorAt (xorAt (xorAt (xorAt d i (~~~d[i+1]! &&& d[i+2]!)) (i+1) (~~~d[i+2]! &&& d[i+3]!)) (i+2) (~~~d[i+3]! &&& d[i+4]!)) (i+3) (~~~d[i+4]! &&& d[i]!)) (i+4) (~~~d[i]! &&& d[i+1]!)
def chiTo (d:St):Nat→St
 | 0=>d
 | k+1=>rowAt (chiTo d k) (5*k)
def chi (d:St):St:=chiTo d 5
theorem rowAt_size (d:St) (i:Nat):(rowAt d i).size=d.size:=by simp[rowAt,xorAt_size]
theorem chiTo_size (d:St) (k:Nat):(chiTo d k).size=d.size:=by
 induction k with
 | zero=>rfl
 | succ k ih=>simp[chiTo,rowAt_size,ih]
end SP
namespace SP
open Go.RowKit
def rcReg (r:Nat):Nat:=if 255<2*r then (2*r) ^^^ 369 else 2*r
def rcTo (r:Nat):Nat→BitVec 64 × Nat
 | 0=>(0,r)
 | j+1=>((rcTo r j).1 ||| BitVec.ofNat 64 ((rcTo r j).2%2) <<< (2^j-1),rcReg (rcTo r j).2)
theorem rcReg_lt (r:Nat) (h:r<256):rcReg r<256:=by
 have H:∀ j:Fin 256,rcReg j.val<256:=dK
 exact H ⟨r,h⟩
theorem rcTo_lt (r:Nat) (h:r<256) (j:Nat):(rcTo r j).2<256:=by
 induction j with
 | zero=>exact h
 | succ j ih=>exact rcReg_lt _ ih
theorem rc_xor (r:Nat) (h:r<256):bits .xor .i64 ((r:Int)*2) 369=(((2*r) ^^^ 369:Nat):Int):=by
 have H:∀ j:Fin 256,bits .xor .i64 ((j.val:Int)*2) 369=(((2*j.val) ^^^ 369:Nat):Int):=dK
 exact H ⟨r,h⟩
theorem rc_and (r:Nat) (h:r<256):bits .and .i64 (r:Int) 1=u (BitVec.ofNat 64 (r%2)):=by
 have H:∀ j:Fin 256,bits .and .i64 (j.val:Int) 1=u (BitVec.ofNat 64 (j.val%2)):=dK
 exact H ⟨r,h⟩
theorem wrap_u (x:BitVec 64):IntKind.u64.wrap (u x)=u x:=wrap_u64_toNat x
def kround (d:St) (c:BitVec 64):St:=xorAt (chi (rhopi (theta d))) 0 c
def rcC (r:Nat):BitVec 64:=(rcTo r 7).1
def rcN (r:Nat):Nat:=(rcTo r 7).2
theorem rcN_lt (r:Nat) (h:r<256):rcN r<256:=by
 unfold rcN
 exact rcTo_lt r h 7
def rcAt:Nat→Nat
 | 0=>1
 | k+1=>rcN (rcAt k)
theorem rcAt_lt (k:Nat):rcAt k<256:=by
 induction k with
 | zero=>decide
 | succ k ih=>exact rcN_lt _ ih
def permTo (d:St):Nat→St
 | 0=>d
 | k+1=>kround (permTo d k) (rcC (rcAt k))
def perm (d:St):St:=permTo d 24
theorem theta_size (d:St):(theta d).size=d.size:=thetaTo_size _ _ _
theorem rhopi_size (d:St) (hd:d.size=25):(rhopi d).size=25:=(tmTo_ok d hd 24).2.2
theorem chi_size (d:St):(chi d).size=d.size:=chiTo_size _ _
theorem kround_size (d:St) (c:BitVec 64) (hd:d.size=25):(kround d c).size=25:=by
 unfold kround
 rw[xorAt_size,chi_size,rhopi_size]
 rw[theta_size,hd]
theorem permTo_size (d:St) (hd:d.size=25) (k:Nat):(permTo d k).size=25:=by
 induction k with
 | zero=>exact hd
 | succ k ih=>exact kround_size _ _ ih
theorem perm_size (d:St) (hd:d.size=25):(perm d).size=25:=permTo_size d hd 24
abbrev Bs:=Array UInt8
def ub (x:UInt8):Int:=(x.toNat:Int)
def encB (x:UInt8):Value:=.int .u8 (ub x)
def wide (x:UInt8):BitVec 64:=BitVec.ofNat 64 x.toNat
def low (v:BitVec 64):UInt8:=UInt8.ofNat v.toNat
theorem wide_ub (x:UInt8):ub x=u (wide x):=by
 unfold ub u wide
 rw[BitVec.toNat_ofNat,Nat.mod_eq_of_lt]
 have:=x.toNat_lt
 omega
theorem wrap_ub (x:UInt8):IntKind.u64.wrap (ub x)=u (wide x):=by rw[wide_ub,wrap_u]
theorem low_u (v:BitVec 64):IntKind.u8.wrap (u v)=ub (low v):=by
 have e:IntKind.u8.wrap (u v)=u v%256:=by simp[IntKind.wrap,IntKind.bits,IntKind.signed]
 rw[e]
 unfold u ub low
 rw[UInt8.toNat_ofNat']
 omega
def wordTo (b:Bs) (o:Nat):Nat→BitVec 64
 | 0=>0
 | i+1=>wordTo b o i ||| wide b[o+i]! <<< (8*i)
def wordOf (k:Bs) (o:Nat):BitVec 64:=wordTo k o 8
def mixTo (k:Bs) (d:St):Nat→St
 | 0=>d
 | i+1=>xorAt (mixTo k d i) i (wordOf k (8*i))
theorem mixTo_size (b:Bs) (d:St) (k:Nat):(mixTo b d k).size=d.size:=by
 induction k with
 | zero=>rfl
 | succ k ih=>simp[mixTo,xorAt_size,ih]
def byteOf (d:St) (k:Nat):UInt8:=low (d[k/8]! >>> (8*(k%8)))
def frontTo (d:St) (n:Nat):Nat→Bs
 | 0=>Array.replicate n 0
 | k+1=>(frontTo d n k).setIfInBounds k (byteOf d k)
def front (d:St) (n:Nat):Bs:=frontTo d n n
theorem frontTo_size (d:St) (n k:Nat):(frontTo d n k).size=n:=by
 induction k with
 | zero=>simp[frontTo]
 | succ k ih=>simp[frontTo,ih]
theorem front_size (d:St) (n:Nat):(front d n).size=n:=frontTo_size d n n
end SP
namespace SP
open Go.RowKit Go.Sort
structure Only (b off n:Nat) (w w':World):Prop where
 os:w'.os=w.os
 tape:w'.tape=w.tape
 output:w'.output=w.output
 size:w.heap.size≤w'.heap.size
 block:∀ k,k<w.heap.size→k≠b→w'.heap[k]? = w.heap[k]?
 cell:∀ o,(o<off∨off+n≤o)→w'.cell? ⟨b,o,none⟩=w.cell? ⟨b,o,none⟩
 froz:∀ o,w'.frozen? ⟨b,o,none⟩=w.frozen? ⟨b,o,none⟩
variable {b off n:Nat} {w w1 w2:World}
theorem Only.refl (b off n:Nat) (w:World):Only b off n w w:=⟨rfl,rfl,rfl,Nat.le_refl _,fun _ _ _=>rfl,fun _ _=>rfl,fun _=>rfl⟩
theorem Only.trans (h:Only b off n w w1) (k:Only b off n w1 w2):Only b off n w w2:=
 ⟨k.os.trans h.os,k.tape.trans h.tape,k.output.trans h.output,Nat.le_trans h.size k.size,
  fun i d c=>(k.block i (Nat.lt_of_lt_of_le d h.size) c).trans (h.block i d c),
  fun o ho=>(k.cell o ho).trans (h.cell o ho),fun o=>(k.froz o).trans (h.froz o)⟩
theorem Only.drewN (h:Only b off n w w1) (q:Nat):Only b off n w (w1.drewN q):=⟨h.os,h.tape,h.output,h.size,h.block,h.cell,h.froz⟩
theorem Only.drew (h:Only b off n w w1):Only b off n w w1.drew:=⟨h.os,h.tape,h.output,h.size,h.block,h.cell,h.froz⟩
theorem Only.setCell (h:Only b off n w w1) {o:Nat} (g:off≤o) (f:o<off+n) (v:Value):Only b off n w (w1.setCell ⟨b,o,none⟩ v):=by
 refine h.trans ⟨rfl,rfl,rfl,by simp,fun k _ c=>Below.heap_setCell _ _ _ _ c,fun d ho=>?_,fun d=>by simp⟩
 exact World.cell?_setCell_other _ _ _ _ (by intro e;simp only[Addr.mk.injEq,and_true,true_and] at e;omega)
theorem Only.alloc (h:Only b off n w w1) (c:b<w1.heap.size) (o:Obj):Only b off n w (w1.alloc o):=by
 refine h.trans ⟨rfl,rfl,rfl,by simp,fun k d _=>Below.heap_alloc _ _ _ d,fun e _=>?_,fun e=>?_⟩
 ·exact World.cell?_alloc_lt _ _ _ c
 ·exact World.frozen?_alloc_old _ _ _ (by show b≠_;omega)
theorem Only.below (h:Only b off n w w1) {B:Nat} (e:B≤w.heap.size) (c:B≤b):Below B w w1:=
 ⟨h.os,h.tape,h.output,h.size,fun k d=>h.block k oM oM⟩
theorem Only.of_below {B:Nat} (h:Below B w w1) (e:B=w.heap.size) (c:b<B):Only b off n w w1:=
 ⟨h.os,h.tape,h.output,h.size,fun k d _=>h.block k oM,fun o _=>h.cell (p:=⟨b,o,none⟩) c,fun o=>h.frozen (p:=⟨b,o,none⟩) c⟩
theorem Only.other (h:Only b off n w w1) {c o:Nat} (d:c≠b) (k:c<w.heap.size):w1.cell? ⟨c,o,none⟩=w.cell? ⟨c,o,none⟩∧w1.frozen? ⟨c,o,none⟩=w.frozen? ⟨c,o,none⟩:=
 ⟨World.cell?_of_block (w:=w) (h.block c k d),World.frozen?_of_block (w:=w) (h.block c k d)⟩
theorem Only.fresh {o m:Nat} {x:Obj} (h:Only w.heap.size o m (w.alloc x) w1):Below w.heap.size w w1:=
 ((Below.refl _ _).alloc (Nat.le_refl _) x).trans (h.below (by simp) (Nat.le_refl _))
section
variable {α:Type} [Inhabited α] {enc:α→Value} {d:Array α}
theorem Holds.lt (h:Holds enc w b off d) (hd:0<d.size):b<w.heap.size:=World.block_lt_of_cell? _ _ (h 0 hd).1
theorem Holds.other {c o:Nat} (h:Holds enc w c o d) (k:Only b off n w w1) (f:c≠b) (hd:0<d.size):Holds enc w1 c o d:=by
 intro j e
 have:=h j e
 have:=k.other (o:=o+j) f (Holds.lt h hd)
 rw[this.1,this.2]
 exact h j e
theorem Holds.same {o:Nat} (h:Holds enc w b o d) (k:Only b off n w w1) (hd:o+d.size≤off∨off+n≤o):Holds enc w1 b o d:=by
 intro j c
 rw[k.cell _ oM,k.froz]
 exact h j c
theorem Holds.below {B:Nat} (h:Holds enc w b off d) (k:Below B w w1) (c:b<B):Holds enc w1 b off d:=by
 intro j e
 rw[k.cell (p:=⟨b,off+j,none⟩) c,k.frozen (p:=⟨b,off+j,none⟩) c]
 exact h j e
theorem Holds.drewN (h:Holds enc w b off d) (q:Nat):Holds enc (w.drewN q) b off d:=h
theorem Holds.drew (h:Holds enc w b off d):Holds enc w.drew b off d:=h
theorem Holds.set (h:Holds enc w b off d) {i:Nat} (c:i<d.size) (x:α):Holds enc (w.setCell ⟨b,off+i,none⟩ (enc x)) b off (d.setIfInBounds i x):=by
 intro j k
 rw[Array.size_setIfInBounds] at k
 rw[World.frozen?_setCell]
 by_cases e:j=i
 ·subst e
  rw[getElem!_set_same d j x c]
  exact ⟨World.cell?_setCell_same _ _ _ (h j k).1,(h j k).2⟩
 ·rw[getElem!_set_other d i j x e,World.cell?_setCell_other _ _ _ _ (by intro e';simp only[Addr.mk.injEq,and_true,true_and] at e';omega)]
  exact h j k
theorem Holds.new (w:World) (t:TypeId) (d:Array α):Holds enc (w.alloc (.cells (d.map enc) t)) w.heap.size 0 d:=by
 intro j k
 rw[World.cell?_alloc_new,World.frozen?_alloc_new]
 refine ⟨?_,rfl⟩
 simp only[Nat.zero_add,Array.getElem?_map,Array.getElem?_eq_getElem k,Option.map_some,getElem!_pos d j k]
theorem Holds.made (w:World) (t:TypeId) (n:Nat) (x:α):Holds enc (w.alloc (.cells (madeCells #[enc x] n) t)) w.heap.size 0 (Array.replicate n x):=by
 intro j k
 rw[Array.size_replicate] at k
 rw[World.cell?_alloc_new,World.frozen?_alloc_new]
 refine ⟨?_,rfl⟩
 rw[getElem!_pos _ j (by simpa using k),Array.getElem_replicate]
 simp[madeCells,k,Nat.mod_one]
end
theorem Holds.xor {d:St} (h:Holds enc w b off d) {i:Nat} (k:i<d.size) {x:BitVec 64} (hx:d[i]! = x) (v:BitVec 64):Holds enc (w.setCell ⟨b,off+i,none⟩ (.int .u64 (u (x ^^^ v)))) b off (xorAt d i v):=by
 unfold xorAt
 rw[hx]
 exact Holds.set h k (x ^^^ v)
theorem xorAt_other (d:St) (i j:Nat) (v:BitVec 64) (h:j≠i):(xorAt d i v)[j]! = d[j]!:=getElem!_set_other d i j _ h
end SP
namespace SP
open Go.RowKit Go.Sort
theorem mixed:Tryz.prog.follows .mixedOrders=true:=kR
theorem at_word {w:World} {b off:Nat} {d:St} (h:Holds enc w b off d) (i:Nat) (k:i<d.size) {x:BitVec 64} (hx:d[i]! = x) :
 w.cell? ⟨b,off+i,none⟩=some (.int .u64 (u x))∧w.frozen? ⟨b,off+i,none⟩=false:=by
 rw[← hx];exact h i k
theorem ret_int {k:IntKind} {a b:Int} (h:a=b):Ending.returned (.int k a)=.returned (.int k b):=by rw[h]
theorem rotl_any (x:BitVec 64) (k:Nat) (w:World) (c:k<64) :
 Calls Tryz.prog 216 #[.int .u64 (u x),.int .i64 k] w fun e w'=>e=.returned (.int .u64 (u (rol x k)))∧w'=w:=by
 have b:=and63 k c
 go_enter Tryz.func216,Tryz.ntmps216
 go_wp2
 go_ret
 refine ⟨ret_int ?_,rfl⟩
 rw[shl64,shr64,bits_or64]
 rfl
end SP
namespace SP
open Go.RowKit Go.Sort
theorem holds_zero5 (w:World) (t:TypeId):Holds enc (w.alloc (.cells #[.int .u64 0,.int .u64 0,.int .u64 0,.int .u64 0,.int .u64 0] t)) w.heap.size 0 (#[0,0,0,0,0]:St):=by
 have h:=Holds.new (enc:=enc) w t (#[0,0,0,0,0]:St)
 have e:Array.map enc (#[0,0,0,0,0]:St)=#[.int .u64 0,.int .u64 0,.int .u64 0,.int .u64 0,.int .u64 0]:=by simp[enc,u]
 rw[e] at h
 exact h
attribute [local go_sem] bits_xor64 bits_and64 bits_or64
theorem mixColumns_any (b off:Nat) (d:St) (w:World) (hd:d.size=25) (N:Holds enc w b off d) :
 Calls Tryz.prog 210 #[.pointer (some ⟨b,off,none⟩)] w fun e w'=>e=.returned (.tuple #[])∧Only b off 25 w w'∧Holds enc w' b off (theta d):=by
 have T:=Holds.lt N oM
 go_enter Tryz.func210,Tryz.ntmps210
 go_wp2
 generalize o:(w.alloc _)=X
 go_loopg [7] 5 (fun g s7 wr=>∃ k l,k+g=5∧s7=.int .i64 (k:Nat)∧Holds enc wr w.heap.size 0 l∧Only w.heap.size 0 5 X wr∧Hid (l=sumsTo d k))
 case atStart =>
  refine ⟨0,#[0,0,0,0,0],rfl,rfl,?_,Only.refl _ _ _ _,rfl⟩
  rw[← o]
  exact holds_zero5 w 289
 case round =>
  obtain ⟨k,l,S,rfl,L,n,r⟩:=hrel
  have j:Holds enc wr b off d:=Holds.other (by rw[← o];exact Holds.below N ((Below.refl _ _).alloc (Nat.le_refl _) _) T) n oM oM
  by_cases B:k<5
  ·obtain ⟨y,u⟩:∃ x,d[k]! = x:=⟨_,rfl⟩
   obtain ⟨A,p⟩:∃ x,d[k+5]! = x:=⟨_,rfl⟩
   obtain ⟨D,s⟩:∃ x,d[k+10]! = x:=⟨_,rfl⟩
   obtain ⟨C,t⟩:∃ x,d[k+15]! = x:=⟨_,rfl⟩
   obtain ⟨a,q⟩:∃ x,d[k+20]! = x:=⟨_,rfl⟩
   obtain ⟨K,v⟩:∃ x,l[k]! = x:=⟨_,rfl⟩
   have E:l.size=5:=by rw[r.out,sumsTo_size]
   obtain ⟨H,O⟩:=at_word j k oM u
   obtain ⟨c1,P⟩:=at_word j (k+5) oM p
   obtain ⟨c2,f2⟩:=at_word j (k+10) oM s
   obtain ⟨Z,V⟩:=at_word j (k+15) oM t
   obtain ⟨c4,f4⟩:=at_word j (k+20) oM q
   obtain ⟨I,G⟩:=at_word L k oM v
   rw[Nat.zero_add] at I G
   have F:Hid (colsum d k=y ^^^ A ^^^ D ^^^ C ^^^ a):=by rw[← u,← p,← s,← t,← q];rfl
   clear u p s t q v j
   have Y:(k:Int)<5:=oM
   have b0:(k:Int)<25:=oM
   have b1:(k:Int)+5<25:=oM
   have J:(k:Int)+10<25:=oM
   have b3:(k:Int)+15<25:=oM
   have U:(k:Int)+20<25:=oM
   have p1:0≤(k:Int)+5:=oM
   have p2:0≤(k:Int)+10:=oM
   have M:0≤(k:Int)+15:=oM
   have R:0≤(k:Int)+20:=oM
   have W:((k:Int)+5).toNat=k+5:=oM
   have e2:((k:Int)+10).toNat=k+10:=oM
   have e3:((k:Int)+15).toNat=k+15:=oM
   have e4:((k:Int)+20).toNat=k+20:=oM
   have v1:IntKind.i64.wrap ((k:Int)+5)=(k:Int)+5:=IntWalk.i64_in _ oM
   have v2:IntKind.i64.wrap ((k:Int)+10)=(k:Int)+10:=IntWalk.i64_in _ oM
   have v3:IntKind.i64.wrap ((k:Int)+15)=(k:Int)+15:=IntWalk.i64_in _ oM
   have Q:IntKind.i64.wrap ((k:Int)+20)=(k:Int)+20:=IntWalk.i64_in _ oM
   go_wp2_with fail
   go_still_tail 35,mixed
   go_wp2
   go_roundg (gk-1)
   case measure=>omega
   case rel =>
    refine ⟨k+1,l.setIfInBounds k (y ^^^ A ^^^ D ^^^ C ^^^ a),oM,by go_num,?_,?_,?_⟩
    ·have:=Holds.set L (i:=k) oM (y ^^^ A ^^^ D ^^^ C ^^^ a)
     rw[Nat.zero_add] at this
     exact Holds.drew this
    ·exact (n.setCell (Nat.zero_le _) oM _).drew
    ·show _=(sumsTo d k).setIfInBounds k (colsum d k)
     rw[F.out,r.out]
  ·have s:k=5:=oM
   subst s
   have U:Hid (l=sumsTo d 5):=r
   have J:Only b off 25 w wr:=by
    rw[← o] at n
    exact Only.of_below n.fresh rfl T
   clear S B r n o
   go_wp2
   go_loopg [46] 5 (fun g s46 a=>∃ k p,k+g=5∧s46=.int .i64 (k:Nat)∧Holds enc a b off p∧Only b off 25 wr a∧Hid (p=thetaTo l d k))
   case atStart=>exact ⟨0,d,rfl,rfl,j,Only.refl _ _ _ _,rfl⟩
   case round =>
    obtain ⟨k,p,S,rfl,R,n,r⟩:=hrel
    by_cases B:k<5
    ·have E:l.size=5:=by rw[U.out,sumsTo_size]
     have v:=Holds.other L n oM oM
     obtain ⟨C,t⟩:∃ x,l[(k+4)%5]! = x:=⟨_,rfl⟩
     obtain ⟨y,u⟩:∃ x,l[(k+1)%5]! = x:=⟨_,rfl⟩
     obtain ⟨H,O⟩:=at_word v ((k+4)%5) oM t
     obtain ⟨c1,P⟩:=at_word v ((k+1)%5) oM u
     rw[Nat.zero_add] at H c1
     have HD:Hid (dcol l k=C ^^^ rol y 1):=by rw[← t,← u];rfl
     clear t u O P
     have Y:(k:Int)<5:=oM
     go_wp2_with fail
     go_quiet ((go_at_call 216;exact Calls.quiet_of_same (rotl_any _ 1 _ dC)))
     clear H c1
     go_wp2
     have W:=n.drewN nq
     have G:=Holds.drewN R nq
     have K:p.size=25:=by rw[r.out,thetaTo_size,hd]
     go_loopg [6] 5 (fun g s6 a=>∃ m q,m+g=5∧s6=.int .i64 ((k+5*m:Nat):Int)∧Holds enc a b off q∧Only b off 25 wr a∧Hid (q=innerTo (C ^^^ rol y 1) k p m))
     case atStart=>exact ⟨0,p,rfl,rfl,G,(Only.refl _ _ _ _).drewN _,rfl⟩
     case round =>
      obtain ⟨m,q,hm,rfl,M,A,F⟩:=hrel
      by_cases V:m<5
      ·have h0:q.size=25:=by rw[F.out,innerTo_size,K]
       obtain ⟨z,D⟩:∃ x,q[k+5*m]! = x:=⟨_,rfl⟩
       obtain ⟨c,f⟩:=at_word M (k+5*m) oM D
       have Z:Hid (q[k+5*m]! = z):=D
       clear D
       have r1:((k+5*m:Nat):Int)<25:=oM
       generalize I:k+5*m=i at *
       have Q:Hid (k+5*m=i):=I
       clear I
       go_wp2_with fail
       go_still_tail 9,mixed
       go_wp2
       go_roundg (gk-1)
       case measure=>omega
       case rel =>
        refine ⟨m+1,q.setIfInBounds i (z ^^^ (C ^^^ rol y 1)),oM,?_,?_,?_,?_⟩
        ·rw[← Q.out];go_num
        ·exact Holds.drew (Holds.set M oM _)
        ·exact (A.setCell (Nat.le_add_right _ _) oM _).drew
        ·show _=xorAt (innerTo (C ^^^ rol y 1) k p m) (k+5*m) (C ^^^ rol y 1)
         rw[← F.out,Q.out,← Z.out]
         rfl
      ·have D:m=5:=oM
       subst D
       have r1:(25:Int)≤((k+5*5:Nat):Int):=oM
       generalize I:k+5*5=i at *
       go_wp2
       go_roundg (4-k)
       case measure=>omega
       case rel =>
        refine ⟨k+1,q,oM,by go_num,M,n.trans A,?_⟩
        show _=innerTo (dcol l k) k (thetaTo l d k) 5
        rw[← r.out,HD.out]
        exact F.out
    ·have s:k=5:=oM
     subst s
     go_wp2
     go_end0
     refine ⟨rfl,J.trans n,?_⟩
     have:theta d=p:=by rw[r.out,U.out];rfl
     rw[this]
     exact R
end SP
namespace SP
open Go.RowKit Go.Sort
attribute [local go_sem] bits_xor64 bits_and64 bits_or64
theorem offs_int (t:Nat) (h:t<24):(wrap64 ((wrap64 (((t:Int)+1)*((t:Int)+2))).tdiv 2)).tmod 64=(offs t:Int):=by
 have H:∀ j:Fin 24,(wrap64 ((wrap64 (((j.val:Int)+1)*((j.val:Int)+2))).tdiv 2)).tmod 64=(offs j.val:Int):=dK
 exact H ⟨t,h⟩
theorem turnAndMove_any (b off:Nat) (d:St) (w:World) (hd:d.size=25) (B:Holds enc w b off d) :
 Calls Tryz.prog 211 #[.pointer (some ⟨b,off,none⟩)] w fun e w'=>e=.returned (.tuple #[])∧Only b off 25 w w'∧Holds enc w' b off (rhopi d):=by
 obtain ⟨L,j⟩:∃ x,d[1]! = x:=⟨_,rfl⟩
 obtain ⟨c1,J⟩:=at_word B 1 oM j
 go_enter Tryz.func211,Tryz.ntmps211
 go_wp2
 go_loopg [2,3,4,12] 24 (fun g sx E sm st wr=>∃ t T,t+g=24∧st=.int .i64 (t:Nat)∧sx=.int .i64 (T.x:Nat)∧E=.int .i64 (T.y:Nat)∧sm=.int .u64 (u T.m)∧Holds enc wr b off T.d∧Only b off 25 w wr∧Hid (T=tmTo d t))
 case atStart=>exact ⟨0,tmTo d 0,rfl,rfl,rfl,rfl,by rw[← j];rfl,B,Only.refl _ _ _ _,rfl⟩
 case round =>
  obtain ⟨t,⟨x,y,m,a⟩,M,rfl,rfl,rfl,rfl,p,C,v⟩:=hrel
  have l:=tmTo_ok d hd t
  rw[← v.out] at l
  obtain ⟨hx,F,H⟩:=l
  dsimp only at hx F H p
  by_cases s:t<24
  ·obtain ⟨i,G⟩:∃ i,y+5*((2*x+3*y)%5)=i:=⟨_,rfl⟩
   obtain ⟨z,A⟩:∃ z,a[i]! = z:=⟨_,rfl⟩
   obtain ⟨c,f⟩:=at_word p i oM A
   have I:=mk1 (A)
   have D:=mk1 (G)
   go_wp2_with fail
   rw[offs_int t s]
   refine (rotl_any m (offs t) _ (Nat.mod_lt _ dC)).mono ?_
   rintro e w' ⟨rfl,rfl⟩
   go_wp2_with fail
   obtain ⟨q,r⟩:∃ n,(2*x+3*y)%5=n:=⟨_,rfl⟩
   have o:(2*(x:Int)+3*(y:Int))%5=(q:Int):=oM
   rw[o]
   have k:=mk1 (r)
   have K:((y:Int)+5*(q:Int)).toNat=i:=by have:=D.out;have:=k.out;omega
   go_region
   go_wp2
   go_roundg (gk-1)
   case measure=>omega
   case rel =>
    refine ⟨t+1,⟨y,q,z,a.setIfInBounds i (rol m (offs t))⟩,oM,by go_num,rfl,rfl,rfl,?_,?_,?_⟩
    ·exact Holds.drew (Holds.set p oM _)
    ·exact (C.setCell (Nat.le_add_right _ _) oM _).drew
    ·show _=tmStep t (tmTo d t)
     rw[← v.out]
     simp only[tmStep,k.out]
     have e:y+5*q=i:=by have:=D.out;have:=k.out;omega
     rw[e,I.out]
  ·have k:t=24:=oM
   subst k
   go_wp2
   go_end0
   refine ⟨rfl,C,?_⟩
   show Holds enc _ b off (tmTo d 24).d
   rw[← v.out]
   exact p
end SP
namespace SP
open Go.RowKit Go.Sort
attribute [local go_sem] bits_xor64 bits_and64 bits_or64 bits_not64
theorem mixRows_any (b off:Nat) (d:St) (w:World) (hd:d.size=25) (hH:Holds enc w b off d) :
 Calls Tryz.prog 212 #[.pointer (some ⟨b,off,none⟩)] w fun e w'=>e=.returned (.tuple #[])∧Only b off 25 w w'∧Holds enc w' b off (chi d):=by
 go_enter Tryz.func212,Tryz.ntmps212
 go_wp2
 go_loopg [2] 5 (fun g si wr=>∃ k j,k+g=5∧si=.int .i64 ((5*k:Nat):Int)∧Holds enc wr b off j∧Only b off 25 w wr∧Hid (j=chiTo d k))
 case atStart=>exact ⟨0,d,rfl,rfl,hH,Only.refl _ _ _ _,rfl⟩
 case round =>
  obtain ⟨k,j,hk,rfl,B,hO,HE⟩:=hrel
  have hs:j.size=25:=by rw[HE.out,chiTo_size,hd]
  by_cases ha:k<5
  ·obtain ⟨i,hi⟩:∃ i,5*k=i:=⟨_,rfl⟩
   rw[hi]
   have Hi:Hid (5*k=i):=hi
   obtain ⟨v,R⟩:∃ x,j[i]! = x:=⟨_,rfl⟩
   obtain ⟨s,F⟩:∃ x,j[i+1]! = x:=⟨_,rfl⟩
   obtain ⟨r,J⟩:∃ x,j[i+2]! = x:=⟨_,rfl⟩
   obtain ⟨p,N⟩:∃ x,j[i+3]! = x:=⟨_,rfl⟩
   obtain ⟨m,G⟩:∃ x,j[i+4]! = x:=⟨_,rfl⟩
   obtain ⟨c0,f0⟩:=at_word B i oM R
   obtain ⟨c1,f1⟩:=at_word B (i+1) oM F
   obtain ⟨c2,f2⟩:=at_word B (i+2) oM J
   obtain ⟨c3,f3⟩:=at_word B (i+3) oM N
   obtain ⟨c4,f4⟩:=at_word B (i+4) oM G
   have M:Hid (j[i]! = v):=R
   have q:Hid (j[i+1]! = s):=F
   have l:Hid (j[i+2]! = r):=J
   have f:Hid (j[i+3]! = p):=N
   have c:Hid (j[i+4]! = m):=G
   have Q0:=M
   have Q1:=q
   have Q2:=l
   have Q3:=f
   have Q4:=c
   have b1:(i:Int)+1<25:=oM
   have p1:0≤(i:Int)+1:=oM
   have e1:((i:Int)+1).toNat=i+1:=oM
   have v1:IntKind.i64.wrap ((i:Int)+1)=(i:Int)+1:=IntWalk.i64_in _ oM
   have S:(i:Int)+2<25:=oM
   have p2:0≤(i:Int)+2:=oM
   have e2:((i:Int)+2).toNat=i+2:=oM
   have v2:IntKind.i64.wrap ((i:Int)+2)=(i:Int)+2:=IntWalk.i64_in _ oM
   have b3:(i:Int)+3<25:=oM
   have X:0≤(i:Int)+3:=oM
   have e3:((i:Int)+3).toNat=i+3:=oM
   have v3:IntKind.i64.wrap ((i:Int)+3)=(i:Int)+3:=IntWalk.i64_in _ oM
   have b4:(i:Int)+4<25:=oM
   have p4:0≤(i:Int)+4:=oM
   have e4:((i:Int)+4).toNat=i+4:=oM
   have v4:IntKind.i64.wrap ((i:Int)+4)=(i:Int)+4:=IntWalk.i64_in _ oM
   go_wp2_with fail
   go_quiet (fail)
   clear c1 c2 c3 c4 f1 f2 f3 f4 b1 p1 e1 v1 S p2 e2 v2 b3 X e3 v3 b4 p4 e4 v4
   go_wp2_with fail
   go_region
   go_wp2_with fail
   generalize z:World.setCell _ _ _=W0
   have hb:(xorAt j i (~~~s &&& r)).size=25:=by rw[xorAt_size];omega
   have P:Holds enc W0 b off (xorAt j i (~~~s &&& r)):=by rw[← z];exact Holds.xor (Holds.drewN B _) oM M.out _
   have h1:Only b off 25 w W0:=by rw[← z];exact (hO.drewN _).setCell (o:=off+i) oM oM _
   generalize n:xorAt j i (~~~s &&& r)=u at *
   have Z:Hid (xorAt j i (~~~s &&& r)=u):=n
   have q:Hid (u[i+1]! = s):=by show _=_;rw[← n,xorAt_other _ _ _ _ oM];exact q.out
   have l:Hid (u[i+2]! = r):=by show _=_;rw[← n,xorAt_other _ _ _ _ oM];exact l.out
   have f:Hid (u[i+3]! = p):=by show _=_;rw[← n,xorAt_other _ _ _ _ oM];exact f.out
   have c:Hid (u[i+4]! = m):=by show _=_;rw[← n,xorAt_other _ _ _ _ oM];exact c.out
   obtain ⟨c1,f1⟩:=at_word P (i+1) oM q.out
   clear n z c0 f0
   have b1:(i:Int)+1<25:=oM
   have p1:0≤(i:Int)+1:=oM
   have e1:((i:Int)+1).toNat=i+1:=oM
   have v1:IntKind.i64.wrap ((i:Int)+1)=(i:Int)+1:=IntWalk.i64_in _ oM
   go_region
   go_wp2_with fail
   generalize D:World.setCell _ _ _=W1
   have h8:(xorAt u (i+1) (~~~r &&& p)).size=25:=by rw[xorAt_size];omega
   have L:Holds enc W1 b off (xorAt u (i+1) (~~~r &&& p)):=by rw[← D];exact Holds.xor P oM q.out _
   have T:Only b off 25 w W1:=by rw[← D];exact (h1).setCell (o:=off+(i+1)) oM oM _
   generalize t:xorAt u (i+1) (~~~r &&& p)=y at *
   have h5:Hid (xorAt u (i+1) (~~~r &&& p)=y):=t
   have l:Hid (y[i+2]! = r):=by show _=_;rw[← t,xorAt_other _ _ _ _ oM];exact l.out
   have f:Hid (y[i+3]! = p):=by show _=_;rw[← t,xorAt_other _ _ _ _ oM];exact f.out
   have c:Hid (y[i+4]! = m):=by show _=_;rw[← t,xorAt_other _ _ _ _ oM];exact c.out
   obtain ⟨c2,f2⟩:=at_word L (i+2) oM l.out
   clear b1 p1 e1 v1
   have S:(i:Int)+2<25:=oM
   have p2:0≤(i:Int)+2:=oM
   have e2:((i:Int)+2).toNat=i+2:=oM
   have v2:IntKind.i64.wrap ((i:Int)+2)=(i:Int)+2:=IntWalk.i64_in _ oM
   go_region
   go_wp2_with fail
   generalize H:World.setCell _ _ _=W2
   have h6:(xorAt y (i+2) (~~~p &&& m)).size=25:=by rw[xorAt_size];omega
   have I:Holds enc W2 b off (xorAt y (i+2) (~~~p &&& m)):=by rw[← H];exact Holds.xor L oM l.out _
   have h2:Only b off 25 w W2:=by rw[← H];exact (T).setCell (o:=off+(i+2)) oM oM _
   generalize a:xorAt y (i+2) (~~~p &&& m)=A at *
   have W:Hid (xorAt y (i+2) (~~~p &&& m)=A):=a
   have f:Hid (A[i+3]! = p):=by show _=_;rw[← a,xorAt_other _ _ _ _ oM];exact f.out
   have c:Hid (A[i+4]! = m):=by show _=_;rw[← a,xorAt_other _ _ _ _ oM];exact c.out
   obtain ⟨c3,f3⟩:=at_word I (i+3) oM f.out
   clear S p2 e2 v2
   have b3:(i:Int)+3<25:=oM
   have X:0≤(i:Int)+3:=oM
   have e3:((i:Int)+3).toNat=i+3:=oM
   have v3:IntKind.i64.wrap ((i:Int)+3)=(i:Int)+3:=IntWalk.i64_in _ oM
   go_region
   go_wp2_with fail
   generalize Q:World.setCell _ _ _=W3
   have h9:(xorAt A (i+3) (~~~m &&& v)).size=25:=by rw[xorAt_size];omega
   have K:Holds enc W3 b off (xorAt A (i+3) (~~~m &&& v)):=by rw[← Q];exact Holds.xor I oM f.out _
   have U:Only b off 25 w W3:=by rw[← Q];exact (h2).setCell (o:=off+(i+3)) oM oM _
   generalize O:xorAt A (i+3) (~~~m &&& v)=C at *
   have h4:Hid (xorAt A (i+3) (~~~m &&& v)=C):=O
   have c:Hid (C[i+4]! = m):=by show _=_;rw[← O,xorAt_other _ _ _ _ oM];exact c.out
   obtain ⟨c4,f4⟩:=at_word K (i+4) oM c.out
   clear b3 X e3 v3
   have b4:(i:Int)+4<25:=oM
   have p4:0≤(i:Int)+4:=oM
   have e4:((i:Int)+4).toNat=i+4:=oM
   have v4:IntKind.i64.wrap ((i:Int)+4)=(i:Int)+4:=IntWalk.i64_in _ oM
   go_region
   go_wp2
   generalize E:World.setCell _ _ _=W4
   have h7:(xorAt C (i+4) (~~~v &&& s)).size=25:=by rw[xorAt_size];omega
   have h3:Holds enc W4 b off (xorAt C (i+4) (~~~v &&& s)):=by rw[← E];exact Holds.xor K oM c.out _
   have h0:Only b off 25 w W4:=by rw[← E];exact (U).setCell (o:=off+(i+4)) oM oM _
   generalize Y:xorAt C (i+4) (~~~v &&& s)=d4 at *
   have V:Hid (xorAt C (i+4) (~~~v &&& s)=d4):=Y
   go_roundg (gk-1)
   case measure=>omega
   case rel =>
    refine ⟨k+1,d4,oM,?_,?_,?_,?_⟩
    ·rw[← Hi.out];go_num
    ·exact h3
    ·exact h0.drewN 4
    ·show d4=rowAt (chiTo d k) (5*k)
     rw[← HE.out,Hi.out]
     unfold rowAt
     rw[Q0.out,Q1.out,Q2.out,Q3.out,Q4.out,Z.out,h5.out,W.out,h4.out,V.out]
  ·have c:k=5:=oM
   subst c
   go_wp2
   go_end0
   refine ⟨rfl,hO,?_⟩
   show Holds enc _ b off (chiTo d 5)
   rw[← HE.out]
   exact B
end SP
namespace SP
open Go.RowKit Go.Sort
attribute [local go_sem] bits_xor64 bits_and64 bits_or64 wrap_u
theorem place_int (j:Nat) (k:j<7):∃ p:Nat,wrap64 (wrap64 ((2:Int)^j)-1)=(p:Int)∧p≤63∧Hid (2^j-1=p):=by
 have H:∀ j:Fin 7,wrap64 (wrap64 ((2:Int)^j.val)-1)=((2^j.val-1:Nat):Int)∧2^j.val-1≤63:=dK
 exact ⟨_,(H ⟨j,k⟩).1,(H ⟨j,k⟩).2,rfl⟩
theorem roundConstant_any (r:Nat) (w:World) (n:r<256) :
 Calls Tryz.prog 213 #[.int .i64 r] w fun e w'=>e=.returned (.tuple #[.int .u64 (u (rcC r)),.int .i64 (rcN r:Int)])∧w'=w:=by
 go_enter Tryz.func213,Tryz.ntmps213
 go_wp2
 go_loop [0,2,6] (fun s0 s2 s6=>∃ j:Nat,j≤7∧∃ (c:BitVec 64) (q:Nat),s6=.int .i64 j∧s2=.int .u64 (u c)∧s0=.int .i64 q∧q<256∧Hid (rcTo r j=(c,q))) (fun _ _ s6=>7-(intOf s6).toNat)
 case atStart=>exact ⟨0,dC,0,r,rfl,rfl,rfl,n,rfl⟩
 case round =>
  obtain ⟨j,x,c,q,rfl,rfl,rfl,f,i⟩:=hrel
  by_cases g:j<7
  ·have t:=rc_and q f
   have a2:=rc_xor q f
   obtain ⟨p,y,s,o⟩:=place_int j g
   have l:Hid (rcTo r (j+1)=(c ||| BitVec.ofNat 64 (q%2) <<< p,rcReg q)):=by
    show ((rcTo r j).1 ||| BitVec.ofNat 64 ((rcTo r j).2%2) <<< (2^j-1),rcReg (rcTo r j).2)=_
    rw[i.out,o.out]
   have v:=shl64 (BitVec.ofNat 64 (q%2)) p
   have b:=rcReg_lt q f
   by_cases k:255<2*q
   ·have d:Hid (rcReg q=2*q ^^^ 369):=if_pos k
    rw[d.out] at b
    generalize 2*q ^^^ 369=m at *
    go_wp2
    go_round
    case rel=>exact ⟨j+1,oM,_,m,by go_num,rfl,rfl,b,by rw[l.out,d.out];rfl⟩
    case measure=>simp[intOf];omega
   ·have d:Hid (rcReg q=2*q):=if_neg k
    go_wp2
    go_round
    case rel=>exact ⟨j+1,oM,_,2*q,by go_num,rfl,by go_num,oM,by rw[l.out,d.out];rfl⟩
    case measure=>simp[intOf];omega
  ·have k:j=7:=oM
   subst k
   go_wp2
   go_ret2
   unfold rcC rcN
   rw[i.out]
   exact ⟨rfl,rfl⟩
theorem permute_any (b off:Nat) (d:St) (w:World) (hd:d.size=25) (H:Holds enc w b off d) :
 Calls Tryz.prog 192 #[.pointer (some ⟨b,off,none⟩)] w fun e w'=>e=.returned (.tuple #[])∧Only b off 25 w w'∧Holds enc w' b off (perm d):=by
 go_enter Tryz.func192,Tryz.ntmps192
 go_wp2
 go_loopg [2,3,4] 24 (fun g sc B A wr=>∃ (k:Nat) (c:BitVec 64) (f:St),k+g=24∧A=.int .i64 k∧sc=.int .u64 (u c)∧B=.int .i64 (rcAt k:Nat)∧Holds enc wr b off f∧Only b off 25 w wr∧Hid (f=permTo d k))
 case atStart=>exact ⟨0,0,d,rfl,rfl,rfl,rfl,H,Only.refl _ _ _ _,rfl⟩
 case round =>
  obtain ⟨k,c,f,L,rfl,rfl,rfl,y,z,q⟩:=hrel
  have l:f.size=25:=by rw[q.out,permTo_size d hd]
  by_cases I:k<24
  ·have C:(k:Int)<24:=oM
   go_wp2_with fail
   refine (mixColumns_any b off f _ l y).mono ?_
   rintro e M ⟨rfl,m,n⟩
   go_wp2_with fail
   refine (turnAndMove_any b off _ _ (by rw[theta_size,l]) n).mono ?_
   rintro e N ⟨rfl,v,s⟩
   go_wp2_with fail
   refine (mixRows_any b off _ _ (rhopi_size _ (by rw[theta_size,l])) s).mono ?_
   rintro e K ⟨rfl,t,j⟩
   have J:Hid (rcAt (k+1)=rcN (rcAt k)):=rfl
   have a:Hid (permTo d (k+1)=kround (permTo d k) (rcC (rcAt k))):=rfl
   have p:=rcAt_lt k
   generalize rcAt k=r at *
   go_wp2_with fail
   refine (roundConstant_any r _ p).mono ?_
   rintro e O ⟨rfl,rfl⟩
   have F:(chi (rhopi (theta f))).size=25:=by rw[chi_size,rhopi_size _ (by rw[theta_size,l])]
   obtain ⟨x,hx⟩:∃ x,(chi (rhopi (theta f)))[0]! = x:=⟨_,rfl⟩
   obtain ⟨D,G⟩:=at_word j 0 oM hx
   rw[Nat.add_zero] at D G
   have E:Hid ((chi (rhopi (theta f)))[0]! = x):=hx
   clear hx
   go_wp2_with fail
   go_region
   go_wp2
   go_roundg (gk-1)
   case measure=>omega
   case rel =>
    refine ⟨k+1,rcC r,kround f (rcC r),oM,by go_num,rfl,by rw[J.out],?_,?_,?_⟩
    ·exact Holds.drew (Holds.xor (i:=0) j oM E.out (rcC r))
    ·exact ((((z.trans m).trans v).trans t).setCell (o:=off) oM oM _).drew
    ·rw[a.out,q.out];rfl
  ·have j:k=24:=oM
   subst j
   go_wp2
   go_end0
   refine ⟨rfl,z,?_⟩
   unfold perm
   rw[← q.out]
   exact y
end SP
namespace SP
open Go.RowKit Go.Sort Go.Deep
attribute [local go_sem] bits_xor64 bits_and64 bits_or64 wrap_u wrap_ub
theorem at_byte {w:World} {b off:Nat} {d:Bs} (h:Holds encB w b off d) (i:Nat) (k:i<d.size) {x:UInt8} (hx:d[i]! = x) :
 w.cell? ⟨b,off+i,none⟩=some (.int .u8 (ub x))∧w.frozen? ⟨b,off+i,none⟩=false:=by
 rw[← hx];exact h i k
theorem word_any (f g o len cap:Nat) (b:Bs) (w:World) (j:Holds encB w f g b) (p:8≤len) (ho:o+8≤b.size) (r:len≤4611686018427387904) :
 Calls Tryz.prog 209 #[.slice (some ⟨f,g+o,none⟩) len cap] w fun e w'=>e=.returned (.int .u64 (u (wordOf b o)))∧w'=w:=by
 go_enter Tryz.func209,Tryz.ntmps209
 go_wp2
 go_loop [3,5] (fun s3 s5=>∃ (k:Nat) (c:BitVec 64),k≤8∧s5=.int .i64 k∧s3=.int .u64 (u c)∧Hid (wordTo b o k=c)) (fun _ s5=>8-(intOf s5).toNat)
 case atStart=>exact ⟨0,0,dC,rfl,rfl,rfl⟩
 case round =>
  obtain ⟨k,c,q,rfl,rfl,i⟩:=hrel
  by_cases m:k<8
  ·obtain ⟨x,hx⟩:∃ x,b[o+k]! = x:=⟨_,rfl⟩
   obtain ⟨d,l⟩:=at_byte j (o+k) oM hx
   rw[← Nat.add_assoc] at d
   have n:Hid (wordTo b o (k+1)=c ||| wide x <<< (8*k)):=by
    show wordTo b o k ||| wide b[o+k]! <<< (8*k)=_
    rw[i.out,hx]
   clear hx l
   have t:=shl64 (wide x) (8*k)
   have s:(k:Int)<(len:Int):=oM
   go_wp2
   go_round
   case rel=>exact ⟨k+1,_,oM,by go_num,rfl,n⟩
   case measure=>simp[intOf];omega
  ·have d:k=8:=oM
   subst d
   go_wp2
   go_ret
   unfold wordOf
   rw[i.out]
   exact ⟨rfl,rfl⟩
theorem mix_any (b off i j len cap:Nat) (c:Bs) (d:St) (w:World) (hd:d.size=25) (z:Holds enc w b off d) (s:Holds encB w i j c) (C:c.size=len) (t:len≤200) (r:len≤cap)
 (f:i≠b∨j+len≤off∨off+25≤j) :
 Calls Tryz.prog 191 #[.pointer (some ⟨b,off,none⟩),.slice (some ⟨i,j,none⟩) len cap] w fun e w'=>e=.returned (.tuple #[])∧Only b off 25 w w'∧Holds enc w' b off (mixTo c d (len/8)):=by
 go_enter Tryz.func191,Tryz.ntmps191
 go_wp2
 go_loopg [8] (len/8) (fun g s8 wr=>∃ (k:Nat) (f:St),k+g=len/8∧s8=.int .i64 k∧Holds enc wr b off f∧Only b off 25 w wr∧Hid (f=mixTo c d k))
 case atStart=>exact ⟨0,d,oM,rfl,z,Only.refl _ _ _ _,rfl⟩
 case round =>
  obtain ⟨k,f,B,rfl,p,n,q⟩:=hrel
  have I:f.size=25:=by rw[q.out,mixTo_size,hd]
  by_cases y:k<len/8
  ·have m:Holds encB wr i j c:=by
    by_cases l:i=b
    ·subst l
     exact Holds.same s n oM
    ·exact Holds.other s n l oM
   obtain ⟨x,hx⟩:∃ x,f[k]! = x:=⟨_,rfl⟩
   obtain ⟨E,H⟩:=at_word p k oM hx
   have u:Hid (f[k]! = x):=hx
   clear hx
   have A:(k:Int)<25:=oM
   have J:(0:Int)≤(k:Int)*8:=oM
   have G:(k:Int)*8≤(len:Int):=oM
   have F:((k:Int)*8).toNat=8*k:=oM
   have s1:IntKind.i64.wrap ((k:Int)*8)=(k:Int)*8:=IntWalk.i64_in _ oM
   have lt:(k:Int)<(len:Int)/8:=oM
   go_wp2_with fail
   have v:(cap=8*k)=False:=eq_false oM
   have a:Hid (Holds encB wr.drew i j c):=Holds.drew m
   have l:Hid (8*k+8≤c.size):=by show _≤_;omega
   clear m
   go_region_with (go_at_call 209;refine (word_any i j (8*k) (len-8*k) (cap-8*k) c _ a.out oM l.out oM).mono ?_;rintro e D ⟨rfl,rfl⟩)
   all_goals
    go_wp2
    go_roundg (gk-1)
    case measure=>omega
    case rel =>
     refine ⟨k+1,xorAt f k (wordOf c (8*k)),oM,by go_num,?_,?_,?_⟩
     ·exact Holds.drew (Holds.xor p oM u.out _)
     ·exact (n.setCell (o:=off+k) oM oM _).drew
     ·rw[q.out];rfl
  ·have l:k=len/8:=oM
   have lt:(len:Int)/8≤(k:Int):=oM
   go_wp2
   go_end0
   refine ⟨rfl,n,?_⟩
   rw[← l,← q.out]
   exact p
theorem slice22:Tryz.prog.underlying 23=some (.slice 5):=kR
theorem info5:(Tryz.prog.info? 5).map (fun i=>(i.zero,i.size,i.bytes))=some (some (.int .u8 0),1,1):=kR
attribute [local go_sem] low_u
theorem front_any (b off n:Nat) (d:St) (w:World) (hd:d.size=25) (q:Holds enc w b off d) (C:n≤200) :
 Calls Tryz.prog 96 #[.pointer (some ⟨b,off,none⟩),.int .i64 n] w fun e w'=>e=.returned (.slice (some ⟨w.heap.size,0,none⟩) n n)∧Below w.heap.size w w'∧Holds encB w' w.heap.size 0 (front d n):=by
 have s:=Holds.lt q oM
 have u:=run_make_row' (P:=Tryz.prog) 23 5 (.int .u8 0) 1 slice22 info5 rfl .i64 .i64 n oM oM
 go_enter Tryz.func96,Tryz.ntmps96
 go_wp2
 generalize c:(w.alloc _)=z
 go_loopg [11] n (fun g s11 wr=>∃ (k:Nat) (f:Bs),k+g=n∧s11=.int .i64 k∧Holds encB wr w.heap.size 0 f∧Only w.heap.size 0 n z wr∧Hid (f=frontTo d n k))
 case atStart =>
  refine ⟨0,_,oM,rfl,?_,Only.refl _ _ _ _,rfl⟩
  rw[← c]
  exact Holds.made (enc:=encB) w 5 n 0
 case round =>
  obtain ⟨k,f,a,rfl,j,l,m⟩:=hrel
  have D:f.size=n:=by rw[m.out,frontTo_size]
  have r:Holds enc wr b off d:=Holds.other (by rw[← c];exact Holds.below q ((Below.refl _ _).alloc (Nat.le_refl _) _) s) l oM oM
  by_cases v:k<n
  ·obtain ⟨x,hx⟩:∃ x,d[k/8]! = x:=⟨_,rfl⟩
   obtain ⟨A,B⟩:=at_word r (k/8) oM hx
   obtain ⟨c1,p⟩:=j k oM
   rw[Nat.zero_add] at c1 p
   have t:Hid (byteOf d k=low (x >>> (8*(k%8)))):=by show low _=_;rw[hx]
   have y:=shr64 x (8*(k%8))
   go_wp2
   go_roundg (gk-1)
   case measure=>omega
   case rel =>
    refine ⟨k+1,f.setIfInBounds k (low (x >>> (8*(k%8)))),oM,by go_num,?_,?_,?_⟩
    ·have:=Holds.set j (i:=k) oM (low (x >>> (8*(k%8))))
     rw[Nat.zero_add] at this
     exact this
    ·exact l.setCell (o:=k) oM oM _
    ·show _=(frontTo d n k).setIfInBounds k (byteOf d k)
     rw[t.out,m.out]
  ·have p:k=n:=oM
   go_wp2
   go_ret
   refine ⟨rfl,?_,?_⟩
   ·rw[← c] at l
    exact l.fresh
   ·unfold front
    rw[m.out,p] at j
    exact j
end SP
namespace SP
open Go.RowKit
structure Of where
 x:Nat
 y:Nat
 o:Array Nat
end SP
namespace SP
theorem zx (x:BitVec 64):0 ^^^ x=x:=BitVec.zero_xor
end SP
namespace SP
open Go.Sort
def zero25:St:=Array.replicate 25 0
theorem zero25_at (j:Nat) (h:j<25):zero25[j]! = 0:=by
 have k:j<(Array.replicate 25 (0:BitVec 64)).size:=by rw[Array.size_replicate];exact h
 unfold zero25
 rw[getElem!_pos (Array.replicate 25 (0:BitVec 64)) j k,Array.getElem_replicate]
end SP
namespace SP
open Go.RowKit Go.Sort
end SP
namespace SP
open Go.RowKit Go.Sort
def fill (i:Nat):UInt8:=UInt8.ofNat (i%251) ^^^ 165
def lentTo (s:ByteArray):Nat→Bs
 | 0=>s.data++Array.replicate 160 0
 | k+1=>(lentTo s k).setIfInBounds (s.size+k) (fill (s.size+k))
def lent (s:ByteArray):Bs:=lentTo s 160
variable {w w1:World} {b o n:Nat}
theorem heap_setCells (b:Nat) {k:Nat} (c:k≠b):∀ (vs:List Value) (p:Nat) (w:World),(w.setCells b p vs).heap[k]? = w.heap[k]?
 | [],_,_=>rfl
 | v :: r,p,w=>by rw[World.setCells,heap_setCells b c r (p+1) _,Below.heap_setCell _ _ _ _ c]
theorem Only.setCells (h:Only b o n w w1) (vs:List Value) (p:Nat) (e:o≤p) (f:p+vs.length≤o+n):Only b o n w (w1.setCells b p vs):=by
 have c:=below_setCells (B:=0) (b:=b) (Nat.zero_le _) vs p w1 (Below.refl 0 w1)
 exact h.trans ⟨c.os,c.tape,c.output,c.size,fun k _ d=>heap_setCells b d vs p w1,
  fun q g=>World.cell?_setCells_out b vs p w1 ⟨b,q,none⟩ (fun _ _=>by simp only;omega),fun q=>World.frozen?_setCells b vs p w1 _⟩
theorem Holds.setCells {d r:Bs} (h:Holds encB w b o d) (vs:List Value) (p:Nat) (f:r.size=d.size) (l:p+vs.length≤d.size)
 (g:∀ j (c:j<vs.length),vs[j]=encB r[p+j]!) (k:∀ j,j<d.size→j<p∨p+vs.length≤j→r[j]! = d[j]!):Holds encB (w.setCells b (o+p) vs) b o r:=by
 intro j c
 rw[f] at c
 rw[World.frozen?_setCells]
 refine ⟨?_,(h j c).2⟩
 by_cases e:j<p∨p+vs.length≤j
 ·rw[World.cell?_setCells_out b vs (o+p) w ⟨b,o+j,none⟩ (fun _ _=>by simp only;omega),k j c e]
  exact (h j c).1
 ·have k:j-p<vs.length:=oM
  have:=World.cell?_setCells_in b vs (o+p) w (fun i m=>by
   have:=(h (p+i) oM).1
   rw[← Nat.add_assoc] at this
   rw[this];rfl) (j-p) k
  rw[show o+p+(j-p)=o+j by omega] at this
  rw[this,g (j-p) k,show p+(j-p)=j by omega]
theorem app_front (a r:Bs) (j:Nat) (k:j<a.size):(a++r)[j]! = a[j]:=by
 have h:j<(a++r).size:=by rw[Array.size_append];omega
 rw[getElem!_pos (a++r) j h,Array.getElem_append_left k]
theorem app_back (a r:Bs) (j:Nat) (b:a.size≤j) (c:j<a.size+r.size):(a++r)[j]! = r[j-a.size]!:=by
 have h:j<(a++r).size:=by rw[Array.size_append];omega
 have k:j-a.size<r.size:=oM
 rw[getElem!_pos (a++r) j h,Array.getElem_append_right b,getElem!_pos r (j-a.size) k]
theorem rep_at (n j:Nat) (h:j<n):(Array.replicate n (0:UInt8))[j]! = 0:=by
 have k:j<(Array.replicate n (0:UInt8)).size:=by rw[Array.size_replicate];exact h
 rw[getElem!_pos (Array.replicate n (0:UInt8)) j k,Array.getElem_replicate]
theorem size_of5 (P:Program) (e:TypeId) (h:(P.info? e).map (·.size)=some 1):∀ w,(Go.sizeOf e).run P w=.ok 1 w:=by
 intro w
 cases k:P.info? e with
 | none=>simp[k] at h
 | some i =>
  simp[k] at h
  simp[Go.sizeOf,typeInfo,k,h]
theorem conv_str (P:Program) (src k e:TypeId) (q:P.underlying src=some (.slice e)) (l:P.underlying e=some (.int .u8)) (hd:P.underlying k=some .string)
 (w:World) (b o n cap:Nat) (c:Bs) (m:Holds encB w b o c) (p:c.size=n):(convert src k (.slice (some ⟨b,o,none⟩) n cap)).run P w=.ok (.string ⟨c⟩) w:=by
 have h:=run_convert_bytes_back (P:=P) w src k e ⟨b,o,none⟩ cap c.toList q l hd (fun j r=>by
  have d:j<c.size:=by simpa using r
  have g:=(m j d).1
  rw[getElem!_pos c j d] at g
  have i:(⟨b,o,none⟩:Addr).add j=⟨b,o+j,none⟩:=by
   unfold Addr.add
   by_cases f:j=0
   ·subst f;rfl
   ·rw[if_neg f]
  rw[i,g]
  simp[encB,ub])
 simpa[p] using h
end SP
namespace SP
open Go.RowKit Go.Sort Go.Deep
theorem int5:Tryz.prog.underlying 5=some (.int .u8):=kR
theorem str9:Tryz.prog.underlying 9=some .string:=kR
theorem size5:∀ w,(Go.sizeOf 5).run Tryz.prog w=.ok 1 w:=size_of5 Tryz.prog 5 kR
end SP
namespace SP
open Go.Sort
theorem low_bit (v:BitVec 64) (i:Nat) (h:i<8):(low v).toNat.testBit i=v.getLsbD i:=by
 unfold low
 rw[UInt8.toNat_ofNat',Nat.testBit_mod_two_pow,BitVec.getLsbD]
 simp[h]
theorem frontTo_at (d:St) (n k j:Nat) (e:k≤n) (b:j<n):(frontTo d n k)[j]! = if j<k then byteOf d j else 0:=by
 induction k with
 | zero =>
  have c:j<(Array.replicate n (0:UInt8)).size:=by rw[Array.size_replicate];exact b
  rw[frontTo,getElem!_pos (Array.replicate n (0:UInt8)) j c,Array.getElem_replicate,if_neg oM]
 | succ k ih =>
  rw[frontTo]
  by_cases h:j=k
  ·subst h
   rw[getElem!_set_same _ _ _ (by rw[frontTo_size];exact b),if_pos oM]
  ·rw[getElem!_set_other _ _ _ _ h,ih oM]
   by_cases c:j<k
   ·rw[if_pos c,if_pos oM]
   ·rw[if_neg c,if_neg oM]
theorem front_at (d:St) (n j:Nat) (k:j<n):(front d n)[j]! = byteOf d j:=by
 unfold front
 rw[frontTo_at d n n j (Nat.le_refl _) k,if_pos k]
/-! ### The sponge, byte by byte -/
structure Sp where
  d : St
  p : Bs
  h : Nat
structure Ok (S:Sp):Prop where
 d25:S.d.size=25
 p136:S.p.size=136
 hlt:S.h<136
def soakL (S:Sp):Sp:={ d:=perm (mixTo S.p S.d 17),p:=S.p,h:=0 }
def putB (S:Sp) (x:UInt8):Sp:=
 if S.h+1=136 then soakL { d:=S.d,p:=S.p.setIfInBounds S.h x,h:=S.h } else { d:=S.d,p:=S.p.setIfInBounds S.h x,h:=S.h+1 }
def takeL (S:Sp) (l:List UInt8):Sp:=l.foldl putB S
def splice (p:Bs):Nat→List UInt8→Bs
 | _,[]=>p
 | i,x :: r=>splice (p.setIfInBounds i x) (i+1) r
theorem takeL_append (S:Sp) (a b:List UInt8):takeL S (a++b)=takeL (takeL S a) b:=List.foldl_append
theorem splice_size (p:Bs) (i:Nat) (l:List UInt8):(splice p i l).size=p.size:=by
 induction l generalizing p i with
 | nil=>rfl
 | cons x r ih=>rw[splice,ih,Array.size_setIfInBounds]
theorem splice_at (p:Bs) (i:Nat) (l:List UInt8) (j:Nat) (c:i+l.length≤p.size) (k:j<p.size):(splice p i l)[j]! = if i≤j∧j<i+l.length then l[j-i]! else p[j]!:=by
 induction l generalizing p i with
 | nil=>simp[splice];omega
 | cons x r ih =>
  simp only[List.length_cons] at c
  rw[splice,ih _ _ (by rw[Array.size_setIfInBounds];omega) (by rw[Array.size_setIfInBounds];exact k)]
  by_cases h:j=i
  ·subst h
   rw[if_neg oM,getElem!_set_same _ _ _ k,if_pos (by simp),Nat.sub_self]
   rfl
  ·rw[getElem!_set_other _ _ _ _ h]
   by_cases b:i+1≤j∧j<i+1+r.length
   ·rw[if_pos b,if_pos (by simp;omega),show j-i=(j-(i+1))+1 by omega]
    rfl
   ·rw[if_neg b,if_neg (by simp;omega)]
theorem soak_mk (d:St) (p:Bs) (h:Nat):soakL ⟨d,p,h⟩=⟨perm (mixTo p d 17),p,0⟩:=by unfold soakL;rfl
theorem soakL_d (S:Sp):(soakL S).d=perm (mixTo S.p S.d 17):=by
 obtain ⟨d,p,h⟩:=S
 rw[soak_mk]
theorem soakL_p (S:Sp):(soakL S).p=S.p:=by
 obtain ⟨d,p,h⟩:=S
 rw[soak_mk]
theorem soakL_h (S:Sp):(soakL S).h=0:=by
 obtain ⟨d,p,h⟩:=S
 rw[soak_mk]
theorem soak_ok {S:Sp} (b:S.d.size=25) (k:S.p.size=136):Ok (soakL S):=by
 have hd:(mixTo S.p S.d 17).size=25:=by rw[mixTo_size,b]
 refine ⟨?_,by rw[soakL_p,k],?_⟩
 ·rw[soakL_d]
  exact perm_size _ hd
 ·rw[soakL_h]
  decide
theorem putB_ok {S:Sp} (h:Ok S) (x:UInt8):Ok (putB S x):=by
 have:=h.hlt
 unfold putB
 by_cases e:S.h+1=136
 ·rw[if_pos e]
  exact soak_ok h.d25 (by show (S.p.setIfInBounds _ _).size=136;rw[Array.size_setIfInBounds];exact h.p136)
 ·rw[if_neg e]
  exact ⟨h.d25,by show (S.p.setIfInBounds _ _).size=136;rw[Array.size_setIfInBounds];exact h.p136,by show S.h+1<136;omega⟩
theorem takeL_ok {S:Sp} (h:Ok S) (l:List UInt8):Ok (takeL S l):=by
 induction l generalizing S with
 | nil=>exact h
 | cons x r ih=>exact ih (putB_ok h x)
theorem takeL_chunk (S:Sp) (l:List UInt8) (f:l≠[]) (k:S.h+l.length≤136) :
 takeL S l=if S.h+l.length=136 then soakL { d:=S.d,p:=splice S.p S.h l,h:=S.h } else { d:=S.d,p:=splice S.p S.h l,h:=S.h+l.length }:=by
 induction l generalizing S with
 | nil=>exact absurd rfl f
 | cons x r ih =>
  show takeL (putB S x) r=_
  simp only[List.length_cons] at k ⊢
  cases r with
  | nil =>
   unfold putB takeL splice
   simp only[List.foldl_nil,List.length_nil]
   by_cases e:S.h+1=136
   ·rw[if_pos e,if_pos oM];rfl
   ·rw[if_neg e,if_neg oM];rfl
  | cons y r' =>
   have e:¬ S.h+1=136:=by simp only[List.length_cons] at k;omega
   have c:putB S x = { d:=S.d,p:=S.p.setIfInBounds S.h x,h:=S.h+1 }:=by unfold putB;rw[if_neg e]
   rw[c,ih _ (by simp) (by simp only[List.length_cons] at k ⊢;omega)]
   simp only[splice,List.length_cons]
   by_cases b:S.h+(r'.length+1+1)=136
   ·rw[if_pos oM,if_pos b];rfl
   ·rw[if_neg oM,if_neg b,show S.h+1+(r'.length+1)=S.h+(r'.length+1+1) by omega]
/-! ### The end -/
def ended (p : Bs) (h : Nat) (e : UInt8) : Bs:=
  let q:=(splice p h (List.replicate (136-h) 0)).setIfInBounds h e
  q.setIfInBounds 135 (q[135]! ^^^ 128)
def finalL (S:Sp) (e:UInt8):Sp:=soakL { d:=S.d,p:=ended S.p S.h e,h:=S.h }
def tailpad (h:Nat) (e:UInt8):List UInt8:=
 (e :: List.replicate (135-h) 0).set (135-h) ((e :: List.replicate (135-h) 0)[135-h]! ^^^ 128)
theorem tailpad_length (h:Nat) (e:UInt8) (hh:h<136):(tailpad h e).length=136-h:=by
 unfold tailpad
 rw[List.length_set,List.length_cons,List.length_replicate]
 omega
theorem bs_ext (a b:Bs) (n:Nat) (e:a.size=n) (d:b.size=n) (h:∀ j,j<n→a[j]! = b[j]!):a=b:=by
 apply Array.ext oM
 intro i c k
 have:=h i oM
 rwa[getElem!_pos a i c,getElem!_pos b i k] at this
theorem pad_at (h:Nat) (e:UInt8) (j:Nat) (c:j<136-h) (hh:h<136):(tailpad h e)[j]! = (if j=0 then e else 0) ^^^ (if j=135-h then 128 else 0):=by
 have f:∀ j,j<136-h→(e :: List.replicate (135-h) (0:UInt8))[j]! = if j=0 then e else 0:=by
  intro j c
  cases j with
  | zero=>rfl
  | succ j =>
   have b:j+1<(e :: List.replicate (135-h) (0:UInt8)).length:=by rw[List.length_cons,List.length_replicate];omega
   rw[getElem!_pos (e :: List.replicate (135-h) (0:UInt8)) (j+1) b]
   simp
 have k:=tailpad_length h e hh
 have b:j<(e :: List.replicate (135-h) (0:UInt8)).length:=by rw[List.length_cons,List.length_replicate];omega
 rw[getElem!_pos (tailpad h e) j (by rw[k];exact c)]
 unfold tailpad
 rw[List.getElem_set]
 by_cases d:135-h=j
 ·rw[if_pos d,f (135-h) oM,d,if_pos (rfl:j=j)]
 ·rw[if_neg d,if_neg (show ¬ j=135-h by omega)]
  have:=f j c
  rw[getElem!_pos (e :: List.replicate (135-h) (0:UInt8)) j b] at this
  rw[this]
  simp
theorem ended_size (p:Bs) (h:Nat) (e:UInt8):(ended p h e).size=p.size:=by
 unfold ended
 simp only[Array.size_setIfInBounds,splice_size]
theorem rep_list_at (n j:Nat) (h:j<n):(List.replicate n (0:UInt8))[j]! = 0:=by
 rw[getElem!_pos _ j (by simpa using h)]
 simp
theorem ended_eq (p:Bs) (h:Nat) (e:UInt8) (c:p.size=136) (hh:h<136):ended p h e=splice p h (tailpad h e):=by
 have g:(splice p h (List.replicate (136-h) 0)).size=136:=by rw[splice_size,c]
 refine bs_ext _ _ 136 (by rw[ended_size,c]) (by rw[splice_size,c]) (fun j d=>?_)
 have f:∀ j,j<136→((splice p h (List.replicate (136-h) 0)).setIfInBounds h e)[j]! = if j<h then p[j]! else if j=h then e else 0:=by
  intro j d
  by_cases k:j=h
  ·rw[k,getElem!_set_same _ _ _ oM,if_neg oM,if_pos rfl]
  ·rw[getElem!_set_other _ _ _ _ k,splice_at _ _ _ _ (by rw[List.length_replicate,c];omega) oM,List.length_replicate]
   by_cases b:j<h
   ·rw[if_neg oM,if_pos b]
   ·rw[if_pos oM,if_neg b,if_neg k,rep_list_at _ _ oM]
 have hR:(splice p h (tailpad h e))[j]! = if j<h then p[j]! else (if j=h then e else 0) ^^^ (if j=135 then 128 else 0):=by
  rw[splice_at _ _ _ _ (by rw[tailpad_length h e hh,c];omega) oM,tailpad_length h e hh]
  by_cases b:j<h
  ·rw[if_neg (show ¬ (h≤j∧j<h+(136-h)) by omega),if_pos b]
  ·rw[if_pos (show h≤j∧j<h+(136-h) by omega),if_neg b,pad_at h e _ oM hh]
   have i:(j-h=0)=(j=h):=by apply propext;omega
   have k:(j-h=135-h)=(j=135):=by apply propext;omega
   simp only[i,k]
 have i:(ended p h e)[j]! = if j<h then p[j]! else (if j=h then e else 0) ^^^ (if j=135 then 128 else 0):=by
  unfold ended
  by_cases k:j=135
  ·rw[k,getElem!_set_same _ _ _ (by rw[Array.size_setIfInBounds,g];decide),f 135 dC,if_neg (show ¬ 135<h by omega),if_neg (show ¬ 135<h by omega),if_pos (rfl:135=135)]
  ·rw[getElem!_set_other _ _ _ _ k,f j d]
   by_cases b:j<h
   ·rw[if_pos b,if_pos b]
   ·rw[if_neg b,if_neg b,if_neg k]
    simp
 rw[i,hR]
theorem finalL_eq {S:Sp} (h:Ok S) (e:UInt8):finalL S e=takeL S (tailpad S.h e):=by
 have:=h.hlt
 have k:=tailpad_length S.h e h.hlt
 rw[takeL_chunk S _ (by intro c;rw[c] at k;simp at k;omega) oM,if_pos oM]
 unfold finalL
 rw[ended_eq _ _ _ h.p136 h.hlt]
end SP
namespace SP
open Go.RowKit Go.Sort Go.Deep
theorem Only.widen {b o n k c:Nat} {w w':World} (h:Only b o n w w') (e:k≤o) (d:o+n≤k+c):Only b k c w w':=
 ⟨h.os,h.tape,h.output,h.size,h.block,fun q f=>h.cell q oM,h.froz⟩
structure HSp (w:World) (b:Nat) (S:Sp):Prop where
 d:Holds enc w b 0 S.d
 p:Holds encB w b 25 S.p
 h:w.cell? ⟨b,161,none⟩=some (.int .i64 (S.h:Int))
 f:w.frozen? ⟨b,161,none⟩=false
theorem HSp.drew {w:World} {b:Nat} {S:Sp} (h:HSp w b S):HSp w.drew b S:=⟨h.d,h.p,h.h,h.f⟩
theorem HSp.lt {w:World} {b:Nat} {S:Sp} (h:HSp w b S):b<w.heap.size:=World.block_lt_of_cell? _ _ h.h
theorem HSp.below {w w':World} {b B:Nat} {S:Sp} (h:HSp w b S) (k:Below B w w') (c:b<B):HSp w' b S:=
 ⟨Holds.below h.d k c,Holds.below h.p k c,by rw[k.cell (p:=⟨b,161,none⟩) c];exact h.h,by rw[k.frozen (p:=⟨b,161,none⟩) c];exact h.f⟩
theorem soak_any (b:Nat) (S:Sp) (w:World) (f:S.d.size=25) (g:S.p.size=136) (l:HSp w b S) :
 Calls Tryz.prog 152 #[.pointer (some ⟨b,0,none⟩)] w fun e w'=>e=.returned (.tuple #[])∧Only b 0 162 w w'∧HSp w' b (soakL S):=by
 obtain ⟨d,p,h⟩:=S
 dsimp only at f g
 have B:Holds enc w b 0 d:=l.d
 have A:Holds encB w b 25 p:=l.p
 have a:=l.h
 have hf:=l.f
 dsimp only at a
 rw[soak_mk]
 clear l
 have v:(perm (mixTo p d 17)).size=25:=perm_size _ (by rw[mixTo_size,f])
 generalize r:perm (mixTo p d 17)=D at v ⊢
 have u:Hid (perm (mixTo p d 17)=D):=r
 clear r
 go_enter Tryz.func152,Tryz.ntmps152
 go_wp2
 go_still_tail 7,mixed
 go_wp2_with fail
 refine (mix_any b 0 b 25 136 136 p d _ f (Holds.drew B) (Holds.drew A) g dC (Nat.le_refl _) oM).mono ?_
 rintro e s ⟨rfl,j,n⟩
 have k:Only b 0 25 w s:=((Only.refl b 0 25 w).drew).trans j
 have o:Holds enc s b 0 (mixTo p d 17):=n
 have t:=Holds.same A k oM
 have c1:s.cell? ⟨b,161,none⟩=some (.int .i64 h):=by rw[k.cell 161 oM];exact a
 have C:s.frozen? ⟨b,161,none⟩=false:=by rw[k.froz];exact hf
 clear j n
 go_wp2_with fail
 refine (permute_any b 0 _ _ (by rw[mixTo_size,f]) o).mono ?_
 rintro e m ⟨rfl,c,q⟩
 rw[u.out] at q
 have y:=Holds.same t c oM
 have c2:m.cell? ⟨b,161,none⟩=some (.int .i64 h):=by rw[c.cell 161 oM];exact c1
 have f2:m.frozen? ⟨b,161,none⟩=false:=by rw[c.froz];exact C
 go_wp2
 go_end0
 have i:Only b 161 1 m (m.setCell ⟨b,161,none⟩ (.int .i64 0)):=(Only.refl b 161 1 m).setCell oM oM _
 have z:=Holds.same q i (Or.inl oM)
 have x:=Holds.same y i (Or.inl oM)
 exact ⟨rfl,((k.trans c).widen (Nat.le_refl _) oM).trans (i.widen oM oM),⟨z,x,World.cell?_setCell_same _ _ _ c2,by rw[World.frozen?_setCell];exact f2⟩⟩
end SP
namespace SP
open Go.RowKit Go.Sort Go.Deep
theorem ints5:(Tryz.prog.info? 5).map (·.size)=some 1:=kR
theorem holds_splice {w:World} {b o:Nat} {p:Bs} (h:Holds encB w b o p) (i:Nat) (l:List UInt8) (d:i+l.length≤p.size):Holds encB (w.setCells b (o+i) (l.map encB)) b o (splice p i l):=by
 refine Holds.setCells h _ i (splice_size p i l) (by rw[List.length_map];exact d) (fun j c=>?_) (fun j c k=>?_)
 ·rw[List.length_map] at c
  rw[splice_at p i l (i+j) d oM,if_pos oM,Nat.add_sub_cancel_left,getElem!_pos l j c,List.getElem_map]
 ·rw[List.length_map] at k
  rw[splice_at p i l j d c,if_neg oM]
def piece (b:Bs) (k n:Nat):List UInt8:=(b.toList.drop k).take n
theorem piece_length (b:Bs) (k n:Nat) (h:k+n≤b.size):(piece b k n).length=n:=by
 unfold piece
 rw[List.length_take,List.length_drop,Array.length_toList]
 omega
theorem piece_at (b:Bs) (k n j:Nat) (h:k+n≤b.size) (c:j<n) (d:j<(piece b k n).length):(piece b k n)[j]=b[k+j]!:=by
 have e:(piece b k n)[j]? = some b[k+j]!:=by
  unfold piece
  rw[List.getElem?_take_of_lt c,List.getElem?_drop,Array.getElem?_toList,Array.getElem?_eq_getElem oM,getElem!_pos b (k+j) oM]
 exact (List.getElem?_eq_some_iff.1 e).2
theorem take_piece (b:Bs) (k n:Nat):b.toList.take (k+n)=b.toList.take k++piece b k n:=List.take_add
theorem copy_piece {w:World} {b h e o len cap n:Nat} {p d:Bs} {k:Nat} (q:Holds encB w b 25 p) (a:p.size=136) (u:Holds encB w e o d) (hh:h<136) (z:k+len≤d.size) (g:Nat.min len (136-h)=n) :
 (Builtin.copy_ #[23,23] 3 #[.slice (some ⟨b,25+h,none⟩) (136-h) (136-h),.slice (some ⟨e,o+k,none⟩) len cap]).run Tryz.prog w=.ok (goInt n) (w.setCells b (25+h) ((piece d k n).map encB)):=by
 have t:n≤len:=by rw[← g];exact Nat.min_le_left _ _
 have r:n≤136-h:=by rw[← g];exact Nat.min_le_right _ _
 have c:((piece d k n).map encB).length=n:=by rw[List.length_map,piece_length d k n oM]
 have:=run_copy_cells (P:=Tryz.prog) w 23 23 3 5 b (25+h) (136-h) (136-h) ⟨e,o+k,none⟩ len cap ((piece d k n).map encB) slice22 ints5 (by rw[c,g])
  (fun j v f=>by
   obtain ⟨m,i⟩:=List.getElem?_eq_some_iff.1 f
   rw[c] at m
   have y:=(u (k+j) oM).1
   rw[List.getElem_map,piece_at d k n j oM m] at i
   have s:(⟨e,o+k,none⟩:Addr).add j=⟨e,o+(k+j),none⟩:=by
    unfold Addr.add
    by_cases l:j=0
    ·subst l;rw[if_pos rfl];rfl
    ·rw[if_neg l,Nat.add_assoc]
   rw[s,y,i])
  (fun j f=>by
   rw[c] at f
   have:=(q (h+j) oM).1
   rw[← Nat.add_assoc] at this
   rw[this];rfl)
  (fun j f=>by
   rw[c] at f
   have:=(q (h+j) oM).2
   rw[← Nat.add_assoc] at this
   exact this)
  (fun v hv=>by
   obtain ⟨x,_,rfl⟩:=List.mem_map.1 hv
   rfl)
 rw[c] at this
 exact this
theorem held_set {w:World} {b:Nat} {d:St} {p:Bs} {v:Value} (g:Holds enc w b 0 d) (l:d.size=25) (j:Holds encB w b 25 p) (f:p.size=136) (i:w.cell? ⟨b,161,none⟩=some v) (hf:w.frozen? ⟨b,161,none⟩=false) (m:Nat) :
 HSp (w.setCell ⟨b,161,none⟩ (.int .i64 ((m:Nat):Int))) b ⟨d,p,m⟩:=by
 have e:Only b 161 1 w (w.setCell ⟨b,161,none⟩ (.int .i64 ((m:Nat):Int))):=(Only.refl b 161 1 w).setCell oM oM _
 have k:=Holds.same g e (Or.inl oM)
 have c:=Holds.same j e (Or.inl oM)
 exact ⟨k,c,World.cell?_setCell_same _ _ _ i,by rw[World.frozen?_setCell];exact hf⟩
theorem take_any (b:Nat) (S:Sp) (a:Option Addr) (y A len cap:Nat) (d:Bs) (w:World) (Q:Ok S) (hS:HSp w b S) (hl:d.size=len) (h1:len≤cap) (h2:len≤1099511627776)
 (c:len=0∨(a=some ⟨y,A,none⟩∧y≠b∧Holds encB w y A d)) :
 Calls Tryz.prog 151 #[.pointer (some ⟨b,0,none⟩),.slice a len cap] w fun e w'=>e=.returned (.tuple #[])∧Only b 0 162 w w'∧HSp w' b (takeL S d.toList):=by
 go_enter Tryz.func151,Tryz.ntmps151
 go_wp2
 go_loopg [1] len (fun g s1 wr=>∃ (k:Nat) (Y:Option Addr) (j:Sp),k+g=len∧s1=.slice Y (len-k) (cap-k)∧(k<len→Y=some ⟨y,A+k,none⟩)∧HSp wr b j∧Only b 0 162 w wr∧Hid (j=takeL S (d.toList.take k)))
 case atStart =>
  refine ⟨0,a,S,oM,rfl,fun f=>?_,hS,Only.refl _ _ _ _,rfl⟩
  rcases c with h|⟨h,_,_⟩
  ·omega
  ·exact h
 case round =>
  obtain ⟨k,Y,j,hk,rfl,T,p,hO,Z⟩:=hrel
  by_cases W:k<len
  ·have U:=T W
   subst U
   obtain ⟨_,O,hB⟩:a=some ⟨y,A,none⟩∧y≠b∧Holds encB w y A d:=by
    rcases c with h|h
    ·omega
    ·exact h
   have J:=Holds.other hB hO O oM
   have i:Ok j:=by rw[Z.out];exact takeL_ok Q _
   obtain ⟨q,hh⟩:∃ q,j.h=q:=⟨_,rfl⟩
   have r:=i.hlt
   have C:=i.p136
   rw[hh] at r
   have hc:=p.h
   have hf:=p.f
   rw[hh] at hc
   have R:=p.p
   obtain ⟨n,I⟩:∃ n,Nat.min (len-k) (136-q)=n:=⟨_,rfl⟩
   have l0:(0:Int)<((len-k:Nat):Int):=oM
   have V:(q:Int)≤136:=oM
   have Hh:Hid (j.h=q):=hh
   clear hh
   have L:=eq_false oM
   have h3:1≤n:=by rw[← I];exact (Nat.le_min).2 ⟨oM,oM⟩
   have h5:n≤len-k:=by rw[← I];exact Nat.min_le_left _ _
   have h4:n≤136-q:=by rw[← I];exact Nat.min_le_right _ _
   have P:=copy_piece (w:=wr.drew) (cap:=cap-k) (k:=k) R C J r oM I
   have x:=piece_length d k n oM
   have t:=holds_splice (Holds.drew R) q (piece d k n) oM
   have u:Only b 0 162 w (wr.drew.setCells b (25+q) ((piece d k n).map encB)):=hO.drew.setCells _ _ oM (by rw[List.length_map];omega)
   have B:Only b 25 136 wr (wr.drew.setCells b (25+q) ((piece d k n).map encB)):=((Only.refl b 25 136 wr).drew).setCells _ _ oM (by rw[List.length_map];omega)
   have s:=Holds.same p.d B (Or.inl (by rw[i.d25];omega))
   have c1:(wr.drew.setCells b (25+q) ((piece d k n).map encB)).cell? ⟨b,161,none⟩=some (.int .i64 q):=by rw[B.cell 161 oM];exact hc
   have K:(wr.drew.setCells b (25+q) ((piece d k n).map encB)).frozen? ⟨b,161,none⟩=false:=by rw[B.froz];exact hf
   have M:Hid (takeL S (d.toList.take (k+n))=takeL j (piece d k n)):=by
    show _=_
    rw[take_piece,takeL_append,← Z.out]
   have f:Hid (takeL j (piece d k n)=if q+n=136 then soakL ⟨j.d,splice j.p q (piece d k n),q⟩ else ⟨j.d,splice j.p q (piece d k n),q+n⟩):=by
    show _=_
    have:=takeL_chunk j (piece d k n) (by intro e;rw[e] at x;simp at x;omega) (by rw[x,Hh.out];omega)
    rw[x,Hh.out] at this
    exact this
   have l:(splice j.p q (piece d k n)).size=136:=by rw[splice_size,C]
   have m:=i.d25
   generalize N:wr.drew.setCells b (25+q) ((piece d k n).map encB)=W1 at P t u s c1 K
   generalize splice j.p q (piece d k n)=F at t l f
   generalize j.d=E at s m f
   clear B N R J i x p C I
   have z1:(n:Int)≤((len-k:Nat):Int):=oM
   by_cases z:cap-k=n
   ·have G:(cap-k=n)=True:=eq_true z
    have H:Hid (cap-k=n):=z
    clear z
    by_cases c:q+n=136
    ·have X:((q:Int)+(n:Int) == 136)=true:=beq_iff_eq.2 oM
     rw[if_pos c] at f
     go_wp2_with fail
     go_still_tail 9,mixed
     go_wp2_with fail
     refine (soak_any b ⟨E,F,q+n⟩ _ m l (held_set s m t l c1 K (q+n))).mono ?_
     rintro e w2 ⟨rfl,D,v⟩
     go_wp2
     go_roundg (gk-n)
     case measure=>omega
     case rel =>
      refine ⟨k+n,some ⟨y,A+k,none⟩,soakL ⟨E,F,q⟩,oM,by rw[Nat.sub_sub,Nat.sub_sub],fun hx=>by have:=H.out;omega,?_,?_,?_⟩
      ·rw[soak_mk] at v ⊢
       exact v
      ·exact (u.setCell (o:=161) oM oM _).trans D
      ·rw[M.out,f.out];rfl
    ·have X:=beq_eq_false_iff_ne.2 oM
     rw[if_neg c] at f
     go_wp2_with fail
     go_still_tail 9,mixed
     go_wp2
     go_roundg (gk-n)
     case measure=>omega
     case rel =>
      refine ⟨k+n,some ⟨y,A+k,none⟩,⟨E,F,q+n⟩,oM,by rw[Nat.sub_sub,Nat.sub_sub],fun hx=>by have:=H.out;omega,?_,?_,?_⟩
      ·exact held_set s m t l c1 K (q+n)
      ·exact u.setCell (o:=161) oM oM _
      ·rw[M.out,f.out];rfl
   ·have G:=eq_false z
    by_cases c:q+n=136
    ·have X:=beq_iff_eq.2 oM
     rw[if_pos c] at f
     go_wp2_with fail
     go_still_tail 9,mixed
     go_wp2_with fail
     refine (soak_any b ⟨E,F,q+n⟩ _ m l (held_set s m t l c1 K (q+n))).mono ?_
     rintro e w2 ⟨rfl,D,v⟩
     go_wp2
     go_roundg (gk-n)
     case measure=>omega
     case rel =>
      refine ⟨k+n,some ⟨y,A+k+n,none⟩,soakL ⟨E,F,q⟩,oM,by rw[Nat.sub_sub,Nat.sub_sub],fun _=>by rw[Nat.add_assoc],?_,?_,?_⟩
      ·rw[soak_mk] at v ⊢
       exact v
      ·exact (u.setCell (o:=161) oM oM _).trans D
      ·rw[M.out,f.out];rfl
    ·have X:=beq_eq_false_iff_ne.2 oM
     rw[if_neg c] at f
     go_wp2_with fail
     go_still_tail 9,mixed
     go_wp2
     go_roundg (gk-n)
     case measure=>omega
     case rel =>
      refine ⟨k+n,some ⟨y,A+k+n,none⟩,⟨E,F,q+n⟩,oM,by rw[Nat.sub_sub,Nat.sub_sub],fun _=>by rw[Nat.add_assoc],?_,?_,?_⟩
      ·exact held_set s m t l c1 K (q+n)
      ·exact u.setCell (o:=161) oM oM _
      ·rw[M.out,f.out];rfl
  ·have c:k=len:=oM
   go_wp2
   go_end0
   refine ⟨rfl,hO,?_⟩
   have U:d.toList.take k=d.toList:=List.take_of_length_le (by rw[Array.length_toList];omega)
   rw[Z.out,U] at p
   exact p
end SP
namespace SP
open Go.RowKit Go.Sort Go.Deep
theorem ofInt_toNat8 (x:UInt8):BitVec.ofInt 8 (x.toNat:Int)=x.toBitVec:=by
 apply BitVec.eq_of_toNat_eq
 rw[BitVec.ofInt_natCast,BitVec.toNat_ofNat]
 exact Nat.mod_eq_of_lt x.toNat_lt
theorem bits_xor8 (x y:UInt8):bits .xor .u8 (ub x) (ub y)=ub (x ^^^ y):=by
 show IntKind.u8.wrap ((BitVec.ofInt 8 (x.toNat:Int) ^^^ BitVec.ofInt 8 (y.toNat:Int)).toNat:Int)=_
 rw[ofInt_toNat8,ofInt_toNat8,← UInt8.toBitVec_xor]
 have h:((x ^^^ y).toNat:Int)<256:=by have:=(x ^^^ y).toNat_lt;omega
 have e:∀ n:Int,IntKind.u8.wrap n=n%256:=fun n=>by simp[IntKind.wrap,IntKind.bits,IntKind.signed]
 rw[e]
 exact Int.emod_eq_of_lt (Int.natCast_nonneg _) h
theorem xor80 (x:UInt8):bits .xor .u8 (ub x) 128=ub (x ^^^ 128):=bits_xor8 x 128
theorem zero5:∀ w:World,(zeroValue 5).run Tryz.prog w=.ok (.int .u8 0) w:=fun _=>kR
theorem clear_piece {w:World} {b q:Nat} {p:Bs} (k:Holds encB w b 25 p) (e:p.size=136) (f:q<136) (c:TypeId) :
 (Builtin.clear_ #[23] c #[.slice (some ⟨b,25+q,none⟩) (136-q) (136-q)]).run Tryz.prog w=.ok (.tuple #[]) (w.setCells b (25+q) ((List.replicate (136-q) (0:UInt8)).map encB)):=by
 have h:=Lib.run_clear_slice (P:=Tryz.prog) w 23 5 c (.int .u8 0) slice22 zero5 rfl rfl b (25+q) (136-q) (136-q) oM
  (fun j d=>by
   have:=(k (q+j) oM).1
   rw[← Nat.add_assoc] at this
   rw[this];rfl)
  (fun j d=>by
   have:=(k (q+j) oM).2
   rw[← Nat.add_assoc] at this
   exact this)
 rw[List.map_replicate]
 exact h
theorem end_any (b:Nat) (S:Sp) (e:UInt8) (w:World) (l:Ok S) (z:HSp w b S) :
 Calls Tryz.prog 95 #[.pointer (some ⟨b,0,none⟩),.int .u8 (ub e)] w fun r w'=>r=.returned (.tuple #[])∧Only b 0 162 w w'∧HSp w' b (finalL S e):=by
 obtain ⟨d,p,q⟩:=S
 have O:d.size=25:=l.d25
 have m:p.size=136:=l.p136
 have U:q<136:=l.hlt
 have T:Holds enc w b 0 d:=z.d
 have N:Holds encB w b 25 p:=z.p
 have Q:w.cell? ⟨b,161,none⟩=some (.int .i64 q):=z.h
 have hf:=z.f
 have v:=clear_piece (Holds.drew N) m U 0
 have u:Only b 25 136 w (w.drew.setCells b (25+q) ((List.replicate (136-q) (0:UInt8)).map encB)):=((Only.refl b 25 136 w).drew).setCells _ _ oM (by rw[List.length_map,List.length_replicate];omega)
 have f:=holds_splice (Holds.drew N) q (List.replicate (136-q) (0:UInt8)) (by rw[List.length_replicate];omega)
 have y:(splice p q (List.replicate (136-q) 0)).size=136:=by rw[splice_size,m]
 have A:Hid (finalL ⟨d,p,q⟩ e=soakL ⟨d,((splice p q (List.replicate (136-q) 0)).setIfInBounds q e).setIfInBounds 135 (((splice p q (List.replicate (136-q) 0)).setIfInBounds q e)[135]! ^^^ 128),q⟩):=by
  show _=_
  unfold finalL ended
  rfl
 generalize w.drew.setCells b (25+q) ((List.replicate (136-q) (0:UInt8)).map encB)=D at v u f
 generalize splice p q (List.replicate (136-q) 0)=W at f y A
 have B:(136=q)=False:=eq_false oM
 have L:(q:Int)≤136:=oM
 have C:(q:Int)<136:=oM
 have c1:D.cell? ⟨b,161,none⟩=some (.int .i64 q):=by rw[u.cell 161 oM];exact Q
 obtain ⟨c2,f2⟩:=f q oM
 obtain ⟨k,c⟩:∃ s,W.setIfInBounds q e=s:=⟨_,rfl⟩
 rw[c] at A
 have K:k.size=136:=by rw[← c,Array.size_setIfInBounds,y]
 obtain ⟨x,hx⟩:∃ x,k[135]! = x:=⟨_,rfl⟩
 rw[hx] at A
 have P:=xor80 x
 have t:=Holds.set f (i:=q) oM e
 rw[c] at t
 have a:Only b 25 136 w (D.setCell ⟨b,25+q,none⟩ (.int .u8 (ub e))):=u.setCell (o:=25+q) oM oM _
 have j:Holds encB (D.setCell ⟨b,25+q,none⟩ (.int .u8 (ub e))) b 25 k:=t
 have V:Hid (k[135]! = x):=hx
 rw[A.out]
 clear z l N c hx t A
 have J:(k.setIfInBounds 135 (x ^^^ 128)).size=136:=by rw[Array.size_setIfInBounds,K]
 go_enter Tryz.func95,Tryz.ntmps95
 go_wp2
 go_still_tail 8,mixed
 go_wp2_with fail
 go_region
 go_wp2_with fail
 generalize D.setCell ⟨b,25+q,none⟩ (.int .u8 (ub e))=M at j a ⊢
 obtain ⟨Y,X⟩:=at_byte j 135 oM V.out
 clear c1 c2 f2 v f
 go_region
 go_wp2_with fail
 have F:=Holds.set j (i:=135) oM (x ^^^ 128)
 have g:Only b 25 136 w (M.setCell ⟨b,160,none⟩ (.int .u8 (ub (x ^^^ 128)))):=a.setCell (o:=160) oM oM _
 have n:Holds encB (M.setCell ⟨b,160,none⟩ (.int .u8 (ub (x ^^^ 128)))) b 25 (k.setIfInBounds 135 (x ^^^ 128)):=F
 generalize M.setCell ⟨b,160,none⟩ (.int .u8 (ub (x ^^^ 128)))=R at n g ⊢
 have H:Holds enc R b 0 d:=Holds.same T g (Or.inl oM)
 have E:HSp R b ⟨d,k.setIfInBounds 135 (x ^^^ 128),q⟩:=⟨H,n,by rw[g.cell 161 oM];exact Q,by rw[g.froz];exact hf⟩
 refine (soak_any b ⟨d,k.setIfInBounds 135 (x ^^^ 128),q⟩ _ O J E.drew.drew).mono ?_
 rintro r Z ⟨rfl,I,G⟩
 go_wp2
 go_end0
 exact ⟨rfl,(g.drew.drew.widen oM oM).trans I,G⟩
end SP
namespace SP
open Go.Sort
def permN (d:St):Nat→St
 | 0=>d
 | m+1=>perm (permN d m)
theorem permN_size (d:St) (hd:d.size=25) (m:Nat):(permN d m).size=25:=by
 induction m with
 | zero=>exact hd
 | succ m ih=>exact perm_size _ ih
def streamAt (d:St) (j:Nat):UInt8:=byteOf (permN d (j/136)) (j%136)
def streamL (d:St) (n:Nat):Bs:=Array.ofFn (fun i:Fin n=>streamAt d i.val)
theorem streamL_size (d:St) (n:Nat):(streamL d n).size=n:=by simp[streamL]
theorem streamL_at (d:St) (n j:Nat) (k:j<n):(streamL d n)[j]! = streamAt d j:=by
 rw[getElem!_pos (streamL d n) j (by rw[streamL_size];exact k)]
 simp[streamL]
def S0:Sp:=⟨zero25,Array.replicate 136 0,0⟩
theorem S0_ok:Ok S0:=⟨by simp[S0,zero25],by simp[S0],dC⟩
def absorb (l:List UInt8) (e:UInt8):St:=(finalL (takeL S0 l) e).d
theorem absorb_size (l:List UInt8) (e:UInt8):(absorb l e).size=25:=by
 unfold absorb
 have h:=takeL_ok S0_ok l
 rw[finalL_eq h]
 exact (takeL_ok h _).d25
def hashL (l:List UInt8):Bs:=front (absorb l 6) 32
def strmL (l:List UInt8) (n:Nat):Bs:=streamL (absorb l 31) n
end SP
namespace SP
open Go.RowKit Go.Sort Go.Deep
theorem append_room {w:World} {g l cap r k n c:Nat} {cur f:Bs} (t:Holds encB w g 0 cur) (D:cur.size=cap) (C:Holds encB w r 0 f) (z:f.size=n) (p:k=n) (e:l+n≤cap) (u:TypeId) :
 (Builtin.append_ #[23,23] u #[.slice (some ⟨g,0,none⟩) l cap,.slice (some ⟨r,0,none⟩) k c]).run Tryz.prog w=.ok (.slice (some ⟨g,0,none⟩) (l+n) cap) (w.setCells g l (f.toList.map encB)):=by
 subst p
 obtain ⟨i,B,_,d,_⟩:=info_parts info5
 have b:(f.toList.map encB).length=k:=by rw[List.length_map,Array.length_toList,z]
 have m:Src Tryz.prog i.size 23 (.slice (some ⟨r,0,none⟩) k c) k (f.toList.map encB) w:=by
  rw[d]
  refine Src.ofSlice w slice22 ⟨r,0,none⟩ k c _ (by rw[b,Nat.mul_one]) (fun j v o=>?_) (fun v hv=>?_)
  ·obtain ⟨A,q⟩:=List.getElem?_eq_some_iff.1 o
   rw[b] at A
   have y:=(C j oM).1
   rw[getElem!_pos f j oM] at y
   rw[List.getElem_map,Array.getElem_toList] at q
   have a:(⟨r,0,none⟩:Addr).add j=⟨r,0+j,none⟩:=by
    unfold Addr.add
    by_cases s:j=0
    ·subst s;rw[if_pos rfl]
    ·rw[if_neg s]
   rw[a,y,q]
  ·obtain ⟨x,_,rfl⟩:=List.mem_map.1 hv
   rfl
 have h:=run_append_room_src (P:=Tryz.prog) w 23 23 u 5 i slice22 B g 0 l cap (.slice (some ⟨r,0,none⟩) k c) k _ m e
  (fun j o=>by
   rw[b] at o
   rw[d,Nat.mul_one,Nat.add_assoc,(t (l+j) oM).1];rfl)
  (fun j o=>by
   rw[b] at o
   rw[d,Nat.mul_one,Nat.add_assoc]
   exact (t (l+j) oM).2)
 rw[d,Nat.mul_one,Nat.zero_add] at h
 exact h
theorem Only.with_new {b o n g m p:Nat} {w c d:World} (h:Only b o n w c) (k:Only g p m c d) (r:w.heap.size≤g) (s:b<w.heap.size):Only b o n w d:=by
 have t:=h.size
 have e:=k.block b oM oM
 exact ⟨k.os.trans h.os,k.tape.trans h.tape,k.output.trans h.output,Nat.le_trans h.size k.size,
  fun j l i=>(k.block j oM oM).trans (h.block j l i),
  fun q f=>(World.cell?_of_block (w:=c) (a:=⟨b,q,none⟩) e).trans (h.cell q f),fun q=>(World.frozen?_of_block (w:=c) (a:=⟨b,q,none⟩) e).trans (h.froz q)⟩
theorem permN_pred (d:St) (m:Nat) (h:¬ m=0):perm (permN d (m-1))=permN d m:=by
 obtain ⟨k,rfl⟩:∃ k,m=k+1:=⟨m-1,oM⟩
 rw[Nat.add_sub_cancel,permN]
theorem stream_next (d:St) (m:Nat) (cur:Bs) (b:136*m+136≤cur.size) (h:∀ j,j<136*m→cur[j]! = streamAt d j):∀ j,j<136*(m+1)→(splice cur (136*m) (front (permN d m) 136).toList)[j]! = streamAt d j:=by
 intro j e
 have k:(front (permN d m) 136).toList.length=136:=by rw[Array.length_toList,front_size]
 rw[splice_at _ _ _ _ (by rw[k];exact b) oM,k]
 by_cases c:j<136*m
 ·rw[if_neg oM,h j c]
 ·rw[if_pos oM,getElem!_pos _ (j-136*m) (by rw[k];omega),Array.getElem_toList,← getElem!_pos (front (permN d m) 136) (j-136*m) (by rw[front_size];omega),front_at _ _ _ oM]
  unfold streamAt
  rw[show j/136=m by omega,show j%136=j-136*m by omega]
theorem give_any (b:Nat) (d:St) (n:Nat) (w:World) (f:d.size=25) (Z:Holds enc w b 0 d) (hn:n≤16384) :
 Calls Tryz.prog 203 #[.pointer (some ⟨b,0,none⟩),.int .i64 n] w fun e w'=>e=.returned (.slice (some ⟨w.heap.size,0,none⟩) n n)∧Only b 0 25 w w'∧Holds encB w' w.heap.size 0 (streamL d n):=by
 have K:=Holds.lt Z oM
 obtain ⟨i,hi,I,T,U⟩:=info_parts info5
 obtain ⟨p,R⟩:∃ c,n+136=c:=⟨_,rfl⟩
 have h2:∀ w:World,(Instr.makeSlice 23 (.int .i64 0) (.int .i64 ((n:Int)+136))).run Tryz.prog w=.ok (.slice (some ⟨w.heap.size,0,none⟩) 0 p) (w.alloc (.cells (madeCells #[.int .u8 0] p) 5)):=by
  intro w
  have h:=run_make (P:=Tryz.prog) w 23 5 i (.int .u8 0) slice22 hi I .i64 .i64 0 ((n:Int)+136) oM oM (by rw[U];omega) oM
  rw[T,Nat.mul_one,show ((n:Int)+136).toNat=p by omega] at h
  exact h
 have N:Holds encB (w.alloc (.cells (madeCells #[.int .u8 0] p) 5)) w.heap.size 0 (Array.replicate p 0):=Holds.made (enc:=encB) w 5 p 0
 have S:Only b 0 25 w (w.alloc (.cells (madeCells #[.int .u8 0] p) 5)):=(Only.refl _ _ _ _).alloc K _
 have Y:=Holds.below Z ((Below.refl w.heap.size w).alloc (Nat.le_refl _) (.cells (madeCells #[.int .u8 0] p) 5)) K
 have X:w.heap.size<(w.alloc (.cells (madeCells #[.int .u8 0] p) 5)).heap.size:=by simp
 have O:=mk1 (R)
 go_enter Tryz.func203,Tryz.ntmps203
 go_wp2
 go_loopg [5] p (fun g s5 wr=>∃ (m l:Nat) (cur:Bs),Hid (l=136*m)∧l+g=p∧1≤g∧s5=.slice (some ⟨w.heap.size,0,none⟩) l p∧Holds encB wr w.heap.size 0 cur∧cur.size=p∧Holds enc wr b 0 (permN d (m-1))∧Only b 0 25 w wr∧w.heap.size<wr.heap.size∧Hid (∀ j,j<136*m→cur[j]! = streamAt d j))
 case atStart=>exact ⟨0,0,_,rfl,oM,by have:=O.out;omega,rfl,N,by rw[Array.size_replicate],Y,S,X,fun j W=>oM⟩
 case round =>
  obtain ⟨m,l,cur,D,hg,h3,rfl,L,x,a,V,hs,HE⟩:=hrel
  have M:=permN_size d f (m-1)
  by_cases h4:l<n
  ·have h1:(l:Int)<(n:Int):=oM
   have HN:Hid (∀ j,j<136*(m+1)→(splice cur l (front (permN d m) 136).toList)[j]! = streamAt d j):=by
    rw[D.out]
    exact stream_next d m cur (by rw[← D.out];omega) HE
   by_cases J:m=0
   ·have I:¬ (0:Int)<(l:Int):=by have:=D.out;omega
    have s:Holds enc wr b 0 (permN d m):=by rw[J] at a ⊢;exact a
    go_wp2_with fail
    refine (front_any b 0 136 _ _ (permN_size d f m) s dC).mono ?_
    rintro e E ⟨rfl,q,Q⟩
    have r:=Holds.below L q (Holds.lt L oM)
    have A:=Holds.below s q (Holds.lt s (by rw[permN_size d f];decide))
    have y:=append_room (l:=l) (k:=136) (n:=136) (c:=136) r x Q (front_size _ _) rfl oM 23
    have t:=holds_splice r l (front (permN d m) 136).toList (by rw[Array.length_toList,front_size];omega)
    rw[Nat.zero_add] at t
    have B:=V.trans (Only.of_below q rfl (Holds.lt s (by rw[permN_size d f];decide)))
    have o:Only w.heap.size 0 p E (E.setCells w.heap.size l ((front (permN d m) 136).toList.map encB)):=(Only.refl _ _ _ _).setCells _ _ oM (by rw[List.length_map,Array.length_toList,front_size];omega)
    have z:=B.with_new o (Nat.le_refl _) K
    have v:=Holds.other A o oM (by rw[permN_size d f];decide)
    have u:=Nat.lt_of_lt_of_le (Holds.lt r oM) o.size
    generalize E.setCells w.heap.size l ((front (permN d m) 136).toList.map encB)=F at y t z v u
    have C:Hid _:=y
    go_wp2_with (at_builtin;refine Lib.wpList_append_run _ rfl _ _ 23 23 rfl _ _ rfl rfl _ _ C.out ?_)
    go_roundg (gk-136)
    case measure=>omega
    case rel =>
     exact ⟨m+1,l+136,_,by have:=D.out;show _=_;omega,oM,oM,rfl,t,by rw[splice_size,x],v,z,u,HN⟩
   ·have h0:(0:Int)<(l:Int):=by have:=D.out;omega
    go_wp2_with fail
    refine (permute_any b 0 _ _ M a).mono ?_
    rintro e w1 ⟨rfl,G,s⟩
    rw[permN_pred d m J] at s
    have F:=Holds.other L G oM oM
    have H:=V.trans G
    go_wp2_with fail
    refine (front_any b 0 136 _ _ (permN_size d f m) s dC).mono ?_
    rintro e E ⟨rfl,q,Q⟩
    have r:=Holds.below F q (Holds.lt F oM)
    have A:=Holds.below s q (Holds.lt s (by rw[permN_size d f];decide))
    have y:=append_room (l:=l) (k:=136) (n:=136) (c:=136) r x Q (front_size _ _) rfl oM 23
    have t:=holds_splice r l (front (permN d m) 136).toList (by rw[Array.length_toList,front_size];omega)
    rw[Nat.zero_add] at t
    have B:=H.trans (Only.of_below q rfl (Holds.lt s (by rw[permN_size d f];decide)))
    have o:Only w.heap.size 0 p E (E.setCells w.heap.size l ((front (permN d m) 136).toList.map encB)):=(Only.refl _ _ _ _).setCells _ _ oM (by rw[List.length_map,Array.length_toList,front_size];omega)
    have z:=B.with_new o (Nat.le_refl _) K
    have v:=Holds.other A o oM (by rw[permN_size d f];decide)
    have u:=Nat.lt_of_lt_of_le (Holds.lt r oM) o.size
    have C:Hid _:=y
    go_wp2_with (at_builtin;refine Lib.wpList_append_run _ rfl _ _ 23 23 rfl _ _ rfl rfl _ _ C.out ?_)
    go_roundg (gk-136)
    case measure=>omega
    case rel =>
     exact ⟨m+1,l+136,_,by have:=D.out;show _=_;omega,oM,oM,rfl,t,by rw[splice_size,x],v,z,u,HN⟩
  ·have o:(n:Int)≤(l:Int):=oM
   go_wp2
   go_ret
   refine ⟨rfl,V,fun j W=>?_⟩
   rw[streamL_size] at W
   have:=L j oM
   rw[HE.out j (by have:=D.out;omega)] at this
   rw[streamL_at d n j W]
   exact this
end SP
namespace SP
open Go.RowKit Go.Sort Go.Deep
def spZero:Array Value:=Array.replicate 25 (.int .u64 0)++Array.replicate 136 (.int .u8 0)++#[.int .i64 0]
theorem zero68:∀ w:World,(zeroValue 182).run Tryz.prog w=.ok (.agg spZero) w:=fun _=>kR
theorem spZero_d (j:Nat) (b:j<25):spZero[j]? = some (.int .u64 0):=by
 have k:j<(Array.replicate 25 (Value.int .u64 0)).size:=by rw[Array.size_replicate];exact b
 unfold spZero
 rw[Array.append_assoc,Array.getElem?_append_left k,Array.getElem?_eq_getElem k,Array.getElem_replicate]
theorem spZero_p (j:Nat) (b:j<136):spZero[25+j]? = some (.int .u8 0):=by
 have k:j<(Array.replicate 136 (Value.int .u8 0)).size:=by rw[Array.size_replicate];exact b
 unfold spZero
 rw[Array.append_assoc,Array.getElem?_append_right (by rw[Array.size_replicate];omega),Array.size_replicate,Nat.add_sub_cancel_left,Array.getElem?_append_left k,Array.getElem?_eq_getElem k,Array.getElem_replicate]
theorem spZero_h:spZero[161]? = some (.int .i64 0):=by
 unfold spZero
 rw[Array.getElem?_append_right (by rw[Array.size_append,Array.size_replicate,Array.size_replicate];decide),Array.size_append,Array.size_replicate,Array.size_replicate]
 rfl
theorem hsp_new (w:World) (t:TypeId):HSp (w.alloc (.cells spZero t)) w.heap.size S0:=by
 refine ⟨fun j b=>?_,fun j b=>?_,?_,?_⟩
 ·have k:j<25:=by simpa[S0,zero25] using b
  rw[World.cell?_alloc_new,World.frozen?_alloc_new,Nat.zero_add,spZero_d j k]
  refine ⟨?_,rfl⟩
  have e:S0.d[j]! = 0:=zero25_at j k
  rw[e]
  rfl
 ·have k:j<136:=by simpa[S0] using b
  rw[World.cell?_alloc_new,World.frozen?_alloc_new,spZero_p j k]
  refine ⟨?_,rfl⟩
  have e:S0.p[j]! = 0:=rep_at 136 j k
  rw[e]
  rfl
 ·rw[World.cell?_alloc_new,spZero_h];rfl
 ·rw[World.frozen?_alloc_new]
theorem Stream_yes (a:Option Addr) (c i len cap n:Nat) (d:Bs) (w:World) (A:n≤16384) (v:d.size=len) (j:len≤cap) (m:len≤1099511627776) (f:len=0∨(a=some ⟨c,i,none⟩∧Holds encB w c i d)) :
 Calls Tryz.prog 179 #[.slice a len cap,.int .i64 n] w fun e w'=>∃ r,e=.returned (.tuple #[.slice (some ⟨r,0,none⟩) n n,.int .i64 0])∧w.heap.size≤r∧Below w.heap.size w w'∧Holds encB w' r 0 (strmL d.toList n):=by
 have l:=hsp_new w 182
 have b:Below w.heap.size w (w.alloc (.cells spZero 182)):=(Below.refl _ _).alloc (Nat.le_refl _) _
 have u:w.heap.size<(w.alloc (.cells spZero 182)).heap.size:=by simp
 have k:len=0∨(a=some ⟨c,i,none⟩∧c≠w.heap.size∧Holds encB (w.alloc (.cells spZero 182)) c i d):=by
  by_cases p:len=0
  ·exact Or.inl p
  ·rcases f with h|⟨q,o⟩
   ·exact Or.inl h
   ·have g:=Holds.lt o oM
    exact Or.inr ⟨q,oM,Holds.below o b g⟩
 have D:=zero68
 go_enter Tryz.func179,Tryz.ntmps179
 go_wp2_with fail
 generalize w.alloc (.cells spZero 182)=B at l b u k ⊢
 refine (take_any w.heap.size S0 a c i len cap d B S0_ok l v j m k).mono ?_
 rintro e x ⟨rfl,g,p⟩
 go_wp2_with fail
 refine (end_any w.heap.size (takeL S0 d.toList) 31 x (takeL_ok S0_ok _) p).mono ?_
 rintro e y ⟨rfl,o,q⟩
 have t:=q.d
 go_wp2_with fail
 refine (give_any w.heap.size _ n _ (absorb_size _ _) t A).mono ?_
 rintro e C ⟨rfl,s,z⟩
 go_wp2
 go_ret2
 have s1:=g.size
 have s2:=o.size
 exact ⟨y.heap.size,rfl,oM,(b.trans ((g.trans o).below oM (Nat.le_refl _))).trans (s.below oM (Nat.le_refl _)),z⟩
end SP
namespace SP
open Go.RowKit Go.Sort Go.Deep
def Own (B:Nat) (w:World) (v:Value) (T:List UInt8):Prop:=
 ∃ g cap cur,v=.slice (some ⟨g,0,none⟩) T.length cap∧B≤g∧g<w.heap.size∧Array.size cur=cap∧T.length≤cap∧Holds encB w g 0 cur∧∀ j,j<T.length→cur[j]! = T[j]!
theorem Holds.front {α:Type} [Inhabited α] {f:α→Value} {w:World} {b o:Nat} {d e:Array α} (h:Holds f w b o d) (g:e.size≤d.size) (k:∀ j,j<e.size→e[j]! = d[j]!):Holds f w b o e:=by
 intro j c
 rw[k j c]
 exact h j oM
theorem list_arr_at (T:List UInt8) (j:Nat):T.toArray[j]! = T[j]!:=by
 by_cases h:j<T.length
 ·rw[getElem!_pos T.toArray j (by simpa using h),getElem!_pos T j h]
  simp
 ·rw[getElem!_neg T.toArray j (by simpa using h),getElem!_neg T j h]
variable {B:Nat} {w w1:World} {v:Value} {T:List UInt8}
theorem Own.holds {g cap n:Nat} (h:Own B w (.slice (some ⟨g,0,none⟩) n cap) T):B≤g∧n=T.length∧T.length≤cap∧Holds encB w g 0 T.toArray:=by
 obtain ⟨l,k,cur,hv,c,_,i,b,e,f⟩:=h
 injection hv with e1 e2 e3
 injection e1 with e1
 injection e1 with e1 _ _
 subst e1 e3
 exact ⟨c,e2,b,Holds.front e (by simp;omega) (fun j d=>by rw[list_arr_at];exact (f j (by simpa using d)).symm)⟩
theorem conv_bytes (s:ByteArray) (i:B≤w.heap.size) :
 ∃ b w',(convert 9 23 (.string s)).run Tryz.prog w=.ok b w'∧Own B w' b s.data.toList∧Below w.heap.size w w'∧b=.slice (some ⟨w.heap.size,0,none⟩) s.size (grownCap w s.size 0 5):=by
 have h:=Lib.run_convert_string_bytes (P:=Tryz.prog) w 9 23 5 s str9 slice22 int5
 have f:s.size≤grownCap w s.size 0 5:=by
  unfold grownCap Question.cut
  exact Nat.le_add_right _ _
 have l:s.data.size=s.size:=rfl
 refine ⟨_,_,h,⟨w.heap.size,grownCap w s.size 0 5,s.data++Array.replicate (grownCap w s.size 0 5-s.size) 0,?_,i,by rw[Lib.bytesWorld_size];omega,?_,?_,?_,?_⟩,?_,rfl⟩
 ·rw[Array.length_toList];rfl
 ·rw[Array.size_append,Array.size_replicate];omega
 ·rw[Array.length_toList];omega
 ·intro j b
  rw[Array.size_append,Array.size_replicate] at b
  have e:=Lib.bytesWorld_at_new w 5 s
  have d:(Lib.bytesCells w 5 s).size=grownCap w s.size 0 5:=by
   unfold Lib.bytesCells
   rw[Array.size_append,Array.size_map,Array.size_replicate]
   omega
  have g:(Lib.bytesCells w 5 s)=(s.data++Array.replicate (grownCap w s.size 0 5-s.size) 0).map encB:=by
   unfold Lib.bytesCells
   rw[Array.map_append,Array.map_replicate]
   rfl
  have c:j<(s.data++Array.replicate (grownCap w s.size 0 5-s.size) 0).size:=by rw[Array.size_append,Array.size_replicate];exact b
  constructor
  ·unfold World.cell?
   rw[e]
   simp only[Nat.zero_add]
   rw[if_neg dC,g,Array.getElem?_map,Array.getElem?_eq_getElem c,Option.map_some,getElem!_pos _ j c]
  ·unfold World.frozen?
   rw[e]
   simp only[Nat.zero_add,d]
   simp
   omega
 ·intro j b
  rw[Array.length_toList] at b
  rw[app_front _ _ j b,getElem!_pos s.data.toList j (by rw[Array.length_toList];exact b),Array.getElem_toList]
 ·refine ⟨?_,?_,?_,?_,fun k b=>Lib.bytesWorld_at_old w 5 s k b⟩
  ·unfold Lib.bytesWorld World.freeze
   rw[if_neg dC]
   rfl
  ·unfold Lib.bytesWorld World.freeze
   rw[if_neg dC]
   rfl
  ·unfold Lib.bytesWorld World.freeze
   rw[if_neg dC]
   rfl
  ·rw[Lib.bytesWorld_size];omega
theorem Holds.below' {α:Type} [Inhabited α] {f:α→Value} {w e:World} {b o:Nat} {d:Array α} (h:Holds f w b o d) (k:Below w.heap.size w e):Holds f e b o d:=by
 intro j g
 have c:=Holds.lt h oM
 exact Holds.below h k c j g
theorem hashL_size (l:List UInt8):(hashL l).size=32:=by rw[hashL,front_size]
end SP
namespace SP
open Go.RowKit Go.Sort Go.Deep
def lenB (n d:Nat):UInt8:=UInt8.ofNat (n/d)
theorem lenB_int (n d:Nat):(n:Int)/(d:Int)%256=ub (lenB n d):=by
 have k:((n:Int)/(d:Int))=((n/d:Nat):Int):=by rw[Int.natCast_ediv]
 rw[k]
 unfold ub lenB
 rw[UInt8.toNat_ofNat']
 omega
theorem lenB_one (n:Nat):(n:Int)%256=ub (lenB n 1):=by
 have:=lenB_int n 1
 rw[show ((1:Nat):Int)=1 from rfl,Int.ediv_one] at this
 exact this
def frameL (l:List UInt8):List UInt8:=[lenB l.length 16777216,lenB l.length 65536,lenB l.length 256,lenB l.length 1]++l
theorem holds_four (w:World) (x y z t:UInt8):Holds encB (w.alloc (.cells #[.int .u8 (ub x),.int .u8 (ub y),.int .u8 (ub z),.int .u8 (ub t)] 5)) w.heap.size 0 #[x,y,z,t]:=by
 have h:=Holds.new (enc:=encB) w 5 #[x,y,z,t]
 have e:Array.map encB #[x,y,z,t]=#[.int .u8 (ub x),.int .u8 (ub y),.int .u8 (ub z),.int .u8 (ub t)]:=by simp[encB]
 rw[e] at h
 exact h
theorem takeFrame_any (b:Nat) (S:Sp) (a:Option Addr) (c i len cap:Nat) (f:Bs) (w:World) (t:Ok S) (D:HSp w b S) (B:f.size=len) (n:len≤cap) (r:len≤1099511627776)
 (g:len=0∨(a=some ⟨c,i,none⟩∧c≠b∧Holds encB w c i f)) :
 Calls Tryz.prog 94 #[.pointer (some ⟨b,0,none⟩),.slice a len cap] w fun e w'=>e=.returned (.tuple #[])∧Only b 0 162 w w'∧HSp w' b (takeL S (frameL f.toList)):=by
 have E:=D.lt
 have b0:(len:Int)/16777216%256=ub (lenB len 16777216):=lenB_int len 16777216
 have b1:(len:Int)/65536%256=ub (lenB len 65536):=lenB_int len 65536
 have H:(len:Int)/256%256=ub (lenB len 256):=lenB_int len 256
 have I:(len:Int)%256=ub (lenB len 1):=lenB_one len
 have F:Hid (frameL f.toList=(#[lenB len 16777216,lenB len 65536,lenB len 256,lenB len 1]:Bs).toList++f.toList):=by
  unfold frameL
  rw[Array.length_toList,B]
  rfl
 have A:=holds_four w (lenB len 16777216) (lenB len 65536) (lenB len 256) (lenB len 1)
 generalize lenB len 16777216=m at *
 generalize lenB len 65536=q at *
 generalize lenB len 256=j at *
 generalize lenB len 1=o at *
 have d:Below w.heap.size w (w.alloc (.cells #[.int .u8 (ub m),.int .u8 (ub q),.int .u8 (ub j),.int .u8 (ub o)] 5)):=(Below.refl _ _).alloc (Nat.le_refl _) _
 have l:=D.below d E
 have p:Only b 0 162 w (w.alloc (.cells #[.int .u8 (ub m),.int .u8 (ub q),.int .u8 (ub j),.int .u8 (ub o)] 5)):=Only.of_below d rfl E
 have k:len=0∨(a=some ⟨c,i,none⟩∧c≠b∧Holds encB (w.alloc (.cells #[.int .u8 (ub m),.int .u8 (ub q),.int .u8 (ub j),.int .u8 (ub o)] 5)) c i f):=by
  by_cases x:len=0
  ·exact Or.inl x
  ·rcases g with h|⟨y,u,v⟩
   ·exact Or.inl h
   ·exact Or.inr ⟨y,u,Holds.below v d (Holds.lt v oM)⟩
 go_enter Tryz.func94,Tryz.ntmps94
 go_wp2_with fail
 generalize w.alloc (.cells #[.int .u8 (ub m),.int .u8 (ub q),.int .u8 (ub j),.int .u8 (ub o)] 5)=G at A d l p k ⊢
 refine (take_any b S (some ⟨w.heap.size,0,none⟩) w.heap.size 0 4 4 #[m,q,j,o] G t l rfl (Nat.le_refl _) dC (Or.inr ⟨rfl,oM,A⟩)).mono ?_
 rintro e C ⟨rfl,s,z⟩
 have g:len=0∨(a=some ⟨c,i,none⟩∧c≠b∧Holds encB C c i f):=by
  by_cases x:len=0
  ·exact Or.inl x
  ·rcases k with h|⟨y,u,v⟩
   ·exact Or.inl h
   ·exact Or.inr ⟨y,u,Holds.other v s u oM⟩
 go_wp2_with fail
 refine (take_any b _ a c i len cap f C (takeL_ok t _) z B n r g).mono ?_
 rintro e x ⟨rfl,v,u⟩
 go_wp2
 go_end0
 refine ⟨rfl,(p.trans s).trans v,?_⟩
 rw[F.out,takeL_append]
 exact u
end SP
namespace SP
open Go.RowKit Go.Sort Go.Deep
def framesL (k:List UInt8) (b:List (List UInt8)):List UInt8:=frameL k++b.flatMap frameL
def tagL (k:List UInt8) (b:List (List UInt8)):Bs:=hashL (framesL k b)
theorem tagL_size (k:List UInt8) (b:List (List UInt8)):(tagL k b).size=32:=hashL_size _
theorem framesL_snoc (k:List UInt8) (b:List (List UInt8)) (x:List UInt8):framesL k (b++[x])=framesL k b++frameL x:=by
 unfold framesL
 rw[List.flatMap_append,← List.append_assoc]
 simp
def PartOk (w:World) (v:Value) (x:List UInt8):Prop:=
 ∃ a c b cap k,v=.slice a (Array.size k) cap∧k.toList=x∧k.size≤cap∧k.size≤1099511627776∧(k.size=0∨(a=some ⟨c,b,none⟩∧Holds encB w c b k))
theorem PartOk.below {w c:World} {v:Value} {x:List UInt8} (h:PartOk w v x) (k:Below w.heap.size w c):PartOk c v x:=by
 obtain ⟨a,g,d,cap,i,m,e,j,l,b⟩:=h
 refine ⟨a,g,d,cap,i,m,e,j,l,?_⟩
 rcases b with b|⟨b,f⟩
 ·exact Or.inl b
 ·exact Or.inr ⟨b,Holds.below' f k⟩
def PartsOk (w:World) (d:Option Addr) (k:List (List UInt8)):Prop:=
 k.length=0∨∃ c b,d=some ⟨c,b,none⟩∧∀ j,j<k.length→∃ v,w.cell? ⟨c,b+j,none⟩=some v∧PartOk w v k[j]!
theorem PartsOk.below {w c:World} {d:Option Addr} {f:List (List UInt8)} (h:PartsOk w d f) (k:Below w.heap.size w c):PartsOk c d f:=by
 rcases h with h|⟨e,b,n,i⟩
 ·exact Or.inl h
 ·refine Or.inr ⟨e,b,n,fun j l=>?_⟩
  obtain ⟨v,g,m⟩:=i j l
  exact ⟨v,by rw[k.cell (p:=⟨e,b+j,none⟩) (World.block_lt_of_cell? _ _ g)];exact g,m.below k⟩
theorem take_snoc_getD {α:Type} [Inhabited α] (l:List α) (k:Nat) (h:k<l.length):l.take (k+1)=l.take k++[l[k]!]:=by
 rw[List.take_succ_eq_append_getElem h,getElem!_pos l k h]
theorem Tag_any (b:ByteArray) (Q:Option Addr) (E:Nat) (c:List (List UInt8)) (w:World) (h8:b.size≤1048576) (hc:c.length≤1048576) (hP:PartsOk w Q c) :
 Calls Tryz.prog 46 #[.string b,.slice Q c.length E] w fun e w'=>∃ r,e=.returned (.slice (some ⟨r,0,none⟩) 32 32)∧w.heap.size≤r∧Below w.heap.size w w'∧Holds encB w' r 0 (tagL b.data.toList c):=by
 have u:=hsp_new w 182
 have K:Below w.heap.size w (w.alloc (.cells spZero 182)):=(Below.refl _ _).alloc (Nat.le_refl _) _
 have H:(w.alloc (.cells spZero 182)).heap.size=w.heap.size+1:=by simp
 have zv:=zero68
 generalize N:w.alloc (.cells spZero 182)=T at u K H
 obtain ⟨v2,W2,s,f,l,h5⟩:=conv_bytes (w:=T) (B:=0) b (Nat.zero_le _)
 rw[h5] at s f
 obtain ⟨X,z,G,h3⟩:=f.holds
 rw[← z] at G
 clear X z
 have d:Holds encB W2 T.heap.size 0 b.data:=by simpa using h3
 have S:=u.below l u.lt
 have ha:=l.size
 obtain ⟨n,hn⟩:∃ n,c.length=n:=⟨_,rfl⟩
 rw[hn]
 have M:=mk1 (hn)
 rw[H] at s d
 generalize hi:grownCap T b.size 0 5=c2 at *
 have h7:(convert 9 23 (.string b)).run Tryz.prog (w.alloc (.cells spZero 182))=.ok (.slice (some ⟨w.heap.size+1,0,none⟩) b.size c2) W2:=by rw[N];exact s
 go_enter Tryz.func46,Tryz.ntmps46
 go_wp2_with fail
 refine (takeFrame_any w.heap.size S0 (some ⟨w.heap.size+1,0,none⟩) (w.heap.size+1) 0 b.size c2 b.data W2 S0_ok S rfl oM oM (Or.inr ⟨rfl,oM,d⟩)).mono ?_
 rintro e w3 ⟨rfl,R,A⟩
 have h4:=(K.trans (l.mono oM)).trans (R.below oM (Nat.le_refl _))
 have he:=A.lt
 go_wp2
 go_loopg [13] n (fun g s13 wr=>∃ (k:Nat) (q:Sp),k+g=n∧s13=.int .i64 k∧HSp wr w.heap.size q∧Below w.heap.size w wr∧Ok q∧Hid (q=takeL S0 (framesL b.data.toList (c.take k))))
 case atStart =>
  refine ⟨0,_,oM,rfl,A,h4,takeL_ok S0_ok _,?_⟩
  rw[List.take_zero]
  unfold framesL
  rw[List.flatMap_nil,List.append_nil]
  rfl
 case round =>
  obtain ⟨k,q,hk,rfl,F,x,o,HE⟩:=hrel
  by_cases hg:k<n
  ·obtain ⟨J,D,rfl,C⟩:∃ J D,Q=some ⟨J,D,none⟩∧∀ j,j<c.length→∃ v,w.cell? ⟨J,D+j,none⟩=some v∧PartOk w v c[j]!:=by
    rcases hP with h|h
    ·have:=M.out;omega
    ·exact h
   obtain ⟨v,t,h6⟩:=C k (by have:=M.out;omega)
   have W:=World.block_lt_of_cell? _ _ t
   have h9:wr.cell? ⟨J,D+k,none⟩=some v:=by rw[x.cell (p:=⟨J,D+k,none⟩) W];exact t
   obtain ⟨a,L,P,cap,y,rfl,I,U,Z,i⟩:=h6
   have m:y.size=0∨(a=some ⟨L,P,none⟩∧L≠w.heap.size∧Holds encB wr L P y):=by
    by_cases Y:y.size=0
    ·exact Or.inl Y
    ·rcases i with h|⟨V,O⟩
     ·exact Or.inl h
     ·have:=Holds.lt O oM
      exact Or.inr ⟨V,oM,Holds.below O x this⟩
   have HB:Hid (y.toList=c[k]!):=I
   have l1:(k:Int)<(n:Int):=oM
   generalize Y:y.size=bz at *
   clear t i C I
   go_wp2_with fail
   refine (takeFrame_any w.heap.size q a L P bz cap y wr o F Y U Z m).mono ?_
   rintro e w4 ⟨rfl,V,O⟩
   go_wp2
   go_roundg (gk-1)
   case measure=>omega
   case rel =>
    refine ⟨k+1,_,oM,by go_num,O,x.trans (V.below x.size (Nat.le_refl _)),takeL_ok o _,?_⟩
    rw[take_snoc_getD c k (by have:=M.out;omega),framesL_snoc,takeL_append,← HE.out,HB.out]
    rfl
  ·have O:k=n:=oM
   have D:Hid (q=takeL S0 (framesL b.data.toList c)):=by
    have i:c.take k=c:=List.take_of_length_le (by have:=M.out;omega)
    rw[i] at HE
    exact HE
   go_wp2_with fail
   refine (end_any w.heap.size q 6 wr o F).mono ?_
   rintro e I ⟨rfl,i,C⟩
   have y:Holds enc I w.heap.size 0 (absorb (framesL b.data.toList c) 6):=by
    have:=C.d
    rw[D.out] at this
    exact this
   go_wp2_with fail
   refine (front_any w.heap.size 0 32 _ _ (absorb_size _ _) y dC).mono ?_
   rintro e P ⟨rfl,t,m⟩
   have J:=i.size
   have L:=x.size
   go_wp2
   go_ret
   exact ⟨I.heap.size,rfl,oM,(x.trans (i.below x.size (Nat.le_refl _))).trans (t.mono oM),m⟩
end SP
namespace SP
open Go.RowKit Go.Sort Go.Deep
variable {B:Nat} {w w1:World} {v:Value} {T:List UInt8}
set_option maxRecDepth 4000
end SP
namespace SP
open Go.RowKit Go.Sort Go.Deep
theorem copy_log {w:World} {b r:Nat} {L T:Bs} (g:Holds encB w b 0 L) (o:L.size=32) (m:Holds encB w r 0 T) (n:T.size=32) :
 (Builtin.copy_ #[23,23] 3 #[.slice (some ⟨b,0,none⟩) 32 32,.slice (some ⟨r,0,none⟩) 32 32]).run Tryz.prog w=.ok (goInt 32) (w.setCells b 0 (T.toList.map encB)):=by
 have k:(T.toList.map encB).length=32:=by rw[List.length_map,Array.length_toList,n]
 have:=run_copy_cells (P:=Tryz.prog) w 23 23 3 5 b 0 32 32 ⟨r,0,none⟩ 32 32 (T.toList.map encB) slice22 ints5 (by rw[k];rfl)
  (fun j u c=>by
   obtain ⟨l,d⟩:=List.getElem?_eq_some_iff.1 c
   rw[k] at l
   have f:=(m j oM).1
   rw[getElem!_pos T j oM] at f
   rw[List.getElem_map,Array.getElem_toList] at d
   have i:(⟨r,0,none⟩:Addr).add j=⟨r,0+j,none⟩:=by
    unfold Addr.add
    by_cases e:j=0
    ·subst e;rw[if_pos rfl]
    ·rw[if_neg e]
   rw[i,f,d])
  (fun j c=>by rw[(g j oM).1];rfl) (fun j c=>(g j oM).2)
  (fun u d=>by obtain ⟨x,_,rfl⟩:=List.mem_map.1 d;rfl)
 rw[k] at this
 exact this
theorem holds_copied {w:World} {b:Nat} {L T:Bs} (e:Holds encB w b 0 L) (g:L.size=32) (d:T.size=32):Holds encB (w.setCells b 0 (T.toList.map encB)) b 0 T:=by
 have k:(T.toList.map encB).length=32:=by rw[List.length_map,Array.length_toList,d]
 refine Holds.setCells e (T.toList.map encB) 0 oM oM (fun j c=>?_) (fun j i f=>oM)
 rw[k] at c
 rw[List.getElem_map,Array.getElem_toList,Nat.zero_add,getElem!_pos T j oM]
theorem become_end {w c:World} {b:Nat} {L T:Bs} (i:Holds encB w b 0 L) (g:L.size=32) (f:T.size=32) (d:b<w.heap.size) (k:Below w.drew.heap.size w.drew c) :
 Only b 0 32 w (c.setCells b 0 (T.toList.map encB))∧Holds encB (c.setCells b 0 (T.toList.map encB)) b 0 T:=by
 have e:(T.toList.map encB).length=32:=by rw[List.length_map,Array.length_toList,f]
 refine ⟨?_,holds_copied (Holds.below (Holds.drew i) k d) g f⟩
 exact Only.setCells (((Only.refl b 0 32 w).drew).trans (Only.of_below k rfl d)) _ 0 (Nat.le_refl _) oM
theorem become_any (b:Nat) (L:Bs) (k:ByteArray) (o:Option Addr) (c n:Nat) (g:List (List UInt8)) (w:World) (d:k.size≤1048576) (l:g.length=n) (x:n≤1048576) (y:PartsOk w o g) (p:Holds encB w b 0 L) (q:L.size=32) :
 Calls Tryz.prog 186 #[.pointer (some ⟨b,0,none⟩),.string k,.slice o n c] w fun e w'=>e=.returned (.tuple #[])∧Only b 0 32 w w'∧Holds encB w' b 0 (tagL k.data.toList g):=by
 subst l
 have r:=Holds.lt p oM
 have s:=Tag_any k o c g w.drew d x (y.below ((Below.refl _ _).drew))
 generalize v:tagL k.data.toList g=T at s ⊢
 have f:T.size=32:=by rw[← v,tagL_size]
 have z:=mk1 (s)
 go_enter Tryz.func186,Tryz.ntmps186
 go_wp2
 go_region_with (go_at_call 46;refine Calls.mono z.out ?_;rintro e a ⟨A,rfl,t,i,m⟩;have u:=copy_log (Holds.below (Holds.drew p) i r) q m f;have j:=become_end p q f r i)
 all_goals (try go_wp2)
 all_goals go_end0
 all_goals exact ⟨rfl,j⟩
end SP
namespace SP
open Go.RowKit Go.Sort Go.Deep
def encV (v:Value):Value:=v
theorem strm_size (l:List UInt8) (n:Nat):(strmL l n).size=n:=by rw[strmL,streamL_size]
def newL (k:List UInt8):Bs:=tagL [108,111,103] [k]
def sayL (L:Bs) (k b:List UInt8):Bs:=tagL [115,97,121] [L.toList,k,b]
def askL (L:Bs) (k:List UInt8) (n:Nat):Bs:=strmL (tagL [97,115,107] [L.toList,k]).toList n
def askedL (L:Bs) (k:List UInt8):Bs:=tagL [97,115,107,101,100] [L.toList,k]
theorem newL_size (l:List UInt8):(newL l).size=32:=tagL_size _ _
theorem sayL_size (L:Bs) (l t:List UInt8):(sayL L l t).size=32:=tagL_size _ _
theorem askedL_size (L:Bs) (l:List UInt8):(askedL L l).size=32:=tagL_size _ _
theorem askL_size (L:Bs) (l:List UInt8) (n:Nat):(askL L l n).size=n:=strm_size _ _
theorem conv_part (s:ByteArray) (w:World) (q:s.size≤1099511627776) :
 ∃ c w',(convert 9 23 (.string s)).run Tryz.prog w=.ok (.slice (some ⟨w.heap.size,0,none⟩) s.size c) w'∧s.size≤c∧Holds encB w' w.heap.size 0 s.data∧PartOk w' (.slice (some ⟨w.heap.size,0,none⟩) s.size c) s.data.toList∧Below w.heap.size w w'∧w.heap.size<w'.heap.size:=by
 obtain ⟨v2,o,f,k,j,n⟩:=conv_bytes (w:=w) (B:=0) s (Nat.zero_le _)
 rw[n] at f k
 have m:w.heap.size<o.heap.size:=by
  obtain ⟨g,cap,cur,b,_,d,_⟩:=k
  injection b with b
  injection b with b
  injection b with b
  omega
 obtain ⟨p,l,d,i⟩:=k.holds
 rw[← l] at d
 have b:Holds encB o w.heap.size 0 s.data:=by simpa using i
 have e:=d
 exact ⟨_,o,f,e,b,⟨_,w.heap.size,0,_,s.data,rfl,rfl,e,q,Or.inr ⟨rfl,b⟩⟩,j,m⟩
theorem parts_new (W:World) (vs:Array Value) (k:List (List UInt8)) (t:TypeId) (d:vs.size=k.length) (h:∀ j,j<k.length→PartOk W vs[j]! k[j]!) :
 PartsOk (W.alloc (.cells vs t)) (some ⟨W.heap.size,0,none⟩) k:=by
 refine Or.inr ⟨W.heap.size,0,rfl,fun j c=>⟨vs[j]!,?_,(h j c).below ((Below.refl _ _).alloc (Nat.le_refl _) _)⟩⟩
 have b:vs.map encV=vs:=by
  have:encV=id:=rfl
  rw[this,Array.map_id]
 have:=(Holds.new (enc:=encV) W t vs j oM).1
 rw[b] at this
 exact this
theorem part_log {w:World} {b:Nat} {L:Bs} (c:Holds encB w b 0 L) (k:L.size=32):PartOk w (.slice (some ⟨b,0,none⟩) 32 32) L.toList:=
 ⟨_,b,0,32,L,by rw[k],rfl,oM,oM,Or.inr ⟨rfl,c⟩⟩
theorem zeroLog:∀ w:World,(zeroValue 272).run Tryz.prog w=.ok (.agg (Array.replicate 32 (.int .u8 0))) w:=fun _=>kR
theorem NewLog_any (k:ByteArray) (w:World) (v:k.size≤1048576) :
 Calls Tryz.prog 205 #[.string k] w fun e w'=>e=.returned (.pointer (some ⟨w.heap.size,0,none⟩))∧Below w.heap.size w w'∧Holds encB w' w.heap.size 0 (newL k.data.toList):=by
 have a:=zeroLog
 have s:Holds encB (w.alloc (.cells (Array.replicate 32 (.int .u8 0)) 272)) w.heap.size 0 (Array.replicate 32 0):=by
  have:=Holds.new (enc:=encB) w 272 (Array.replicate 32 0)
  rw[Array.map_replicate] at this
  exact this
 have q:Below w.heap.size w (w.alloc (.cells (Array.replicate 32 (.int .u8 0)) 272)):=(Below.refl _ _).alloc (Nat.le_refl _) _
 have u:(w.alloc (.cells (Array.replicate 32 (.int .u8 0)) 272)).heap.size=w.heap.size+1:=by simp
 obtain ⟨c,n,r,A,x,o,i,m⟩:=conv_part k (w.alloc (.cells (Array.replicate 32 (.int .u8 0)) 272)) oM
 have l:=Holds.below' s i
 have f:=parts_new n #[.slice (some ⟨(w.alloc (.cells (Array.replicate 32 (.int .u8 0)) 272)).heap.size,0,none⟩) k.size c] [k.data.toList] 23 rfl (fun j y=>by
  have b:j=0:=by simpa using y
  subst b
  exact o)
 have d:Below n.heap.size n (n.alloc (.cells #[.slice (some ⟨(w.alloc (.cells (Array.replicate 32 (.int .u8 0)) 272)).heap.size,0,none⟩) k.size c] 23)):=(Below.refl _ _).alloc (Nat.le_refl _) _
 have b:=Holds.below' l d
 rw[u] at r f d b m
 have g:=(q.trans (i.mono oM)).trans (d.mono oM)
 go_enter Tryz.func205,Tryz.ntmps205
 go_wp2_with fail
 refine (become_any w.heap.size (Array.replicate 32 0) ⟨#[108,111,103]⟩ (some ⟨n.heap.size,0,none⟩) 1 1 [k.data.toList] _ dC rfl dC f b (by simp)).mono ?_
 rintro e z ⟨rfl,p,t⟩
 go_wp2
 go_ret
 exact ⟨rfl,g.trans (p.below g.size (Nat.le_refl _)),t⟩
end SP
namespace SP
open Go.RowKit Go.Sort Go.Deep
theorem Say_any (b:Nat) (L:Bs) (k:ByteArray) (l:Option Addr) (i m:Nat) (d:List UInt8) (w:World) (x:k.size≤1048576) (A:Holds encB w b 0 L) (y:L.size=32) (B:PartOk w (.slice l i m) d) :
 Calls Tryz.prog 134 #[.pointer (some ⟨b,0,none⟩),.string k,.slice l i m] w fun e w'=>e=.returned (.tuple #[])∧Only b 0 32 w w'∧Holds encB w' b 0 (sayL L k.data.toList d):=by
 have z:=Holds.lt A oM
 obtain ⟨c,g,E,G,C,o,f,a⟩:=conv_part k w oM
 have n:=Holds.below A f z
 have p:=B.below f
 have q:=parts_new g #[.slice (some ⟨b,0,none⟩) 32 32,.slice (some ⟨w.heap.size,0,none⟩) k.size c,.slice l i m] [L.toList,k.data.toList,d] 23 rfl (fun j D=>by
  have r:j<3:=D
  match j,r with
  | 0,_=>exact part_log n y
  | 1,_=>exact o
  | 2,_=>exact p)
 have s:Below g.heap.size g (g.alloc (.cells #[.slice (some ⟨b,0,none⟩) 32 32,.slice (some ⟨w.heap.size,0,none⟩) k.size c,.slice l i m] 23)):=(Below.refl _ _).alloc (Nat.le_refl _) _
 have t:=Holds.below' n s
 have u:Only b 0 32 w (g.alloc (.cells #[.slice (some ⟨b,0,none⟩) 32 32,.slice (some ⟨w.heap.size,0,none⟩) k.size c,.slice l i m] 23)):=(Only.of_below f rfl z).alloc oM _
 go_enter Tryz.func134,Tryz.ntmps134
 go_wp2_with fail
 refine (become_any b L ⟨#[115,97,121]⟩ (some ⟨g.heap.size,0,none⟩) 3 3 [L.toList,k.data.toList,d] _ dC rfl dC q t y).mono ?_
 rintro e F ⟨rfl,r,v⟩
 go_wp2
 go_end0
 exact ⟨rfl,u.trans r,v⟩
theorem Ask_yes (b:Nat) (L:Bs) (k:ByteArray) (n:Nat) (w:World) (W:k.size≤1048576) (hn:n≤1024) (hL:Holds encB w b 0 L) (M:L.size=32) :
 Calls Tryz.prog 215 #[.pointer (some ⟨b,0,none⟩),.string k,.int .i64 n] w fun e w'=>∃ r,e=.returned (.tuple #[.slice (some ⟨r,0,none⟩) n n,.int .i64 0])∧w.heap.size≤r∧Only b 0 32 w w'∧Holds encB w' b 0 (askedL L k.data.toList)∧Holds encB w' r 0 (askL L k.data.toList n):=by
 have R:=Holds.lt hL oM
 obtain ⟨c,i,he,hc,T,m,v,h4⟩:=conv_part k w oM
 have d:=Holds.below hL v R
 have s:=parts_new i #[.slice (some ⟨b,0,none⟩) 32 32,.slice (some ⟨w.heap.size,0,none⟩) k.size c] [L.toList,k.data.toList] 23 rfl (fun j C=>by
  have f:j<2:=C
  match j,f with
  | 0,_=>exact part_log d M
  | 1,_=>exact m)
 have x:Below i.heap.size i (i.alloc (.cells #[.slice (some ⟨b,0,none⟩) 32 32,.slice (some ⟨w.heap.size,0,none⟩) k.size c] 23)):=(Below.refl _ _).alloc (Nat.le_refl _) _
 have z:=Holds.below' d x
 have B:Only b 0 32 w (i.alloc (.cells #[.slice (some ⟨b,0,none⟩) 32 32,.slice (some ⟨w.heap.size,0,none⟩) k.size c] 23)):=(Only.of_below v rfl R).alloc oM _
 have d0:decide ((n:Int)<0)=false:=decide_eq_false oM
 have d1:¬ (1024:Int)<(n:Int):=oM
 clear T m x
 go_enter Tryz.func215,Tryz.ntmps215
 go_wp2_with fail
 refine (Tag_any ⟨#[97,115,107]⟩ (some ⟨i.heap.size,0,none⟩) 2 [L.toList,k.data.toList] _ dC (by show 2≤1048576;omega) s).mono ?_
 rintro e w3 ⟨Z,rfl,h5,t,O⟩
 have J:=Holds.below' z t
 have A:=B.trans (Only.of_below t rfl (Nat.lt_of_lt_of_le R B.size))
 clear s z d
 go_wp2_with fail
 refine (Stream_yes (some ⟨Z,0,none⟩) Z 0 32 32 n _ _ oM (tagL_size _ _) oM oM (Or.inr ⟨rfl,O⟩)).mono ?_
 rintro e a ⟨E,rfl,h9,q,U⟩
 have P:=Holds.below' J q
 have h8:=A.size
 have y:=A.trans (Only.of_below q rfl oM)
 have I:Holds encB a E 0 (askL L k.data.toList n):=U
 have ha:=y.size
 obtain ⟨K,l,X,h7,h6,H,g,h0⟩:=conv_part k a oM
 have u:=Holds.below' P g
 have V:=Holds.below' I g
 have p:=parts_new l #[.slice (some ⟨b,0,none⟩) 32 32,.slice (some ⟨a.heap.size,0,none⟩) k.size K] [L.toList,k.data.toList] 23 rfl (fun j C=>by
  have f:j<2:=C
  match j,f with
  | 0,_=>exact part_log u M
  | 1,_=>exact H)
 have D:Below l.heap.size l (l.alloc (.cells #[.slice (some ⟨b,0,none⟩) 32 32,.slice (some ⟨a.heap.size,0,none⟩) k.size K] 23)):=(Below.refl _ _).alloc (Nat.le_refl _) _
 have N:=Holds.below' u D
 have F:=Holds.below' V D
 have S:Only b 0 32 w (l.alloc (.cells #[.slice (some ⟨b,0,none⟩) 32 32,.slice (some ⟨a.heap.size,0,none⟩) k.size K] 23)):=y.trans ((Only.of_below g rfl oM).alloc oM _)
 go_wp2_with fail
 refine (become_any b L ⟨#[97,115,107,101,100]⟩ (some ⟨l.heap.size,0,none⟩) 2 2 [L.toList,k.data.toList] _ dC rfl dC p N M).mono ?_
 rintro e w7 ⟨rfl,f,G⟩
 have Q:Holds encB w7 E 0 (askL L k.data.toList n):=by
  intro j C
  have h1:=F j C
  have h2:=World.block_lt_of_cell? _ _ h1.1
  have Y:=f.other (c:=E) (o:=0+j) oM h2
  rw[Y.1,Y.2]
  exact h1
 go_wp2
 go_ret2
 exact ⟨E,rfl,oM,S.trans f,G,Q⟩
end SP
end Go.Proofs.YtlofhpkoaljmeaaGreat
