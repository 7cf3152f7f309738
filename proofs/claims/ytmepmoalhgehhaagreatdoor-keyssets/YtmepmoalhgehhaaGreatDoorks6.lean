import Derived.Deep.RegionHeld3
import Derived.Deep.LoopGhost
import Derived.Great.BuildSlice
import Derived.Lib.LazyBuf
import Derived.Laws.AppendOwn
import Derived.Laws.IdiomCopy
import Derived.Deep.AppendSrc
import Derived.Lib.AppendZeros
import Derived.Deep.MidRow
import Derived.BigQuiet
import Derived.Lib.ConvBytes
import Derived.BigRegion
import Derived.Deep.RegionLaw
import Derived.Laws.OwnMore
import Derived.ArgAppend
import Derived.Test.YtmepmoalhgehhaaGreatDoorks5
set_option linter.unusedVariables false
set_option linter.constructorNameAsVariable false
set_option linter.unusedSimpArgs false
set_option maxRecDepth 1000000
set_option maxHeartbeats 4000000
namespace Go.Proofs.YtmepmoalhgehhaaGreatDoor
section
open Go.RowKit Go.Sort
variable {P:Nat} [NeZero P] {N:Nat}
def rl0:List Value:=[.int .u64 18446744069414583343,.int .u64 18446744073709551615,.int .u64 18446744073709551615,.int .u64 18446744073709551615,.int .u64 4294968273,.int .u64 0,.int .u64 0,.int .u64 0]
def rv0:Value:=.agg rl0.toArray
structure Fl3 (P:Nat) [NeZero P]:Prop extends Fld P where
 ref:RefP 18446744069414583343 18446744073709551615 18446744073709551615 18446744073709551615 4294968273 0 0 0 P
theorem rMake_c:Gives 55 #[.int .i64 0] rv0:=fun w=>(rMake0 w).mono (by rintro e w' ⟨v,rfl,hb,rfl⟩;exact ⟨_,rfl,hb,rfl⟩)
theorem rAdd_c (h:Fl3 P) (x y:Fin P):Gives 101 #[rv0,fv x,fv y] (fv (x+y)):=fun w =>
 (rAdd_R h.ref (h.four x) (h.four y) w).mono (by rintro e w' ⟨v,rfl,hb,hF⟩;exact ⟨_,rfl,hb,hF.nv⟩)
theorem rMul_c (h:Fl3 P) (x y:Fin P):Gives 47 #[rv0,fv x,fv y] (fv (x*y)):=fun w =>
 (rMul_R h.ref (h.four x) (h.four y) w).mono (by rintro e w' ⟨v,rfl,hb,hF⟩;exact ⟨_,rfl,hb,hF.nv⟩)
theorem rSub_c (h:Fl3 P) (x y:Fin P):Gives 100 #[rv0,fv x,fv y] (fv (x-y)):=fun w =>
 (rSub_any _ _ _ _ _ _ _ _ P _ _ x.val y.val h.ref (h.four x) (h.four y) y.isLt w).mono (by rintro e w' ⟨v,rfl,hb,hF⟩;rw[sub_fin] at hF;exact ⟨_,rfl,hb,hF.nv⟩)
theorem rInv_c (h:Fl3 P) (x:Fin P):Gives 46 #[rv0,fv x] (fv (EC.inv x)):=fun w =>
 (rInv_any _ _ _ _ _ _ _ _ P _ x.val h.ref (h.four x) w).mono (by rintro e w' ⟨v,rfl,hb,hF⟩;exact ⟨_,rfl,hb,hF.nv⟩)
theorem rZero_t (h:Fl3 P) {x:Fin P} (e:x=0):Gives 33 #[fv x] (.bool true):=fun w =>
 (rZero_any _ _ (h.four x) w).mono (by
  rintro e w' ⟨v,rfl,hb,rfl⟩
  refine ⟨_,rfl,hb,?_⟩
  rw[decide_eq_true (by rw[e,EC.val_zero])])
theorem rZero_f (h:Fl3 P) {x:Fin P} (e:¬ x=0):Gives 33 #[fv x] (.bool false):=fun w =>
 (rZero_any _ _ (h.four x) w).mono (by
  rintro e w' ⟨v,rfl,hb,rfl⟩
  refine ⟨_,rfl,hb,?_⟩
  rw[decide_eq_false (fun h=>e (Fin.ext (by rw[EC.val_zero];exact h)))])
theorem rSmall1_c (h:Fl3 P):Gives 98 #[.int .u64 1] (fv (1:Fin P)):=fun w =>
 (rSmall_any 1 (by decide) w).mono (by rintro e w' ⟨v,rfl,hb,rfl⟩;exact ⟨_,rfl,hb,one_fv h.toFld⟩)
theorem rSmall7_c (h:Fl3 P):Gives 98 #[.int .u64 7] (fv (7:Fin P)):=fun w =>
 (rSmall_any 7 (by decide) w).mono (by rintro e w' ⟨v,rfl,hb,rfl⟩;exact ⟨_,rfl,hb,seven_fv h.toFld⟩)
theorem eqR (h:Fld P) (x y:Fin P) (w:World):(binOp .eql 58 (fv x) (fv y)).run Tryz.prog w=.ok (.bool (decide (x=y))) w:=by
 have h1:(binOp .eql 58 (fv x) (fv y)).run Tryz.prog w=.ok (.bool (decide (x.val%18446744073709551616=y.val%18446744073709551616∧x.val/18446744073709551616%18446744073709551616=y.val/18446744073709551616%18446744073709551616∧x.val/340282366920938463463374607431768211456%18446744073709551616=y.val/340282366920938463463374607431768211456%18446744073709551616∧x.val/6277101735386680763835789423207666416102355444464034512896%18446744073709551616=y.val/6277101735386680763835789423207666416102355444464034512896%18446744073709551616))) w:=by
  show (binOp .eql 58 (.agg _) (.agg _)).run Tryz.prog w=_
  rw[run_eql_struct]
  have h2:=eqR_d 9998 (x.val%18446744073709551616) (x.val/18446744073709551616%18446744073709551616) (x.val/340282366920938463463374607431768211456%18446744073709551616) (x.val/6277101735386680763835789423207666416102355444464034512896%18446744073709551616) (y.val%18446744073709551616) (y.val/18446744073709551616%18446744073709551616) (y.val/340282366920938463463374607431768211456%18446744073709551616) (y.val/6277101735386680763835789423207666416102355444464034512896%18446744073709551616) w
  unfold wn
  rw[h2,Result.andThen_ok]
 rw[h1]
 simp only[wn_inj (h.top x) (h.top y),← Fin.ext_iff]
theorem eqR_t (h:Fld P) {x y:Fin P} (e:x=y) (w:World):(binOp .eql 58 (fv x) (fv y)).run Tryz.prog w=.ok (.bool true) w:=by rw[eqR h,decide_eq_true e]
theorem eqR_f (h:Fld P) {x y:Fin P} (e:¬ x=y) (w:World):(binOp .eql 58 (fv x) (fv y)).run Tryz.prog w=.ok (.bool false) w:=by rw[eqR h,decide_eq_false e]
theorem neR (h:Fld P) (x y:Fin P) (w:World):(binOp .neq 58 (fv x) (fv y)).run Tryz.prog w=.ok (.bool (!decide (x=y))) w:=by
 have h1:(binOp .neq 58 (fv x) (fv y)).run Tryz.prog w=.ok (.bool (!decide (x.val%18446744073709551616=y.val%18446744073709551616∧x.val/18446744073709551616%18446744073709551616=y.val/18446744073709551616%18446744073709551616∧x.val/340282366920938463463374607431768211456%18446744073709551616=y.val/340282366920938463463374607431768211456%18446744073709551616∧x.val/6277101735386680763835789423207666416102355444464034512896%18446744073709551616=y.val/6277101735386680763835789423207666416102355444464034512896%18446744073709551616))) w:=neqR _ _ _ _ _ _ _ _ w
 rw[h1]
 simp only[wn_inj (h.top x) (h.top y),← Fin.ext_iff]
theorem neR_f (h:Fld P) {x y:Fin P} (e:x=y) (w:World):(binOp .neq 58 (fv x) (fv y)).run Tryz.prog w=.ok (.bool false) w:=by rw[neR h,decide_eq_true e];rfl
theorem neR_t (h:Fld P) {x y:Fin P} (e:¬ x=y) (w:World):(binOp .neq 58 (fv x) (fv y)).run Tryz.prog w=.ok (.bool true) w:=by rw[neR h,decide_eq_false e];rfl
theorem ws_none:Value.agg #[.int .u64 0,.int .u64 0,.int .u64 0,.int .u64 0,.int .u64 1,.int .u64 0,.int .u64 0,.int .u64 0,.int .u64 0,.int .u64 0,.int .u64 0,.int .u64 0]=.agg (([.int .u64 0,.int .u64 0,.int .u64 0,.int .u64 0]:List Value)++(([.int .u64 1,.int .u64 0,.int .u64 0,.int .u64 0]:List Value)++([.int .u64 0,.int .u64 0,.int .u64 0,.int .u64 0]:List Value))).toArray:=rfl
theorem build_none (h:Fld P) (w:World):(Instr.build 62 #[(1,fv (1:Fin P))]).run Tryz.prog w=.ok (rv (0:Fin P) 1 0) w:=by
 unfold rv
 rw[← ws_zero,← ws_one h,← one_fv h,← ws_none]
 kernel_rfl
theorem rSqrt_y (h:Fl3 P) {m y:Fin P} (e:rt m=some y):Gives 102 #[rv0,fv m] (.tuple #[fv y,.bool true]):=fun w =>
 (rSqrt_any _ _ _ _ _ _ _ _ P _ m.val h.ref h.p4 (h.four m) w).mono (by rintro e' w' ⟨v,rfl,hb,hF⟩;exact ⟨_,rfl,hb,hF.val.1 y e⟩)
theorem u33:(Tryz.prog.underlying 58).map (·.isRow)=some true:=by kernel_rfl
theorem i33:(Tryz.prog.info? 58).map (·.size)=some 4:=by kernel_rfl
theorem u56:(Tryz.prog.underlying 62).map (·.isRow)=some true:=by kernel_rfl
theorem i56:(Tryz.prog.info? 62).map (·.size)=some 12:=by kernel_rfl
theorem u35:(Tryz.prog.underlying 70).map (·.isRow)=some true:=by kernel_rfl
theorem i35:(Tryz.prog.info? 70).map (·.size)=some 8:=by kernel_rfl
theorem F3_c :Gives 45 #[] rv0:=by
 intro w
 go_enter Tryz.func45,Tryz.ntmps45
 refine RG.M.enter [] 2 (by kernel_rfl) ?_
 intro a0 M0
 repeat refine wp_seq ?_
 refine M0.t [.m 0 [] 0] [(0,(RG.z 8))] [] [(RG.z 8)] [(0,(.p 0 0))] ⟨RG.mk 0 70,trivial⟩ ?_
 intro j1 a1 w1 M1
 repeat refine wp_seq ?_
 refine M1.t [.c 1 [] rv0,.u [(1,0)] 0] [] [(0,1,rl0)] [rl0] [(0,(.p 0 0))] ⟨RG.cl (rMake_c),RG.pt i35,trivial⟩ ?_
 intro a2 w2 M2
 refine wp_ret ?_
 refine bodyPost_ret (v:=rv0) (RG.results_row M2.st 0 70 rfl 0 _ rfl (M2.at (s:=(.p 0 0))) u35 i35) M2.sl.defers ?_
 exact ⟨_,rfl,M2.st.bel.below,rfl⟩
theorem None_c (C:Fl3 P) :Gives 72 #[] (rv (0:Fin P) 1 0):=by
 intro w
 have hfin:((rv (0:Fin P) (1:Fin P) (0:Fin P)):Value)=(rv (0:Fin P) 1 0):=by
  subst_vars;rfl
 rw[← hfin]
 go_enter Tryz.func72,Tryz.ntmps72
 refine RG.M.enter [] 3 (by kernel_rfl) ?_
 intro a0 M0
 repeat refine wp_seq ?_
 refine M0.t [.m 0 [] 0] [(0,(RG.z 12))] [] [(RG.z 12)] [(0,(.p 0 0))] ⟨RG.mk 0 62,trivial⟩ ?_
 intro j1 a1 w1 M1
 repeat refine wp_seq ?_
 refine M1.t [.c 1 [] (fv (1:Fin P)),.x 2 [(1,0)] (rv (0:Fin P) (1:Fin P) (0:Fin P)),.u [(2,1)] 0] [] [(0,2,(ws (0:Fin P)++(ws (1:Fin P)++(ws (0:Fin P)))))] [(ws (0:Fin P)++(ws (1:Fin P)++(ws (0:Fin P))))] [(0,(.p 0 0))] ⟨RG.cl (rSmall1_c C),RG.cert_build1 rfl 62 1 1 rfl (fv (1:Fin P)) (rv (0:Fin P) (1:Fin P) (0:Fin P)) rfl RG.sx (build_none C.toFld),RG.pt i56,trivial⟩ ?_
 intro a2 w2 M2
 refine wp_ret ?_
 refine bodyPost_ret (v:=(rv (0:Fin P) (1:Fin P) (0:Fin P))) (RG.results_row M2.st 0 62 rfl 0 _ rfl (M2.at (s:=(.p 0 0))) u56 i56) M2.sl.defers ?_
 exact ⟨_,rfl,M2.st.bel.below,rfl⟩
theorem Is_t_c (C:Fl3 P) (x y z:Fin P)(hz:z=0) :Gives 44 #[(rv x y z)] (.bool true):=by
 intro w
 go_enter Tryz.func44,Tryz.ntmps44
 refine RG.M.enter [(0,(.v (rv x y z)))] 6 (by kernel_rfl) ?_
 intro a0 M0
 repeat refine wp_seq ?_
 refine M0.t [.m 1 [] 0,.x 2 [] (.bool false)] [(0,(ws x++(ws y++(ws z))))] [] [(ws x++(ws y++(ws z)))] [(1,(.p 0 0)),(2,(.v (.bool false)))] ⟨RG.mk 0 62,RG.st,trivial⟩ ?_
 intro j1 a1 w1 M1
 repeat refine wp_seq ?_
 refine M1.u [.s 3 [] (.p 0 8),.x 4 [(3,0)] (fv z),.c 5 [(4,1)] (.bool true),.x 2 [(5,2)] (.bool true)] [(2,(.v (.bool true)))] ⟨RG.st,RG.ld u33 i33,RG.cl (rZero_t C hz),RG.st,trivial⟩ ?_
 intro a2 w2 M2
 refine wp_ret ?_
 refine bodyPost_ret (v:=(.bool true)) (RG.results_t 2 rfl _ (M2.at (s:=(.v (.bool true))))) M2.sl.defers ?_
 exact ⟨_,rfl,M2.st.bel.below,rfl⟩
theorem Is_f_c (C:Fl3 P) (x y z:Fin P)(hz:¬ z=0) :Gives 44 #[(rv x y z)] (.bool false):=by
 intro w
 go_enter Tryz.func44,Tryz.ntmps44
 refine RG.M.enter [(0,(.v (rv x y z)))] 6 (by kernel_rfl) ?_
 intro a0 M0
 repeat refine wp_seq ?_
 refine M0.t [.m 1 [] 0,.x 2 [] (.bool false)] [(0,(ws x++(ws y++(ws z))))] [] [(ws x++(ws y++(ws z)))] [(1,(.p 0 0)),(2,(.v (.bool false)))] ⟨RG.mk 0 62,RG.st,trivial⟩ ?_
 intro j1 a1 w1 M1
 repeat refine wp_seq ?_
 refine M1.u [.s 3 [] (.p 0 8),.x 4 [(3,0)] (fv z),.c 5 [(4,1)] (.bool false),.x 2 [(5,2)] (.bool false)] [(2,(.v (.bool false)))] ⟨RG.st,RG.ld u33 i33,RG.cl (rZero_f C hz),RG.st,trivial⟩ ?_
 intro a2 w2 M2
 refine wp_ret ?_
 refine bodyPost_ret (v:=(.bool false)) (RG.results_t 2 rfl _ (M2.at (s:=(.v (.bool false))))) M2.sl.defers ?_
 exact ⟨_,rfl,M2.st.bel.below,rfl⟩
theorem rdouble_c (C:Fl3 P) (x y z:Fin P):Gives 99 #[(rv x y z)] (rv ((EC.fdE y z)*(EC.fdT x y z)) ((EC.fdD x)*(x*((EC.fdE y z)*(EC.fdE y z))-(EC.fdT x y z))-y*((EC.fdE y z)*(EC.fdE y z)*(EC.fdE y z))) ((EC.fdE y z)*(EC.fdE y z)*(EC.fdE y z)*z)):=by
 intro w
 obtain ⟨c1,hc1⟩:∃ c,c=x*x:=⟨_,rfl⟩
 obtain ⟨c2,hc2⟩:∃ c,c=c1+c1:=⟨_,rfl⟩
 obtain ⟨c3,hc3⟩:∃ c,c=c2+c1:=⟨_,rfl⟩
 obtain ⟨c4,hc4⟩:∃ c,c=y+y:=⟨_,rfl⟩
 obtain ⟨c5,hc5⟩:∃ c,c=c4*z:=⟨_,rfl⟩
 obtain ⟨c6,hc6⟩:∃ c,c=c5*c5:=⟨_,rfl⟩
 obtain ⟨c7,hc7⟩:∃ c,c=c6*c5:=⟨_,rfl⟩
 obtain ⟨c8,hc8⟩:∃ c,c=c3*c3:=⟨_,rfl⟩
 obtain ⟨c9,hc9⟩:∃ c,c=c8*z:=⟨_,rfl⟩
 obtain ⟨c10,hc10⟩:∃ c,c=x+x:=⟨_,rfl⟩
 obtain ⟨c11,hc11⟩:∃ c,c=c10*c6:=⟨_,rfl⟩
 obtain ⟨c12,hc12⟩:∃ c,c=c9-c11:=⟨_,rfl⟩
 obtain ⟨c13,hc13⟩:∃ c,c=c5*c12:=⟨_,rfl⟩
 obtain ⟨c14,hc14⟩:∃ c,c=x*c6:=⟨_,rfl⟩
 obtain ⟨c15,hc15⟩:∃ c,c=c14-c12:=⟨_,rfl⟩
 obtain ⟨c16,hc16⟩:∃ c,c=c3*c15:=⟨_,rfl⟩
 obtain ⟨c17,hc17⟩:∃ c,c=y*c7:=⟨_,rfl⟩
 obtain ⟨c18,hc18⟩:∃ c,c=c16-c17:=⟨_,rfl⟩
 obtain ⟨c19,hc19⟩:∃ c,c=c7*z:=⟨_,rfl⟩
 have hfin:((rv c13 c18 c19):Value)=(rv ((EC.fdE y z)*(EC.fdT x y z)) ((EC.fdD x)*(x*((EC.fdE y z)*(EC.fdE y z))-(EC.fdT x y z))-y*((EC.fdE y z)*(EC.fdE y z)*(EC.fdE y z))) ((EC.fdE y z)*(EC.fdE y z)*(EC.fdE y z)*z)):=by
  subst_vars;rfl
 rw[← hfin]
 go_enter Tryz.func99,Tryz.ntmps99
 refine RG.M.enter [(0,(.v (rv x y z)))] 91 (by kernel_rfl) ?_
 intro a0 M0
 repeat refine wp_seq ?_
 refine M0.t [.m 1 [] 0,.m 2 [] 1] [(0,(ws x++(ws y++(ws z)))),(1,(RG.z 12))] [] [(ws x++(ws y++(ws z))),(RG.z 12)] [(1,(.p 0 0)),(2,(.p 1 0))] ⟨RG.mk 0 62,RG.mk 1 62,trivial⟩ ?_
 intro j1 i1 a1 w1 M1
 repeat refine wp_seq ?_
 refine M1.d [.c 11 [] rv0,.s 12 [] (.p 0 0),.x 13 [(12,1)] (fv x),.s 14 [] (.p 0 0),.x 15 [(14,3)] (fv x),.c 16 [(11,0),(13,2),(15,4)] (fv c1),.m 3 [] 2,.u [(3,6),(16,5)] 2] [(6,(RG.z 4))] [(2,7,(ws c1))] [(ws x++(ws y++(ws z))),(RG.z 12),(ws c1)] [(1,(.p 0 0)),(2,(.p 1 0)),(3,(.p 2 0))] ⟨RG.cl (F3_c),RG.st,RG.ld u33 i33,RG.st,RG.ld u33 i33,RG.cl ((rMul_c C x x).e hc1),RG.mk 2 58,RG.pt i33,trivial⟩ ?_
 intro j2 a2 w2 M2
 repeat refine wp_seq ?_
 refine M2.d [.c 17 [] rv0,.c 18 [] rv0,.x 19 [] (fv c1),.x 20 [] (fv c1),.c 21 [(18,1),(19,2),(20,3)] (fv c2),.x 22 [] (fv c1),.c 23 [(17,0),(21,4),(22,5)] (fv c3),.m 4 [] 3,.u [(4,7),(23,6)] 3] [(7,(RG.z 4))] [(3,8,(ws c3))] [(ws x++(ws y++(ws z))),(RG.z 12),(ws c1),(ws c3)] [(1,(.p 0 0)),(2,(.p 1 0)),(4,(.p 3 0))] ⟨RG.cl (F3_c),RG.cl (F3_c),RG.ld u33 i33,RG.ld u33 i33,RG.cl ((rAdd_c C c1 c1).e hc2),RG.ld u33 i33,RG.cl ((rAdd_c C c2 c1).e hc3),RG.mk 3 58,RG.pt i33,trivial⟩ ?_
 intro j3 a3 w3 M3
 repeat refine wp_seq ?_
 refine M3.d [.c 24 [] rv0,.c 25 [] rv0,.s 26 [] (.p 0 4),.x 27 [(26,2)] (fv y),.s 28 [] (.p 0 4),.x 29 [(28,4)] (fv y),.c 30 [(25,1),(27,3),(29,5)] (fv c4),.s 31 [] (.p 0 8),.x 32 [(31,7)] (fv z),.c 33 [(24,0),(30,6),(32,8)] (fv c5),.m 5 [] 4,.u [(5,10),(33,9)] 4] [(10,(RG.z 4))] [(4,11,(ws c5))] [(ws x++(ws y++(ws z))),(RG.z 12),(ws c1),(ws c3),(ws c5)] [(1,(.p 0 0)),(2,(.p 1 0)),(4,(.p 3 0)),(5,(.p 4 0))] ⟨RG.cl (F3_c),RG.cl (F3_c),RG.st,RG.ld u33 i33,RG.st,RG.ld u33 i33,RG.cl ((rAdd_c C y y).e hc4),RG.st,RG.ld u33 i33,RG.cl ((rMul_c C c4 z).e hc5),RG.mk 4 58,RG.pt i33,trivial⟩ ?_
 intro j4 a4 w4 M4
 repeat refine wp_seq ?_
 refine M4.d [.c 34 [] rv0,.x 35 [] (fv c5),.x 36 [] (fv c5),.c 37 [(34,0),(35,1),(36,2)] (fv c6),.m 6 [] 5,.u [(6,4),(37,3)] 5] [(4,(RG.z 4))] [(5,5,(ws c6))] [(ws x++(ws y++(ws z))),(RG.z 12),(ws c1),(ws c3),(ws c5),(ws c6)] [(1,(.p 0 0)),(2,(.p 1 0)),(4,(.p 3 0)),(5,(.p 4 0)),(6,(.p 5 0))] ⟨RG.cl (F3_c),RG.ld u33 i33,RG.ld u33 i33,RG.cl ((rMul_c C c5 c5).e hc6),RG.mk 5 58,RG.pt i33,trivial⟩ ?_
 intro j5 a5 w5 M5
 repeat refine wp_seq ?_
 refine M5.d [.c 38 [] rv0,.x 39 [] (fv c6),.x 40 [] (fv c5),.c 41 [(38,0),(39,1),(40,2)] (fv c7),.m 7 [] 6,.u [(7,4),(41,3)] 6] [(4,(RG.z 4))] [(6,5,(ws c7))] [(ws x++(ws y++(ws z))),(RG.z 12),(ws c1),(ws c3),(ws c5),(ws c6),(ws c7)] [(1,(.p 0 0)),(2,(.p 1 0)),(4,(.p 3 0)),(5,(.p 4 0)),(6,(.p 5 0)),(7,(.p 6 0))] ⟨RG.cl (F3_c),RG.ld u33 i33,RG.ld u33 i33,RG.cl ((rMul_c C c6 c5).e hc7),RG.mk 6 58,RG.pt i33,trivial⟩ ?_
 intro j6 a6 w6 M6
 repeat refine wp_seq ?_
 refine M6.d [.c 42 [] rv0,.c 43 [] rv0,.c 44 [] rv0,.x 45 [] (fv c3),.x 46 [] (fv c3),.c 47 [(44,2),(45,3),(46,4)] (fv c8),.s 48 [] (.p 0 8),.x 49 [(48,6)] (fv z),.c 50 [(43,1),(47,5),(49,7)] (fv c9),.c 51 [] rv0,.c 52 [] rv0,.s 53 [] (.p 0 0),.x 54 [(53,11)] (fv x),.s 55 [] (.p 0 0),.x 56 [(55,13)] (fv x),.c 57 [(52,10),(54,12),(56,14)] (fv c10),.x 58 [] (fv c6),.c 59 [(51,9),(57,15),(58,16)] (fv c11),.c 60 [(42,0),(50,8),(59,17)] (fv c12),.m 8 [] 7,.u [(8,19),(60,18)] 7] [(19,(RG.z 4))] [(7,20,(ws c12))] [(ws x++(ws y++(ws z))),(RG.z 12),(ws c1),(ws c3),(ws c5),(ws c6),(ws c7),(ws c12)] [(1,(.p 0 0)),(2,(.p 1 0)),(4,(.p 3 0)),(5,(.p 4 0)),(6,(.p 5 0)),(7,(.p 6 0)),(8,(.p 7 0))] ⟨RG.cl (F3_c),RG.cl (F3_c),RG.cl (F3_c),RG.ld u33 i33,RG.ld u33 i33,RG.cl ((rMul_c C c3 c3).e hc8),RG.st,RG.ld u33 i33,RG.cl ((rMul_c C c8 z).e hc9),RG.cl (F3_c),RG.cl (F3_c),RG.st,RG.ld u33 i33,RG.st,RG.ld u33 i33,RG.cl ((rAdd_c C x x).e hc10),RG.ld u33 i33,RG.cl ((rMul_c C c10 c6).e hc11),RG.cl ((rSub_c C c9 c11).e hc12),RG.mk 7 58,RG.pt i33,trivial⟩ ?_
 intro j7 a7 w7 M7
 repeat refine wp_seq ?_
 refine M7.d [.c 61 [] rv0,.x 62 [] (fv c5),.x 63 [] (fv c12),.c 64 [(61,0),(62,1),(63,2)] (fv c13),.m 9 [] 8,.u [(9,4),(64,3)] 8] [(4,(RG.z 4))] [(8,5,(ws c13))] [(ws x++(ws y++(ws z))),(RG.z 12),(ws c1),(ws c3),(ws c5),(ws c6),(ws c7),(ws c12),(ws c13)] [(1,(.p 0 0)),(2,(.p 1 0)),(4,(.p 3 0)),(6,(.p 5 0)),(7,(.p 6 0)),(8,(.p 7 0)),(9,(.p 8 0))] ⟨RG.cl (F3_c),RG.ld u33 i33,RG.ld u33 i33,RG.cl ((rMul_c C c5 c12).e hc13),RG.mk 8 58,RG.pt i33,trivial⟩ ?_
 intro j8 a8 w8 M8
 repeat refine wp_seq ?_
 refine M8.d [.c 65 [] rv0,.c 66 [] rv0,.x 67 [] (fv c3),.c 68 [] rv0,.c 69 [] rv0,.s 70 [] (.p 0 0),.x 71 [(70,5)] (fv x),.x 72 [] (fv c6),.c 73 [(69,4),(71,6),(72,7)] (fv c14),.x 74 [] (fv c12),.c 75 [(68,3),(73,8),(74,9)] (fv c15),.c 76 [(66,1),(67,2),(75,10)] (fv c16),.c 77 [] rv0,.s 78 [] (.p 0 4),.x 79 [(78,13)] (fv y),.x 80 [] (fv c7),.c 81 [(77,12),(79,14),(80,15)] (fv c17),.c 82 [(65,0),(76,11),(81,16)] (fv c18),.m 10 [] 9,.u [(10,18),(82,17)] 9] [(18,(RG.z 4))] [(9,19,(ws c18))] [(ws x++(ws y++(ws z))),(RG.z 12),(ws c1),(ws c3),(ws c5),(ws c6),(ws c7),(ws c12),(ws c13),(ws c18)] [(1,(.p 0 0)),(2,(.p 1 0)),(7,(.p 6 0)),(9,(.p 8 0)),(10,(.p 9 0))] ⟨RG.cl (F3_c),RG.cl (F3_c),RG.ld u33 i33,RG.cl (F3_c),RG.cl (F3_c),RG.st,RG.ld u33 i33,RG.ld u33 i33,RG.cl ((rMul_c C x c6).e hc14),RG.ld u33 i33,RG.cl ((rSub_c C c14 c12).e hc15),RG.cl ((rMul_c C c3 c15).e hc16),RG.cl (F3_c),RG.st,RG.ld u33 i33,RG.ld u33 i33,RG.cl ((rMul_c C y c7).e hc17),RG.cl ((rSub_c C c16 c17).e hc18),RG.mk 9 58,RG.pt i33,trivial⟩ ?_
 intro j9 a9 w9 M9
 repeat refine wp_seq ?_
 refine M9.d [.x 83 [] (fv c13),.x 84 [] (fv c18),.c 85 [] rv0,.x 86 [] (fv c7),.s 87 [] (.p 0 8),.x 88 [(87,4)] (fv z),.c 89 [(85,2),(86,3),(88,5)] (fv c19),.x 90 [(83,0),(84,1),(89,6)] (rv c13 c18 c19),.u [(90,7)] 1] [] [(1,8,(ws c13++(ws c18++(ws c19))))] [(ws x++(ws y++(ws z))),(ws c13++(ws c18++(ws c19))),(ws c1),(ws c3),(ws c5),(ws c6),(ws c7),(ws c12),(ws c13),(ws c18)] [(2,(.p 1 0))] ⟨RG.ld u33 i33,RG.ld u33 i33,RG.cl (F3_c),RG.ld u33 i33,RG.st,RG.ld u33 i33,RG.cl ((rMul_c C c7 z).e hc19),RG.st,RG.pt i56,trivial⟩ ?_
 intro a10 w10 M10
 refine wp_ret ?_
 refine bodyPost_ret (v:=(rv c13 c18 c19)) (RG.results_row M10.st 2 62 rfl 1 _ rfl (M10.at (s:=(.p 1 0))) u56 i56) M10.sl.defers ?_
 exact ⟨_,rfl,M10.st.bel.below,rfl⟩
theorem rPlusJ_any (C:Fl3 P) (x1 y1 z1 x2 y2 z2:Fin P) (R:Value) (ha:z1=0→R=(rv x2 y2 z2)) (hb:¬ z1=0→z2=0→R=(rv x1 y1 z1)) (hd:¬ z1=0→¬ z2=0→x2*z1=x1*z2→(¬ y2*z1=y1*z2∧R=(rv (0:Fin P) 1 0))∨(y2*z1=y1*z2∧¬ y2*z1=0∧R=(rv ((EC.fdE y1 z1)*(EC.fdT x1 y1 z1)) ((EC.fdD x1)*(x1*((EC.fdE y1 z1)*(EC.fdE y1 z1))-(EC.fdT x1 y1 z1))-y1*((EC.fdE y1 z1)*(EC.fdE y1 z1)*(EC.fdE y1 z1))) ((EC.fdE y1 z1)*(EC.fdE y1 z1)*(EC.fdE y1 z1)*z1)))) (he:¬ z1=0→¬ z2=0→¬ x2*z1=x1*z2→R=(rv ((x2*z1-x1*z2)*EC.frT (y2*z1-y1*z2) (x2*z1-x1*z2) (z1*z2) (x1*z2)) ((y2*z1-y1*z2)*(x1*z2*((x2*z1-x1*z2)*(x2*z1-x1*z2))-EC.frT (y2*z1-y1*z2) (x2*z1-x1*z2) (z1*z2) (x1*z2))-y1*z2*((x2*z1-x1*z2)*(x2*z1-x1*z2)*(x2*z1-x1*z2))) ((x2*z1-x1*z2)*(x2*z1-x1*z2)*(x2*z1-x1*z2)*(z1*z2)))):Gives 73 #[(rv x1 y1 z1),(rv x2 y2 z2)] R:=by
 intro w
 obtain ⟨c1,hc1⟩:∃ c,c=y2*z1:=⟨_,rfl⟩
 obtain ⟨c2,hc2⟩:∃ c,c=x2*z1:=⟨_,rfl⟩
 obtain ⟨c3,hc3⟩:∃ c,c=y1*z2:=⟨_,rfl⟩
 obtain ⟨c4,hc4⟩:∃ c,c=x1*z2:=⟨_,rfl⟩
 go_enter Tryz.func73,Tryz.ntmps73
 refine RG.M.enter [(0,(.v (rv x1 y1 z1))),(1,(.v (rv x2 y2 z2)))] 127 (by kernel_rfl) ?_
 intro a0 M0
 repeat refine wp_seq ?_
 refine M0.t [.m 2 [] 0,.m 3 [] 1,.m 4 [] 2] [(0,(ws x1++(ws y1++(ws z1)))),(1,(ws x2++(ws y2++(ws z2)))),(2,(RG.z 12))] [] [(ws x1++(ws y1++(ws z1))),(ws x2++(ws y2++(ws z2))),(RG.z 12)] [(2,(.p 0 0)),(3,(.p 1 0)),(4,(.p 2 0))] ⟨RG.mk 0 62,RG.mk 1 62,RG.mk 2 62,trivial⟩ ?_
 intro j1 i1 m1 a1 w1 M1
 repeat refine wp_seq ?_
 by_cases hz1:z1=0
 ·obtain rfl:=ha hz1
  refine M1.u [.x 16 [] (rv x1 y1 z1),.c 17 [(16,0)] (.bool true),.x 5 [(17,1)] (.bool true)] [(3,(.p 1 0)),(4,(.p 2 0)),(5,(.v (.bool true)))] ⟨RG.ld u56 i56,RG.cl (Is_t_c C x1 y1 z1 hz1),RG.st,trivial⟩ ?_
  intro a2 w2 M2
  repeat refine wp_seq ?_
  refine M2.u [.x 18 [] (.bool true)] [(3,(.p 1 0)),(4,(.p 2 0)),(18,(.v (.bool true)))] ⟨RG.st,trivial⟩ ?_
  intro a3 w3 M3
  repeat refine wp_seq ?_
  refine wp_cond_true M3.ev ?_
  repeat refine wp_seq ?_
  refine M3.t [.x 19 [] (rv x2 y2 z2),.u [(19,0)] 2] [] [(2,1,(ws x2++(ws y2++(ws z2))))] [(ws x1++(ws y1++(ws z1))),(ws x2++(ws y2++(ws z2))),(ws x2++(ws y2++(ws z2)))] [(4,(.p 2 0))] ⟨RG.ld u56 i56,RG.pt i56,trivial⟩ ?_
  intro a4 w4 M4
  refine wp_ret ?_
  refine bodyPost_ret (v:=(rv x2 y2 z2)) (RG.results_row M4.st 4 62 rfl 2 _ rfl (M4.at (s:=(.p 2 0))) u56 i56) M4.sl.defers ?_
  exact ⟨_,rfl,M4.st.bel.below,rfl⟩
 refine M1.u [.x 16 [] (rv x1 y1 z1),.c 17 [(16,0)] (.bool false),.x 5 [(17,1)] (.bool false)] [(2,(.p 0 0)),(3,(.p 1 0)),(4,(.p 2 0)),(5,(.v (.bool false)))] ⟨RG.ld u56 i56,RG.cl (Is_f_c C x1 y1 z1 hz1),RG.st,trivial⟩ ?_
 intro a2 w2 M2
 repeat refine wp_seq ?_
 refine M2.u [.x 18 [] (.bool false)] [(2,(.p 0 0)),(3,(.p 1 0)),(4,(.p 2 0)),(5,(.v (.bool false))),(18,(.v (.bool false)))] ⟨RG.st,trivial⟩ ?_
 intro a3 w3 M3
 repeat refine wp_seq ?_
 refine wp_cond_false M3.ev ?_
 refine wp_skip ?_
 repeat refine wp_seq ?_
 by_cases hz2:z2=0
 ·obtain rfl:=hb hz1 hz2
  refine M3.u [.x 20 [] (rv x2 y2 z2),.c 21 [(20,0)] (.bool true),.x 5 [(21,1)] (.bool true)] [(2,(.p 0 0)),(4,(.p 2 0)),(5,(.v (.bool true)))] ⟨RG.ld u56 i56,RG.cl (Is_t_c C x2 y2 z2 hz2),RG.st,trivial⟩ ?_
  intro a4 w4 M4
  repeat refine wp_seq ?_
  refine M4.u [.x 22 [] (.bool true)] [(2,(.p 0 0)),(4,(.p 2 0)),(22,(.v (.bool true)))] ⟨RG.st,trivial⟩ ?_
  intro a5 w5 M5
  repeat refine wp_seq ?_
  refine wp_cond_true M5.ev ?_
  repeat refine wp_seq ?_
  refine M5.t [.x 23 [] (rv x1 y1 z1),.u [(23,0)] 2] [] [(2,1,(ws x1++(ws y1++(ws z1))))] [(ws x1++(ws y1++(ws z1))),(ws x2++(ws y2++(ws z2))),(ws x1++(ws y1++(ws z1)))] [(4,(.p 2 0))] ⟨RG.ld u56 i56,RG.pt i56,trivial⟩ ?_
  intro a6 w6 M6
  refine wp_ret ?_
  refine bodyPost_ret (v:=(rv x1 y1 z1)) (RG.results_row M6.st 4 62 rfl 2 _ rfl (M6.at (s:=(.p 2 0))) u56 i56) M6.sl.defers ?_
  exact ⟨_,rfl,M6.st.bel.below,rfl⟩
 refine M3.u [.x 20 [] (rv x2 y2 z2),.c 21 [(20,0)] (.bool false),.x 5 [(21,1)] (.bool false)] [(2,(.p 0 0)),(3,(.p 1 0)),(4,(.p 2 0)),(5,(.v (.bool false)))] ⟨RG.ld u56 i56,RG.cl (Is_f_c C x2 y2 z2 hz2),RG.st,trivial⟩ ?_
 intro a4 w4 M4
 repeat refine wp_seq ?_
 refine M4.u [.x 22 [] (.bool false)] [(2,(.p 0 0)),(3,(.p 1 0)),(4,(.p 2 0)),(22,(.v (.bool false)))] ⟨RG.st,trivial⟩ ?_
 intro a5 w5 M5
 repeat refine wp_seq ?_
 refine wp_cond_false M5.ev ?_
 refine wp_skip ?_
 repeat refine wp_seq ?_
 refine M5.d [.c 24 [] rv0,.s 25 [] (.p 1 4),.x 26 [(25,1)] (fv y2),.s 27 [] (.p 0 8),.x 28 [(27,3)] (fv z1),.c 29 [(24,0),(26,2),(28,4)] (fv c1),.m 6 [] 3,.u [(6,6),(29,5)] 3] [(6,(RG.z 4))] [(3,7,(ws c1))] [(ws x1++(ws y1++(ws z1))),(ws x2++(ws y2++(ws z2))),(RG.z 12),(ws c1)] [(2,(.p 0 0)),(3,(.p 1 0)),(4,(.p 2 0)),(6,(.p 3 0))] ⟨RG.cl (F3_c),RG.st,RG.ld u33 i33,RG.st,RG.ld u33 i33,RG.cl ((rMul_c C y2 z1).e hc1),RG.mk 3 58,RG.pt i33,trivial⟩ ?_
 intro j6 a6 w6 M6
 repeat refine wp_seq ?_
 refine M6.d [.c 30 [] rv0,.s 31 [] (.p 1 0),.x 32 [(31,1)] (fv x2),.s 33 [] (.p 0 8),.x 34 [(33,3)] (fv z1),.c 35 [(30,0),(32,2),(34,4)] (fv c2),.m 7 [] 4,.u [(7,6),(35,5)] 4] [(6,(RG.z 4))] [(4,7,(ws c2))] [(ws x1++(ws y1++(ws z1))),(ws x2++(ws y2++(ws z2))),(RG.z 12),(ws c1),(ws c2)] [(2,(.p 0 0)),(3,(.p 1 0)),(4,(.p 2 0)),(6,(.p 3 0)),(7,(.p 4 0))] ⟨RG.cl (F3_c),RG.st,RG.ld u33 i33,RG.st,RG.ld u33 i33,RG.cl ((rMul_c C x2 z1).e hc2),RG.mk 4 58,RG.pt i33,trivial⟩ ?_
 intro j7 a7 w7 M7
 repeat refine wp_seq ?_
 refine M7.d [.c 36 [] rv0,.s 37 [] (.p 0 4),.x 38 [(37,1)] (fv y1),.s 39 [] (.p 1 8),.x 40 [(39,3)] (fv z2),.c 41 [(36,0),(38,2),(40,4)] (fv c3),.m 8 [] 5,.u [(8,6),(41,5)] 5] [(6,(RG.z 4))] [(5,7,(ws c3))] [(ws x1++(ws y1++(ws z1))),(ws x2++(ws y2++(ws z2))),(RG.z 12),(ws c1),(ws c2),(ws c3)] [(2,(.p 0 0)),(3,(.p 1 0)),(4,(.p 2 0)),(6,(.p 3 0)),(7,(.p 4 0)),(8,(.p 5 0))] ⟨RG.cl (F3_c),RG.st,RG.ld u33 i33,RG.st,RG.ld u33 i33,RG.cl ((rMul_c C y1 z2).e hc3),RG.mk 5 58,RG.pt i33,trivial⟩ ?_
 intro j8 a8 w8 M8
 repeat refine wp_seq ?_
 refine M8.d [.c 42 [] rv0,.s 43 [] (.p 0 0),.x 44 [(43,1)] (fv x1),.s 45 [] (.p 1 8),.x 46 [(45,3)] (fv z2),.c 47 [(42,0),(44,2),(46,4)] (fv c4),.m 9 [] 6,.u [(9,6),(47,5)] 6] [(6,(RG.z 4))] [(6,7,(ws c4))] [(ws x1++(ws y1++(ws z1))),(ws x2++(ws y2++(ws z2))),(RG.z 12),(ws c1),(ws c2),(ws c3),(ws c4)] [(2,(.p 0 0)),(3,(.p 1 0)),(4,(.p 2 0)),(6,(.p 3 0)),(7,(.p 4 0)),(8,(.p 5 0)),(9,(.p 6 0))] ⟨RG.cl (F3_c),RG.st,RG.ld u33 i33,RG.st,RG.ld u33 i33,RG.cl ((rMul_c C x1 z2).e hc4),RG.mk 6 58,RG.pt i33,trivial⟩ ?_
 intro j9 a9 w9 M9
 repeat refine wp_seq ?_
 by_cases hv:x2*z1=x1*z2
 ·have hR:=hd hz1 hz2 hv
  refine M9.u [.x 48 [] (fv c2),.x 49 [] (fv c4),.x 50 [(48,0),(49,1)] (.bool true)] [(2,(.p 0 0)),(4,(.p 2 0)),(6,(.p 3 0)),(8,(.p 5 0)),(50,(.v (.bool true)))] ⟨RG.ld u33 i33,RG.ld u33 i33,RG.cert_bin rfl .eql 58 58 48 49 (fv c2) (fv c4) (.bool true) rfl rfl RG.sx RG.sx (fun w=>by kernel_rfl) (eqR_t C.toFld (by subst_vars;exact hv)),trivial⟩ ?_
  intro a10 w10 M10
  repeat refine wp_seq ?_
  refine wp_cond_true M10.ev ?_
  repeat refine wp_seq ?_
  rcases hR with ⟨hu,rfl⟩|⟨hu,hn,hR⟩
  ·refine M10.u [.x 51 [] (fv c1),.x 52 [] (fv c3),.x 53 [(51,0),(52,1)] (.bool true),.x 54 [(53,2)] (.bool true),⟨some 55,[],(.v undef),.pass⟩,⟨some 56,[],(.v undef),.pass⟩,.x 57 [(54,3),(56,5)] (.bool true)] [(4,(.p 2 0)),(57,(.v (.bool true)))] ⟨RG.ld u33 i33,RG.ld u33 i33,RG.cert_bin rfl .neq 58 58 51 52 (fv c1) (fv c3) (.bool true) rfl rfl RG.sx RG.sx (fun w=>by kernel_rfl) (neR_t C.toFld (by subst_vars;exact hu)),RG.st,RG.cert_pass rfl rfl,RG.cert_pass rfl rfl,RG.st,trivial⟩ ?_
   intro a11 w11 M11
   repeat refine wp_seq ?_
   refine wp_cond_true M11.ev ?_
   repeat refine wp_seq ?_
   refine M11.t [.c 58 [] (rv (0:Fin P) (1:Fin P) (0:Fin P)),.u [(58,0)] 2] [] [(2,1,(ws (0:Fin P)++(ws (1:Fin P)++(ws (0:Fin P)))))] [(ws x1++(ws y1++(ws z1))),(ws x2++(ws y2++(ws z2))),(ws (0:Fin P)++(ws (1:Fin P)++(ws (0:Fin P)))),(ws c1),(ws c2),(ws c3),(ws c4)] [(4,(.p 2 0))] ⟨RG.cl (None_c C),RG.pt i56,trivial⟩ ?_
   intro a12 w12 M12
   refine wp_ret ?_
   refine bodyPost_ret (v:=(rv (0:Fin P) (1:Fin P) (0:Fin P))) (RG.results_row M12.st 4 62 rfl 2 _ rfl (M12.at (s:=(.p 2 0))) u56 i56) M12.sl.defers ?_
   exact ⟨_,rfl,M12.st.bel.below,rfl⟩
  obtain ⟨c5,hc5⟩:∃ c,c=(EC.fdE y1 z1)*(EC.fdT x1 y1 z1):=⟨_,rfl⟩
  obtain ⟨c6,hc6⟩:∃ c,c=(EC.fdD x1)*(x1*((EC.fdE y1 z1)*(EC.fdE y1 z1))-(EC.fdT x1 y1 z1))-y1*((EC.fdE y1 z1)*(EC.fdE y1 z1)*(EC.fdE y1 z1)):=⟨_,rfl⟩
  obtain ⟨c7,hc7⟩:∃ c,c=(EC.fdE y1 z1)*(EC.fdE y1 z1)*(EC.fdE y1 z1)*z1:=⟨_,rfl⟩
  obtain rfl:R=rv c5 c6 c7:=hR.trans (by subst_vars;rfl)
  refine M10.u [.x 51 [] (fv c1),.x 52 [] (fv c3),.x 53 [(51,0),(52,1)] (.bool false),.x 54 [(53,2)] (.bool false),.x 55 [] (fv c1),.c 56 [(55,4)] (.bool false),.x 57 [(54,3),(56,5)] (.bool false)] [(2,(.p 0 0)),(4,(.p 2 0)),(57,(.v (.bool false)))] ⟨RG.ld u33 i33,RG.ld u33 i33,RG.cert_bin rfl .neq 58 58 51 52 (fv c1) (fv c3) (.bool false) rfl rfl RG.sx RG.sx (fun w=>by kernel_rfl) (neR_f C.toFld (by subst_vars;exact hu)),RG.st,RG.ld u33 i33,RG.cl (f:=33) (args:=#[(fv c1)]) (v:=(.bool false)) (rZero_f C (by subst_vars;exact hn)),RG.st,trivial⟩ ?_
  intro a11 w11 M11
  repeat refine wp_seq ?_
  refine wp_cond_false M11.ev ?_
  refine wp_skip ?_
  repeat refine wp_seq ?_
  refine M11.t [.x 59 [] (rv x1 y1 z1),.c 60 [(59,0)] (rv c5 c6 c7),.u [(60,1)] 2] [] [(2,2,(ws c5++(ws c6++(ws c7))))] [(ws x1++(ws y1++(ws z1))),(ws x2++(ws y2++(ws z2))),(ws c5++(ws c6++(ws c7))),(ws c1),(ws c2),(ws c3),(ws c4)] [(4,(.p 2 0))] ⟨RG.ld u56 i56,RG.cl ((rdouble_c C x1 y1 z1).e3 hc5 hc6 hc7),RG.pt i56,trivial⟩ ?_
  intro a12 w12 M12
  refine wp_ret ?_
  refine bodyPost_ret (v:=(rv c5 c6 c7)) (RG.results_row M12.st 4 62 rfl 2 _ rfl (M12.at (s:=(.p 2 0))) u56 i56) M12.sl.defers ?_
  exact ⟨_,rfl,M12.st.bel.below,rfl⟩
 have hR:=he hz1 hz2 hv
 obtain ⟨c5,hc5⟩:∃ c,c=c1-c3:=⟨_,rfl⟩
 obtain ⟨c6,hc6⟩:∃ c,c=c2-c4:=⟨_,rfl⟩
 obtain ⟨c7,hc7⟩:∃ c,c=z1*z2:=⟨_,rfl⟩
 obtain ⟨c8,hc8⟩:∃ c,c=c6*c6:=⟨_,rfl⟩
 obtain ⟨c9,hc9⟩:∃ c,c=c8*c6:=⟨_,rfl⟩
 obtain ⟨c10,hc10⟩:∃ c,c=c5*c5:=⟨_,rfl⟩
 obtain ⟨c11,hc11⟩:∃ c,c=c10*c7:=⟨_,rfl⟩
 obtain ⟨c12,hc12⟩:∃ c,c=c11-c9:=⟨_,rfl⟩
 obtain ⟨c13,hc13⟩:∃ c,c=c4+c4:=⟨_,rfl⟩
 obtain ⟨c14,hc14⟩:∃ c,c=c13*c8:=⟨_,rfl⟩
 obtain ⟨c15,hc15⟩:∃ c,c=c12-c14:=⟨_,rfl⟩
 obtain ⟨c16,hc16⟩:∃ c,c=c6*c15:=⟨_,rfl⟩
 obtain ⟨c17,hc17⟩:∃ c,c=c4*c8:=⟨_,rfl⟩
 obtain ⟨c18,hc18⟩:∃ c,c=c17-c15:=⟨_,rfl⟩
 obtain ⟨c19,hc19⟩:∃ c,c=c5*c18:=⟨_,rfl⟩
 obtain ⟨c20,hc20⟩:∃ c,c=c3*c9:=⟨_,rfl⟩
 obtain ⟨c21,hc21⟩:∃ c,c=c19-c20:=⟨_,rfl⟩
 obtain ⟨c22,hc22⟩:∃ c,c=c9*c7:=⟨_,rfl⟩
 obtain rfl:R=rv c16 c21 c22:=hR.trans (by subst_vars;rfl)
 refine M9.u [.x 48 [] (fv c2),.x 49 [] (fv c4),.x 50 [(48,0),(49,1)] (.bool false)] [(2,(.p 0 0)),(3,(.p 1 0)),(4,(.p 2 0)),(6,(.p 3 0)),(7,(.p 4 0)),(8,(.p 5 0)),(9,(.p 6 0)),(50,(.v (.bool false)))] ⟨RG.ld u33 i33,RG.ld u33 i33,RG.cert_bin rfl .eql 58 58 48 49 (fv c2) (fv c4) (.bool false) rfl rfl RG.sx RG.sx (fun w=>by kernel_rfl) (eqR_f C.toFld (by subst_vars;exact hv)),trivial⟩ ?_
 intro a10 w10 M10
 repeat refine wp_seq ?_
 refine wp_cond_false M10.ev ?_
 refine wp_skip ?_
 repeat refine wp_seq ?_
 refine M10.d [.c 61 [] rv0,.x 62 [] (fv c1),.x 63 [] (fv c3),.c 64 [(61,0),(62,1),(63,2)] (fv c5),.m 10 [] 7,.u [(10,4),(64,3)] 7] [(4,(RG.z 4))] [(7,5,(ws c5))] [(ws x1++(ws y1++(ws z1))),(ws x2++(ws y2++(ws z2))),(RG.z 12),(ws c1),(ws c2),(ws c3),(ws c4),(ws c5)] [(2,(.p 0 0)),(3,(.p 1 0)),(4,(.p 2 0)),(7,(.p 4 0)),(8,(.p 5 0)),(9,(.p 6 0)),(10,(.p 7 0))] ⟨RG.cl (F3_c),RG.ld u33 i33,RG.ld u33 i33,RG.cl ((rSub_c C c1 c3).e hc5),RG.mk 7 58,RG.pt i33,trivial⟩ ?_
 intro j11 a11 w11 M11
 repeat refine wp_seq ?_
 refine M11.d [.c 65 [] rv0,.x 66 [] (fv c2),.x 67 [] (fv c4),.c 68 [(65,0),(66,1),(67,2)] (fv c6),.m 11 [] 8,.u [(11,4),(68,3)] 8] [(4,(RG.z 4))] [(8,5,(ws c6))] [(ws x1++(ws y1++(ws z1))),(ws x2++(ws y2++(ws z2))),(RG.z 12),(ws c1),(ws c2),(ws c3),(ws c4),(ws c5),(ws c6)] [(2,(.p 0 0)),(3,(.p 1 0)),(4,(.p 2 0)),(8,(.p 5 0)),(9,(.p 6 0)),(10,(.p 7 0)),(11,(.p 8 0))] ⟨RG.cl (F3_c),RG.ld u33 i33,RG.ld u33 i33,RG.cl ((rSub_c C c2 c4).e hc6),RG.mk 8 58,RG.pt i33,trivial⟩ ?_
 intro j12 a12 w12 M12
 repeat refine wp_seq ?_
 refine M12.d [.c 69 [] rv0,.s 70 [] (.p 0 8),.x 71 [(70,1)] (fv z1),.s 72 [] (.p 1 8),.x 73 [(72,3)] (fv z2),.c 74 [(69,0),(71,2),(73,4)] (fv c7),.m 12 [] 9,.u [(12,6),(74,5)] 9] [(6,(RG.z 4))] [(9,7,(ws c7))] [(ws x1++(ws y1++(ws z1))),(ws x2++(ws y2++(ws z2))),(RG.z 12),(ws c1),(ws c2),(ws c3),(ws c4),(ws c5),(ws c6),(ws c7)] [(4,(.p 2 0)),(8,(.p 5 0)),(9,(.p 6 0)),(10,(.p 7 0)),(11,(.p 8 0)),(12,(.p 9 0))] ⟨RG.cl (F3_c),RG.st,RG.ld u33 i33,RG.st,RG.ld u33 i33,RG.cl ((rMul_c C z1 z2).e hc7),RG.mk 9 58,RG.pt i33,trivial⟩ ?_
 intro j13 a13 w13 M13
 repeat refine wp_seq ?_
 refine M13.d [.c 75 [] rv0,.x 76 [] (fv c6),.x 77 [] (fv c6),.c 78 [(75,0),(76,1),(77,2)] (fv c8),.m 13 [] 10,.u [(13,4),(78,3)] 10] [(4,(RG.z 4))] [(10,5,(ws c8))] [(ws x1++(ws y1++(ws z1))),(ws x2++(ws y2++(ws z2))),(RG.z 12),(ws c1),(ws c2),(ws c3),(ws c4),(ws c5),(ws c6),(ws c7),(ws c8)] [(4,(.p 2 0)),(8,(.p 5 0)),(9,(.p 6 0)),(10,(.p 7 0)),(11,(.p 8 0)),(12,(.p 9 0)),(13,(.p 10 0))] ⟨RG.cl (F3_c),RG.ld u33 i33,RG.ld u33 i33,RG.cl ((rMul_c C c6 c6).e hc8),RG.mk 10 58,RG.pt i33,trivial⟩ ?_
 intro j14 a14 w14 M14
 repeat refine wp_seq ?_
 refine M14.d [.c 79 [] rv0,.x 80 [] (fv c8),.x 81 [] (fv c6),.c 82 [(79,0),(80,1),(81,2)] (fv c9),.m 14 [] 11,.u [(14,4),(82,3)] 11] [(4,(RG.z 4))] [(11,5,(ws c9))] [(ws x1++(ws y1++(ws z1))),(ws x2++(ws y2++(ws z2))),(RG.z 12),(ws c1),(ws c2),(ws c3),(ws c4),(ws c5),(ws c6),(ws c7),(ws c8),(ws c9)] [(4,(.p 2 0)),(8,(.p 5 0)),(9,(.p 6 0)),(10,(.p 7 0)),(11,(.p 8 0)),(12,(.p 9 0)),(13,(.p 10 0)),(14,(.p 11 0))] ⟨RG.cl (F3_c),RG.ld u33 i33,RG.ld u33 i33,RG.cl ((rMul_c C c8 c6).e hc9),RG.mk 11 58,RG.pt i33,trivial⟩ ?_
 intro j15 a15 w15 M15
 repeat refine wp_seq ?_
 refine M15.d [.c 83 [] rv0,.c 84 [] rv0,.c 85 [] rv0,.c 86 [] rv0,.x 87 [] (fv c5),.x 88 [] (fv c5),.c 89 [(86,3),(87,4),(88,5)] (fv c10),.x 90 [] (fv c7),.c 91 [(85,2),(89,6),(90,7)] (fv c11),.x 92 [] (fv c9),.c 93 [(84,1),(91,8),(92,9)] (fv c12),.c 94 [] rv0,.c 95 [] rv0,.x 96 [] (fv c4),.x 97 [] (fv c4),.c 98 [(95,12),(96,13),(97,14)] (fv c13),.x 99 [] (fv c8),.c 100 [(94,11),(98,15),(99,16)] (fv c14),.c 101 [(83,0),(93,10),(100,17)] (fv c15),.m 15 [] 12,.u [(15,19),(101,18)] 12] [(19,(RG.z 4))] [(12,20,(ws c15))] [(ws x1++(ws y1++(ws z1))),(ws x2++(ws y2++(ws z2))),(RG.z 12),(ws c1),(ws c2),(ws c3),(ws c4),(ws c5),(ws c6),(ws c7),(ws c8),(ws c9),(ws c15)] [(4,(.p 2 0)),(8,(.p 5 0)),(9,(.p 6 0)),(10,(.p 7 0)),(11,(.p 8 0)),(12,(.p 9 0)),(13,(.p 10 0)),(14,(.p 11 0)),(15,(.p 12 0))] ⟨RG.cl (F3_c),RG.cl (F3_c),RG.cl (F3_c),RG.cl (F3_c),RG.ld u33 i33,RG.ld u33 i33,RG.cl ((rMul_c C c5 c5).e hc10),RG.ld u33 i33,RG.cl ((rMul_c C c10 c7).e hc11),RG.ld u33 i33,RG.cl ((rSub_c C c11 c9).e hc12),RG.cl (F3_c),RG.cl (F3_c),RG.ld u33 i33,RG.ld u33 i33,RG.cl ((rAdd_c C c4 c4).e hc13),RG.ld u33 i33,RG.cl ((rMul_c C c13 c8).e hc14),RG.cl ((rSub_c C c12 c14).e hc15),RG.mk 12 58,RG.pt i33,trivial⟩ ?_
 intro j16 a16 w16 M16
 repeat refine wp_seq ?_
 refine M16.d [.c 102 [] rv0,.x 103 [] (fv c6),.x 104 [] (fv c15),.c 105 [(102,0),(103,1),(104,2)] (fv c16),.c 106 [] rv0,.c 107 [] rv0,.x 108 [] (fv c5),.c 109 [] rv0,.c 110 [] rv0,.x 111 [] (fv c4),.x 112 [] (fv c8),.c 113 [(110,8),(111,9),(112,10)] (fv c17),.x 114 [] (fv c15),.c 115 [(109,7),(113,11),(114,12)] (fv c18),.c 116 [(107,5),(108,6),(115,13)] (fv c19),.c 117 [] rv0,.x 118 [] (fv c3),.x 119 [] (fv c9),.c 120 [(117,15),(118,16),(119,17)] (fv c20),.c 121 [(106,4),(116,14),(120,18)] (fv c21),.c 122 [] rv0,.x 123 [] (fv c9),.x 124 [] (fv c7),.c 125 [(122,20),(123,21),(124,22)] (fv c22),.x 126 [(105,3),(121,19),(125,23)] (rv c16 c21 c22),.u [(126,24)] 2] [] [(2,25,(ws c16++(ws c21++(ws c22))))] [(ws x1++(ws y1++(ws z1))),(ws x2++(ws y2++(ws z2))),(ws c16++(ws c21++(ws c22))),(ws c1),(ws c2),(ws c3),(ws c4),(ws c5),(ws c6),(ws c7),(ws c8),(ws c9),(ws c15)] [(4,(.p 2 0))] ⟨RG.cl (F3_c),RG.ld u33 i33,RG.ld u33 i33,RG.cl ((rMul_c C c6 c15).e hc16),RG.cl (F3_c),RG.cl (F3_c),RG.ld u33 i33,RG.cl (F3_c),RG.cl (F3_c),RG.ld u33 i33,RG.ld u33 i33,RG.cl ((rMul_c C c4 c8).e hc17),RG.ld u33 i33,RG.cl ((rSub_c C c17 c15).e hc18),RG.cl ((rMul_c C c5 c18).e hc19),RG.cl (F3_c),RG.ld u33 i33,RG.ld u33 i33,RG.cl ((rMul_c C c3 c9).e hc20),RG.cl ((rSub_c C c19 c20).e hc21),RG.cl (F3_c),RG.ld u33 i33,RG.ld u33 i33,RG.cl ((rMul_c C c9 c7).e hc22),RG.st,RG.pt i56,trivial⟩ ?_
 intro a17 w17 M17
 refine wp_ret ?_
 refine bodyPost_ret (v:=(rv c16 c21 c22)) (RG.results_row M17.st 4 62 rfl 2 _ rfl (M17.at (s:=(.p 2 0))) u56 i56) M17.sl.defers ?_
 exact ⟨_,rfl,M17.st.bel.below,rfl⟩
theorem rat_y_c (C:Fl3 P) (x y:Fin P)(hr:rt (x*x*x+7)=some y) :Gives 75 #[(fv x)] (.tuple #[rv x y 1,.bool true]):=by
 intro w
 obtain ⟨c1,hc1⟩:∃ c,c=x*x:=⟨_,rfl⟩
 obtain ⟨c2,hc2⟩:∃ c,c=c1*x:=⟨_,rfl⟩
 obtain ⟨c3,hc3⟩:∃ c,c=c2+(7:Fin P):=⟨_,rfl⟩
 have hfin:((.tuple #[(rv x y (1:Fin P)),(.bool true)]):Value)=(.tuple #[rv x y 1,.bool true]):=by
  subst_vars;rfl
 rw[← hfin]
 go_enter Tryz.func75,Tryz.ntmps75
 refine RG.M.enter [(0,(.v (fv x)))] 26 (by kernel_rfl) ?_
 intro a0 M0
 repeat refine wp_seq ?_
 refine M0.t [.m 1 [] 0,.m 2 [] 1,.x 3 [] (.bool false)] [(0,(ws x)),(1,(RG.z 12))] [] [(ws x),(RG.z 12)] [(1,(.p 0 0)),(2,(.p 1 0)),(3,(.v (.bool false)))] ⟨RG.mk 0 58,RG.mk 1 62,RG.st,trivial⟩ ?_
 intro j1 i1 a1 w1 M1
 repeat refine wp_seq ?_
 refine M1.d [.c 7 [] rv0,.c 8 [] rv0,.c 9 [] rv0,.c 10 [] rv0,.x 11 [] (fv x),.x 12 [] (fv x),.c 13 [(10,3),(11,4),(12,5)] (fv c1),.x 14 [] (fv x),.c 15 [(9,2),(13,6),(14,7)] (fv c2),.c 16 [] (fv (7:Fin P)),.c 17 [(8,1),(15,8),(16,9)] (fv c3),.c 18 [(7,0),(17,10)] (.tuple #[(fv y),(.bool true)]),.x 6 [(18,11)] (.tuple #[(fv y),(.bool true)]),.x 19 [(6,12)] (fv y),.x 20 [(6,12)] (.bool true),.m 4 [] 2,.u [(4,15),(19,13)] 2,.x 5 [(20,14)] (.bool true)] [(15,(RG.z 4))] [(2,16,(ws y))] [(ws x),(RG.z 12),(ws y)] [(1,(.p 0 0)),(2,(.p 1 0)),(3,(.v (.bool false))),(4,(.p 2 0)),(5,(.v (.bool true)))] ⟨RG.cl (F3_c),RG.cl (F3_c),RG.cl (F3_c),RG.cl (F3_c),RG.ld u33 i33,RG.ld u33 i33,RG.cl ((rMul_c C x x).e hc1),RG.ld u33 i33,RG.cl ((rMul_c C c1 x).e hc2),RG.cl (rSmall7_c C),RG.cl ((rAdd_c C c2 (7:Fin P)).e hc3),RG.cl (f:=102) (args:=#[rv0,(fv c3)]) (v:=(.tuple #[(fv y),(.bool true)])) (rSqrt_y C (by subst_vars;exact hr)),RG.st,RG.st,RG.st,RG.mk 2 58,RG.pt i33,RG.st,trivial⟩ ?_
 intro j2 a2 w2 M2
 repeat refine wp_seq ?_
 refine M2.d [.x 21 [] (fv x),.x 22 [] (fv y),.c 23 [] (fv (1:Fin P)),.x 24 [(21,0),(22,1),(23,2)] (rv x y (1:Fin P)),.x 25 [] (.bool true),.u [(24,3)] 1,.x 3 [(25,4)] (.bool true)] [] [(1,5,(ws x++(ws y++(ws (1:Fin P)))))] [(ws x),(ws x++(ws y++(ws (1:Fin P)))),(ws y)] [(2,(.p 1 0)),(3,(.v (.bool true)))] ⟨RG.ld u33 i33,RG.ld u33 i33,RG.cl (rSmall1_c C),RG.st,RG.st,RG.pt i56,RG.st,trivial⟩ ?_
 intro a3 w3 M3
 refine wp_ret ?_
 refine bodyPost_ret (v:=(.tuple #[(rv x y (1:Fin P)),(.bool true)])) (RG.results_rt M3.st 2 3 62 rfl 1 _ rfl (M3.at (s:=(.p 1 0))) _ (M3.at (s:=(.v (.bool true)))) u56 i56) M3.sl.defers ?_
 exact ⟨_,rfl,M3.st.bel.below,rfl⟩
end
section
open Go.RowKit Go.Sort Go.Deep
variable {P:Nat} [NeZero P] {N:Nat}
def z12:Array Value:=#[.int .u64 0,.int .u64 0,.int .u64 0,.int .u64 0,.int .u64 0,.int .u64 0,.int .u64 0,.int .u64 0,.int .u64 0,.int .u64 0,.int .u64 0,.int .u64 0]
def W5 (w:World):World:=(w.alloc (.cells z12 62)).alloc (.cells (madeCells #[.int .u8 0] 33) 5)
def n12 (P:Nat) [NeZero P]:List Value:=ws (0:Fin P)++(ws (1:Fin P)++ws (0:Fin P))
end
section
open Go.RowKit Go.Sort
variable {P:Nat} [NeZero P] {N:Nat}
def FracT (t:T3 P) (p:EC.Pt P):Prop:=EC.Frac t.1 t.2.1 t.2.2 p∧EC.On p
def dbF (t:T3 P):T3 P:=(EC.fdE t.2.1 t.2.2*EC.fdT t.1 t.2.1 t.2.2,EC.fdD t.1*(t.1*(EC.fdE t.2.1 t.2.2*EC.fdE t.2.1 t.2.2)-EC.fdT t.1 t.2.1 t.2.2)-t.2.1*(EC.fdE t.2.1 t.2.2*EC.fdE t.2.1 t.2.2*EC.fdE t.2.1 t.2.2),EC.fdE t.2.1 t.2.2*EC.fdE t.2.1 t.2.2*EC.fdE t.2.1 t.2.2*t.2.2)
def plF (a b : T3 P) : T3 P :=
  if a.2.2 = 0 then b else if b.2.2 = 0 then a else
  if b.1 * a.2.2 = a.1 * b.2.2 then (if b.2.1 * a.2.2 = a.2.1 * b.2.2 then dbF a else (0, 1, 0)) else
  ((b.1 * a.2.2 - a.1 * b.2.2) * EC.frT (b.2.1 * a.2.2 - a.2.1 * b.2.2) (b.1 * a.2.2 - a.1 * b.2.2) (a.2.2 * b.2.2) (a.1 * b.2.2),
   (b.2.1 * a.2.2 - a.2.1 * b.2.2) * (a.1 * b.2.2 * ((b.1 * a.2.2 - a.1 * b.2.2) * (b.1 * a.2.2 - a.1 * b.2.2)) - EC.frT (b.2.1 * a.2.2 - a.2.1 * b.2.2) (b.1 * a.2.2 - a.1 * b.2.2) (a.2.2 * b.2.2) (a.1 * b.2.2)) - a.2.1 * b.2.2 * ((b.1 * a.2.2 - a.1 * b.2.2) * (b.1 * a.2.2 - a.1 * b.2.2) * (b.1 * a.2.2 - a.1 * b.2.2)),
   (b.1 * a.2.2 - a.1 * b.2.2) * (b.1 * a.2.2 - a.1 * b.2.2) * (b.1 * a.2.2 - a.1 * b.2.2) * (a.2.2 * b.2.2))
theorem FracT.plus (C:Fl3 P) {a b:T3 P} {p q:EC.Pt P} (h:FracT a p) (h':FracT b q):Gives 73 #[tv a,tv b] (tv (plF a b))∧FracT (plF a b) (EC.add p q):=by
 have ho:=C.cur.on h.2 h'.2
 obtain ⟨x1,y1,z1⟩:=a
 obtain ⟨x2,y2,z2⟩:=b
 refine ⟨rPlusJ_any C x1 y1 z1 x2 y2 z2 _ (fun n1=>by unfold plF;rw[if_pos n1]) (fun n1 n2=>by unfold plF;rw[if_neg n1,if_pos n2]) (fun n1 n2 e=>?_) (fun n1 n2 e1=>by unfold plF;rw[if_neg n1,if_neg n2,if_neg e1]),?_⟩
 ·rcases h.1.plus C.cur h.2 h'.1 h'.2 n1 n2 with ⟨e1,e2,e3⟩|⟨e1,e2,e3,e4⟩|⟨e1,e2⟩
  ·exact .inl ⟨e2,by unfold plF;rw[if_neg n1,if_neg n2,if_pos e1,if_neg e2]⟩
  ·exact .inr ⟨e2,e3,by unfold plF;rw[if_neg n1,if_neg n2,if_pos e1,if_pos e2];rfl⟩
  ·exact absurd e e1
 unfold plF
 by_cases n1:z1=0
 ·rw[if_pos n1]
  obtain rfl:=h.1.zero n1
  exact h'
 ·rw[if_neg n1]
  by_cases n2:z2=0
  ·rw[if_pos n2]
   obtain rfl:=h'.1.zero n2
   rw[EC.add_none]
   exact h
  ·rw[if_neg n2]
   rcases h.1.plus C.cur h.2 h'.1 h'.2 n1 n2 with ⟨e1,e2,e3⟩|⟨e1,e2,e3,e4⟩|⟨e1,e2⟩
   ·rw[if_pos e1,if_neg e2]
    refine ⟨?_,ho⟩
    rw[e3]
    exact rfl
   ·rw[if_pos e1,if_pos e2]
    refine ⟨?_,ho⟩
    rw[e4]
    exact h.1.double C.cur h.2 n1
   ·rw[if_neg e1]
    exact ⟨e2,ho⟩
theorem FracT.none:FracT ((0,1,0):T3 P) .none:=⟨rfl,EC.none_on⟩
def tmF (n:Nat) (t:T3 P):Nat→T3 P
 | 0=>(0,1,0)
 | m+1=>if n/2^(255-m)%2=1 then plF (plF (tmF n t m) (tmF n t m)) t else plF (tmF n t m) (tmF n t m)
theorem tmF_F (C:Fl3 P) {n:Nat} {t:T3 P} {p:EC.Pt P} (hn:n<2^256) (h:FracT t p):∀ m,m≤256→FracT (tmF n t m) (EC.mul (n/2^(256-m)) p)
 | 0,_=>by
  rw[Nat.sub_zero,Nat.div_eq_of_lt hn]
  exact FracT.none
 | m+1,hm=>by
  have ih:=tmF_F C hn h m (by omega)
  have e1:256-m=255-m+1:=by omega
  rw[show 256-(m+1)=255-m by omega,div_bit n (255-m),← e1]
  unfold tmF
  have h2:=(FracT.plus C ih ih).2
  rw[← EC.mul_add C.cur h.2,← Nat.two_mul] at h2
  by_cases hb:n/2^(255-m)%2=1
  ·rw[if_pos hb,hb]
   exact (FracT.plus C h2 h).2
  ·rw[if_neg hb,show n/2^(255-m)%2=0 by omega]
   exact h2
theorem frac_one (C:Fld P) (x y:Fin P):EC.Frac x y 1 (.some (x,y):EC.Pt P):=⟨fun h=>C.cur.two (by grobner),by grobner,by grobner⟩
end
section
open Go.RowKit Go.Sort Go.Deep
variable {P:Nat} [NeZero P] {N:Nat}
def gxB:Bs:=#[121,190,102,126,249,220,187,172,85,160,98,149,206,135,11,7,2,155,252,219,45,206,40,217,89,242,129,91,22,248,23,152]
theorem of_g (C:Fld P):Gives 70 #[.string ⟨gxB⟩] (fv (gX P)):=fun w=>(rOf_any ⟨gxB⟩ rfl w).mono (by
 rintro e w' ⟨v,rfl,hb,hF⟩
 refine ⟨_,rfl,hb,?_⟩
 have h:=hF.nv
 rw[h]
 show nv _=nv _
 rw[gX_val C]
 exact congrArg nv (by decide +kernel:beV gxB.toList=55066263022277343669578718895168534326250603453777594175500187360389116729240))
theorem g_root (C:Fld P):rt (gX P*gX P*gX P+7)=some (gY P):=by
 have h:=gG_on C
 have h1:gY P^2=gX P^3+7:=h
 have h2:gY P*gY P=gX P*gX P*gX P+7:=by
  generalize gX P=x at *
  generalize gY P=y at *
  clear h C
  grobner
 rw[rt_of C h2,if_neg]
 rw[gY_val C]
 decide
def gT (P:Nat) [NeZero P]:T3 P:=(gX P,gY P,1)
theorem gT_frac (C:Fld P):FracT (gT P) (gG P):=⟨frac_one C _ _,gG_on C⟩
theorem rG_c (C:Fl3 P):Gives 43 #[] (tv (gT P)):=by
 intro w
 go_enter Tryz.func43,Tryz.ntmps43
 refine RG.M.enter [] 11 (by kernel_rfl) ?_
 intro a0 M0
 repeat refine wp_seq ?_
 refine M0.t [.m 0 [] 0] [(0,(RG.z 12))] [] [(RG.z 12)] [(0,(.p 0 0))] ⟨RG.mk 0 62,trivial⟩ ?_
 intro j1 a1 w1 M1
 repeat refine wp_seq ?_
 refine M1.t [.c 4 [] (fv (gX P)),.m 1 [] 1,.u [(1,1),(4,0)] 1] [(1,(RG.z 4))] [(1,2,(ws (gX P)))] [(RG.z 12),(ws (gX P))] [(0,(.p 0 0)),(1,(.p 1 0))] ⟨RG.cl (of_g C.toFld),RG.mk 1 58,RG.pt i33,trivial⟩ ?_
 intro j2 a2 w2 M2
 repeat refine wp_seq ?_
 refine M2.t [.x 6 [] (fv (gX P)),.c 7 [(6,0)] (.tuple #[(rv (gX P) (gY P) (1:Fin P)),(.bool true)]),.x 5 [(7,1)] (.tuple #[(rv (gX P) (gY P) (1:Fin P)),(.bool true)]),.x 8 [(5,2)] (rv (gX P) (gY P) (1:Fin P)),.x 9 [(5,2)] (.bool true),.m 2 [] 2,.u [(2,5),(8,3)] 2,.x 3 [(9,4)] (.bool true)] [(5,(RG.z 12))] [(2,6,(ws (gX P)++(ws (gY P)++(ws (1:Fin P)))))] [(RG.z 12),(ws (gX P)),(ws (gX P)++(ws (gY P)++(ws (1:Fin P))))] [(0,(.p 0 0)),(2,(.p 2 0))] ⟨RG.ld u33 i33,RG.cl (rat_y_c C (gX P) (gY P) (g_root C.toFld)),RG.st,RG.st,RG.st,RG.mk 2 62,RG.pt i56,RG.st,trivial⟩ ?_
 intro j3 a3 w3 M3
 repeat refine wp_seq ?_
 refine M3.t [.x 10 [] (rv (gX P) (gY P) (1:Fin P)),.u [(10,0)] 0] [] [(0,1,(ws (gX P)++(ws (gY P)++(ws (1:Fin P)))))] [(ws (gX P)++(ws (gY P)++(ws (1:Fin P)))),(ws (gX P)),(ws (gX P)++(ws (gY P)++(ws (1:Fin P))))] [(0,(.p 0 0))] ⟨RG.ld u56 i56,RG.pt i56,trivial⟩ ?_
 intro a4 w4 M4
 refine wp_ret ?_
 refine bodyPost_ret (v:=tv (gT P)) (RG.results_row M4.st 0 62 rfl 0 _ rfl (M4.at (s:=.p 0 0)) u56 i56) M4.sl.defers ?_
 exact ⟨_,rfl,M4.st.bel.below,rfl⟩
end
section
open Go.RowKit Go.Sort
variable {P:Nat} [NeZero P] {N:Nat}
theorem geq0 (i:Nat) (w:World):(binOp .geq 3 (.int .i64 i) (.int .i64 0)).run Tryz.prog w=.ok (.bool true) w:=by
 go_simp
theorem sub1 (i:Nat) (hi:i<1000) (w:World):(binOp .sub 3 (.int .i64 i) (.int .i64 1)).run Tryz.prog w=.ok (.int .i64 ((i:Int)-1)) w:=by
 have h:=IntWalk.i64_in ((i:Int)-1) (by omega)
 go_simp
theorem rBit_1 {n i:Nat} (hn:n<top) (hi:i<256) (h:n/2^i%2=1):Gives 74 #[nv n,.int .i64 i] (.int .u64 1):=fun w =>
 (rBit_any _ n i (four_nv hn) hi w).mono (by rintro e w' ⟨v,rfl,hb,t,rfl,ht⟩;exact ⟨_,rfl,hb,by rw[ht,h];rfl⟩)
theorem rBit_0 {n i:Nat} (hn:n<top) (hi:i<256) (h:¬ n/2^i%2=1):Gives 74 #[nv n,.int .i64 i] (.int .u64 0):=fun w =>
 (rBit_any _ n i (four_nv hn) hi w).mono (by rintro e w' ⟨v,rfl,hb,t,rfl,ht⟩;exact ⟨_,rfl,hb,by rw[ht,show n/2^i%2=0 by omega];rfl⟩)
theorem rTimes_c (C:Fl3 P) (n:Nat) (hn:n<top) (t:T3 P) {p:EC.Pt P} (h:FracT t p):Gives 42 #[nv n,tv t] (tv (tmF n t 256)):=by
 intro w
 go_enter Tryz.func42,Tryz.ntmps42
 refine RG.var2 (v0:=nv n) (v1:=tv t) (n:=23) (by kernel_rfl) (by kernel_rfl) (by kernel_rfl) (by kernel_rfl) ?_
 intro a0 sl0 f0 f1
 have hS0:=RG.St.begin w
 have M0:RG.M w w.heap.size [] 23 [] [] [(0,(.v (nv n))),(1,(.v (tv t)))] a0 _:=⟨hS0,sl0,⟨f0,f1,trivial⟩⟩
 repeat refine wp_seq ?_
 refine M0.t [.m 2 [] 0,.m 3 [] 1,.m 4 [] 2] [(0,(wn n)),(1,(tw t)),(2,(RG.z 12))] [] [(wn n),(tw t),(RG.z 12)] [(2,(.p 0 0)),(3,(.p 1 0)),(4,(.p 2 0))] ⟨RG.mk 0 58,RG.mk 1 62,RG.mk 2 62,trivial⟩ ?_
 intro j1 i1 m1 a1 w1 M1
 repeat refine wp_seq ?_
 refine M1.t [.c 7 [] (tv ((0,1,0):T3 P)),.m 5 [] 3,.u [(5,1),(7,0)] 3] [(1,(RG.z 12))] [(3,2,(tw ((0,1,0):T3 P)))] [(wn n),(tw t),(RG.z 12),(tw ((0,1,0):T3 P))] [(2,(.p 0 0)),(3,(.p 1 0)),(4,(.p 2 0)),(5,(.p 3 0))] ⟨RG.cl (None_c C),RG.mk 3 62,RG.pt i56,trivial⟩ ?_
 intro j2 a2 w2 M2
 repeat refine wp_seq ?_
 refine M2.u [.x 6 [] (.int .i64 255)] [(2,(.p 0 0)),(3,(.p 1 0)),(4,(.p 2 0)),(5,(.p 3 0)),(6,(.v (.int .i64 255)))] ⟨RG.st,trivial⟩ ?_
 intro a3 w3 M3
 have f2_3:a3.tmps[2]? = some (.pointer (some ⟨j1,0,none⟩)):=M3.at (s:=(.p 0 0))
 have f3_3:a3.tmps[3]? = some (.pointer (some ⟨i1,0,none⟩)):=M3.at (s:=(.p 1 0))
 have f4_3:a3.tmps[4]? = some (.pointer (some ⟨m1,0,none⟩)):=M3.at (s:=(.p 2 0))
 have f5_3:a3.tmps[5]? = some (.pointer (some ⟨j2,0,none⟩)):=M3.at (s:=(.p 3 0))
 have f6_3:a3.tmps[6]? = some (.int .i64 255):=M3.at (s:=(.v (.int .i64 255)))
 repeat refine wp_seq ?_
 refine wp_block ?_
 refine wp_loop_ghost (fun m a wr=>m≤256∧RG.Sl a 23∧a.tmps[2]? = some (.pointer (some ⟨j1,0,none⟩))∧a.tmps[3]? = some (.pointer (some ⟨i1,0,none⟩))∧a.tmps[4]? = some (.pointer (some ⟨m1,0,none⟩))∧a.tmps[5]? = some (.pointer (some ⟨j2,0,none⟩))∧a.tmps[6]? = some (.int .i64 ((m:Int)-1))∧RG.St w w.heap.size [] [wn n,tw t,[.int .u64 0,.int .u64 0,.int .u64 0,.int .u64 0,.int .u64 0,.int .u64 0,.int .u64 0,.int .u64 0,.int .u64 0,.int .u64 0,.int .u64 0,.int .u64 0],tw (tmF n t (256-m))] [j1,i1,m1,j2] wr) 256 ⟨Nat.le_refl _,M3.sl,f2_3,f3_3,f4_3,f5_3,f6_3,?_⟩ ?_
 ·rw[Nat.sub_self,tmF]
  exact M3.st
 intro m a wr
 rintro ⟨hm,sl,f2,f3,f4,f5,f6,hS⟩
 have hn2:n<2^256:=hn
 generalize j1=k2 at f2 f3 f4 f5 hS
 generalize i1=k3 at f2 f3 f4 f5 hS
 generalize m1=k4 at f2 f3 f4 f5 hS
 generalize j2=k5 at f2 f3 f4 f5 hS
 by_cases hz:m=0
 ·subst hz
  have e256:tmF n t (256-0)=tmF n t 256:=rfl
  rw[e256] at hS
  obtain ⟨s,hs⟩:∃ s,tmF n t 256=s:=⟨_,rfl⟩
  rw[hs] at hS ⊢
  have M0:RG.M w w.heap.size [] 23 [(wn n),(tw t),(RG.z 12),(tw s)] [k2,k3,k4,k5] [(2,(.p 0 0)),(3,(.p 1 0)),(4,(.p 2 0)),(5,(.p 3 0)),(6,(.v (.int .i64 (-1))))] a _:=⟨hS,sl,⟨f2,f3,f4,f5,f6,trivial⟩⟩
  repeat refine wp_seq ?_
  refine M0.u [.x 8 [] (.int .i64 (-1)),.x 9 [(8,0)] (.bool false)] [(4,(.p 2 0)),(5,(.p 3 0)),(9,(.v (.bool false)))] ⟨RG.st,RG.st,trivial⟩ ?_
  intro a1 w1 M1
  repeat refine wp_seq ?_
  refine wp_cond_false M1.ev ?_
  refine wp_exit ?_
  dsimp only[Exit.then,Exit.inBlock]
  rw[if_pos rfl]
  repeat refine wp_seq ?_
  refine M1.t [.x 22 [] (tv s),.u [(22,0)] 2] [] [(2,1,(tw s))] [(wn n),(tw t),(tw s),(tw s)] [(4,(.p 2 0))] ⟨RG.ld u56 i56,RG.pt i56,trivial⟩ ?_
  intro a2 w2 M2
  refine wp_ret ?_
  refine bodyPost_ret (v:=tv s) (RG.results_row M2.st 4 62 rfl 2 _ rfl (M2.at (s:=(.p 2 0))) u56 i56) M2.sl.defers ?_
  exact ⟨_,rfl,M2.st.bel.below,rfl⟩
 ·obtain ⟨i,rfl⟩:∃ i,m=i+1:=⟨m-1,by omega⟩
  have hi:i<256:=by omega
  replace f6:a.tmps[6]? = some (.int .i64 i):=by rw[f6];congr 2;omega
  have ih:=tmF_F C hn2 h (256-(i+1)) (by omega)
  obtain ⟨s,hs⟩:∃ s,tmF n t (256-(i+1))=s:=⟨_,rfl⟩
  rw[hs] at hS ih
  obtain ⟨s2,hs2⟩:∃ s2,s2=plF s s:=⟨_,rfl⟩
  have hp1:=(ih.plus C ih).1
  have ih2:=(ih.plus C ih).2
  rw[← hs2] at hp1 ih2
  obtain ⟨s3,hs3⟩:∃ s3,s3=plF s2 t:=⟨_,rfl⟩
  have hp2:=(ih2.plus C h).1
  rw[← hs3] at hp2
  have hstep:tmF n t (256-i)=if n/2^i%2=1 then s3 else s2:=by
   rw[show 256-i=256-(i+1)+1 by omega]
   show (if n/2^(255-(256-(i+1)))%2=1 then plF (plF (tmF n t (256-(i+1))) (tmF n t (256-(i+1)))) t else plF (tmF n t (256-(i+1))) (tmF n t (256-(i+1))))=_
   rw[show 255-(256-(i+1))=i by omega,hs,← hs2,← hs3]
  by_cases hb:n/2^i%2=1
  ·rw[if_pos hb] at hstep
   have M0:RG.M w w.heap.size [] 23 [(wn n),(tw t),(RG.z 12),(tw s)] [k2,k3,k4,k5] [(2,(.p 0 0)),(3,(.p 1 0)),(4,(.p 2 0)),(5,(.p 3 0)),(6,(.v (.int .i64 i)))] a _:=⟨hS,sl,⟨f2,f3,f4,f5,f6,trivial⟩⟩
   repeat refine wp_seq ?_
   refine M0.u [.x 8 [] (.int .i64 i),.x 9 [(8,0)] (.bool true)] [(2,(.p 0 0)),(3,(.p 1 0)),(4,(.p 2 0)),(5,(.p 3 0)),(6,(.v (.int .i64 i))),(9,(.v (.bool true)))] ⟨RG.st,RG.cert_binc rfl .geq 3 3 8 (.int .i64 i) (.int .i64 0) (.bool true) rfl rfl RG.sx (fun w=>by kernel_rfl) (geq0 i),trivial⟩ ?_
   intro a1 w1 M1
   repeat refine wp_seq ?_
   refine wp_cond_true M1.ev ?_
   refine wp_skip ?_
   refine wp_seq ?_
   refine wp_block ?_
   repeat refine wp_seq ?_
   refine M1.t [.x 12 [] (tv s),.x 13 [] (tv s),.c 14 [(12,0),(13,1)] (tv s2),.u [(14,2)] 3] [] [(3,3,(tw s2))] [(wn n),(tw t),(RG.z 12),(tw s2)] [(2,(.p 0 0)),(3,(.p 1 0)),(4,(.p 2 0)),(5,(.p 3 0)),(6,(.v (.int .i64 i)))] ⟨RG.ld u56 i56,RG.ld u56 i56,RG.cl (hp1),RG.pt i56,trivial⟩ ?_
   intro a2 w2 M2
   repeat refine wp_seq ?_
   refine M2.u [.x 15 [] (nv n),.x 16 [] (.int .i64 i),.c 17 [(15,0),(16,1)] (.int .u64 1),.x 18 [(17,2)] (.bool true)] [(2,(.p 0 0)),(3,(.p 1 0)),(4,(.p 2 0)),(5,(.p 3 0)),(6,(.v (.int .i64 i))),(18,(.v (.bool true)))] ⟨RG.ld u33 i33,RG.st,RG.cl (rBit_1 hn hi hb),RG.st,trivial⟩ ?_
   intro a3 w3 M3
   repeat refine wp_seq ?_
   refine wp_cond_true M3.ev ?_
   repeat refine wp_seq ?_
   refine M3.t [.x 19 [] (tv s2),.x 20 [] (tv t),.c 21 [(19,0),(20,1)] (tv s3),.u [(21,2)] 3] [] [(3,3,(tw s3))] [(wn n),(tw t),(RG.z 12),(tw s3)] [(2,(.p 0 0)),(3,(.p 1 0)),(4,(.p 2 0)),(5,(.p 3 0)),(6,(.v (.int .i64 i)))] ⟨RG.ld u56 i56,RG.ld u56 i56,RG.cl (hp2),RG.pt i56,trivial⟩ ?_
   intro a4 w4 M4
   repeat refine wp_seq ?_
   refine M4.u [.x 10 [] (.int .i64 i),.x 11 [(10,0)] (.int .i64 ((i:Int)-1)),.x 6 [(11,1)] (.int .i64 ((i:Int)-1))] [(2,(.p 0 0)),(3,(.p 1 0)),(4,(.p 2 0)),(5,(.p 3 0)),(6,(.v (.int .i64 ((i:Int)-1))))] ⟨RG.st,RG.cert_binc rfl .sub 3 3 10 (.int .i64 i) (.int .i64 1) (.int .i64 ((i:Int)-1)) rfl rfl RG.sx (fun w=>by kernel_rfl) (sub1 i (by omega)),RG.st,trivial⟩ ?_
   intro a5 w5 M5
   have f2_5:a5.tmps[2]? = some (.pointer (some ⟨k2,0,none⟩)):=M5.at (s:=(.p 0 0))
   have f3_5:a5.tmps[3]? = some (.pointer (some ⟨k3,0,none⟩)):=M5.at (s:=(.p 1 0))
   have f4_5:a5.tmps[4]? = some (.pointer (some ⟨k4,0,none⟩)):=M5.at (s:=(.p 2 0))
   have f5_5:a5.tmps[5]? = some (.pointer (some ⟨k5,0,none⟩)):=M5.at (s:=(.p 3 0))
   have f6_5:a5.tmps[6]? = some (.int .i64 ((i:Int)-1)):=M5.at (s:=(.v (.int .i64 ((i:Int)-1))))
   show ∃ n',_
   exact ⟨i,Nat.lt_succ_self i,by omega,M5.sl,f2_5,f3_5,f4_5,f5_5,f6_5,by rw[hstep];exact M5.st⟩
  ·rw[if_neg hb] at hstep
   have M0:RG.M w w.heap.size [] 23 [(wn n),(tw t),(RG.z 12),(tw s)] [k2,k3,k4,k5] [(2,(.p 0 0)),(3,(.p 1 0)),(4,(.p 2 0)),(5,(.p 3 0)),(6,(.v (.int .i64 i)))] a _:=⟨hS,sl,⟨f2,f3,f4,f5,f6,trivial⟩⟩
   repeat refine wp_seq ?_
   refine M0.u [.x 8 [] (.int .i64 i),.x 9 [(8,0)] (.bool true)] [(2,(.p 0 0)),(3,(.p 1 0)),(4,(.p 2 0)),(5,(.p 3 0)),(6,(.v (.int .i64 i))),(9,(.v (.bool true)))] ⟨RG.st,RG.cert_binc rfl .geq 3 3 8 (.int .i64 i) (.int .i64 0) (.bool true) rfl rfl RG.sx (fun w=>by kernel_rfl) (geq0 i),trivial⟩ ?_
   intro a1 w1 M1
   repeat refine wp_seq ?_
   refine wp_cond_true M1.ev ?_
   refine wp_skip ?_
   refine wp_seq ?_
   refine wp_block ?_
   repeat refine wp_seq ?_
   refine M1.t [.x 12 [] (tv s),.x 13 [] (tv s),.c 14 [(12,0),(13,1)] (tv s2),.u [(14,2)] 3] [] [(3,3,(tw s2))] [(wn n),(tw t),(RG.z 12),(tw s2)] [(2,(.p 0 0)),(3,(.p 1 0)),(4,(.p 2 0)),(5,(.p 3 0)),(6,(.v (.int .i64 i)))] ⟨RG.ld u56 i56,RG.ld u56 i56,RG.cl (hp1),RG.pt i56,trivial⟩ ?_
   intro a2 w2 M2
   repeat refine wp_seq ?_
   refine M2.u [.x 15 [] (nv n),.x 16 [] (.int .i64 i),.c 17 [(15,0),(16,1)] (.int .u64 0),.x 18 [(17,2)] (.bool false)] [(2,(.p 0 0)),(3,(.p 1 0)),(4,(.p 2 0)),(5,(.p 3 0)),(6,(.v (.int .i64 i))),(18,(.v (.bool false)))] ⟨RG.ld u33 i33,RG.st,RG.cl (rBit_0 hn hi hb),RG.st,trivial⟩ ?_
   intro a3 w3 M3
   repeat refine wp_seq ?_
   refine wp_cond_false M3.ev ?_
   refine wp_skip ?_
   repeat refine wp_seq ?_
   refine M3.u [.x 10 [] (.int .i64 i),.x 11 [(10,0)] (.int .i64 ((i:Int)-1)),.x 6 [(11,1)] (.int .i64 ((i:Int)-1))] [(2,(.p 0 0)),(3,(.p 1 0)),(4,(.p 2 0)),(5,(.p 3 0)),(6,(.v (.int .i64 ((i:Int)-1))))] ⟨RG.st,RG.cert_binc rfl .sub 3 3 10 (.int .i64 i) (.int .i64 1) (.int .i64 ((i:Int)-1)) rfl rfl RG.sx (fun w=>by kernel_rfl) (sub1 i (by omega)),RG.st,trivial⟩ ?_
   intro a4 w4 M4
   have f2_4:a4.tmps[2]? = some (.pointer (some ⟨k2,0,none⟩)):=M4.at (s:=(.p 0 0))
   have f3_4:a4.tmps[3]? = some (.pointer (some ⟨k3,0,none⟩)):=M4.at (s:=(.p 1 0))
   have f4_4:a4.tmps[4]? = some (.pointer (some ⟨k4,0,none⟩)):=M4.at (s:=(.p 2 0))
   have f5_4:a4.tmps[5]? = some (.pointer (some ⟨k5,0,none⟩)):=M4.at (s:=(.p 3 0))
   have f6_4:a4.tmps[6]? = some (.int .i64 ((i:Int)-1)):=M4.at (s:=(.v (.int .i64 ((i:Int)-1))))
   show ∃ n',_
   exact ⟨i,Nat.lt_succ_self i,by omega,M4.sl,f2_4,f3_4,f4_4,f5_4,f6_4,by rw[hstep];exact M4.st⟩
end
section
open Go.RowKit Go.Sort Go.Deep
variable {P:Nat} [NeZero P] {N:Nat}
def FB_1 (n:Nat):List RG.It:=[.x 3 [] (nv n),.c 4 [] (tv (gT P)),.c 5 [(3,0),(4,1)] (tv (tmF n (gT P) 256)),.u [(5,2)] 1]
theorem qBase_c (C:Fl3 P) (n:Nat) (hn:n<top):Gives 23 #[nv n] (tv (tmF n (gT P) 256)):=by
 intro w
 go_enter Tryz.func23,Tryz.ntmps23
 refine RG.M.enter [(0,.v (nv n))] 6 (by kernel_rfl) ?_
 intro a0 M0
 repeat refine wp_seq ?_
 refine M0.t [.m 1 [] 0,.m 2 [] 1] [(0,(wn n)),(1,(RG.z 12))] [] [(wn n),(RG.z 12)] [(1,(.p 0 0)),(2,(.p 1 0))] ⟨RG.mk 0 58,RG.mk 1 62,trivial⟩ ?_
 intro j1 i1 a1 w1 M1
 repeat refine wp_seq ?_
 refine M1.d (FB_1 (P:=P) n) [] [(1,3,(tw (tmF n (gT P) 256)))] [(wn n),(tw (tmF n (gT P) 256))] [(2,(.p 1 0))] ⟨RG.ld u33 i33,RG.cl (rG_c C),RG.cl (rTimes_c C n hn (gT P) (gT_frac C.toFld)),RG.pt i56,trivial⟩ ?_
 intro a2 w2 M2
 refine wp_ret ?_
 refine bodyPost_ret (v:=tv (tmF n (gT P) 256)) (RG.results_row M2.st 2 62 rfl 1 _ rfl (M2.at (s:=.p 1 0)) u56 i56) M2.sl.defers ?_
 exact ⟨_,rfl,M2.st.bel.below,rfl⟩
theorem rBytes_c (C:Fld P) (x:Fin P):Gives 34 #[fv x] (.string ⟨bx x.val⟩):=fun w =>
 (rBytes_any _ _ w (C.four x)).mono (by
  rintro e w' ⟨v,rfl,hb,a,b,c,d,he,rfl⟩
  refine ⟨_,rfl,hb,?_⟩
  have h2:fv x=.agg #[.int .u64 ((x.val%18446744073709551616:Nat):Int),.int .u64 ((x.val/18446744073709551616%18446744073709551616:Nat):Int),.int .u64 ((x.val/340282366920938463463374607431768211456%18446744073709551616:Nat):Int),.int .u64 ((x.val/6277101735386680763835789423207666416102355444464034512896%18446744073709551616:Nat):Int)]:=rfl
  rw[h2] at he
  simp only[Value.agg.injEq,Array.mk.injEq,List.cons.injEq,Value.int.injEq,true_and,and_true,Int.ofNat_inj] at he
  obtain ⟨rfl,rfl,rfl,rfl⟩:=he
  rfl)
theorem u31:(Tryz.prog.underlying 23).map (·.isRow)=some false:=by kernel_rfl
theorem and1 (n r:Nat) (hr:n%2=r) (w:World):(binOp .and 23 (.int .u64 ((n%18446744073709551616:Nat):Int)) (.int .u64 1)).run Tryz.prog w=.ok (.int .u64 r) w:=by
 have h:=and_one (n%18446744073709551616) (Nat.mod_lt _ (by decide))
 rw[show n%18446744073709551616%2=r by omega] at h
 generalize n%18446744073709551616=k at h ⊢
 go_simp
theorem cat (m:UInt8) (n:Nat) (w:World):(binOp .add 9 (.string ⟨#[m]⟩) (.string ⟨bx n⟩)).run Tryz.prog w=.ok (.string ⟨#[m]++bx n⟩) w:=by
 have h:=bx_size n
 generalize bx n=b at h ⊢
 have h2:(⟨#[m]⟩:ByteArray)++⟨b⟩=⟨#[m]++b⟩:=by
  have h3:((⟨#[m]⟩:ByteArray)++⟨b⟩).data=#[m]++b:=ByteArray.data_append
  rw[← h3]
 go_simp
theorem bs1 (m:Int) (w:World):(Instr.buildSlice 24 1 #[(0,.int .u8 m)]).run Tryz.prog w=.ok (.slice (some ⟨w.heap.size,0,none⟩) 1 1) (w.alloc (.cells #[.int .u8 m] 5)):=by
 obtain ⟨ie,hie,he⟩:=Option.map_eq_some_iff.1 info5b
 simp only[Prod.mk.injEq] at he
 obtain ⟨h1,h2,-⟩:=he
 exact run_buildSlice w 24 5 1 _ #[.int .u8 m] ie (.int .u8 0) und23 hie h1 (by rw[h2];omega) (by rw[h2];omega) (by rw[h2];kernel_rfl)
theorem str1 (m:UInt8) (w:World) (k:Nat) (h:w.rangeAt k 0 [.int .u8 (ub m)]):(convert 24 9 (.slice (some ⟨k,0,none⟩) 1 1)).run Tryz.prog w=.ok (.string ⟨#[m]⟩) w:=by
 have h2:=run_convert_bytes_back (P:=Tryz.prog) w 24 9 5 ⟨k,0,none⟩ 1 [m] slice22 int5 str9 (fun j hj=>by
  obtain rfl:j=0:=by simpa using hj
  have h3:=h 0 _ rfl
  have e1:(⟨k,0,none⟩:Addr).add 0=⟨k,0,none⟩:=rfl
  rw[e1,h3]
  simp[ub])
 simpa using h2
omit [NeZero P] in
theorem words3 (x y z:Fin P):∃ a1 b1 c1 d1 a2 b2 c2 d2 a3 b3 c3 d3:Nat,rv x y z=.agg #[.int .u64 a1,.int .u64 b1,.int .u64 c1,.int .u64 d1,.int .u64 a2,.int .u64 b2,.int .u64 c2,.int .u64 d2,.int .u64 a3,.int .u64 b3,.int .u64 c3,.int .u64 d3]:=
 ⟨_,_,_,_,_,_,_,_,_,_,_,_,rfl⟩
theorem rWr_z (C:Fl3 P) (x y z:Fin P) (hz:z=0):Gives 24 #[rv x y z] (.string ⟨zs33⟩):=by
 intro w
 have hI:=Is_t_c C x y z hz
 obtain ⟨a1,b1,c1,d1,a2,b2,c2,d2,a3,b3,c3,d3,e⟩:=words3 x y z
 rw[e] at hI ⊢
 have hmk:=mk33
 go_enter Tryz.func24,Tryz.ntmps24
 go_wp2_with fail
 refine (hI _).mono ?_
 rintro e w1 ⟨v,rfl,hb1,rfl⟩
 have HB:Hid (Below w.heap.size w w1):=(below1 w _).trans (hb1.mono (by simp))
 have hcv:(convert 24 9 (.slice (some ⟨w1.heap.size,0,none⟩) 33 33)).run Tryz.prog (w1.alloc (.cells (madeCells #[.int .u8 0] 33) 5))=.ok (.string ⟨zs33⟩) (w1.alloc (.cells (madeCells #[.int .u8 0] 33) 5)):=
  conv_str Tryz.prog 24 9 5 slice22 int5 str9 _ _ 0 33 33 _ (Holds.made (enc:=encB) w1 5 33 (0:UInt8)) (by decide)
 clear hb1 hI
 go_wp2
 go_ret
 exact ⟨_,rfl,HB.out.trans ((below1 w1 _).mono HB.out.size),rfl⟩
theorem rWr_0_c (C:Fl3 P) (x y z:Fin P)(hz:¬ z=0) (hpar:(y*EC.inv z).val%2=0) :Gives 24 #[(rv x y z)] (.string ⟨#[2]++bx (x*EC.inv z).val⟩):=by
 intro w
 obtain ⟨c1,hc1⟩:∃ c,c=EC.inv z:=⟨_,rfl⟩
 obtain ⟨c2,hc2⟩:∃ c,c=x*c1:=⟨_,rfl⟩
 obtain ⟨c3,hc3⟩:∃ c,c=y*c1:=⟨_,rfl⟩
 have hfin:((.string ⟨#[2]++bx c2.val⟩):Value)=(.string ⟨#[2]++bx (x*EC.inv z).val⟩):=by
  subst_vars;rfl
 rw[← hfin]
 go_enter Tryz.func24,Tryz.ntmps24
 refine RG.M.enter [(0,(.v (rv x y z)))] 36 (by kernel_rfl) ?_
 intro a0 M0
 repeat refine wp_seq ?_
 refine M0.t [.m 1 [] 0,.x 2 [] (.string ⟨#[]⟩)] [(0,(ws x++(ws y++(ws z))))] [] [(ws x++(ws y++(ws z)))] [(1,(.p 0 0)),(2,(.v (.string ⟨#[]⟩)))] ⟨RG.mk 0 62,RG.st,trivial⟩ ?_
 intro j1 a1 w1 M1
 repeat refine wp_seq ?_
 refine M1.u [.x 7 [] (rv x y z),.c 8 [(7,0)] (.bool false),.x 3 [(8,1)] (.bool false)] [(1,(.p 0 0)),(2,(.v (.string ⟨#[]⟩))),(3,(.v (.bool false)))] ⟨RG.ld u56 i56,RG.cl (Is_f_c C x y z hz),RG.st,trivial⟩ ?_
 intro a2 w2 M2
 repeat refine wp_seq ?_
 refine M2.u [.x 9 [] (.bool false)] [(1,(.p 0 0)),(2,(.v (.string ⟨#[]⟩))),(9,(.v (.bool false)))] ⟨RG.st,trivial⟩ ?_
 intro a3 w3 M3
 repeat refine wp_seq ?_
 refine wp_cond_false M3.ev ?_
 refine wp_skip ?_
 repeat refine wp_seq ?_
 refine M3.d [.c 12 [] rv0,.s 13 [] (.p 0 8),.x 14 [(13,1)] (fv z),.c 15 [(12,0),(14,2)] (fv c1),.m 4 [] 1,.u [(4,4),(15,3)] 1] [(4,(RG.z 4))] [(1,5,(ws c1))] [(ws x++(ws y++(ws z))),(ws c1)] [(1,(.p 0 0)),(2,(.v (.string ⟨#[]⟩))),(4,(.p 1 0))] ⟨RG.cl (F3_c),RG.st,RG.ld u33 i33,RG.cl ((rInv_c C z).e hc1),RG.mk 1 58,RG.pt i33,trivial⟩ ?_
 intro j4 a4 w4 M4
 repeat refine wp_seq ?_
 refine M4.d [.c 16 [] rv0,.s 17 [] (.p 0 0),.x 18 [(17,1)] (fv x),.x 19 [] (fv c1),.c 20 [(16,0),(18,2),(19,3)] (fv c2),.m 5 [] 2,.u [(5,5),(20,4)] 2] [(5,(RG.z 4))] [(2,6,(ws c2))] [(ws x++(ws y++(ws z))),(ws c1),(ws c2)] [(1,(.p 0 0)),(2,(.v (.string ⟨#[]⟩))),(4,(.p 1 0)),(5,(.p 2 0))] ⟨RG.cl (F3_c),RG.st,RG.ld u33 i33,RG.ld u33 i33,RG.cl ((rMul_c C x c1).e hc2),RG.mk 2 58,RG.pt i33,trivial⟩ ?_
 intro j5 a5 w5 M5
 repeat refine wp_seq ?_
 refine M5.d [.c 21 [] rv0,.s 22 [] (.p 0 4),.x 23 [(22,1)] (fv y),.x 24 [] (fv c1),.c 25 [(21,0),(23,2),(24,3)] (fv c3),.m 6 [] 3,.u [(6,5),(25,4)] 3] [(5,(RG.z 4))] [(3,6,(ws c3))] [(ws x++(ws y++(ws z))),(ws c1),(ws c2),(ws c3)] [(2,(.v (.string ⟨#[]⟩))),(5,(.p 2 0)),(6,(.p 3 0))] ⟨RG.cl (F3_c),RG.st,RG.ld u33 i33,RG.ld u33 i33,RG.cl ((rMul_c C y c1).e hc3),RG.mk 3 58,RG.pt i33,trivial⟩ ?_
 intro j6 a6 w6 M6
 repeat refine wp_seq ?_
 refine M6.d [.s 26 [] (.p 3 0),.x 27 [(26,0)] (.int .u64 ((c3.val%18446744073709551616:Nat):Int)),.x 28 [(27,1)] (.int .u64 0),.x 29 [(28,2)] (.int .u8 0),.x 30 [(29,3)] (.int .u8 2),⟨some 31,[(30,4)],(.s 4 1 1),.make 4⟩,.x 32 [(31,5)] (.string ⟨#[2]⟩),.x 33 [] (fv c2),.c 34 [(33,7)] (.string ⟨bx c2.val⟩),.x 35 [(32,6),(34,8)] (.string ⟨#[2]++bx c2.val⟩),.x 2 [(35,9)] (.string ⟨#[2]++bx c2.val⟩)] [(5,[(.int .u8 2)])] [] [(ws x++(ws y++(ws z))),(ws c1),(ws c2),(ws c3),[(.int .u8 2)]] [(2,(.v (.string ⟨#[2]++bx c2.val⟩)))] ⟨RG.cert_idxc rfl 58 6 (.int .i64 0) rfl (.p 3 0) RG.sx (fun μ w=>by kernel_rfl),RG.cert_load1 rfl 3 0 _ rfl rfl (by kernel_rfl) 23 26 rfl (.int .u64 ((c3.val%18446744073709551616:Nat):Int)) rfl RG.sx rfl u31,RG.cert_binc rfl .and 23 23 27 (.int .u64 ((c3.val%18446744073709551616:Nat):Int)) (.int .u64 1) (.int .u64 0) rfl rfl RG.sx (fun w=>by kernel_rfl) (and1 c3.val 0 (by subst_vars;exact hpar)),RG.cert_conv rfl 23 5 28 (.int .u64 0) (.int .u8 0) rfl rfl RG.sx (fun w=>by kernel_rfl),RG.st,RG.cert_bs1 4 rfl _ rfl 24 5 30 (.int .u8 2) rfl rfl RG.sx (bs1 2),RG.cert_str rfl 4 5 _ rfl _ rfl rfl (by kernel_rfl) (by kernel_rfl) 24 9 31 1 (.string ⟨#[2]⟩) rfl rfl RG.sx (fun w k h=>str1 2 w k h),RG.ld u33 i33,RG.cl (rBytes_c C.toFld c2),RG.cert_bin rfl .add 9 9 32 34 (.string ⟨#[2]⟩) (.string ⟨bx c2.val⟩) (.string ⟨#[2]++bx c2.val⟩) rfl rfl RG.sx RG.sx (fun w=>by kernel_rfl) (cat 2 _),RG.st,trivial⟩ ?_
 intro j7 a7 w7 M7
 refine wp_ret ?_
 refine bodyPost_ret (v:=(.string ⟨#[2]++bx c2.val⟩)) (RG.results_t 2 rfl _ (M7.at (s:=(.v (.string ⟨#[2]++bx c2.val⟩))))) M7.sl.defers ?_
 exact ⟨_,rfl,M7.st.bel.below,rfl⟩
theorem rWr_1_c (C:Fl3 P) (x y z:Fin P)(hz:¬ z=0) (hpar:(y*EC.inv z).val%2=1) :Gives 24 #[(rv x y z)] (.string ⟨#[3]++bx (x*EC.inv z).val⟩):=by
 intro w
 obtain ⟨c1,hc1⟩:∃ c,c=EC.inv z:=⟨_,rfl⟩
 obtain ⟨c2,hc2⟩:∃ c,c=x*c1:=⟨_,rfl⟩
 obtain ⟨c3,hc3⟩:∃ c,c=y*c1:=⟨_,rfl⟩
 have hfin:((.string ⟨#[3]++bx c2.val⟩):Value)=(.string ⟨#[3]++bx (x*EC.inv z).val⟩):=by
  subst_vars;rfl
 rw[← hfin]
 go_enter Tryz.func24,Tryz.ntmps24
 refine RG.M.enter [(0,(.v (rv x y z)))] 36 (by kernel_rfl) ?_
 intro a0 M0
 repeat refine wp_seq ?_
 refine M0.t [.m 1 [] 0,.x 2 [] (.string ⟨#[]⟩)] [(0,(ws x++(ws y++(ws z))))] [] [(ws x++(ws y++(ws z)))] [(1,(.p 0 0)),(2,(.v (.string ⟨#[]⟩)))] ⟨RG.mk 0 62,RG.st,trivial⟩ ?_
 intro j1 a1 w1 M1
 repeat refine wp_seq ?_
 refine M1.u [.x 7 [] (rv x y z),.c 8 [(7,0)] (.bool false),.x 3 [(8,1)] (.bool false)] [(1,(.p 0 0)),(2,(.v (.string ⟨#[]⟩))),(3,(.v (.bool false)))] ⟨RG.ld u56 i56,RG.cl (Is_f_c C x y z hz),RG.st,trivial⟩ ?_
 intro a2 w2 M2
 repeat refine wp_seq ?_
 refine M2.u [.x 9 [] (.bool false)] [(1,(.p 0 0)),(2,(.v (.string ⟨#[]⟩))),(9,(.v (.bool false)))] ⟨RG.st,trivial⟩ ?_
 intro a3 w3 M3
 repeat refine wp_seq ?_
 refine wp_cond_false M3.ev ?_
 refine wp_skip ?_
 repeat refine wp_seq ?_
 refine M3.d [.c 12 [] rv0,.s 13 [] (.p 0 8),.x 14 [(13,1)] (fv z),.c 15 [(12,0),(14,2)] (fv c1),.m 4 [] 1,.u [(4,4),(15,3)] 1] [(4,(RG.z 4))] [(1,5,(ws c1))] [(ws x++(ws y++(ws z))),(ws c1)] [(1,(.p 0 0)),(2,(.v (.string ⟨#[]⟩))),(4,(.p 1 0))] ⟨RG.cl (F3_c),RG.st,RG.ld u33 i33,RG.cl ((rInv_c C z).e hc1),RG.mk 1 58,RG.pt i33,trivial⟩ ?_
 intro j4 a4 w4 M4
 repeat refine wp_seq ?_
 refine M4.d [.c 16 [] rv0,.s 17 [] (.p 0 0),.x 18 [(17,1)] (fv x),.x 19 [] (fv c1),.c 20 [(16,0),(18,2),(19,3)] (fv c2),.m 5 [] 2,.u [(5,5),(20,4)] 2] [(5,(RG.z 4))] [(2,6,(ws c2))] [(ws x++(ws y++(ws z))),(ws c1),(ws c2)] [(1,(.p 0 0)),(2,(.v (.string ⟨#[]⟩))),(4,(.p 1 0)),(5,(.p 2 0))] ⟨RG.cl (F3_c),RG.st,RG.ld u33 i33,RG.ld u33 i33,RG.cl ((rMul_c C x c1).e hc2),RG.mk 2 58,RG.pt i33,trivial⟩ ?_
 intro j5 a5 w5 M5
 repeat refine wp_seq ?_
 refine M5.d [.c 21 [] rv0,.s 22 [] (.p 0 4),.x 23 [(22,1)] (fv y),.x 24 [] (fv c1),.c 25 [(21,0),(23,2),(24,3)] (fv c3),.m 6 [] 3,.u [(6,5),(25,4)] 3] [(5,(RG.z 4))] [(3,6,(ws c3))] [(ws x++(ws y++(ws z))),(ws c1),(ws c2),(ws c3)] [(2,(.v (.string ⟨#[]⟩))),(5,(.p 2 0)),(6,(.p 3 0))] ⟨RG.cl (F3_c),RG.st,RG.ld u33 i33,RG.ld u33 i33,RG.cl ((rMul_c C y c1).e hc3),RG.mk 3 58,RG.pt i33,trivial⟩ ?_
 intro j6 a6 w6 M6
 repeat refine wp_seq ?_
 refine M6.d [.s 26 [] (.p 3 0),.x 27 [(26,0)] (.int .u64 ((c3.val%18446744073709551616:Nat):Int)),.x 28 [(27,1)] (.int .u64 1),.x 29 [(28,2)] (.int .u8 1),.x 30 [(29,3)] (.int .u8 3),⟨some 31,[(30,4)],(.s 4 1 1),.make 4⟩,.x 32 [(31,5)] (.string ⟨#[3]⟩),.x 33 [] (fv c2),.c 34 [(33,7)] (.string ⟨bx c2.val⟩),.x 35 [(32,6),(34,8)] (.string ⟨#[3]++bx c2.val⟩),.x 2 [(35,9)] (.string ⟨#[3]++bx c2.val⟩)] [(5,[(.int .u8 3)])] [] [(ws x++(ws y++(ws z))),(ws c1),(ws c2),(ws c3),[(.int .u8 3)]] [(2,(.v (.string ⟨#[3]++bx c2.val⟩)))] ⟨RG.cert_idxc rfl 58 6 (.int .i64 0) rfl (.p 3 0) RG.sx (fun μ w=>by kernel_rfl),RG.cert_load1 rfl 3 0 _ rfl rfl (by kernel_rfl) 23 26 rfl (.int .u64 ((c3.val%18446744073709551616:Nat):Int)) rfl RG.sx rfl u31,RG.cert_binc rfl .and 23 23 27 (.int .u64 ((c3.val%18446744073709551616:Nat):Int)) (.int .u64 1) (.int .u64 1) rfl rfl RG.sx (fun w=>by kernel_rfl) (and1 c3.val 1 (by subst_vars;exact hpar)),RG.cert_conv rfl 23 5 28 (.int .u64 1) (.int .u8 1) rfl rfl RG.sx (fun w=>by kernel_rfl),RG.st,RG.cert_bs1 4 rfl _ rfl 24 5 30 (.int .u8 3) rfl rfl RG.sx (bs1 3),RG.cert_str rfl 4 5 _ rfl _ rfl rfl (by kernel_rfl) (by kernel_rfl) 24 9 31 1 (.string ⟨#[3]⟩) rfl rfl RG.sx (fun w k h=>str1 3 w k h),RG.ld u33 i33,RG.cl (rBytes_c C.toFld c2),RG.cert_bin rfl .add 9 9 32 34 (.string ⟨#[3]⟩) (.string ⟨bx c2.val⟩) (.string ⟨#[3]++bx c2.val⟩) rfl rfl RG.sx RG.sx (fun w=>by kernel_rfl) (cat 3 _),RG.st,trivial⟩ ?_
 intro j7 a7 w7 M7
 refine wp_ret ?_
 refine bodyPost_ret (v:=(.string ⟨#[3]++bx c2.val⟩)) (RG.results_t 2 rfl _ (M7.at (s:=(.v (.string ⟨#[3]++bx c2.val⟩))))) M7.sl.defers ?_
 exact ⟨_,rfl,M7.st.bel.below,rfl⟩
end
section
open Go.RowKit Go.Sort
variable {P:Nat} [NeZero P] {N:Nat}
theorem rWritten_c (C:Fl3 P) {t:T3 P} {p:EC.Pt P} (h:FracT t p):Gives 24 #[tv t] (.string ⟨wr p⟩):=by
 obtain ⟨x,y,z⟩:=t
 match p,h with
 | none,h=>exact rWr_z C x y z h.1
 | some (a,b),h =>
  obtain ⟨⟨hz,hx,hy⟩,ho⟩:=h
  have hi:=EC.inv_mul C.toFld.cur.pr hz
  have e1:x*EC.inv z=a:=by
   have hx:x=a*z:=hx
   rw[hx]
   grobner
  have e2:y*EC.inv z=b:=by
   have hy:y=b*z:=hy
   rw[hy]
   grobner
  show Gives _ #[rv x y z] (.string ⟨#[mark b.val]++bx a.val⟩)
  rw[← e1,← e2]
  unfold mark
  by_cases hp:(y*EC.inv z).val%2=1
  ·rw[if_pos hp]
   exact rWr_1_c C x y z hz hp
  ·rw[if_neg hp]
   exact rWr_0_c C x y z hz (by omega)
end
section
open Go.RowKit Go.Sort Go.Deep
variable {P:Nat} [NeZero P] {N:Nat}
end
section
open Go.RowKit Go.Sort Go.Deep
variable {N:Nat}
variable {P:Nat} [NeZero P]
end
section
open Go.RowKit Go.Sort Go.Deep
variable {P:Nat} [NeZero P] {N:Nat}
theorem undCP:Tryz.prog.underlying 52=some (.array 33 5):=by kernel_rfl
theorem bl33_lit {b:Bs} (h:b.size=33):bl33 b=[.int .u8 (ub b[0]!),.int .u8 (ub b[1]!),.int .u8 (ub b[2]!),.int .u8 (ub b[3]!),.int .u8 (ub b[4]!),.int .u8 (ub b[5]!),.int .u8 (ub b[6]!),.int .u8 (ub b[7]!),.int .u8 (ub b[8]!),.int .u8 (ub b[9]!),.int .u8 (ub b[10]!),.int .u8 (ub b[11]!),.int .u8 (ub b[12]!),.int .u8 (ub b[13]!),.int .u8 (ub b[14]!),.int .u8 (ub b[15]!),.int .u8 (ub b[16]!),.int .u8 (ub b[17]!),.int .u8 (ub b[18]!),.int .u8 (ub b[19]!),.int .u8 (ub b[20]!),.int .u8 (ub b[21]!),.int .u8 (ub b[22]!),.int .u8 (ub b[23]!),.int .u8 (ub b[24]!),.int .u8 (ub b[25]!),.int .u8 (ub b[26]!),.int .u8 (ub b[27]!),.int .u8 (ub b[28]!),.int .u8 (ub b[29]!),.int .u8 (ub b[30]!),.int .u8 (ub b[31]!),.int .u8 (ub b[32]!)]:=by
 apply List.ext_getElem?
 intro i
 by_cases hi:i<33
 ·rw[bl33_at b i (by omega)]
  match i,hi with
  | 0,_=>rfl
  | 1,_=>rfl
  | 2,_=>rfl
  | 3,_=>rfl
  | 4,_=>rfl
  | 5,_=>rfl
  | 6,_=>rfl
  | 7,_=>rfl
  | 8,_=>rfl
  | 9,_=>rfl
  | 10,_=>rfl
  | 11,_=>rfl
  | 12,_=>rfl
  | 13,_=>rfl
  | 14,_=>rfl
  | 15,_=>rfl
  | 16,_=>rfl
  | 17,_=>rfl
  | 18,_=>rfl
  | 19,_=>rfl
  | 20,_=>rfl
  | 21,_=>rfl
  | 22,_=>rfl
  | 23,_=>rfl
  | 24,_=>rfl
  | 25,_=>rfl
  | 26,_=>rfl
  | 27,_=>rfl
  | 28,_=>rfl
  | 29,_=>rfl
  | 30,_=>rfl
  | 31,_=>rfl
  | 32,_=>rfl
  | n+33,h=>exact absurd h (by omega)
 ·rw[List.getElem?_eq_none (by rw[bl33_length h];omega),List.getElem?_eq_none (by show 33≤i;omega)]
theorem bytes_eq {a b:Bs} (ha:a.size=33) (hb:b.size=33):(∀ i∈List.range 33,ub a[i]! = ub b[i]!)↔a=b:=by
 constructor
 ·intro h
  apply Array.ext (by rw[ha,hb])
  intro i h1 h2
  have h3:=h i (List.mem_range.2 (by omega))
  rw[getElem!_pos a i h1,getElem!_pos b i h2] at h3
  have h4:a[i].toNat=b[i].toNat:=by unfold ub at h3;omega
  exact UInt8.toNat_inj.1 h4
 ·rintro rfl i _
  rfl
theorem eqCP {a b:Bs} (ha:a.size=33) (hb:b.size=33) (w:World):(Op.equal 52 (.agg (bl33 a).toArray) (.agg (bl33 b).toArray)).run Tryz.prog w=.ok (decide (a=b)) w:=by
 have hi:(Tryz.prog.info? 5).isSome=true:=by kernel_rfl
 obtain ⟨inf,hinf⟩:=Option.isSome_iff_exists.1 hi
 show (Op.equalIn 10000 52 _ _).run Tryz.prog w=_
 rw[run_equalIn_array w 9999 _ _ undCP hinf,cells5,
  eqI _ _ (fun i=>ub a[i]!) (fun i=>ub b[i]!) 9998 w (List.range 33) (fun i hi=>by
   rw[List.getElem?_toArray]
   exact bl33_at a i (by rw[ha];exact List.mem_range.1 hi)) (fun i hi=>by
   rw[List.getElem?_toArray]
   exact bl33_at b i (by rw[hb];exact List.mem_range.1 hi))]
 rw[decide_eq_decide.2 (bytes_eq ha hb)]
theorem checkCP {b:Bs} (hb:b.size=33) (e:Bool) (w:World):(Instr.checkKey e 10000 52 (.agg (bl33 b).toArray)).run Tryz.prog w=.ok () w:=by
 rw[bl33_lit hb]
 kernel_rfl
def at? (b:Bs):List Bs→Nat→Option Nat
 | [],_=>none
 | k :: r,i=>if b=k then some i else at? b r (i+1)
def ents:List Bs→Nat→List MapEntry
 | [],_=>[]
 | k :: r,i=>{ key:=.agg (bl33 k).toArray,val:=.int .i64 i,born:=i } :: ents r (i+1)
theorem find_run {b:Bs} (hb:b.size=33) (w:World):∀ (D:List Bs) (i:Nat),(∀ k∈D,k.size=33)→(Instr.findAsking 52 (.agg (bl33 b).toArray) (ents D i) i).run Tryz.prog w=.ok ((at? b D i).map fun j=>(j,.int .i64 j)) w
 | [],i,_=>rfl
 | k :: r,i,h=>by
  have ih:=find_run hb w r (i+1) (fun x hx=>h x (List.mem_cons_of_mem _ hx))
  have he:=eqCP hb (h k List.mem_cons_self) w
  unfold ents Instr.findAsking at?
  simp only[Sem.run_bind,he,Result.andThen_ok]
  by_cases hk:b=k
  ·simp only[hk,decide_true,if_true,Sem.run_pure,Option.map_some]
  ·simp only[hk,decide_false,Bool.false_eq_true,if_false,ih]
theorem key_run {b:Bs} (hb:b.size=33) (D:List Bs) (h:∀ k∈D,k.size=33) (w:World):(Instr.findKey 52 (.agg (bl33 b).toArray) (ents D 0)).run Tryz.prog w=.ok ((at? b D 0).map fun j=>(j,.int .i64 j)) w:=by
 have hu:(underlying 52).run Tryz.prog w=.ok (.array 33 5) w:=run_underlying undCP w
 unfold Instr.findKey
 rw[Sem.run_bind,hu,Result.andThen_ok]
 cases D with
 | nil=>rfl
 | cons k r =>
  have h1:Instr.findNow (.array 33 5) (.agg (bl33 b).toArray) (ents (k :: r) 0) 0=none:=rfl
  simp only[h1]
  exact find_run hb w (k :: r) 0 h
theorem at?_none {b:Bs}:∀ {D:List Bs} {i:Nat},at? b D i=none↔b ∉ D
 | [],i=>by simp[at?]
 | k :: r,i=>by
  unfold at?
  by_cases h:b=k
  ·simp[h]
  ·simp[h,at?_none (D:=r) (i:=i+1)]
end
section
open Go.RowKit Go.Sort Go.Deep
section
variable {P:Program} {ops:Array Oper} {rest:List Oper} {op:Oper} {a:Act} {w w':World} {v u:Value} {Q:Exit→Act→World→Prop}
theorem wpList_box (hgd:op.guard=none) (T:TypeId) (x:Operand) (ho:op.op=.box T x) (hx:a.eval x=u) (hr:(Instr.box T u).run P w=.ok v w') (h:wpList P ops Q rest (a.put op.dst v) w'):wpList P ops Q (op :: rest) a w:=
 wpList_plain hgd fun K hK=>by
  unfold Oper.wp execOp
  simp only[ho,hx,Sem.run_bind,hr,Result.andThen_ok,Sem.run_pure]
  exact hK _ _ h
end
variable {N:Nat}
theorem infoCP:(Tryz.prog.info? 52).map (·.size)=some 33:=by kernel_rfl
theorem uCP:(Tryz.prog.underlying 52).map (·.isRow)=some true:=by kernel_rfl
theorem boxCP {a:Bs} (ha:a.size=33) (w:World):(Instr.box 52 (.agg (bl33 a).toArray)).run Tryz.prog w=.ok (.pointer (some ⟨w.heap.size,0,none⟩)) (w.alloc (.cells (bl33 a).toArray 52)):=by
 rw[bl33_lit ha]
 kernel_rfl
theorem slCP (k:Nat) (w:World):(Instr.sliceAt 52 (.pointer (some ⟨k,0,none⟩)) none none none).run Tryz.prog w=.ok (.slice (some ⟨k,0,none⟩) 33 33) w:=by kernel_rfl
theorem row_holds {W:World} {k:Nat} {a:Bs} (h:Row W k (bl33 a)):Holds encB W k 0 a:=cb_holds h.2.1 h.2.2
end
section
open Go.RowKit Go.Sort Go.Deep
variable {P:Nat} [NeZero P] {N:Nat}
theorem arrCP (g cg:Nat) (w:World):(Instr.arrayAt 52 (.slice (some ⟨g,0,none⟩) 33 cg)).run Tryz.prog w=.ok (.pointer (some ⟨g,0,none⟩)) w:=by kernel_rfl
theorem row_cp {W:World} {k:Nat} {a:Bs} (ha:Holds encB W k 0 a) (hk:k<W.heap.size):Row W k (bl33 a):=⟨hk,(cb_range ha).1,(cb_range ha).2⟩
theorem bl33_one (a:Bs):(bl33 a).toArray.all (·.oneCell')=true:=by
 rw[Array.all_eq_true']
 intro v hv
 obtain ⟨x,-,rfl⟩:=List.mem_map.1 (List.mem_toArray.1 hv)
 rfl
def pvl (a:Bs):Value:=.agg (bl33 a).toArray
theorem gen_c (C:Fld P):Gives 17 #[] (pvl (wr (gG P))):=by
 intro w
 obtain ⟨T,hT⟩:∃ T,Hid (wr (gG P)=T):=⟨_,rfl⟩
 have hTs:T.size=33:=by rw[← hT.out];exact wr_size _
 rw[hT.out]
 obtain ⟨w1,hw1⟩:∃ w1,Hid (w.alloc (.cells z33.toArray 52)=w1):=⟨_,rfl⟩
 have K1:Hid (Row w1 w.heap.size z33∧Below w.heap.size w w1):=by rw[← hw1.out];exact ⟨row_new w _ _,below1 w _⟩
 obtain ⟨d,hd1,hd2⟩:=Option.map_eq_some_iff.1 uCP
 have HD:Hid (Tryz.prog.underlying 52=some d∧d.isRow=true):=⟨hd1,hd2⟩
 clear hd1 hd2
 go_enter Tryz.func17,Tryz.ntmps17
 go_wp2_with (refine wpList_op (v:=.pointer (some ⟨w.heap.size,0,none⟩)) (w':=w1) rfl (.alloc 52) rfl ?_ ?_;(rw[← hw1.out];kernel_rfl))
 refine (Base_c C w1).mono ?_
 rintro e w2 ⟨vv,rfl,hb2,g,cg,rfl,-,k2,k3,k4⟩
 rw[hT.out] at k4
 have K2:Hid (Row w2 w.heap.size z33∧Below w.heap.size w w2∧Row w2 g (bl33 T)):=⟨K1.out.1.below hb2,K1.out.2.trans (hb2.mono K1.out.2.size),row_cp k4 k3⟩
 clear hb2 k2 k3 k4 K1 hw1
 have harr:=arrCP g cg
 obtain ⟨w3,hw3⟩:∃ w3,Hid (w2.setCells w.heap.size 0 (bl33 T)=w3):=⟨_,rfl⟩
 have hlen:(bl33 T).length=33:=bl33_length hTs
 have K3:Hid (Row w3 w.heap.size (bl33 T)∧Below w.heap.size w w3):=by rw[← hw3.out];exact ⟨K2.out.1.put (by rw[hlen];rfl),RG.below_setCells (Nat.le_refl _) _ _ _ K2.out.2.1⟩
 obtain ⟨vt,hvt⟩:∃ vt,Hid (Value.agg (bl33 T).toArray=vt):=⟨_,rfl⟩
 have HI:Hid ((Tryz.prog.info? 52).map (·.size)=some (bl33 T).length∧w2.there w.heap.size 0 (bl33 T).toArray.size∧(Tryz.prog.info? 52).map (·.size)=some (bl33 T).toArray.size):=by
  have e:(bl33 T).toArray.size=33:=by rw[List.size_toArray];exact hlen
  refine ⟨by rw[hlen];exact infoCP,by rw[e];exact K2.out.1.2.2,by rw[e];exact infoCP⟩
 clear hlen
 go_wp2_with (first|(refine wpList_load_mid rfl 52 _ rfl g 0 ?_ (bl33 T) d ?_ ?_ ?_ ?_ ?_;rfl;exact K2.out.2.2.2.1;exact HD.out.1;exact HD.out.2;exact HI.out.1;rw[hvt.out])|(refine wpList_store_mid rfl 52 _ _ rfl w.heap.size 0 (bl33 T).toArray ?_ ?_ ?_ ?_ ?_ ?_;rfl;exact hvt.out.symm;exact HI.out.2.1;exact HI.out.2.2;exact bl33_one T;rw[show (bl33 T).toArray.toList=bl33 T from rfl,hw3.out]))
 refine bodyPost_ret (results_cell 0 52 rfl K3.out.1 rfl uCP HI.out.1) rfl ?_
 exact ⟨_,rfl,K3.out.2,rfl⟩
end
section
open Go.RowKit Go.Sort Go.Deep
section
variable {P:Program} {ops:Array Oper} {rest:List Oper} {op:Oper} {a:Act} {w w':World} {v:Value} {Q:Exit→Act→World→Prop}
theorem wpList_bld (hgd:op.guard=none) (T:TypeId) (parts:Array (Nat × Operand)) (ho:op.op=.build T parts) (vs:Array (Nat × Value)) (hx:(parts.map fun (i,x)=>(i,a.eval x))=vs) (hr:(Instr.build T vs).run P w=.ok v w') (h:wpList P ops Q rest (a.put op.dst v) w'):wpList P ops Q (op :: rest) a w:=
 wpList_plain hgd fun K hK=>by
  unfold Oper.wp execOp
  simp only[ho,hx,Sem.run_bind,hr,Result.andThen_ok,Sem.run_pure]
  exact hK _ _ h
theorem wpList_bsl (hgd:op.guard=none) (T:TypeId) (n:Nat) (parts:Array (Nat × Operand)) (ho:op.op=.buildSlice T n parts) (vs:Array (Nat × Value)) (hx:(parts.map fun (i,x)=>(i,a.eval x))=vs) (hr:(Instr.buildSlice T n vs).run P w=.ok v w') (h:wpList P ops Q rest (a.put op.dst v) w'):wpList P ops Q (op :: rest) a w:=
 wpList_plain hgd fun K hK=>by
  unfold Oper.wp execOp
  simp only[ho,hx,Sem.run_bind,hr,Result.andThen_ok,Sem.run_pure]
  exact hK _ _ h
end
theorem bldT {a:Bs} (ha:a.size=33) (n:Nat) (w:World):(Instr.build 78 #[(0,nv n),(1,pvl a)]).run Tryz.prog w=.ok (.agg (wn n++bl33 a).toArray) w:=by
 unfold pvl
 rw[bl33_lit ha]
 kernel_rfl
theorem bslT {a:Bs} (ha:a.size=33) (n:Nat) (w:World):(Instr.buildSlice 54 1 #[(0,.agg (wn n++bl33 a).toArray)]).run Tryz.prog w=.ok (.slice (some ⟨w.heap.size,0,none⟩) 1 1) (w.alloc (.cells (wn n++bl33 a).toArray 78)):=by
 rw[bl33_lit ha]
 kernel_rfl
theorem boxS (n:Nat) (w:World):(Instr.box 47 (nv n)).run Tryz.prog w=.ok (.pointer (some ⟨w.heap.size,0,none⟩)) (w.alloc (.cells (wn n).toArray 47)):=by kernel_rfl
theorem ptTimes_c (a:Bs) (ha:a.size=33) (n:Nat) (w:World):Calls Tryz.prog 18 #[pvl a,nv n] w (Ret fun e w'=>Below w.heap.size w w'∧∃ k,e=.slice (some ⟨k,0,none⟩) 1 1∧w.heap.size≤k∧Row w' k (wn n++bl33 a)):=by
 have B1:=Hid.mk' (boxCP ha w)
 obtain ⟨w1,hw1⟩:∃ w1,Hid (w.alloc (.cells (bl33 a).toArray 52)=w1):=⟨_,rfl⟩
 rw[hw1.out] at B1
 have e1:w1.heap.size=w.heap.size+1:=by rw[← hw1.out,World.size_alloc]
 have B2:=Hid.mk' (boxS n w1)
 obtain ⟨w2,hw2⟩:∃ w2,Hid (w1.alloc (.cells (wn n).toArray 47)=w2):=⟨_,rfl⟩
 rw[hw2.out,e1] at B2
 have e2:w2.heap.size=w.heap.size+2:=by rw[← hw2.out,World.size_alloc,e1]
 have B3:=Hid.mk' (bldT ha n w2)
 have B4:=Hid.mk' (bslT ha n w2)
 obtain ⟨w3,hw3⟩:∃ w3,Hid (w2.alloc (.cells (wn n++bl33 a).toArray 78)=w3):=⟨_,rfl⟩
 rw[hw3.out,e2] at B4
 have K:Hid (Row w2 w.heap.size (bl33 a)∧Row w2 (w.heap.size+1) (wn n)∧Below w.heap.size w w3∧Row w3 (w.heap.size+2) (wn n++bl33 a)):=by
  have q1:Row w1 w.heap.size (bl33 a):=by rw[← hw1.out];exact row_new w _ _
  have q2:Row w2 (w.heap.size+1) (wn n):=by rw[← hw2.out,← e1];exact row_new w1 _ _
  have q3:Row w3 (w.heap.size+2) (wn n++bl33 a):=by rw[← hw3.out,← e2];exact row_new w2 _ _
  have b1:Below w.heap.size w w1:=by rw[← hw1.out];exact below1 w _
  have b2:Below w1.heap.size w1 w2:=by rw[← hw2.out];exact below1 w1 _
  have b3:Below w2.heap.size w2 w3:=by rw[← hw3.out];exact below1 w2 _
  exact ⟨q1.below b2,q2,(b1.trans (b2.mono (by omega))).trans (b3.mono (by omega)),q3⟩
 have HL:Hid ((Tryz.prog.info? 52).map (·.size)=some (bl33 a).length):=by show _=_;rw[bl33_length ha];exact infoCP
 obtain ⟨d,hd1,hd2⟩:=Option.map_eq_some_iff.1 uCP
 obtain ⟨d',hd3,hd4⟩:=Option.map_eq_some_iff.1 u40
 have HD:Hid ((Tryz.prog.underlying 52=some d∧d.isRow=true)∧Tryz.prog.underlying 47=some d'∧d'.isRow=true):=⟨⟨hd1,hd2⟩,hd3,hd4⟩
 clear hd1 hd2 hd3 hd4 hw1 hw2 hw3 e1 e2
 obtain ⟨va,hva⟩:∃ v,Hid (pvl a=v):=⟨_,rfl⟩
 obtain ⟨vn,hvn⟩:∃ v,Hid (nv n=v):=⟨_,rfl⟩
 obtain ⟨vt,hvt⟩:∃ v,Hid (Value.agg (wn n++bl33 a).toArray=v):=⟨_,rfl⟩
 have B1':Hid ((Instr.box 52 va).run Tryz.prog w=.ok (.pointer (some ⟨w.heap.size,0,none⟩)) w1):=by rw[← hva.out];exact B1
 rw[hvn.out] at B2
 rw[hva.out,hvn.out,hvt.out] at B3
 rw[hvt.out] at B4
 rw[hva.out,hvn.out]
 clear B1
 go_enter Tryz.func18,Tryz.ntmps18
 go_wp2_with (first|(refine wpList_box (u:=va) (v:=.pointer (some ⟨w.heap.size,0,none⟩)) (w':=w1) rfl 52 (.tmp 0) rfl ?_ ?_ ?_;rfl;exact B1'.out)|(refine wpList_box (u:=vn) (v:=.pointer (some ⟨w.heap.size+1,0,none⟩)) (w':=w2) rfl 47 (.tmp 1) rfl ?_ ?_ ?_;rfl;exact B2.out)|(refine wpList_load_mid rfl 47 _ rfl (w.heap.size+1) 0 ?_ (wn n) d' ?_ ?_ ?_ ?_ ?_;rfl;exact K.out.2.1.2.1;exact HD.out.2.1;exact HD.out.2.2;exact i40;rw[show Value.agg (wn n).toArray=vn from hvn.out])|(refine wpList_load_mid rfl 52 _ rfl w.heap.size 0 ?_ (bl33 a) d ?_ ?_ ?_ ?_ ?_;rfl;exact K.out.1.2.1;exact HD.out.1.1;exact HD.out.1.2;exact HL.out;rw[show Value.agg (bl33 a).toArray=va from hva.out])|(refine wpList_bld (v:=vt) (w':=w2) rfl 78 _ rfl #[(0,vn),(1,va)] ?_ ?_ ?_;kernel_rfl;exact B3.out)|(refine wpList_bsl (v:=.slice (some ⟨w.heap.size+2,0,none⟩) 1 1) (w':=w3) rfl 54 1 _ rfl #[(0,vt)] ?_ ?_ ?_;kernel_rfl;exact B4.out))
 go_ret
 exact ⟨_,rfl,K.out.2.2.1,w.heap.size+2,rfl,by omega,K.out.2.2.2⟩
end
section
open Go.RowKit Go.Sort Go.Deep
variable {P:Nat} [NeZero P] {N:Nat}
theorem boxT {a:Bs} (ha:a.size=33) (n:Nat) (w:World):(Instr.box 78 (.agg (wn n++bl33 a).toArray)).run Tryz.prog w=.ok (.pointer (some ⟨w.heap.size,0,none⟩)) (w.alloc (.cells (wn n++bl33 a).toArray 78)):=by
 rw[bl33_lit ha]
 kernel_rfl
theorem bldS (w:World):(Instr.build 47 #[]).run Tryz.prog w=.ok (nv 0) w:=by kernel_rfl
def tvl (n:Nat) (a:Bs):Value:=.agg (wn n++bl33 a).toArray
theorem range_front {W:World} {k:Nat} {xs ys:List Value} (h:W.rangeAt k 0 (xs++ys)):W.rangeAt k 0 xs:=fun j v hj=>h j v (by rw[List.getElem?_append_left (List.getElem?_eq_some_iff.1 hj).1];exact hj)
theorem range_back {W:World} {k:Nat} {xs ys:List Value} (h:W.rangeAt k 0 (xs++ys)):W.rangeAt k xs.length ys:=fun j v hj=>by
 have:=h (xs.length+j) v (by rw[List.getElem?_append_right (Nat.le_add_right _ _),Nat.add_sub_cancel_left];exact hj)
 rwa[Nat.zero_add] at this
theorem none_c {n:Nat} (hn:n<top) {a:Bs} (ha:a.size=33):Gives 64 #[tvl n a] (.bool (decide (n=0))):=by
 intro w
 have B1:=Hid.mk' (boxT ha n w)
 obtain ⟨w1,hw1⟩:∃ w1,Hid (w.alloc (.cells (wn n++bl33 a).toArray 78)=w1):=⟨_,rfl⟩
 rw[hw1.out] at B1
 have K:Hid (Row w1 w.heap.size (wn n++bl33 a)∧Below w.heap.size w w1):=by rw[← hw1.out];exact ⟨row_new w _ _,below1 w _⟩
 obtain ⟨d',hd3,hd4⟩:=Option.map_eq_some_iff.1 u40
 have HD:Hid (Tryz.prog.underlying 47=some d'∧d'.isRow=true):=⟨hd3,hd4⟩
 clear hd3 hd4 hw1
 obtain ⟨va,hva⟩:∃ v,Hid (tvl n a=v):=⟨_,rfl⟩
 obtain ⟨vn,hvn⟩:∃ v,Hid (nv n=v):=⟨_,rfl⟩
 obtain ⟨v0,hv0⟩:∃ v,Hid (nv 0=v):=⟨_,rfl⟩
 have B1':Hid ((Instr.box 78 va).run Tryz.prog w=.ok (.pointer (some ⟨w.heap.size,0,none⟩)) w1):=by rw[← hva.out];exact B1
 have B2:Hid ((Instr.build 47 #[]).run Tryz.prog w1=.ok v0 w1):=by rw[← hv0.out];exact bldS w1
 have B3:=Hid.mk' (eqS hn (show 0<top by unfold top;omega) w1)
 rw[hvn.out,hv0.out] at B3
 have hq:=B3.out
 obtain ⟨z,hz⟩:∃ z,Hid (decide (n=0)=z):=⟨_,rfl⟩
 rw[hz.out] at hq
 have hg:(eqGuard .eql 47 (.tmp 4) (.tmp 5) vn v0).run Tryz.prog w1=.ok () w1:=by rw[← hvn.out,← hv0.out];kernel_rfl
 rw[hva.out,hz.out]
 clear B1 B3
 go_enter Tryz.func64,Tryz.ntmps64
 go_wp2_with (first|(refine wpList_box (u:=va) (v:=.pointer (some ⟨w.heap.size,0,none⟩)) (w':=w1) rfl 78 (.tmp 0) rfl ?_ ?_ ?_;rfl;exact B1'.out)|(refine wpList_load_mid rfl 47 _ rfl w.heap.size 0 ?_ (wn n) d' ?_ ?_ ?_ ?_ ?_;rfl;exact range_front K.out.1.2.1;exact HD.out.1;exact HD.out.2;exact i40;rw[show Value.agg (wn n).toArray=vn from hvn.out])|(refine wpList_bld (v:=v0) (w':=w1) rfl 47 _ rfl #[] ?_ ?_ ?_;kernel_rfl;exact B2.out))
 go_wp2
 go_ret
 exact ⟨_,rfl,K.out.2,rfl⟩
theorem uT:(Tryz.prog.underlying 78).map (·.isRow)=some true:=by kernel_rfl
theorem iT:(Tryz.prog.info? 78).map (·.size)=some 37:=by kernel_rfl
theorem atT (k o n c i:Nat) (hi:i<n) (w:World):(Instr.indexAt 54 (.slice (some ⟨k,o,none⟩) n c) (.int .i64 i)).run Tryz.prog w=.ok (.pointer (some ⟨k,o+37*i,none⟩)) w:=by
 have h1:¬ (i:Int)<0:=by omega
 have h2:(i:Int)<n:=by omega
 go_simp
def firstZ (ns:Nat→Nat):Nat→Nat→Int
 | _,0=>-1
 | i,m+1=>if ns i=0 then (i:Int) else firstZ ns (i+1) m
def FIx_2 (b:Bool):List RG.It:=[.x 9 [] (.bool b)]
def FIx_4 (g k c i n:Nat) (a:Bs) (z:Bool):List RG.It:=[.x 11 [] (.func (.func 64) #[] #[]),.x 12 [] (.slice (some ⟨g,0,none⟩) k c),.x 13 [] (.int .i64 i),.x 14 [(12,1),(13,2)] (.pointer (some ⟨g,(0+37*i),none⟩)),.x 15 [(14,3)] (tvl n a),.c 16 [(11,0),(15,4)] (.bool z)]
theorem index_c (g k c:Nat) (hk:k≤1000000) (ns:Nat→Nat) (az:Nat→Bs) (hn:∀ j,j<k→ns j<top) (ha:∀ j,j<k→(az j).size=33) (w:World) (hg:g<w.heap.size) (hr:∀ j,j<k→w.rangeAt g (37*j) (wn (ns j)++bl33 (az j))) :
 Calls Tryz.prog 88 #[(.slice (some ⟨g,0,none⟩) k c),(.func (.func 64) #[] #[])] w (Ret fun e w'=>Below w.heap.size w w'∧e=.int .i64 (firstZ ns 0 k)):=by
 obtain ⟨R,hR⟩:∃ R,firstZ ns 0 k=R:=⟨_,rfl⟩
 rw[hR]
 go_enter Tryz.func88,Tryz.ntmps88
 refine RG.M.enter [(0,.v (.slice (some ⟨g,0,none⟩) k c)),(1,.v (.func (.func 64) #[] #[]))] 19 (by kernel_rfl) ?_
 intro a0 M0
 repeat refine wp_seq ?_
 refine M0.u [.x 4 [] (.int .i64 0)] [(0,.v (.slice (some ⟨g,0,none⟩) k c)),(1,.v (.func (.func 64) #[] #[]))] ⟨RG.st,trivial⟩ ?_
 intro a1 w1 M1
 repeat refine wp_seq ?_
 refine M1.u [.x 6 [] (.slice (some ⟨g,0,none⟩) k c),.x 7 [(6,0)] (.int .i64 k),.x 8 [] (.int .i64 0)] [(0,.v (.slice (some ⟨g,0,none⟩) k c)),(1,.v (.func (.func 64) #[] #[])),(7,.v (.int .i64 k)),(8,.v (.int .i64 0))] ⟨RG.st,RG.st,RG.st,trivial⟩ ?_
 intro a2 w2 M2
 repeat refine wp_seq ?_
 refine wp_block ?_
 refine wp_loop_ghost (fun m a wr=>∃ i:Nat,i+m=k∧firstZ ns i m=R∧RG.M w w.heap.size [] 19 [] [] [(0,.v (.slice (some ⟨g,0,none⟩) k c)),(1,.v (.func (.func 64) #[] #[])),(7,.v (.int .i64 k)),(8,.v (.int .i64 i))] a wr) k ⟨0,by omega,hR,M2⟩ ?_
 intro m' a wr
 rintro ⟨i,him,hf,M20⟩
 by_cases hi:i<k
 ·obtain ⟨n,hne⟩:∃ n,ns i=n:=⟨_,rfl⟩
  obtain ⟨b,hbe⟩:∃ b,az i=b:=⟨_,rfl⟩
  have hnt:=hn i hi
  have hbs:=ha i hi
  have hri:=hr i hi
  rw[hne] at hnt hri
  rw[hbe] at hbs hri
  have hri':w.rangeAt g (0+37*i) (wn n++bl33 b):=by rw[Nat.zero_add];exact hri
  have hlen:(Tryz.prog.info? 78).map (·.size)=some (wn n++bl33 b).length:=by rw[List.length_append,bl33_length hbs];exact iT
  have hz:=none_c hnt hbs
  obtain ⟨m2,rfl⟩:∃ m2,m'=m2+1:=⟨m'-1,by omega⟩
  unfold firstZ at hf
  rw[hne] at hf
  repeat refine wp_seq ?_
  refine M20.u (FIx_2 true) [(0,.v (.slice (some ⟨g,0,none⟩) k c)),(1,.v (.func (.func 64) #[] #[])),(7,.v (.int .i64 k)),(8,.v (.int .i64 i)),(9,.v (.bool true))] ⟨RG.cert_bin rfl .lss 3 3 8 7 (.int .i64 i) (.int .i64 k) (.bool true) rfl rfl RG.sx RG.sx (fun w=>by kernel_rfl) (lssn_t hi),trivial⟩ ?_
  intro a21 w21 M21
  repeat refine wp_seq ?_
  refine wp_cond_true M21.ev ?_
  refine wp_skip ?_
  refine wp_seq ?_
  refine wp_block ?_
  repeat refine wp_seq ?_
  refine M21.u [.x 10 [] (.int .i64 i),.x 5 [(10,0)] (.int .i64 i)] [(0,.v (.slice (some ⟨g,0,none⟩) k c)),(1,.v (.func (.func 64) #[] #[])),(7,.v (.int .i64 k)),(8,.v (.int .i64 i)),(5,.v (.int .i64 i))] ⟨RG.st,RG.st,trivial⟩ ?_
  intro a22 w22 M22
  repeat refine wp_seq ?_
  by_cases h0:n=0
  ·rw[decide_eq_true h0] at hz
   rw[if_pos h0] at hf
   refine M22.u (FIx_4 g k c i n b true) [(0,.v (.slice (some ⟨g,0,none⟩) k c)),(1,.v (.func (.func 64) #[] #[])),(7,.v (.int .i64 k)),(8,.v (.int .i64 i)),(5,.v (.int .i64 i)),(16,.v (.bool true))] ⟨RG.st,RG.st,RG.st,RG.cert_idx rfl 54 12 13 rfl (.v (.slice (some ⟨g,0,none⟩) k c)) (.int .i64 i) RG.sx RG.sx (fun μ w=>atT _ 0 _ _ i hi w),RG.cert_loadB rfl g (0+37*i) hg List.not_mem_nil 78 14 rfl (wn n++bl33 b) rfl RG.sx hri' uT hlen,RG.clB (fun _ _=>by kernel_rfl) (fun w' _=>hz w'),trivial⟩ ?_
   intro a23 w23 M23
   repeat refine wp_seq ?_
   refine wp_cond_true M23.ev ?_
   repeat refine wp_seq ?_
   refine M23.u [.x 17 [] (.int .i64 i),.x 4 [(17,0)] (.int .i64 i)] [(4,.v (.int .i64 i))] ⟨RG.st,RG.st,trivial⟩ ?_
   intro a24 w24 M24
   refine wp_ret ?_
   refine bodyPost_ret (v:=.int .i64 i) (RG.results_t 4 rfl (.int .i64 i) M24.av) M24.sl.defers ?_
   exact ⟨_,rfl,M24.st.bel.below,by rw[hf]⟩
  ·rw[decide_eq_false h0] at hz
   rw[if_neg h0] at hf
   refine M22.u (FIx_4 g k c i n b false) [(0,.v (.slice (some ⟨g,0,none⟩) k c)),(1,.v (.func (.func 64) #[] #[])),(7,.v (.int .i64 k)),(8,.v (.int .i64 i)),(16,.v (.bool false))] ⟨RG.st,RG.st,RG.st,RG.cert_idx rfl 54 12 13 rfl (.v (.slice (some ⟨g,0,none⟩) k c)) (.int .i64 i) RG.sx RG.sx (fun μ w=>atT _ 0 _ _ i hi w),RG.cert_loadB rfl g (0+37*i) hg List.not_mem_nil 78 14 rfl (wn n++bl33 b) rfl RG.sx hri' uT hlen,RG.clB (fun _ _=>by kernel_rfl) (fun w' _=>hz w'),trivial⟩ ?_
   intro a23 w23 M23
   repeat refine wp_seq ?_
   refine wp_cond_false M23.ev ?_
   refine wp_skip ?_
   repeat refine wp_seq ?_
   refine M23.u [.x 18 [] (.int .i64 ((i+1:Nat):Int)),.x 8 [(18,0)] (.int .i64 ((i+1:Nat):Int))] [(0,.v (.slice (some ⟨g,0,none⟩) k c)),(1,.v (.func (.func 64) #[] #[])),(7,.v (.int .i64 k)),(8,.v (.int .i64 ((i+1:Nat):Int)))] ⟨RG.cert_binc rfl .add 3 3 8 (.int .i64 i) (.int .i64 1) (.int .i64 ((i+1:Nat):Int)) rfl rfl RG.sx (fun w=>by kernel_rfl) (addn i 1 (by omega) (by omega)),RG.st,trivial⟩ ?_
   intro a24 w24 M24
   show ∃ n',_
   exact ⟨m2,by omega,i+1,by omega,hf,M24⟩
 ·have hik:m'=0:=by omega
  rw[hik] at hf
  unfold firstZ at hf
  repeat refine wp_seq ?_
  refine M20.u (FIx_2 false) [(9,.v (.bool false))] ⟨RG.cert_bin rfl .lss 3 3 8 7 (.int .i64 i) (.int .i64 k) (.bool false) rfl rfl RG.sx RG.sx (fun w=>by kernel_rfl) (lssn_f hi),trivial⟩ ?_
  intro a21 w21 M21
  repeat refine wp_seq ?_
  refine wp_cond_false M21.ev ?_
  refine wp_exit ?_
  dsimp only[Exit.then,Exit.inBlock]
  rw[if_pos rfl]
  repeat refine wp_seq ?_
  refine M21.u [.x 4 [] (.int .i64 (-1))] [(4,.v (.int .i64 (-1)))] ⟨RG.st,trivial⟩ ?_
  intro a22 w22 M22
  refine wp_ret ?_
  refine bodyPost_ret (v:=.int .i64 (-1)) (RG.results_t 4 rfl (.int .i64 (-1)) M22.av) M22.sl.defers ?_
  exact ⟨_,rfl,M22.st.bel.below,by rw[← hf]⟩
theorem firstZ_none {ns:Nat→Nat}:∀ (m i:Nat),(∀ j,i≤j→j<i+m→ns j≠0)→firstZ ns i m = -1
 | 0,_,_=>rfl
 | m+1,i,h=>by
  unfold firstZ
  rw[if_neg (h i (Nat.le_refl _) (by omega))]
  exact firstZ_none m (i+1) (fun j h1 h2=>h j (by omega) (by omega))
theorem delete_none (g k c:Nat) (hk:k≤1000000) (ns:Nat→Nat) (az:Nat→Bs) (hn:∀ j,j<k→ns j<top) (hn0:∀ j,j<k→ns j≠0) (ha:∀ j,j<k→(az j).size=33) (w:World) (hg:g<w.heap.size) (hr:∀ j,j<k→w.rangeAt g (37*j) (wn (ns j)++bl33 (az j))) :
 Calls Tryz.prog 63 #[(.slice (some ⟨g,0,none⟩) k c),(.func (.func 64) #[] #[])] w (Ret fun e w'=>Below w.heap.size w w'∧e=(.slice (some ⟨g,0,none⟩) k c)):=by
 have hI:∀ w',RG.BelX w.heap.size [] w w'→Calls Tryz.prog 88 #[(.slice (some ⟨g,0,none⟩) k c),(.func (.func 64) #[] #[])] w' (Ret fun e w''=>Below w'.heap.size w' w''∧e=.int .i64 (-1)):=fun w' hb=>by
  have h:=index_c g k c hk ns az hn ha w' (Nat.lt_of_lt_of_le hg hb.below.size) (fun j hj=>RG.range_below (hr j hj) hb.below hg)
  rw[firstZ_none k 0 (fun j _ h2=>hn0 j (by omega))] at h
  exact h
 go_enter Tryz.func63,Tryz.ntmps63
 refine RG.M.enter [(0,.v (.slice (some ⟨g,0,none⟩) k c)),(1,.v (.func (.func 64) #[] #[]))] 42 (by kernel_rfl) ?_
 intro a0 M0
 repeat refine wp_seq ?_
 refine M0.u [.x 4 [] (.slice none 0 0)] [(0,.v (.slice (some ⟨g,0,none⟩) k c)),(1,.v (.func (.func 64) #[] #[]))] ⟨RG.st,trivial⟩ ?_
 intro a1 w1 M1
 repeat refine wp_seq ?_
 refine M1.u [.x 8 [] (.slice (some ⟨g,0,none⟩) k c),.x 9 [] (.func (.func 64) #[] #[]),.c 10 [(8,0),(9,1)] (.int .i64 (-1)),.x 5 [(10,2)] (.int .i64 (-1))] [(0,.v (.slice (some ⟨g,0,none⟩) k c)),(5,.v (.int .i64 (-1)))] ⟨RG.st,RG.st,RG.clB (fun _ _=>by kernel_rfl) hI,RG.st,trivial⟩ ?_
 intro a2 w2 M2
 repeat refine wp_seq ?_
 refine M2.u [.x 11 [] (.int .i64 (-1)),.x 12 [(11,0)] (.bool true)] [(0,.v (.slice (some ⟨g,0,none⟩) k c)),(12,.v (.bool true))] ⟨RG.st,RG.st,trivial⟩ ?_
 intro a3 w3 M3
 repeat refine wp_seq ?_
 refine wp_cond_true M3.ev ?_
 repeat refine wp_seq ?_
 refine M3.u [.x 13 [] (.slice (some ⟨g,0,none⟩) k c),.x 4 [(13,0)] (.slice (some ⟨g,0,none⟩) k c)] [(4,.v (.slice (some ⟨g,0,none⟩) k c))] ⟨RG.st,RG.st,trivial⟩ ?_
 intro a4 w4 M4
 refine wp_ret ?_
 refine bodyPost_ret (v:=(.slice (some ⟨g,0,none⟩) k c)) (RG.results_t 4 rfl _ M4.av) M4.sl.defers ?_
 exact ⟨_,rfl,M4.st.bel.below,rfl⟩
theorem undM:Tryz.prog.underlying 109=some (.map 52 3):=by kernel_rfl
theorem zero3 (w:World):(zeroValue 3).run Tryz.prog w=.ok (.int .i64 0) w:=by kernel_rfl
theorem ents_snoc (b:Bs):∀ (D:List Bs) (i:Nat),ents (D++[b]) i=ents D i++[{ key:=.agg (bl33 b).toArray,val:=.int .i64 ((i+D.length:Nat):Int),born:=i+D.length }]
 | [],i=>rfl
 | k :: r,i=>by
  rw[List.cons_append]
  unfold ents
  rw[ents_snoc b r (i+1),List.length_cons,show i+1+r.length=i+(r.length+1) by omega]
  rfl
theorem look_run {b:Bs} (hb:b.size=33) (D:List Bs) (hD:∀ k∈D,k.size=33) (m clock:Nat) (w:World) (hm:w.heap[m]? = some (.map (ents D 0).toArray clock)) :
 (Instr.lookup 109 (.map (some m)) (.agg (bl33 b).toArray) true).run Tryz.prog w=.ok (.tuple #[.int .i64 (((at? b D 0).getD 0:Nat):Int),.bool (at? b D 0).isSome]) w:=by
 have h1:=run_underlying undM w
 have h2:=fun e=>checkCP hb e w
 have h3:=key_run hb D hD w
 have h4:(getObj m).run Tryz.prog w=.ok (.map (ents D 0).toArray clock) w:=by
  simp[getObj,Sem.run,hm]
 unfold Instr.lookup
 simp only[Sem.run_bind,h1,Result.andThen_ok,h4,Sem.run_pure,h2,h3]
 cases h:at? b D 0 with
 | none=>simp[Sem.run_bind,zero3]
 | some j=>simp
theorem upd_run {b:Bs} (hb:b.size=33) (D:List Bs) (hD:∀ k∈D,k.size=33) (m:Nat) (w:World) (hm:w.heap[m]? = some (.map (ents D 0).toArray D.length)) (hn:at? b D 0=none) :
 (Instr.mapUpdate 109 (.map (some m)) (.agg (bl33 b).toArray) (.int .i64 (D.length:Int))).run Tryz.prog w=.ok () (w.putObj m (.map (ents (D++[b]) 0).toArray (D.length+1))):=by
 have h1:=run_underlying undM w
 have h2:=fun e=>checkCP hb e w
 have h3:=key_run hb D hD w
 rw[hn] at h3
 have h4:(getObj m).run Tryz.prog w=.ok (.map (ents D 0).toArray D.length) w:=by
  simp[getObj,Sem.run,hm]
 unfold Instr.mapUpdate
 simp only[Sem.run_bind,h1,Result.andThen_ok,h4,Sem.run_pure,h2,h3]
 rw[ents_snoc,Nat.zero_add]
 simp[setObj,Sem.run,hm,World.putObj]
theorem undS:Tryz.prog.underlying 54=some (.slice 78):=by kernel_rfl
theorem infoT:(Tryz.prog.info? 78).map (fun i=>(i.size,i.bytes,i.zero.map fun z=>z.cells.size))=some (37,72,some 37):=by kernel_rfl
theorem cells_one (n:Nat) (a:Bs):∀ u∈wn n++bl33 a,u.oneCell'=true:=by
 intro u hu
 rcases List.mem_append.1 hu with h|h
 ·unfold wn at h
  simp only[List.mem_cons,List.not_mem_nil,or_false] at h
  rcases h with rfl|rfl|rfl|rfl<;>rfl
 ·obtain ⟨x,-,rfl⟩:=List.mem_map.1 h
  rfl
theorem app_term {base k g n:Nat} {v:Value} {xs:List Value} {a:Bs} (ha:a.size=33) {W:World} (hown:W.ownsRow base 78 37 v k xs) (hR:Row W g (wn n++bl33 a)) (hk:k≤1000000) (hb:base≤W.heap.size) :
 ∃ v' W',(Builtin.append_ #[54,54] 54 #[v,.slice (some ⟨g,0,none⟩) 1 1]).run Tryz.prog W=.ok v' W'∧W'.ownsRow base 78 37 v' (k+1) (xs++(wn n++bl33 a))∧W.grownBy W' v.ownBlock:=by
 obtain ⟨i,hi,he⟩:=Option.map_eq_some_iff.1 infoT
 simp only[Prod.mk.injEq] at he
 obtain ⟨h1,h2,h3⟩:=he
 obtain ⟨z,hz,hz2⟩:=Option.map_eq_some_iff.1 h3
 obtain ⟨v',W',r1,r2,r3,-⟩:=run_append_own (P:=Tryz.prog) W base 54 54 78 i z 37 72 undS hi hz h1 h2 hz2 (by decide) v k xs hown ⟨g,0,none⟩ 1 1 (wn n++bl33 a) (by rw[List.length_append,bl33_length ha];rfl)
  (fun j u hj=>by
   have:=hR.2.1 j u hj
   rw[Nat.zero_add] at this
   rw[show (⟨g,0,none⟩:Addr).add j=⟨g,j,none⟩ by unfold Addr.add;split<;>simp_all]
   exact this) (cells_one n a) (by unfold maxLen;omega) (by omega) hb
 exact ⟨v',W',r1,r2,r3⟩
def addT (N:Nat):List (Nat × Bs)→Nat→Bs→List (Nat × Bs)
 | [],n,p=>[(n,p)]
 | (s,q) :: r,n,p=>if p=q then (sPl N s n,q) :: r else (s,q) :: addT N r n p
def mrg (N:Nat) (ns:Nat→Nat) (az:Nat→Bs):Nat→List (Nat × Bs)
 | 0=>[]
 | i+1=>addT N (mrg N ns az i) (ns i) (az i)
def cellsT (l:List (Nat × Bs)):List Value:=l.flatMap fun x=>wn x.1++bl33 x.2
theorem addT_new {N n:Nat} {p:Bs}:∀ {l:List (Nat × Bs)},at? p (l.map (·.2)) 0=none→addT N l n p=l++[(n,p)]
 | [],_=>rfl
 | (s,q) :: r,h=>by
  have h2:=at?_none.1 h
  rw[List.map_cons,List.mem_cons,not_or] at h2
  unfold addT
  rw[if_neg h2.1,addT_new (l:=r) (at?_none.2 h2.2)]
  rfl
theorem cellsT_snoc (l:List (Nat × Bs)) (n:Nat) (p:Bs):cellsT (l++[(n,p)])=cellsT l++(wn n++bl33 p):=by
 unfold cellsT
 rw[List.flatMap_append]
 simp
structure Mx (w W:World) (m:Nat) (l:List (Nat × Bs)) (v:Value):Prop where
 bl:Below w.heap.size w W
 mp:W.heap[m]? = some (.map (ents (l.map (·.2)) 0).toArray l.length)
 lm:w.heap.size≤m
 ow:W.ownsRow w.heap.size 78 37 v l.length (cellsT l)
theorem Mx.own_ne {w W:World} {m:Nat} {l:List (Nat × Bs)} {v:Value} (h:Mx w W m l v) {g:Nat} (hg:v.ownBlock=some g):g≠m∧w.heap.size≤g∧g<W.heap.size:=by
 rcases h.ow.2 with ⟨rfl,-⟩|⟨g',cap,cur,rfl,h1,h2,-⟩
 ·cases hg
 ·obtain rfl:g'=g:=by simpa[Value.ownBlock] using hg
  refine ⟨fun e=>?_,h1,(Array.getElem?_eq_some_iff.1 h2).1⟩
  have:=h.mp
  rw[← e,h2] at this
  cases this
theorem owns_kept {W W':World} {base k:Nat} {e:TypeId} {s:Nat} {v:Value} {xs:List Value} (h:W.ownsRow base e s v k xs) (hk:∀ g,v.ownBlock=some g→W'.heap[g]? = W.heap[g]?):W'.ownsRow base e s v k xs:=by
 refine ⟨h.1,?_⟩
 rcases h.2 with h2|⟨g,cap,cur,rfl,h1,h2,h3⟩
 ·exact Or.inl h2
 ·exact Or.inr ⟨g,cap,cur,rfl,h1,by rw[hk g rfl];exact h2,h3⟩
theorem Mx.kept {w W W':World} {m:Nat} {l:List (Nat × Bs)} {v:Value} (h:Mx w W m l v) (hb:Below W.heap.size W W'):Mx w W' m l v:=
 ⟨h.bl.trans (hb.mono h.bl.size),by rw[hb.block m (Array.getElem?_eq_some_iff.1 h.mp).1];exact h.mp,h.lm,owns_kept h.ow fun g hg=>hb.block g (h.own_ne hg).2.2⟩
theorem ents_map (l:List (Nat × Bs)) (n:Nat) (p:Bs):(l++[(n,p)]).map (·.2)=l.map (·.2)++[p]:=by simp
theorem Mx.push {w W:World} {m:Nat} {l:List (Nat × Bs)} {v:Value} (h:Mx w W m l v) {p:Bs} (hp:p.size=33) (hk:l.length≤1000000) (n:Nat) :
 ∃ v' W5x,(Builtin.append_ #[54,54] 54 #[v,.slice (some ⟨W.heap.size,0,none⟩) 1 1]).run Tryz.prog ((W.putObj m (.map (ents (l.map (·.2)++[p]) 0).toArray (l.length+1))).alloc (.cells (wn n++bl33 p).toArray 78))=.ok v' W5x∧Mx w W5x m (l++[(n,p)]) v'∧W.heap.size<W5x.heap.size∧∀ j,j<W.heap.size→w.heap.size≤j→j≠m→some j≠v.ownBlock→W5x.heap[j]? = W.heap[j]?:=by
 obtain ⟨W3,h3⟩:∃ W3,W.putObj m (.map (ents (l.map (·.2)++[p]) 0).toArray (l.length+1))=W3:=⟨_,rfl⟩
 have s3:W3.heap.size=W.heap.size:=by rw[← h3];simp[World.putObj]
 have hmW:m<W.heap.size:=(Array.getElem?_eq_some_iff.1 h.mp).1
 have o3:∀ j,j≠m→W3.heap[j]? = W.heap[j]?:=fun j hj=>by rw[← h3];exact World.putObj_heap_other hj
 have b3:Below w.heap.size w W3:=h.bl.trans ⟨by rw[← h3];rfl,by rw[← h3];rfl,by rw[← h3];rfl,by omega,fun j hj=>o3 j (by have:=h.lm;omega)⟩
 have w3:W3.ownsRow w.heap.size 78 37 v l.length (cellsT l):=owns_kept h.ow fun g hg=>o3 g (h.own_ne hg).1
 have m3:W3.heap[m]? = some (.map (ents (l.map (·.2)++[p]) 0).toArray (l.length+1)):=by rw[← h3];exact World.putObj_heap_same hmW
 rw[h3]
 have R4:=row_new W3 (wn n++bl33 p) 78
 have b4:=below1 W3 (.cells (wn n++bl33 p).toArray 78)
 have s4:(W3.alloc (.cells (wn n++bl33 p).toArray 78)).heap.size=W.heap.size+1:=by rw[World.size_alloc,s3]
 generalize W3.alloc (.cells (wn n++bl33 p).toArray 78)=W4 at R4 b4 s4 ⊢
 have w4:W4.ownsRow w.heap.size 78 37 v l.length (cellsT l):=owns_kept w3 fun g hg=>b4.block g (by have:=(h.own_ne hg).2.2;omega)
 rw[s3] at R4
 obtain ⟨v',W5x,r1,r2,r3⟩:=app_term hp w4 R4 hk (by have:=b3.size;omega)
 have hm5:some m≠v.ownBlock:=fun e=>(h.own_ne e.symm).1 rfl
 refine ⟨v',W5x,r1,⟨?_,?_,h.lm,?_⟩,by have:=r3.size;omega,fun j hj _ hjm hjo=>?_⟩
 ·exact (b3.trans (b4.mono b3.size)).grown r3 (by have:=b3.size;omega) (fun k e=>(h.own_ne e).2.1)
 ·rw[r3.block m (by omega) hm5,b4.block m (by omega),m3,ents_map,List.length_append]
  rfl
 ·rw[cellsT_snoc,List.length_append]
  exact r2
 ·rw[r3.block j (by omega) hjo,b4.block j (by omega),o3 j hjm]
end
section
open Go.RowKit Go.Sort Go.Deep
variable {N:Nat}
section
variable {P:Program} {ops:Array Oper} {rest:List Oper} {op:Oper} {a:Act} {w w':World} {v x y z:Value} {Q:Exit→Act→World→Prop}
theorem wpList_lk (hgd:op.guard=none) (T:TypeId) (m k:Operand) (ok:Bool) (ho:op.op=.lookup T m k ok) (hm:a.eval m=x) (hk:a.eval k=y) (hr:(Instr.lookup T x y ok).run P w=.ok v w') (h:wpList P ops Q rest (a.put op.dst v) w'):wpList P ops Q (op :: rest) a w:=
 wpList_plain hgd fun K hK=>by
  unfold Oper.wp execOp
  simp only[ho,hm,hk,Sem.run_bind,hr,Result.andThen_ok,Sem.run_pure]
  exact hK _ _ h
theorem wpList_mu (hgd:op.guard=none) (T:TypeId) (m k u:Operand) (ho:op.op=.mapUpdate T m k u) (hm:a.eval m=x) (hk:a.eval k=y) (hu:a.eval u=z) (hr:(Instr.mapUpdate T x y z).run P w=.ok () w') (h:wpList P ops Q rest (a.put op.dst undef) w'):wpList P ops Q (op :: rest) a w:=
 wpList_plain hgd fun K hK=>by
  unfold Oper.wp execOp
  simp only[ho,hm,hk,hu,Sem.run_bind,hr,Result.andThen_ok,Sem.run_pure]
  exact hK _ _ h
theorem wpList_app (hgd:op.guard=none) (s u:Operand) (t:TypeId) (ho:op.op=.call { callee:=.builtin .append,args:=#[s,u],argTypes:=#[t,t] }) (hs:a.eval s=x) (hu:a.eval u=y) (hr:(Builtin.append_ #[t,t] op.type #[x,y]).run P w=.ok v w') (h:wpList P ops Q rest (a.put op.dst v) w'):wpList P ops Q (op :: rest) a w:=
 wpList_plain hgd fun K hK=>by
  unfold Oper.wp execOp
  simp only[ho,resolve,invoke,builtin,Sem.run_bind,Sem.run_pure,Result.andThen_ok,List.map_toArray,List.map_cons,List.map_nil,hs,hu,hr]
  exact hK _ _ h
end
def zT:List Value:=[.int .u64 0,.int .u64 0,.int .u64 0,.int .u64 0]++z33
theorem owns_form {W:World} {base k:Nat} {e:TypeId} {s:Nat} {v:Value} {xs:List Value} (h:W.ownsRow base e s v k xs):∃ q cap,v=.slice q k cap:=by
 rcases h.2 with ⟨rfl,rfl⟩|⟨g,cap,cur,rfl,-⟩
 ·exact ⟨none,0,rfl⟩
 ·exact ⟨some ⟨g,0,none⟩,cap,rfl⟩
theorem mrg_len (ns:Nat→Nat) (az:Nat→Bs):∀ i,(mrg N ns az i).length≤i
 | 0=>Nat.le_refl _
 | i+1=>by
  have ih:=mrg_len ns az i
  have h:∀ (l:List (Nat × Bs)) n p,(addT N l n p).length≤l.length+1:=by
   intro l n p
   induction l with
   | nil=>exact Nat.le_refl _
   | cons x r ihr =>
    unfold addT
    split
    ·simp
    ·simp only[List.length_cons];omega
  exact Nat.le_trans (h _ _ _) (by omega)
theorem mrg_size (ns:Nat→Nat) (az:Nat→Bs) {k:Nat} (ha:∀ j,j<k→(az j).size=33):∀ i,i≤k→∀ x∈(mrg N ns az i).map (·.2),x.size=33
 | 0,_=>fun x hx=>by cases hx
 | i+1,hi=>by
  have ih:=mrg_size ns az ha i (by omega)
  have h:∀ (l:List (Nat × Bs)) n p,p.size=33→(∀ x∈l.map (·.2),x.size=33)→∀ x∈(addT N l n p).map (·.2),x.size=33:=by
   intro l n p hp
   induction l with
   | nil=>intro _ x hx;simp[addT] at hx;rw[hx];exact hp
   | cons y r ihr =>
    intro hl x hx
    unfold addT at hx
    split at hx
    ·exact hl x (by simpa using hx)
    ·rw[List.map_cons,List.mem_cons] at hx
     rcases hx with hx|hx
     ·exact hl x (by rw[hx];simp)
     ·exact ihr (fun z hz=>hl z (List.mem_cons_of_mem _ hz)) x hx
  exact h _ _ _ (ha i (by omega)) ih
theorem cellsT_at:∀ (l:List (Nat × Bs)),(∀ x∈l.map (·.2),x.size=33)→∀ (j:Nat) (hj:j<l.length) (t:Nat),t<37→(cellsT l)[37*j+t]? = (wn (l[j]).1++bl33 (l[j]).2)[t]?
 | [],_,j,hj,_,_=>by cases hj
 | x :: r,hs,j,hj,t,ht=>by
  have hx:(wn x.1++bl33 x.2).length=37:=by rw[List.length_append,bl33_length (hs x.2 (by simp))];rfl
  have e:cellsT (x :: r)=(wn x.1++bl33 x.2)++cellsT r:=by unfold cellsT;rw[List.flatMap_cons]
  rw[e]
  cases j with
  | zero =>
   rw[Nat.mul_zero,Nat.zero_add,List.getElem?_append_left (by omega)]
   rfl
  | succ j =>
   rw[List.getElem?_append_right (by omega),hx,show 37*(j+1)+t-37=37*j+t by omega,cellsT_at r (fun y hy=>hs y (List.mem_cons_of_mem _ hy)) j (by simpa using hj) t ht]
   rfl
theorem owns_rows {W:World} {base:Nat} {v:Value} {l:List (Nat × Bs)} (h:W.ownsRow base 78 37 v l.length (cellsT l)) (hs:∀ x∈l.map (·.2),x.size=33) (hl:0<l.length) :
 ∃ g cap,v=.slice (some ⟨g,0,none⟩) l.length cap∧base≤g∧g<W.heap.size∧∀ j (hj:j<l.length),W.rangeAt g (37*j) (wn (l[j]).1++bl33 (l[j]).2):=by
 have h0:=h
 rcases h.2 with ⟨-,h2⟩|⟨g,cap,cur,rfl,h1,h2,h3⟩
 ·omega
 ·refine ⟨g,cap,rfl,h1,(Array.getElem?_eq_some_iff.1 h2).1,fun j hj t u hu=>?_⟩
  have ht:t<37:=by
   have:=(List.getElem?_eq_some_iff.1 hu).1
   rw[List.length_append,bl33_length (hs _ (List.mem_map.2 ⟨_,List.getElem_mem hj,rfl⟩))] at this
   exact this
  have hc:=h0.cells (g:=g) rfl (37*j+t) u (by rw[cellsT_at l hs j hj t ht];exact hu)
  have e:(⟨g,0,none⟩:Addr).add (37*j+t)=⟨g,37*j+t,none⟩:=by
   unfold Addr.add
   split
   ·rename_i h;rw[h]
   ·simp
  rw[e] at hc
  exact hc
theorem merged_g (R:Value→World→Prop) (g k c:Nat) (hk:k≤1000) (ns:Nat→Nat) (az:Nat→Bs) (ha:∀ j,j<k→(az j).size=33) (hd:∀ i,i<k→at? (az i) ((mrg N ns az i).map (·.2)) 0=none) (w:World) (hg:g<w.heap.size) (hr:∀ j,j<k→w.rangeAt g (37*j) (wn (ns j)++bl33 (az j)))
 (hdel:∀ W v,Mx w W w.heap.size (mrg N ns az k) v→Calls Tryz.prog 63 #[v,.func (.func 64) #[] #[]] W (Ret R)) :
 Calls Tryz.prog 36 #[.slice (some ⟨g,0,none⟩) k c] w (Ret R):=by
 have HDEL:=Hid.mk' hdel
 clear hdel
 have hmm:(Instr.makeMap 109 none).run Tryz.prog w=.ok (.map (some w.heap.size)) (w.alloc (.map #[] 0)):=by kernel_rfl
 obtain ⟨w1,hw1⟩:∃ w1,Hid (w.alloc (.map #[] 0)=w1):=⟨_,rfl⟩
 rw[hw1.out] at hmm
 have M1:Hid (Mx w w1 w.heap.size (mrg N ns az 0) (.slice none 0 0)):=by
  rw[← hw1.out]
  exact ⟨below1 w _,by show (w.heap.push (.map #[] 0))[w.heap.size]? = _;rw[Array.getElem?_push_size];rfl,Nat.le_refl _,rfl,Or.inl ⟨rfl,rfl⟩⟩
 have HH:Hid (True∧(∀ j,j<k→(az j).size=33)∧(∀ i,i<k→at? (az i) ((mrg N ns az i).map (·.2)) 0=none)∧g<w.heap.size∧∀ j,j<k→w.rangeAt g (37*j) (wn (ns j)++bl33 (az j))):=⟨trivial,ha,hd,hg,hr⟩
 obtain ⟨d,hd1,hd2⟩:=Option.map_eq_some_iff.1 uCP
 obtain ⟨d',hd3,hd4⟩:=Option.map_eq_some_iff.1 uT
 have HD:Hid ((Tryz.prog.underlying 52=some d∧d.isRow=true)∧Tryz.prog.underlying 78=some d'∧d'.isRow=true):=⟨⟨hd1,hd2⟩,hd3,hd4⟩
 clear hd1 hd2 hd3 hd4 hw1 ha hd hg hr
 go_enter Tryz.func36,Tryz.ntmps36
 go_wp2
 clear hmm
 go_loopg [4,12] k (fun q s4 s12 W=>∃ i:Nat,i+q=k∧s12=.int .i64 i∧Hid (Mx w W w.heap.size (mrg N ns az i) s4))
 case atStart=>exact ⟨0,by omega,rfl,M1⟩
 case round =>
  clear M1
  obtain ⟨i,hik,rfl,KM⟩:=hrel
  by_cases hi:i<k
  ·have hi':(i:Int)<(k:Int):=by omega
   obtain ⟨n,hne⟩:∃ n,Hid (ns i=n):=⟨_,rfl⟩
   obtain ⟨p,hpe⟩:∃ p,Hid (az i=p):=⟨_,rfl⟩
   obtain ⟨l,hl⟩:∃ l,Hid (mrg N ns az i=l):=⟨_,rfl⟩
   rw[hl.out] at KM
   have hps:Hid (p.size=33):=by have:=HH.out.2.1 i hi;rw[hpe.out] at this;exact this
   have hll:Hid (l.length≤i):=by have:=mrg_len (N:=N) ns az i;rw[hl.out] at this;exact this
   obtain ⟨q,cap,rfl⟩:=owns_form KM.out.ow
   obtain ⟨W1,hW1⟩:∃ W1,Hid (wr.alloc (.cells zT.toArray 78)=W1):=⟨_,rfl⟩
   obtain ⟨W2,hW2⟩:∃ W2,Hid (W1.setCells wr.heap.size 0 (wn n++bl33 p)=W2):=⟨_,rfl⟩
   have hlen:(wn n++bl33 p).length=37:=by rw[List.length_append,bl33_length hps.out];rfl
   have F1:Hid (Row W1 wr.heap.size zT∧Below wr.heap.size wr W1∧W1.heap.size=wr.heap.size+1):=by rw[← hW1.out];exact ⟨row_new wr _ _,below1 wr _,World.size_alloc _ _⟩
   have F2:Hid (Row W2 wr.heap.size (wn n++bl33 p)∧Below wr.heap.size wr W2∧W2.heap.size=wr.heap.size+1):=by rw[← hW2.out];exact ⟨F1.out.1.put (by rw[hlen];rfl),RG.below_setCells (Nat.le_refl _) _ _ _ F1.out.2.1,by rw[RG.setCells_size];exact F1.out.2.2⟩
   have K2:Hid (Mx w W2 w.heap.size l (.slice q l.length cap)):=KM.out.kept F2.out.2.1
   have hnone:Hid (at? p (l.map (·.2)) 0=none):=by have:=HH.out.2.2.1 i hi;rw[hpe.out,hl.out] at this;exact this
   have hsz:∀ x∈l.map (·.2),x.size=33:=by have:=mrg_size (N:=N) ns az HH.out.2.1 i (by omega);rw[hl.out] at this;exact this
   have B1:=Hid.mk' (look_run hps.out (l.map (·.2)) hsz w.heap.size l.length W2 K2.out.mp)
   rw[hnone.out] at B1
   have B2:Hid ((Instr.mapUpdate 109 (.map (some w.heap.size)) (.agg (bl33 p).toArray) (.int .i64 (l.length:Int))).run Tryz.prog W2=.ok () (W2.putObj w.heap.size (.map (ents (l.map (·.2)++[p]) 0).toArray (l.length+1)))):=by
    have h:=upd_run hps.out (l.map (·.2)) hsz w.heap.size W2 (by rw[List.length_map];exact K2.out.mp) hnone.out
    rw[List.length_map] at h
    exact h
   obtain ⟨v',W5x,happ,K5,lt5,-⟩:=K2.out.push hps.out (by have:=hll.out;omega) n
   obtain ⟨W3,hW3⟩:∃ W3,Hid (W2.putObj w.heap.size (.map (ents (l.map (·.2)++[p]) 0).toArray (l.length+1))=W3):=⟨_,rfl⟩
   have F3:Hid (Row W3 wr.heap.size (wn n++bl33 p)∧W3.heap.size=wr.heap.size+1):=by rw[← hW3.out];exact ⟨F2.out.1.putObj K2.out.mp rfl _,by simp[World.putObj];exact F2.out.2.2⟩
   have B3:=Hid.mk' (bslT hps.out n W3)
   obtain ⟨W4,hW4⟩:∃ W4,Hid (W3.alloc (.cells (wn n++bl33 p).toArray 78)=W4):=⟨_,rfl⟩
   rw[hW3.out] at B2 happ
   rw[hW4.out] at B3 happ
   rw[F3.out.2] at B3
   rw[F2.out.2.2] at happ
   have K5':Hid (Mx w W5x w.heap.size (mrg N ns az (i+1)) v'):=by
    have e:mrg N ns az (i+1)=l++[(n,p)]:=by
     show addT N (mrg N ns az i) (ns i) (az i)=_
     rw[hl.out,hne.out,hpe.out]
     exact addT_new hnone.out
    rw[e];exact K5
   have B0:Hid (wr.rangeAt g (37*i) (wn n++bl33 p)):=by
    have h:=RG.range_below (HH.out.2.2.2.2 i hi) KM.out.bl HH.out.2.2.2.1
    rw[hne.out,hpe.out] at h
    exact h
   have HLT:Hid ((Tryz.prog.info? 78).map (·.size)=some (wn n++bl33 p).length):=by show _=_;rw[hlen];exact iT
   have HLS:Hid ((Tryz.prog.info? 78).map (·.size)=some (wn n++bl33 p).toArray.size∧W1.there wr.heap.size 0 (wn n++bl33 p).toArray.size):=by
    have e:(wn n++bl33 p).toArray.size=37:=by rw[List.size_toArray];exact hlen
    rw[e];exact ⟨iT,F1.out.1.2.2⟩
   have HLP:Hid ((Tryz.prog.info? 52).map (·.size)=some (bl33 p).length):=by show _=_;rw[bl33_length hps.out];exact infoCP
   have HB:Hid (W2.rangeAt wr.heap.size 4 (bl33 p)):=range_back (xs:=wn n) F2.out.1.2.1
   have HAL:Hid ((wn n++bl33 p).toArray.all (·.oneCell')=true):=by
    show _=_
    rw[Array.all_eq_true']
    intro u hu
    exact cells_one n p u (List.mem_toArray.1 hu)
   have hix:=atT g 0 k c i hi
   have HAP:=Hid.mk' happ
   clear happ
   obtain ⟨vt,hvt⟩:∃ v,Hid (Value.agg (wn n++bl33 p).toArray=v):=⟨_,rfl⟩
   obtain ⟨vp,hvp⟩:∃ v,Hid (Value.agg (bl33 p).toArray=v):=⟨_,rfl⟩
   rw[hvp.out] at B1 B2
   rw[hvt.out] at B3
   clear hlen hsz K5 lt5 hW4 hW3 K2 KM
   go_wp2_with (first|(refine wpList_load_mid rfl 78 _ rfl g (37*i) ?_ (wn n++bl33 p) d' ?_ ?_ ?_ ?_ ?_;rfl;exact B0.out;exact HD.out.2.1;exact HD.out.2.2;exact HLT.out;rw[hvt.out])|(refine wpList_op (v:=.pointer (some ⟨wr.heap.size,0,none⟩)) (w':=W1) rfl (.alloc 78) rfl ?_ ?_;(rw[← hW1.out];kernel_rfl))|(refine wpList_store_mid rfl 78 _ _ rfl wr.heap.size 0 (wn n++bl33 p).toArray ?_ ?_ ?_ ?_ ?_ ?_;rfl;exact hvt.out.symm;exact HLS.out.2;exact HLS.out.1;exact HAL.out;rw[show (wn n++bl33 p).toArray.toList=wn n++bl33 p from rfl,hW2.out])|(refine wpList_load_mid rfl 52 _ rfl wr.heap.size 4 ?_ (bl33 p) d ?_ ?_ ?_ ?_ ?_;rfl;exact HB.out;exact HD.out.1.1;exact HD.out.1.2;exact HLP.out;rw[hvp.out])|(refine wpList_lk (x:=.map (some w.heap.size)) (y:=vp) (w':=W2) rfl 109 _ _ true rfl ?_ ?_ B1.out ?_;rfl;rfl)|(refine wpList_mu (x:=.map (some w.heap.size)) (y:=vp) (z:=.int .i64 (l.length:Int)) (w':=W3) rfl 109 _ _ _ rfl ?_ ?_ ?_ B2.out ?_;rfl;rfl;rfl)|(refine wpList_load_mid rfl 78 _ rfl wr.heap.size 0 ?_ (wn n++bl33 p) d' ?_ ?_ ?_ ?_ ?_;rfl;exact F3.out.1.2.1;exact HD.out.2.1;exact HD.out.2.2;exact HLT.out;rw[hvt.out])|(refine wpList_bsl (v:=.slice (some ⟨wr.heap.size+1,0,none⟩) 1 1) (w':=W4) rfl 54 1 _ rfl #[(0,vt)] ?_ B3.out ?_;kernel_rfl)|(refine wpList_app (x:=.slice q l.length cap) (y:=.slice (some ⟨wr.heap.size+1,0,none⟩) 1 1) (v:=v') (w':=W5x) rfl _ _ 54 rfl ?_ ?_ ?_ ?_;rfl;rfl;exact HAP.out))
   go_roundg (gk-1)
   case measure=>omega
   case rel=>exact ⟨i+1,by omega,rfl,K5'⟩
  ·have hi':¬ (i:Int)<(k:Int):=by omega
   obtain rfl:i=k:=by omega
   go_wp2_with fail
   refine (HDEL.out wr _ KM.out).mono ?_
   rintro e w9 ⟨vv,rfl,hR9⟩
   have HR9:=Hid.mk' hR9
   clear hR9 HDEL
   go_wp2
   go_ret
   exact ⟨_,rfl,HR9.out⟩
theorem merged_d (g k c:Nat) (hk:k≤1000) (ns:Nat→Nat) (az:Nat→Bs) (ha:∀ j,j<k→(az j).size=33) (hd:∀ i,i<k→at? (az i) ((mrg N ns az i).map (·.2)) 0=none) (hz:∀ x∈mrg N ns az k,x.1≠0∧x.1<top) (hk0:0<(mrg N ns az k).length) (w:World) (hg:g<w.heap.size) (hr:∀ j,j<k→w.rangeAt g (37*j) (wn (ns j)++bl33 (az j))) :
 Calls Tryz.prog 36 #[.slice (some ⟨g,0,none⟩) k c] w (Ret fun e w'=>Below w.heap.size w w'∧∃ g' cap,e=.slice (some ⟨g',0,none⟩) (mrg N ns az k).length cap∧w.heap.size≤g'∧g'<w'.heap.size∧∀ j (hj:j<(mrg N ns az k).length),w'.rangeAt g' (37*j) (wn ((mrg N ns az k)[j]).1++bl33 ((mrg N ns az k)[j]).2)):=by
 refine merged_g _ g k c hk ns az ha hd w hg hr fun W v hM=>?_
 have hms:=mrg_size (N:=N) ns az ha k (Nat.le_refl _)
 have hml:=mrg_len (N:=N) ns az k
 generalize mrg N ns az k=l at hM hms hml hz hk0 ⊢
 obtain ⟨g',cap,rfl,h1,h2,h3⟩:=owns_rows hM.ow hms hk0
 refine (delete_none g' l.length cap (by omega) (fun j=>((l[j]?).getD (0,#[])).1) (fun j=>((l[j]?).getD (0,#[])).2) (fun j hj=>by rw[List.getElem?_eq_getElem hj];exact (hz _ (List.getElem_mem hj)).2) (fun j hj=>by rw[List.getElem?_eq_getElem hj];exact (hz _ (List.getElem_mem hj)).1) (fun j hj=>by rw[List.getElem?_eq_getElem hj];exact hms _ (List.mem_map.2 ⟨_,List.getElem_mem hj,rfl⟩)) W h2 (fun j hj=>by rw[List.getElem?_eq_getElem hj];exact h3 j hj)).mono ?_
 rintro e w9 ⟨vv,rfl,hb9,rfl⟩
 exact ⟨_,rfl,hM.bl.trans (hb9.mono hM.bl.size),g',cap,rfl,h1,Nat.lt_of_lt_of_le h2 hb9.size,fun j hj=>RG.range_below (h3 j hj) hb9 h2⟩
end
section
open Go.RowKit Go.Sort Go.Deep
variable {P:Nat} [NeZero P] {N:Nat}
theorem zeroTm (w:World):(zeroValue 78).run Tryz.prog w=.ok (.agg zT.toArray) w:=by kernel_rfl
theorem zeroTc:(Builtin.zeroCells (Value.agg zT.toArray).cells 1).toList=zT:=by kernel_rfl
theorem zT_one:∀ v∈zT,v.oneCell'=true:=by
 intro v hv
 unfold zT z33 at hv
 rcases List.mem_append.1 hv with h|h
 ·simp only[List.mem_cons,List.not_mem_nil,or_false] at h
  rcases h with rfl|rfl|rfl|rfl<;>rfl
 ·rw[(List.mem_replicate.1 h).2];rfl
theorem zT_len:zT.length=37:=by kernel_rfl
theorem clearT (g c:Nat) (ty:TypeId) (w:World) (h:w.there g 0 37):(Builtin.clear_ #[54] ty #[.slice (some ⟨g,0,none⟩) 1 c]).run Tryz.prog w=.ok (.tuple #[]) (w.setCells g 0 zT):=by
 have h1:=zeroTm w
 have h2:=zeroTc
 have h3:=run_underlying undS w
 have h4:(storeCells ⟨g,0,none⟩ zT).run Tryz.prog w=.ok () (w.setCells g 0 zT):=by
  have h5:=run_storeCells_cells (P:=Tryz.prog) g 0 zT 0 w (fun j hj=>by rw[zT_len] at hj;have:=(h j hj).1;simpa using this) (fun j hj=>by rw[zT_len] at hj;have:=(h j hj).2;simpa using this) zT_one
  exact h5
 generalize zT=Z at h1 h2 h4 ⊢
 unfold Builtin.clear_
 simp[Sem.run_bind,h3,h1,h2,h4]
theorem delete_zero (g c:Nat) (a:Bs) (ha:a.size=33) (w:World) (hR:Row w g (wn 0++bl33 a)) (hc:1≤c) :
 Calls Tryz.prog 63 #[.slice (some ⟨g,0,none⟩) 1 c,.func (.func 64) #[] #[]] w (Ret fun e w'=>(∀ j,j<w.heap.size→j≠g→w'.heap[j]? = w.heap[j]?)∧w.heap.size≤w'.heap.size∧Below g w w'∧e=.slice (some ⟨g,0,none⟩) 0 c):=by
 have hI:=index_c g 1 c (by decide) (fun _=>0) (fun _=>a) (fun _ _=>by show 0<top;unfold top;omega) (fun _ _=>ha) w hR.1 (fun j hj=>by
  obtain rfl:j=0:=by omega
  exact hR.2.1)
 have hf:firstZ (fun _=>0) 0 1=0:=rfl
 rw[hf] at hI
 have HI:=Hid.mk' hI
 have hlen:(wn 0++bl33 a).length=37:=by rw[List.length_append,bl33_length ha];rfl
 have HR:=Hid.mk' hR
 have hth:Hid (w.there g 0 37):=by have:=hR.2.2;rw[hlen] at this;exact this
 clear hI hf hR hlen
 have hc1:(1:Int)≤(c:Int):=by omega
 have hc0:(0:Int)≤(c:Int):=by omega
 go_enter Tryz.func63,Tryz.ntmps63
 go_wp2_with fail
 refine HI.out.mono ?_
 rintro e w1 ⟨v,rfl,hb1,rfl⟩
 have K1:Hid (Below w.heap.size w w1∧Row w1 g (wn 0++bl33 a)):=⟨hb1,HR.out.below hb1⟩
 have hcl:∀ ty,(Builtin.clear_ #[54] ty #[.slice (some ⟨g,0,none⟩) 1 c]).run Tryz.prog w1=.ok (.tuple #[]) (w1.setCells g 0 zT):=fun ty=>clearT g c ty w1 (by
  have:=K1.out.2.2.2
  rw[List.length_append,bl33_length ha] at this
  exact this)
 clear hb1 HI
 go_wp2
 refine wp_loop_once ?_
 go_wp2
 go_ret
 refine ⟨_,rfl,fun j hj hne=>?_,by rw[RG.setCells_size];exact K1.out.1.size,RG.below_setCells (Nat.le_refl _) _ _ _ (K1.out.1.mono (Nat.le_of_lt HR.out.1)),rfl⟩
 rw[RG.setCells_other _ _ _ _ _ hne]
 exact K1.out.1.block j hj
theorem merged_0 (g c:Nat) (a:Bs) (ha:a.size=33) (w:World) (hg:g<w.heap.size) (hr:w.rangeAt g 0 (wn 0++bl33 a)) :
 Calls Tryz.prog 36 #[.slice (some ⟨g,0,none⟩) 1 c] w (Ret fun e w'=>Below w.heap.size w w'∧∃ q cap,e=.slice q 0 cap):=by
 refine merged_g (N:=2) _ g 1 c (by decide) (fun _=>0) (fun _=>a) (fun _ _=>ha) (fun i hi=>by
  obtain rfl:i=0:=by omega
  rfl) w hg (fun j hj=>by
  obtain rfl:j=0:=by omega
  exact hr) fun W v hM=>?_
 have e1:mrg 2 (fun _=>0) (fun _=>a) 1=[(0,a)]:=rfl
 rw[e1] at hM
 obtain ⟨g',cap,rfl,h1,h2,h3⟩:=owns_rows hM.ow (fun x hx=>by simp at hx;rw[hx];exact ha) (Nat.lt_succ_self 0)
 have h0:=h3 0 (Nat.lt_succ_self 0)
 have hth:W.there g' 0 37:=by
  rcases hM.ow.2 with ⟨h,-⟩|⟨g2,cap2,cur,he,-,hc,hn,-,hs,-⟩
  ·cases h
  ·injection he with he1 he2 he3
   injection he1 with he1
   injection he1 with he1
   subst he1
   intro j hj
   have hj2:0+j<cur.size:=by
    rw[hs]
    have:1≤cap2:=hn
    omega
   refine ⟨?_,?_⟩
   ·simp[World.cell?,hc,hj2]
    omega
   ·simp[World.frozen?,hc]
 have hR:Row W g' (wn 0++bl33 a):=⟨h2,h0,by rw[List.length_append,bl33_length ha];exact hth⟩
 refine (delete_zero g' cap a ha W hR ?_).mono ?_
 ·rcases hM.ow.2 with ⟨h,-⟩|⟨g2,cap2,cur,he,-,hc,hn,-,hs,-⟩
  ·cases h
  ·injection he with he1 he2 he3
   rw[he3];exact hn
 ·rintro e w9 ⟨vv,rfl,hk9,hs9,hb9,rfl⟩
  exact ⟨_,rfl,hM.bl.trans (hb9.mono h1),_,_,rfl⟩
end
namespace RG
open Go Go.RowKit
variable {P:Program} {ops:Array Oper} {Q:Exit→Act→World→Prop} {w:World} {a0:Act} {L:Array Bool}
structure Flow where
 R:Nat→Value→World→Prop
 B:Nat→World→Prop
 E:Nat→World→World→Prop
 kill:Nat→List Nat
 killB:Nat→List Nat
def dstOf (ops:Array Oper) (i:Nat):Option Tmp:=(ops[i]?).bind (·.dst)
def depOn (ops:Array Oper) (x k:Nat):Bool:=match ops[x]? with|some o=>depB o k|none=>true
def okK (ops:Array Oper) (k:Nat) (l:List Nat):Bool:=l.all (fun x=>x == k || depOn ops x k)
def freeF (ops:Array Oper) (k:Nat) (t:Tmp):Bool:=(List.range ops.size).all (fun i=>dstOf ops i != some t || i == k || depOn ops i k)
structure InvF (F:Flow) (ops:Array Oper) (a0:Act) (L:Array Bool) (a:Act) (w:World):Prop where
 size:L.size=ops.size
 cl:∀ (i:Nat) (o:Oper),ops[i]? = some o→on L i=true→∀ e∈o.after,Region.binds .any e=true→on L e.on=true
 def':a.defers=a0.defers
 sz:a.tmps.size=a0.tmps.size
 rest:∀ t:Tmp,(∀ i,on L i=true→dstOf ops i≠some t)→a.tmps[t]? = a0.tmps[t]?
 all:∃ V:Nat→Value,(∀ i d,on L i=true→dstOf ops i=some d→a.tmps[d]? = some (V i))∧(∀ i,on L i=true→(∀ x∈F.kill i,on L x=false)→F.R i (V i) w)
 base:∀ b,(∀ x∈F.killB b,on L x=false)→F.B b w
def CertF (P:Program) (Q:Exit→Act→World→Prop) (F:Flow) (ops:Array Oper) (a0:Act) (k:Nat) (o:Oper):Prop:=
 ∀ (a:Act) (w:World) (K:Act→World→Prop),
  (∀ j d,depB o j=true→okK ops k (F.kill j)=true→dstOf ops j=some d→F.R j (a.eval (.tmp d)) w) →
  (∀ t,freeF ops k t=true→a.eval (.tmp t)=a0.eval (.tmp t)) →
  (∀ b,okK ops k (F.killB b)=true→F.B b w) →
  (∀ v w',F.E k w w'→F.R k v w'→K (a.put o.dst v) w')→o.wp P a w K Q
def CertH (P:Program) (Q:Exit→Act→World→Prop) (F:Flow) (ops:Array Oper) (a0:Act) (k:Nat) (o:Oper):Prop:=
 match o.guard with
 | none=>CertF P Q F ops a0 k o
 | some (j,want)=>depB o j=true∧(dstOf ops j).isSome=true∧okK ops k (F.kill j)=true ∧
  (((∀ v w,F.R j v w→v=.bool want)∧CertF P Q F ops a0 k o)∨((∀ v w,F.R j v w→v=.bool (!want))∧∀ w,F.E k w w∧F.R k undef w))
def chkF (ops:Array Oper) (n:Nat):Bool:=
 (List.range ops.size).all (fun i=>match ops[i]? with
  | some o=>o.after.all (fun e=>!Region.binds .any e || e.on<i) && (match o.dst with|none=>true|some d=>decide (d<n) && (List.range ops.size).all (fun j=>j == i || dstOf ops j != some d))
  | none=>false)
structure RegF (P:Program) (Q:Exit→Act→World→Prop) (F:Flow) (ops:Array Oper) (a0:Act) (m:Nat):Prop where
 chk:chkF ops a0.tmps.size=true
 cert:∀ k o,k<m→ops[k]? = some o→CertH P Q F ops a0 k o
 stab:∀ i j,i<m→j<m→i≠j→(F.kill j).contains i=false→depOn ops j i=false→∀ v w w',F.E i w w'→F.R j v w→F.R j v w'
 stabB:∀ i b,i<m→(F.killB b).contains i=false→∀ w w',F.E i w w'→F.B b w→F.B b w'
variable {F:Flow} {m:Nat}
theorem RegF.of {k:Nat} {o:Oper} (h:RegF P Q F ops a0 m) (ho:ops[k]? = some o):(∀ e∈o.after,Region.binds .any e=true→e.on<k)∧∀ d,o.dst=some d→d<a0.tmps.size∧∀ j,dstOf ops j=some d→j=k:=by
 have hk:k<ops.size:=(Array.getElem?_eq_some_iff.1 ho).1
 have h1:=List.all_eq_true.1 h.chk k (List.mem_range.2 hk)
 rw[ho] at h1
 simp only[Bool.and_eq_true] at h1
 obtain ⟨h2,h3⟩:=h1
 refine ⟨fun e he hb=>?_,fun d hd=>?_⟩
 ·have:=Array.all_eq_true'.1 h2 e he
  simpa[hb] using this
 ·rw[hd] at h3
  simp only[Bool.and_eq_true,decide_eq_true_eq] at h3
  refine ⟨h3.1,fun j hj=>?_⟩
  have hjs:j<ops.size:=by
   unfold dstOf at hj
   cases hx:ops[j]? with
   | none=>rw[hx] at hj;cases hj
   | some x=>exact (Array.getElem?_eq_some_iff.1 hx).1
  have:=List.all_eq_true.1 h3.2 j (List.mem_range.2 hjs)
  simpa[hj] using this
theorem dstOf_some {i:Nat} {o:Oper} (ho:ops[i]? = some o):dstOf ops i=o.dst:=by unfold dstOf;rw[ho];rfl
theorem dep_on {a:Act} {x k:Nat} {o:Oper} (h:InvF F ops a0 L a w) {ho:ops[x]? = some o} (hd:depB o k=true) (hx:on L x=true):on L k=true:=by
 obtain ⟨e,he,hb⟩:=Array.any_eq_true'.1 hd
 simp only[Bool.and_eq_true,beq_iff_eq] at hb
 rw[← hb.2]
 exact h.cl x o ho hx e he hb.1
theorem on_lt {L:Array Bool} {x:Nat} (h:on L x=true):x<L.size:=by
 rcases Nat.lt_or_ge x L.size with h1|h1
 ·exact h1
 ·unfold on at h
  rw[Array.getD_eq_getD_getElem?,Array.getElem?_eq_none h1] at h
  cases h
theorem stepF {k:Nat} {o:Oper} {a:Act} (R:RegF P Q F ops a0 m) (hkm:k<m) (hlt:∀ i,on L i=true→i<m) (ho:ops[k]? = some o) (hun:on L k=false) (hdep:∀ e∈o.after,Region.binds .any e=true→on L e.on=true) (h:InvF F ops a0 L a w) :
 wpOp P ops Q k (InvF F ops a0 (L.setIfInBounds k true)) a w:=by
 obtain ⟨hback,hdst⟩:=R.of ho
 have hks:k<ops.size:=(Array.getElem?_eq_some_iff.1 ho).1
 have hkL:k<L.size:=by rw[h.size];exact hks
 have hdo:dstOf ops k=o.dst:=dstOf_some ho
 have hnot:∀ x,(x == k || depOn ops x k)=true→on L x=false:=fun x hx=>by
  cases hon:on L x with
  | false=>rfl
  | true =>
   rcases Bool.or_eq_true _ _ ▸ hx with h1|h1
   ·rw[show x=k by simpa using h1,hun] at hon;cases hon
   ·unfold depOn at h1
    have hxs:x<ops.size:=by rw[← h.size];exact on_lt hon
    have hox:ops[x]? = some ops[x]:=Array.getElem?_eq_getElem hxs
    rw[hox] at h1
    have:=dep_on (ho:=hox) h h1 hon
    rw[hun] at this;cases this
 obtain ⟨V,hV1,hV2⟩:=h.all
 have hp1:∀ j d,depB o j=true→okK ops k (F.kill j)=true→dstOf ops j=some d→a.tmps[d]? = some (V j)∧F.R j (V j) w:=fun j d hj hok hd=>by
  obtain ⟨e,he,hb⟩:=Array.any_eq_true'.1 hj
  simp only[Bool.and_eq_true,beq_iff_eq] at hb
  have hjon:on L j=true:=by rw[← hb.2];exact hdep e he hb.1
  exact ⟨hV1 j d hjon hd,hV2 j hjon fun x hx=>hnot x (List.all_eq_true.1 hok x hx)⟩
 have hpre1:∀ j d,depB o j=true→okK ops k (F.kill j)=true→dstOf ops j=some d→F.R j (a.eval (.tmp d)) w:=fun j d hj hok hd=>by
  rw[eval_of (hp1 j d hj hok hd).1]
  exact (hp1 j d hj hok hd).2
 have hpre2:∀ t,freeF ops k t=true→a.eval (.tmp t)=a0.eval (.tmp t):=fun t hf=>by
  have h1:=h.rest t fun i hi hd=>by
   have his:i<ops.size:=by rw[← h.size];exact on_lt hi
   have h2:=List.all_eq_true.1 hf i (List.mem_range.2 his)
   rw[hd] at h2
   have h3:(i == k || depOn ops i k)=true:=by simpa using h2
   rw[hnot i h3] at hi;cases hi
  show a.tmps.getD t undef=a0.tmps.getD t undef
  rw[Array.getD_eq_getD_getElem?,Array.getD_eq_getD_getElem?,h1]
 have hpre3:∀ b,okK ops k (F.killB b)=true→F.B b w:=fun b hb=>h.base b fun x hx=>hnot x (List.all_eq_true.1 hb x hx)
 have hpost:∀ v w',F.E k w w'→F.R k v w'→InvF F ops a0 (L.setIfInBounds k true) (a.put o.dst v) w':=fun v w' hE hR=>by
  have hon:∀ x,on (L.setIfInBounds k true) x=(on L x || k == x):=fun x=>on_set hkL
  refine ⟨by rw[Array.size_setIfInBounds];exact h.size,fun i oi hoi hi e he hb=>?_,?_,?_,fun t ht=>?_,⟨fun x=>if x=k then v else V x,fun i d hi hd=>?_,fun i hi hkl=>?_⟩,fun b hb=>?_⟩
  ·rw[hon] at hi ⊢
   by_cases hik:k=i
   ·subst hik
    rw[ho] at hoi
    obtain rfl:=Option.some.inj hoi
    rw[hdep e he hb,Bool.true_or]
   ·rw[h.cl i oi hoi (by simpa[hik] using hi) e he hb,Bool.true_or]
  ·rw[← h.def'];cases o.dst<;>rfl
  ·rw[put_size];exact h.sz
  ·have h1:o.dst≠some t:=fun hd=>ht k (by rw[hon];simp) (by rw[hdo];exact hd)
   rw[put_other a v h1]
   exact h.rest t fun i hi=>ht i (by rw[hon,hi,Bool.true_or])
  ·rw[hon] at hi
   by_cases hik:i=k
   ·subst hik
    rw[hdo] at hd
    rw[hd]
    show (a.tmps.setIfInBounds d v)[d]? = some (if i=i then v else V i)
    rw[if_pos (rfl:i=i)]
    rw[Array.getElem?_setIfInBounds,if_pos rfl,if_pos (by rw[h.sz];exact (hdst d hd).1)]
   ·have hne:o.dst≠some d:=fun hd2=>hik ((hdst d hd2).2 i hd)
    rw[put_other a v hne]
    show _=some (if i=k then v else V i)
    rw[if_neg hik]
    have hik':¬ k=i:=fun e=>hik e.symm
    exact hV1 i d (by simpa[hik'] using hi) hd
  ·rw[hon] at hi
   by_cases hik:i=k
   ·subst hik
    show F.R i (if i=i then v else V i) w'
    rw[if_pos rfl];exact hR
   ·show F.R i (if i=k then v else V i) w'
    rw[if_neg hik]
    have hik':¬ k=i:=fun e=>hik e.symm
    have hi':on L i=true:=by simpa[hik'] using hi
    have h1:∀ x∈F.kill i,on L x=false:=fun x hx=>by
     have:=hkl x hx
     rw[hon,Bool.or_eq_false_iff] at this
     exact this.1
    have h2:(F.kill i).contains k=false:=by
     cases hc:(F.kill i).contains k with
     | false=>rfl
     | true =>
      have:=hkl k (by simpa using hc)
      rw[hon] at this
      simp at this
    have his:i<ops.size:=by rw[← h.size];exact on_lt hi'
    have h3:depOn ops i k=false:=by
     cases hc:depOn ops i k with
     | false=>rfl
     | true=>rw[hnot i (by rw[hc,Bool.or_true])] at hi';cases hi'
    exact R.stab k i hkm (hlt i hi') (Ne.symm hik) h2 h3 _ _ _ hE (hV2 i hi' h1)
  ·have h1:∀ x∈F.killB b,on L x=false:=fun x hx=>by
    have:=hb x hx
    rw[hon,Bool.or_eq_false_iff] at this
    exact this.1
   have h2:(F.killB b).contains k=false:=by
    cases hc:(F.killB b).contains k with
    | false=>rfl
    | true =>
     have:=hb k (by simpa using hc)
     rw[hon] at this
     simp at this
   exact R.stabB k b hkm h2 _ _ hE (h.base b h1)
 have hC:=R.cert k o hkm ho
 unfold CertH at hC
 unfold wpOp
 rw[ho]
 dsimp only
 cases hg:o.guard with
 | none =>
  rw[hg] at hC
  rw[wanted_none hg,if_pos rfl]
  left
  exact hC a w _ hpre1 hpre2 hpre3 hpost
 | some jw =>
  obtain ⟨j,want⟩:=jw
  rw[hg] at hC
  obtain ⟨hd1,hd2,hd3,hcase⟩:=hC
  obtain ⟨d,hd⟩:=Option.isSome_iff_exists.1 hd2
  obtain ⟨hs,hRj⟩:=hp1 j d hd1 hd3 hd
  have hy:∀ b,V j=.bool b→Region.wanted o (yielded ops a.tmps)=(b == want):=fun b hb=>by
   have h4:yielded ops a.tmps j=some b:=by
    unfold dstOf at hd
    unfold yielded
    cases hoj:ops[j]? with
    | none=>rw[hoj] at hd;cases hd
    | some oj =>
     rw[hoj] at hd
     show (match oj.dst.bind (a.tmps[·]?) with|some (.bool b)=>some b|_=>none)=_
     rw[show oj.dst=some d from hd]
     show (match a.tmps[d]? with|some (.bool b)=>some b|_=>none)=_
     rw[hs,hb]
   unfold Region.wanted
   rw[hg]
   show (yielded ops a.tmps j == some want)=_
   rw[h4]
   cases b<;>cases want<;>rfl
  rcases hcase with ⟨hw,hc⟩|⟨hw,hsk⟩
  ·rw[hy _ (hw _ _ hRj),show (want == want)=true by cases want<;>rfl,if_pos rfl]
   left
   exact hc a w _ hpre1 hpre2 hpre3 hpost
  ·rw[hy _ (hw _ _ hRj),show ((!want) == want)=false by cases want<;>rfl]
   exact hpost undef w (hsk w).1 (hsk w).2
def putV (V:Nat→Value):List Oper→Nat→Act→Act
 | [],_,a=>a
 | o :: r,i,a=>putV V r (i+1) (a.put o.dst (V i))
theorem putV_defers (V:Nat→Value):∀ (l:List Oper) (i:Nat) (a:Act),(putV V l i a).defers=a.defers
 | [],_,_=>rfl
 | o :: r,i,a=>by
  rw[putV,putV_defers V r]
  cases o.dst<;>rfl
theorem putV_other (V:Nat→Value):∀ (l:List Oper) (i:Nat) (a:Act) (t:Tmp),(∀ o∈l,o.dst≠some t)→(putV V l i a).tmps[t]? = a.tmps[t]?
 | [],_,_,_,_=>rfl
 | o :: r,i,a,t,h=>by
  rw[putV,putV_other V r _ _ t (fun x hx=>h x (List.mem_cons_of_mem _ hx)),put_other a _ (h o List.mem_cons_self)]
theorem putV_same (V:Nat→Value):∀ (l:List Oper) (i:Nat) (a:Act) (j:Nat) (o:Oper) (d:Tmp),l[j]? = some o→o.dst=some d→(∀ j' o',l[j']? = some o'→o'.dst=some d→j'=j)→d<a.tmps.size→(putV V l i a).tmps[d]? = some (V (i+j))
 | [],_,_,_,_,_,h,_,_,_=>by simp at h
 | x :: r,i,a,0,o,d,h,hd,hu,hs=>by
  obtain rfl:x=o:=by simpa using h
  rw[putV,putV_other V r _ _ d (fun y hy hyd=>by
   obtain ⟨j',hj'⟩:=List.getElem?_of_mem hy
   have:=hu (j'+1) y (by simpa using hj') hyd
   omega),hd]
  show (a.tmps.setIfInBounds d _)[d]? = _
  rw[Array.getElem?_setIfInBounds,if_pos rfl,if_pos hs]
  rfl
 | x :: r,i,a,j+1,o,d,h,hd,hu,hs=>by
  rw[putV,putV_same V r (i+1) _ j o d (by simpa using h) hd (fun j' o' h' hd'=>by
   have:=hu (j'+1) o' (by simpa using h') hd'
   omega) (by rw[put_size];exact hs)]
  congr 2
  omega
theorem InvF.done {a:Act} (R:RegF P Q F ops a0 m) (h:InvF F ops a0 L a w) (hall:∀ i,i<ops.size→on L i=true)
 (hp:∀ (V:Nat→Value),(∀ i,i<ops.size→F.kill i=[]→F.R i (V i) w)→(∀ b,F.killB b=[]→F.B b w)→Q .normal (putV V ops.toList 0 a0) w):Q .normal a w:=by
 obtain ⟨V,hV1,hV2⟩:=h.all
 have e:a=putV V ops.toList 0 a0:=by
  refine Act.ext' ?_ (by rw[putV_defers];exact h.def')
  apply Array.ext_getElem?
  intro t
  by_cases ht:∃ (i:Nat) (o:Oper),ops[i]? = some o∧o.dst=some t
  ·obtain ⟨i,o,ho,hd⟩:=ht
   rw[hV1 i t (hall i (Array.getElem?_eq_some_iff.1 ho).1) (by rw[dstOf_some ho];exact hd)]
   rw[putV_same V ops.toList 0 a0 i o t (by rw[Array.getElem?_toList];exact ho) hd (fun j' o' hj' hd'=>((R.of ho).2 t hd).2 j' (by rw[Array.getElem?_toList] at hj';rw[dstOf_some hj'];exact hd')) ((R.of ho).2 t hd).1,Nat.zero_add]
  ·rw[h.rest t (fun i hi hd=>?_),putV_other V ops.toList 0 a0 t (fun o hm hd=>?_)]
   ·obtain ⟨i,hi⟩:=List.getElem?_of_mem hm
    rw[Array.getElem?_toList] at hi
    exact ht ⟨i,o,hi,hd⟩
   ·unfold dstOf at hd
    cases hx:ops[i]? with
    | none=>rw[hx] at hd;cases hd
    | some x=>rw[hx] at hd;exact ht ⟨i,x,hx,hd⟩
 rw[e]
 exact hp V (fun i hi hk=>hV2 i (hall i hi) (by rw[hk];simp)) (fun b hb=>h.base b (by rw[hb];simp))
theorem InvF.full {a:Act} (R:RegF P Q F ops a0 m) (h:InvF F ops a0 L a w) (hr:Region.ready .any ops L=[]):∀ i,i<ops.size→on L i=true:=by
 intro i
 induction i using Nat.strongRecOn with
 | ind i ih =>
  intro hi
  have ho:ops[i]? = some ops[i]:=Array.getElem?_eq_getElem _
  cases hon:on L i with
  | true=>rfl
  | false =>
   have:i∈Region.ready .any ops L:=mem_ready.2 ⟨?_,_,ho,fun e he hb=>?_⟩
   ·rw[hr] at this;cases this
   ·unfold on at hon
    rw[Array.getD_eq_getD_getElem?,Array.getElem?_eq_getElem (by rw[h.size];exact hi)] at hon ⊢
    exact hon
   ·have hlt:=(R.of ho).1 e he hb
    exact ih e.on hlt (Nat.lt_trans hlt hi)
theorem flow_draws {id:Nat} (F:Flow) (hm:P.follows .mixedOrders=true) (R:RegF P Q F ops a0 ops.size) (hB:∀ b,F.B b w.drew)
 (hp:∀ (V:Nat→Value) (w':World),(∀ i,i<ops.size→F.kill i=[]→F.R i (V i) w')→(∀ b,F.killB b=[]→F.B b w')→Q .normal (putV V ops.toList 0 a0) w'):(Code.region id ops true).wp P Q a0 w:=by
 have key:∀ (fuel:Nat) (L:Array Bool) (a:Act) (w:World),unl L=fuel→InvF F ops a0 L a w→wpAny P .any ops Q fuel L a w:=by
  intro fuel
  induction fuel with
  | zero =>
   intro L a w hu hI
   have hall:∀ i,i<ops.size→on L i=true:=fun i hi=>unl_zero hu i (by rw[hI.size];exact hi)
   refine ⟨?_,hI.done R hall (fun V=>hp V w)⟩
   apply List.eq_nil_iff_forall_not_mem.2
   intro i hi
   obtain ⟨h1,o,ho,-⟩:=mem_ready.1 hi
   have h2:=hall i (Array.getElem?_eq_some_iff.1 ho).1
   unfold on at h2
   rw[Array.getD_eq_getD_getElem?] at h1 h2
   cases hh:L[i]? with
   | none=>rw[hh] at h1;cases h1
   | some b=>rw[hh] at h1 h2;rw[show b=false from h1] at h2;cases h2
  | succ fuel ih =>
   intro L a w hu hI
   refine ⟨fun hr=>hI.done R (hI.full R hr) (fun V=>hp V w),fun i hi=>?_⟩
   obtain ⟨h1,o,ho,hdep⟩:=mem_ready.1 hi
   have hoff:on L i=false:=by
    unfold on
    rw[Array.getD_eq_getD_getElem?] at h1 ⊢
    cases hh:L[i]? with
    | none=>rfl
    | some b=>rw[hh] at h1;exact h1
   exact wpOp_mono (fun a' w' hI'=>ih _ a' w' (by have:=unl_set h1;omega) hI') (stepF R (Array.getElem?_eq_some_iff.1 ho).1 (fun i hi=>by rw[← hI.size];exact on_lt hi) ho hoff hdep hI)
 have hoff:∀ i,on (Array.replicate ops.size false) i=false:=fun i=>by
  unfold on
  rw[Array.getD_eq_getD_getElem?,Array.getElem?_replicate]
  by_cases h:i<ops.size
  ·rw[if_pos h];rfl
  ·rw[if_neg h];rfl
 refine wp_region_any hm (key _ _ a0 _ ?_ ⟨Array.size_replicate,(fun i o _ h=>by rw[hoff] at h;cases h),rfl,rfl,fun _ _=>rfl,⟨fun _=>undef,fun i d h=>(by rw[hoff] at h;cases h),fun i h=>(by rw[hoff] at h;cases h)⟩,fun b _=>hB b⟩)
 unfold unl
 rw[Array.toList_replicate,List.countP_replicate]
 simp
structure PreF (F:Flow) (ops:Array Oper) (a0:Act) (k:Nat) (o:Oper) (a:Act) (w:World):Prop where
 n:∀ j d,depB o j=true→okK ops k (F.kill j)=true→dstOf ops j=some d→F.R j (a.eval (.tmp d)) w
 o:∀ t,freeF ops k t=true→a.eval (.tmp t)=a0.eval (.tmp t)
 b:∀ b,okK ops k (F.killB b)=true→F.B b w
def CertsF (P:Program) (Q:Exit→Act→World→Prop) (F:Flow) (ops:Array Oper) (a0:Act):Nat→List Oper→Prop
 | _,[]=>True
 | k,o :: r=>CertH P Q F ops a0 k o∧CertsF P Q F ops a0 (k+1) r
theorem certs_go:∀ (l:List Oper) (i:Nat),CertsF P Q F ops a0 i l→∀ k o,l[k]? = some o→CertH P Q F ops a0 (i+k) o
 | [],_,_,k,o,h=>by simp at h
 | x :: r,i,hc,0,o,h=>by
  obtain rfl:x=o:=by simpa using h
  exact hc.1
 | x :: r,i,hc,k+1,o,h=>by
  have:=certs_go r (i+1) hc.2 k o (by simpa using h)
  rwa[show i+1+k=i+(k+1) by omega] at this
theorem certs_of (h:CertsF P Q F ops a0 0 ops.toList):∀ k o,k<ops.size→ops[k]? = some o→CertH P Q F ops a0 k o:=fun k o _ ho=>by
 have:=certs_go ops.toList 0 h k o (by rw[Array.getElem?_toList];exact ho)
 rwa[Nat.zero_add] at this
def evo (ev:Tmp→Value):Operand→Value
 | .tmp t=>ev t
 | .const v=>v
 | .global g=>.pointer (some ⟨g,0,none⟩)
 | .func f=>.func (.func f) #[] #[]
def seenT (T:List Tmp) (o:Oper):Bool:=
 (match o.op with | .select _ _=>false|_=>true) && o.op.operands.all (fun x=>match x with | .tmp t=>T.contains t|_=>true)
theorem exec_ev {a:Act} {o:Oper} (ev:Tmp→Value) (T:List Tmp) (h:seenT T o=true) (he:∀ t∈T,a.eval (.tmp t)=ev t):execOp a.eval o=execOp (evo ev) o:=by
 simp only[seenT,Bool.and_eq_true] at h
 refine execOp_congr o (fun cs b he=>?_) (fun x hx=>?_)
 ·rw[he] at h;exact absurd h.1 (by simp)
 ·have h1:=Array.all_eq_true'.1 h.2 x hx
  cases x with
  | tmp t=>exact he t (by simpa using h1)
  | const v=>rfl
  | global g=>rfl
  | func f=>rfl
theorem cf_val {k:Nat} {o:Oper} (h:∀ (a:Act) (w:World),PreF F ops a0 k o a w→∃ v w',(execOp a.eval o).run P w=.ok (.value v) w'∧F.E k w w'∧F.R k v w'):CertF P Q F ops a0 k o:=by
 intro a w K h1 h2 h3 hK
 obtain ⟨v,w',hr,hE,hR⟩:=h a w ⟨h1,h2,h3⟩
 unfold Oper.wp
 rw[hr]
 exact hK v w' hE hR
theorem cf_one {k:Nat} {o:Oper} (t:Tmp) (h:∀ (a:Act) (w:World),PreF F ops a0 k o a w→∃ v w',(seenT [t] o=true)∧(execOp (evo fun _=>a.eval (.tmp t)) o).run P w=.ok (.value v) w'∧F.E k w w'∧F.R k v w'):CertF P Q F ops a0 k o:=by
 refine cf_val fun a w hp=>?_
 obtain ⟨v,w',hs,hr,hE⟩:=h a w hp
 refine ⟨v,w',?_,hE⟩
 rw[exec_ev (fun _=>a.eval (.tmp t)) [t] hs (fun x hx=>by rw[show x=t by simpa using hx])]
 exact hr
theorem cf_call {k:Nat} {o:Oper} (t:Tmp) (h:∀ (a:Act) (w:World),PreF F ops a0 k o a w→∃ f args,(seenT [t] o=true)∧(execOp (evo fun _=>a.eval (.tmp t)) o).run P w=.ok (.enter f args) w∧Calls P f args w (Ret fun e w'=>F.E k w w'∧F.R k e w')):CertF P Q F ops a0 k o:=by
 intro a w K h1 h2 h3 hK
 obtain ⟨f,args,hs,hr,hc⟩:=h a w ⟨h1,h2,h3⟩
 unfold Oper.wp
 rw[exec_ev (fun _=>a.eval (.tmp t)) [t] hs (fun x hx=>by rw[show x=t by simpa using hx]),hr,Oper.upon_enter]
 refine hc.mono ?_
 rintro e w' ⟨v,rfl,hE,hR⟩
 exact hK _ _ hE hR
theorem cf_load {k:Nat} {o:Oper} (T:TypeId) (t:Tmp) (ho:o.op=.load T (.tmp t)) (hu:(P.underlying T).map (·.isRow)=some true)
 (h:∀ (a:Act) (w:World),PreF F ops a0 k o a w→∃ g off cs,a.eval (.tmp t)=.pointer (some ⟨g,off,none⟩)∧w.rangeAt g off cs∧(P.info? T).map (·.size)=some cs.length∧F.E k w w∧F.R k (.agg cs.toArray) w):CertF P Q F ops a0 k o:=by
 intro a w K h1 h2 h3 hK
 obtain ⟨g,off,cs,he,hr,hi,hE,hR⟩:=h a w ⟨h1,h2,h3⟩
 obtain ⟨d,hu,hd⟩:=Option.map_eq_some_iff.1 hu
 exact wp_load_mid T (.tmp t) ho g off he cs d hr hu hd hi (hK _ _ hE hR)
theorem cf_app {k:Nat} {o:Oper} (s u:Tmp) (t:TypeId) (ho:o.op=.call { callee:=.builtin .append,args:=#[.tmp s,.tmp u],argTypes:=#[t,t] })
 (h:∀ (a:Act) (w:World),PreF F ops a0 k o a w→∃ v w',(Builtin.append_ #[t,t] o.type #[a.eval (.tmp s),a.eval (.tmp u)]).run P w=.ok v w'∧F.E k w w'∧F.R k v w'):CertF P Q F ops a0 k o:=by
 intro a w K h1 h2 h3 hK
 obtain ⟨v,w',hr,hE,hR⟩:=h a w ⟨h1,h2,h3⟩
 unfold Oper.wp execOp
 simp only[ho,resolve,invoke,builtin,Sem.run_bind,Sem.run_pure,Result.andThen_ok,List.map_toArray,List.map_cons,List.map_nil,hr]
 exact hK _ _ hE hR
end RG
section
open Go.RowKit Go.Sort Go.Deep
variable {P:Nat} [NeZero P] {N:Nat}
theorem u8_ne {p:Option Addr} {n c:Nat} {x:UInt8}:encB x≠.slice p n c:=fun h=>by cases h
def El (n:Nat) (W:World) (x:Value) (b:Bs):Prop:=∃ k c,x=.slice (some ⟨k,0,none⟩) n c∧n≤c∧b.size=n∧k<W.heap.size∧Holds encB W k 0 b
def isL (n:Nat) (W:World) (g:Nat):Prop:=∃ p c,W.cell? ⟨g,0,none⟩=some (.slice p n c)
structure Gr (n:Nat) (v:Value) (W W':World):Prop where
 gr:W.grownBy W' v.ownBlock
 is:∀ g,v.ownBlock=some g→isL n W g
theorem Gr.of {W W':World} {n:Nat} (h:Below W.heap.size W W'):Gr n (.slice none 0 0) W W':=
 ⟨⟨h.os,h.tape,h.output,h.size,fun k hk _=>h.block k hk⟩,fun g hg=>by cases hg⟩
theorem Gr.below {n:Nat} {v:Value} {w W W':World} {B:Nat} (h:Gr n v W W') (hb:Below B w W) (hB:B≤W.heap.size) (hv:∀ g,v.ownBlock=some g→B≤g):Below B w W':=
 hb.grown h.gr hB (fun k hk=>hv k hk)
theorem Gr.block {n k:Nat} {v:Value} {W W':World} (h:Gr n v W W') (hk:k<W.heap.size) (hne:∀ p c,W.cell? ⟨k,0,none⟩≠some (.slice p n c)):W'.heap[k]? = W.heap[k]? :=
 h.gr.block k hk fun e=>by
  obtain ⟨p,c,hc⟩:=h.is k e.symm
  exact hne p c hc
theorem Holds.kept {W W':World} {k:Nat} {b:Bs} (h:Holds encB W k 0 b) (e:W'.heap[k]? = W.heap[k]?):Holds encB W' k 0 b:=fun j hj=>by
 rw[World.cell?_of_block (a:=⟨k,0+j,none⟩) e,World.frozen?_of_block (a:=⟨k,0+j,none⟩) e]
 exact h j hj
theorem El.kept {m n:Nat} {v x:Value} {W W':World} {b:Bs} (h:El m W x b) (hm:0<m) (hg:Gr n v W W'):El m W' x b:=by
 obtain ⟨k,c,rfl,h1,h2,h3,h4⟩:=h
 refine ⟨k,c,rfl,h1,h2,Nat.lt_of_lt_of_le h3 hg.gr.size,Holds.kept h4 (hg.block h3 fun p c' hc=>?_)⟩
 have:=(h4 0 (by omega)).1
 rw[Nat.zero_add,hc] at this
 exact u8_ne (Option.some.inj this).symm
theorem Row.kept {n k:Nat} {v:Value} {W W':World} {vs:List Value} (h:Row W k vs) (hg:Gr n v W W') (hne:∀ p c,vs[0]?≠some (.slice p n c)) (hl:0<vs.length):Row W' k vs:=by
 have e:=hg.block h.1 fun p c hc=>by
  have h0:=h.2.1 0 vs[0] (List.getElem?_eq_getElem hl)
  rw[Nat.zero_add,hc] at h0
  exact hne p c (by rw[List.getElem?_eq_getElem hl,h0])
 refine ⟨Nat.lt_of_lt_of_le h.1 hg.gr.size,fun j u hj=>?_,fun j hj=>?_⟩
 ·rw[World.cell?_of_block (a:=⟨k,0+j,none⟩) e];exact h.2.1 j u hj
 ·rw[World.cell?_of_block (a:=⟨k,0+j,none⟩) e,World.frozen?_of_block (a:=⟨k,0+j,none⟩) e];exact h.2.2 j hj
structure Lo (n base:Nat) (W:World) (v:Value) (bs:List Bs):Prop where
 ex:∃ xs:List Value,xs.length=bs.length∧W.ownsRow base 24 1 v bs.length xs∧∀ (j:Nat) (x:Value) (b:Bs),xs[j]? = some x→bs[j]? = some b→El n W x b
 nil:bs=[]→v=.slice none 0 0
theorem Lo.begin (n base:Nat) (W:World):Lo n base W (.slice none 0 0) []:=⟨⟨[],rfl,World.ownsRow_nil _ _ _ _,fun j x b h=>by cases h⟩,fun _=>rfl⟩
theorem add0 (g j:Nat):(⟨g,0,none⟩:Addr).add j=⟨g,j,none⟩:=by unfold Addr.add;split<;>simp_all
theorem Lo.isL {n base:Nat} {W:World} {v:Value} {bs:List Bs} (h:Lo n base W v bs) {g:Nat} (hg:v.ownBlock=some g):isL n W g:=by
 obtain ⟨xs,h1,h2,h3⟩:=h.ex
 have hne:bs≠[]:=fun e=>by rw[h.nil e] at hg;cases hg
 cases bs with
 | nil=>exact absurd rfl hne
 | cons b r =>
  cases xs with
  | nil=>cases h1
  | cons x xr =>
   obtain ⟨k,c,rfl,-⟩:=h3 0 x b rfl rfl
   have:=h2.cells hg 0 _ rfl
   rw[add0] at this
   exact ⟨_,_,this⟩
theorem Lo.lt {n base:Nat} {W:World} {v:Value} {bs:List Bs} (h:Lo n base W v bs):∀ g,v.ownBlock=some g→base≤g∧g<W.heap.size:=by
 obtain ⟨xs,h1,h2,h3⟩:=h.ex
 exact h2.lt
theorem Lo.kept {m n base:Nat} {W W':World} {v v':Value} {bs:List Bs} (h:Lo m base W v bs) (hm:0<m) (hg:Gr n v' W W') (hne:m≠n):Lo m base W' v bs:=by
 have hL:=fun {g}=>h.isL (g:=g)
 obtain ⟨xs,h1,h2,h3⟩:=h.ex
 refine ⟨⟨xs,h1,h2.kept hg.gr ?_,fun j x b hx hb=>(h3 j x b hx hb).kept hm hg⟩,h.nil⟩
 cases hv:v.ownBlock with
 | none=>exact Or.inl rfl
 | some g =>
  refine Or.inr fun e=>hne ?_
  obtain ⟨p,c,hc⟩:=hL hv
  obtain ⟨p',c',hc'⟩:=hg.is g e.symm
  rw[hc] at hc'
  injection hc' with hc'
  injection hc' with _ h5 _
theorem infoB:(Tryz.prog.info? 24).map (fun i=>(i.size,i.bytes,i.zero.map fun z=>z.cells.size))=some (1,24,some 1):=by kernel_rfl
theorem undB:Tryz.prog.underlying 33=some (.slice 24):=by kernel_rfl
theorem Lo.app {n base g:Nat} {W:World} {v x:Value} {bs:List Bs} {b:Bs} (h:Lo n base W v bs) (hn:0<n) (hx:El n W x b) (hc:W.cell? ⟨g,0,none⟩=some x) (hk:bs.length≤1000000) (hb:base≤W.heap.size) :
 ∃ v' W',(Builtin.append_ #[33,33] 33 #[v,.slice (some ⟨g,0,none⟩) 1 1]).run Tryz.prog W=.ok v' W'∧Lo n base W' v' (bs++[b])∧Gr n v W W':=by
 obtain ⟨i,hi,he⟩:=Option.map_eq_some_iff.1 infoB
 simp only[Prod.mk.injEq] at he
 obtain ⟨h1,h2,h3⟩:=he
 obtain ⟨z,hz,hz2⟩:=Option.map_eq_some_iff.1 h3
 obtain ⟨xs,x1,x2,x3⟩:=h.ex
 obtain ⟨v',W',r1,r2,r3,r4⟩:=run_append_own (P:=Tryz.prog) W base 33 33 24 i z 1 24 undB hi hz h1 h2 hz2 (by decide) v bs.length xs x2 ⟨g,0,none⟩ 1 1 [x] rfl
  (fun j u hj=>by
   cases j with
   | zero =>
    obtain rfl:x=u:=by simpa using hj
    rw[add0];exact hc
   | succ j=>simp at hj) (fun u hu=>by
   obtain rfl:u=x:=by simpa using hu
   obtain ⟨k,c,rfl,-⟩:=hx
   rfl) (by unfold maxLen;omega) (by omega) hb
 have G:Gr n v W W':=⟨r3,fun g hg=>h.isL hg⟩
 refine ⟨v',W',r1,⟨⟨xs++[x],by simp[x1],by rw[List.length_append];exact r2,fun j y c hy hcy=>?_⟩,fun e=>by simp at e⟩,G⟩
 by_cases hj:j<bs.length
 ·rw[List.getElem?_append_left (by omega)] at hy hcy
  exact (x3 j y c hy hcy).kept hn G
 ·rw[List.getElem?_append_right (by omega)] at hy hcy
  rw[x1] at hy
  cases hjj:j-bs.length with
  | zero =>
   rw[hjj] at hy hcy
   obtain rfl:x=y:=by simpa using hy
   obtain rfl:b=c:=by simpa using hcy
   exact hx.kept hn G
  | succ d=>rw[hjj] at hy;simp at hy
theorem ptBytes_c {a:Bs} (ha:a.size=33) (w:World):Calls Tryz.prog 20 #[pvl a] w (Ret fun e w'=>Below w.heap.size w w'∧El 33 w' e a):=by
 have B1:=Hid.mk' (boxCP ha w)
 obtain ⟨w1,hw1⟩:∃ w1,Hid (w.alloc (.cells (bl33 a).toArray 52)=w1):=⟨_,rfl⟩
 rw[hw1.out] at B1
 have K:Hid (Row w1 w.heap.size (bl33 a)∧Below w.heap.size w w1):=by rw[← hw1.out];exact ⟨row_new w _ _,below1 w _⟩
 obtain ⟨va,hva⟩:∃ v,Hid (pvl a=v):=⟨_,rfl⟩
 have B1':Hid ((Instr.box 52 va).run Tryz.prog w=.ok (.pointer (some ⟨w.heap.size,0,none⟩)) w1):=by rw[← hva.out];exact B1
 rw[hva.out]
 have hs:=slCP w.heap.size
 clear B1 hw1
 go_enter Tryz.func20,Tryz.ntmps20
 go_wp2_with (first|(refine wpList_box (u:=va) (v:=.pointer (some ⟨w.heap.size,0,none⟩)) (w':=w1) rfl 52 (.tmp 0) rfl ?_ ?_ ?_;rfl;exact B1'.out))
 go_ret
 exact ⟨_,rfl,K.out.2,w.heap.size,33,rfl,by omega,ha,K.out.1.1,row_holds K.out.1⟩
end
section
open Go.RowKit Go.Sort Go.Deep
variable {P:Nat} [NeZero P] {N:Nat}
def Bo (n B0:Nat) (W:World) (v:Value) (b:Bs):Prop:=∃ k x,v=.slice (some ⟨k,0,none⟩) 1 1∧B0≤k∧k<W.heap.size∧W.cell? ⟨k,0,none⟩=some x∧El n W x b
theorem Bo.kept {m n B0:Nat} {W W':World} {v u:Value} {b:Bs} (h:Bo n B0 W v b) (hn:0<n) (hg:Gr m u W W') (hu:∀ g,u.ownBlock=some g→g<B0):Bo n B0 W' v b:=by
 obtain ⟨k,x,rfl,h1,h2,h3,h4⟩:=h
 refine ⟨k,x,rfl,h1,Nat.lt_of_lt_of_le h2 hg.gr.size,?_,h4.kept hn hg⟩
 rw[World.cell?_of_block (a:=⟨k,0,none⟩) (hg.gr.block k h2 fun e=>by have:=hu k e.symm;omega)]
 exact h3
def Tm (W:World) (q:Option Addr) (k:Nat) (ns:Nat→Nat) (az:Nat→Bs):Prop:=0<k→∃ g,q=some ⟨g,0,none⟩∧g<W.heap.size∧∀ j,j<k→W.rangeAt g (37*j) (wn (ns j)++bl33 (az j))
theorem Tm.kept {m k:Nat} {W W':World} {u:Value} {q:Option Addr} {ns:Nat→Nat} {az:Nat→Bs} (h:Tm W q k ns az) (hg:Gr m u W W'):Tm W' q k ns az:=fun hk=>by
 obtain ⟨g,h1,h2,h3⟩:=h hk
 refine ⟨g,h1,Nat.lt_of_lt_of_le h2 hg.gr.size,fun j hj i v hv=>?_⟩
 have e:=hg.block h2 fun p c hc=>by
  have h0:=h3 0 hk 0 _ (show (wn (ns 0)++bl33 (az 0))[0]? = some _ from rfl)
  rw[show 37*0+0=0 from rfl,hc] at h0
  cases h0
 rw[World.cell?_of_block (a:=⟨g,37*j+i,none⟩) e]
 exact h3 j hj i v hv
section
variable (w0:World) (v3 v4:Value) (k6 n B0 base:Nat) (p:Bs) (bs cs:List Bs) (q:Option Addr) (k:Nat) (ns:Nat→Nat) (az:Nat→Bs)
def PR:Nat→Value→World→Prop
 | 0,v,_=>v=v3
 | 1,v,_=>v=.pointer (some ⟨k6,0,none⟩)
 | 2,v,_=>v=nv n
 | 3,v,w=>El 32 w v (bx n)
 | 4,v,w=>Bo 32 B0 w v (bx n)
 | 5,v,w=>Lo 32 base w v (bs++[bx n])
 | 6,v,_=>v=v4
 | 7,v,_=>v=.pointer (some ⟨k6,4,none⟩)
 | 8,v,_=>v=pvl p
 | 9,v,w=>El 33 w v p
 | 10,v,w=>Bo 33 B0 w v p
 | 11,v,w=>Lo 33 base w v (cs++[p])
 | 12,v,w=>Lo 32 base w v (bs++[bx n])
 | 13,v,w=>Lo 33 base w v (cs++[p])
 | _,_,_=>True
def PBs:Nat→World→Prop
 | 0,w=>Row w k6 (wn n++bl33 p)
 | 1,w=>Lo 32 base w v3 bs
 | 2,w=>Lo 33 base w v4 cs
 | 3,w=>Below base w0 w∧base≤w.heap.size∧B0≤w.heap.size
 | 4,w=>Tm w q k ns az
 | 5,w=>Row w base z33
 | _,_=>True
def PE:Nat→World→World→Prop
 | 5=>Gr 32 v3
 | 11=>Gr 33 v4
 | _=>Gr 0 (.slice none 0 0)
def Pk1:Nat→List Nat
 | 4=>[5]
 | 10=>[11]
 | _=>[]
def Pk2:Nat→List Nat
 | 1=>[5]
 | 2=>[11]
 | _=>[]
def FP:RG.Flow:=⟨PR v3 v4 k6 n B0 base p bs cs,PBs w0 v3 v4 k6 n B0 base p bs cs q k ns az,PE v3 v4,Pk1,Pk2⟩
theorem PE_any {i:Nat} {w w':World} (h:PE v3 v4 i w w'):∃ m u,Gr m u w w'∧((i=5∧m=32∧u=v3)∨(i=11∧m=33∧u=v4)∨(i≠5∧i≠11∧m=0∧u=.slice none 0 0)):=by
 unfold PE at h
 split at h
 ·exact ⟨_,_,h,Or.inl ⟨rfl,rfl,rfl⟩⟩
 ·exact ⟨_,_,h,Or.inr (Or.inl ⟨rfl,rfl,rfl⟩)⟩
 ·rename_i h1 h2
  exact ⟨_,_,h,Or.inr (Or.inr ⟨h1,h2,rfl,rfl⟩)⟩
variable (hv3:∀ g,v3.ownBlock=some g→base≤g∧g<B0) (hv4:∀ g,v4.ownBlock=some g→base≤g∧g<B0)
include hv3 hv4
theorem PE_own {i m:Nat} {u:Value} (h:(i=5∧m=32∧u=v3)∨(i=11∧m=33∧u=v4)∨(i≠5∧i≠11∧m=0∧u=.slice none 0 0)):∀ g,u.ownBlock=some g→base≤g∧g<B0:=by
 rcases h with ⟨-,-,rfl⟩|⟨-,-,rfl⟩|⟨-,-,-,rfl⟩
 ·exact hv3
 ·exact hv4
 ·intro g hg;cases hg
theorem P_stab (i j:Nat) (hj:j<14) (hij:i≠j) (hk:(Pk1 j).contains i=false) (h1:¬ (j=12∧i=5)) (h2:¬ (j=13∧i=11)) (v:Value) (w w':World) (hE:PE v3 v4 i w w') (hR:PR v3 v4 k6 n B0 base p bs cs j v w):PR v3 v4 k6 n B0 base p bs cs j v w':=by
 obtain ⟨m,u,hg,hc⟩:=PE_any v3 v4 hE
 have hu:=PE_own v3 v4 B0 base hv3 hv4 hc
 have m32:m=32→i=5:=fun h=>by rcases hc with ⟨h1,-⟩|⟨-,h2,-⟩|⟨-,-,h2,-⟩<;>omega
 have m33:m=33→i=11:=fun h=>by rcases hc with ⟨-,h2,-⟩|⟨h1,-⟩|⟨-,-,h2,-⟩<;>omega
 match j,hj,hR with
 | 0,_,h=>exact h
 | 1,_,h=>exact h
 | 2,_,h=>exact h
 | 3,_,h=>exact El.kept h (by decide) hg
 | 4,_,h=>exact Bo.kept h (by decide) hg fun g hgg=>(hu g hgg).2
 | 5,_,h=>exact Lo.kept h (by decide) hg fun e=>hij (m32 e.symm)
 | 6,_,h=>exact h
 | 7,_,h=>exact h
 | 8,_,h=>exact h
 | 9,_,h=>exact El.kept h (by decide) hg
 | 10,_,h=>exact Bo.kept h (by decide) hg fun g hgg=>(hu g hgg).2
 | 11,_,h=>exact Lo.kept h (by decide) hg fun e=>hij (m33 e.symm)
 | 12,_,h=>exact Lo.kept h (by decide) hg fun e=>h1 ⟨rfl,m32 e.symm⟩
 | 13,_,h=>exact Lo.kept h (by decide) hg fun e=>h2 ⟨rfl,m33 e.symm⟩
 | _+14,hj,_=>omega
theorem P_stabB (i b:Nat) (hk:(Pk2 b).contains i=false) (w w':World) (hE:PE v3 v4 i w w') (hR:PBs w0 v3 v4 k6 n B0 base p bs cs q k ns az b w):PBs w0 v3 v4 k6 n B0 base p bs cs q k ns az b w':=by
 obtain ⟨m,u,hg,hc⟩:=PE_any v3 v4 hE
 have hu:=PE_own v3 v4 B0 base hv3 hv4 hc
 have m32:m=32→i=5:=fun h=>by rcases hc with ⟨h1,-⟩|⟨-,h2,-⟩|⟨-,-,h2,-⟩<;>omega
 have m33:m=33→i=11:=fun h=>by rcases hc with ⟨-,h2,-⟩|⟨h1,-⟩|⟨-,-,h2,-⟩<;>omega
 match b,hk,hR with
 | 0,_,h=>exact Row.kept h hg (fun p c e=>by cases e) (by rw[List.length_append];exact Nat.lt_of_lt_of_le (by decide) (Nat.le_add_right 4 _))
 | 1,hk,h=>exact Lo.kept h (by decide) hg fun e=>by rw[m32 e.symm] at hk;cases hk
 | 2,hk,h=>exact Lo.kept h (by decide) hg fun e=>by rw[m33 e.symm] at hk;cases hk
 | 3,_,h=>exact ⟨hg.below h.1 h.2.1 fun g hgg=>(hu g hgg).1,Nat.le_trans h.2.1 hg.gr.size,Nat.le_trans h.2.2 hg.gr.size⟩
 | 4,_,h=>exact Tm.kept h hg
 | 5,_,h=>exact Row.kept h hg (fun p c e=>by cases e) (by decide)
 | _+6,_,_=>trivial
end
end
section
open Go.RowKit Go.Sort Go.Deep
variable {P:Nat} [NeZero P] {N:Nat}
theorem Lo.drew {n base:Nat} {W:World} {v:Value} {bs:List Bs} (h:Lo n base W v bs):Lo n base W.drew v bs:=⟨h.ex,h.nil⟩
theorem SumR.all (C:Fld P) (O:Ord N) {w w':World} {k:Nat} (hk:k≤512) {ns:Nat→Nat} {X:Nat→EC.Pt P} (hn:∀ j,j<k→ns j<N) (hX:∀ j,j<k→EC.On (X j)) {L M:Nat→Bs} (hL:∀ j,j<k→L j=bx (ns j)) (hM:∀ j,j<k→M j=wr (X j)) {e:Value} (h:SumR P N w k k L M e w') :
 OutP w (wr (EC.tot X k (fun j=>(ns j:Int)))) e w':=by
 have hq:∀ j,j<k→rq N (L j)=some (ns j):=fun j hj=>by
  rw[hL j hj]
  have hb:beV (bx (ns j)).toList=ns j:=bx_val (Nat.lt_of_lt_of_le (hn j hj) O.le)
  unfold rq
  rw[if_pos ⟨bx_size _,by rw[hb];exact hn j hj⟩,hb]
 have hr:∀ j,j<k→∃ p,rd P (M j)=some p∧pt p=X j:=fun j hj=>by rw[hM j hj];exact rd_wr C (hX j hj)
 rcases h with ⟨h,-⟩|⟨-,h,-⟩|⟨-,-,⟨⟨j,hj,hn'⟩,-⟩|⟨ns',hns,⟨⟨j,hj,hn'⟩,-⟩|⟨xs,ys,hxy,h⟩⟩⟩
 ·exact absurd rfl h
 ·omega
 ·rw[hq j hj] at hn';cases hn'
 ·obtain ⟨p,hp,-⟩:=hr j hj
  rw[hp] at hn';cases hn'
 ·have e1:∀ j,j<k→ns' j=ns j:=fun j hj=>by
   have:=hns j hj
   rw[hq j hj] at this
   exact (Option.some.inj this).symm
  have hp:∀ j,j<k→EC.Pair (xs j) (ys j) (X j)∧EC.On (X j):=fun j hj=>by
   obtain ⟨p,hp,hpt⟩:=hr j hj
   have h1:=hxy j hj
   rw[hp] at h1
   have h2:=Option.some.inj h1
   have h3:=rd_on C hp
   rw[hpt] at h3
   rw[h2] at h3
   exact h3
  have hJ:=sumJ_all C (ns:=ns') (xs:=xs) (ys:=ys) (p:=X) (N:=k) (fun i hi=>by rw[e1 i hi];exact Nat.lt_of_lt_of_le (hn i hi) O.le) (fun i hi=>(hp i hi).1) (fun i hi=>(hp i hi).2)
  have e2:EC.tot X k (fun j=>(ns' j:Int))=EC.tot X k (fun j=>(ns j:Int)):=EC.tot_congr k fun j hj=>by rw[e1 j hj]
  rw[e2] at hJ
  rw[← by33_wr C (hJ.pair C) hJ.2]
  exact h
structure Pz (w W:World) (q:Option Addr) (k i:Nat) (ns:Nat→Nat) (az:Nat→Bs) (s3 s4:Value):Prop where
 bl:Below w.heap.size w W
 l3:Lo 32 w.heap.size W s3 ((List.range i).map fun j=>bx (ns j))
 l4:Lo 33 w.heap.size W s4 ((List.range i).map az)
 tm:Tm W q k ns az
 r2:Row W w.heap.size z33
theorem El.of_made {w w':World} {k n:Nat} {b:Bs} (h:RG.Made w k (cb b) w') (hb:b.size=n):El n w' (.slice (some ⟨k,0,none⟩) n n) b:=⟨k,n,rfl,Nat.le_refl _,hb,h.lt,cb_holds h.range h.there⟩
theorem Bo.of {n B0:Nat} {w:World} {x:Value} {b:Bs} (h:El n w x b) (hn:0<n) (hB:B0≤w.heap.size) (T:TypeId):Bo n B0 (w.alloc (.cells #[x] T)) (.slice (some ⟨w.heap.size,0,none⟩) 1 1) b:=
 ⟨w.heap.size,x,rfl,hB,by rw[World.size_alloc];omega,by rw[World.cell?_alloc_new];rfl,h.kept hn (Gr.of (n:=0) (below1 w _))⟩
theorem Lo.args {n base:Nat} {W:World} {v:Value} {bs:List Bs} (h:Lo n base W v bs):∃ q cap,v=.slice q bs.length cap∧(0<bs.length→∃ g,q=some ⟨g,0,none⟩∧g<W.heap.size∧∀ (j:Nat) (b:Bs),bs[j]? = some b→∃ x,W.cell? ⟨g,j,none⟩=some x∧El n W x b):=by
 obtain ⟨xs,h1,h2,h3⟩:=h.ex
 have h4:=fun {g:Nat}=>h2.cells (g:=g)
 rcases h2.2 with ⟨rfl,h0⟩|⟨g,cap,cur,rfl,-,hc,-⟩
 ·exact ⟨none,0,by rw[h0],fun h=>by omega⟩
 ·refine ⟨_,_,rfl,fun _=>⟨g,rfl,(Array.getElem?_eq_some_iff.1 hc).1,fun j b hb=>?_⟩⟩
  have hj:j<xs.length:=by rw[h1];exact (List.getElem?_eq_some_iff.1 hb).1
  have:=h4 (g:=g) rfl j xs[j] (List.getElem?_eq_getElem hj)
  rw[add0] at this
  exact ⟨_,this,h3 j _ b (List.getElem?_eq_getElem hj) hb⟩
theorem El.arg {W:World} {x:Value} {b:Bs} (h:El 32 W x b):Arg W x b:=by
 obtain ⟨k,c,rfl,h1,h2,h3,h4⟩:=h
 exact ⟨_,_,_,rfl,h2,fun _=>⟨k,0,rfl,h1,h3,h4⟩⟩
theorem El.arg33 {W:World} {x:Value} {b:Bs} (h:El 33 W x b):Arg33 W x b:=by
 obtain ⟨k,c,rfl,h1,h2,h3,h4⟩:=h
 exact ⟨_,_,_,rfl,h2,fun _=>⟨k,0,rfl,h1,h3,h4⟩⟩
theorem sumPoint_g (C:Fld P) (O:Ord N) (v:Value) (w:World) (k:Nat) (hk:k≤512) (ns:Nat→Nat) (X:Nat→EC.Pt P) (hn:∀ j,j<k→ns j<N) (hX:∀ j,j<k→EC.On (X j))
 (hmer:∀ W,Below w.heap.size w W→Calls Tryz.prog 36 #[v] W (Ret fun e w'=>Below W.heap.size W w'∧∃ q cap,e=.slice q k cap∧Tm w' q k ns (fun j=>wr (X j)))) :
 Calls Tryz.prog 19 #[v] w (Ret fun e w'=>Below w.heap.size w w'∧e=pvl (wr (EC.tot X k (fun j=>(ns j:Int))))):=by
 have HM:=Hid.mk' hmer
 have HC:Hid (Fld P∧Ord N∧(∀ j,j<k→ns j<N)∧∀ j,j<k→EC.On (X j)):=⟨C,O,hn,hX⟩
 obtain ⟨az,haz⟩:∃ az:Nat→Bs,Hid ((fun j=>wr (X j))=az):=⟨_,rfl⟩
 have haz':Hid (∀ j,az j=wr (X j)):=fun j=>by rw[← haz.out]
 rw[haz.out] at HM
 obtain ⟨w1,hw1⟩:∃ w1,Hid (w.alloc (.cells z33.toArray 52)=w1):=⟨_,rfl⟩
 have K1:Hid (Row w1 w.heap.size z33∧Below w.heap.size w w1):=by rw[← hw1.out];exact ⟨row_new w _ _,below1 w _⟩
 obtain ⟨d,hd1,hd2⟩:=Option.map_eq_some_iff.1 uCP
 obtain ⟨d',hd3,hd4⟩:=Option.map_eq_some_iff.1 uT
 have HD:Hid ((Tryz.prog.underlying 52=some d∧d.isRow=true)∧Tryz.prog.underlying 78=some d'∧d'.isRow=true):=⟨⟨hd1,hd2⟩,hd3,hd4⟩
 clear hd1 hd2 hd3 hd4 hmer hn hX haz C O
 go_enter Tryz.func19,Tryz.ntmps19
 go_wp2_with (refine wpList_op (v:=.pointer (some ⟨w.heap.size,0,none⟩)) (w':=w1) rfl (.alloc 52) rfl ?_ ?_;(rw[← hw1.out];kernel_rfl))
 clear hw1
 refine (HM.out w1 K1.out.2).mono ?_
 rintro e w2 ⟨vv,rfl,hb2,q,cap,rfl,hT⟩
 have K2:Hid (Pz w w2 q k 0 ns az (.slice none 0 0) (.slice none 0 0)):=⟨K1.out.2.trans (hb2.mono K1.out.2.size),Lo.begin _ _ _,Lo.begin _ _ _,hT,K1.out.1.below hb2⟩
 clear hb2 hT K1 HM
 go_wp2_with fail
 go_loopg [3,4,12] k (fun m s3 s4 s12 W=>∃ i:Nat,i+m=k∧s12=.int .i64 i∧Hid (Pz w W q k i ns az s3 s4))
 case atStart=>exact ⟨0,by omega,rfl,K2⟩
 case round =>
  clear K2
  obtain ⟨i,hik,rfl,KM⟩:=hrel
  by_cases hi:i<k
  ·have hi':(i:Int)<(k:Int):=by omega
   obtain ⟨g,hq,hg,hr⟩:=KM.out.tm (by omega)
   subst hq
   obtain ⟨n,hne⟩:∃ n,Hid (ns i=n):=⟨_,rfl⟩
   obtain ⟨p,hpe⟩:∃ p,Hid (az i=p):=⟨_,rfl⟩
   have B0:Hid (wr.rangeAt g (37*i) (wn n++bl33 p)):=by
    have h:=hr i hi
    rw[hne.out,hpe.out] at h
    exact h
   have hps:Hid (p.size=33):=by rw[← hpe.out,haz'.out i];exact wr_size _
   have hnN:Hid (n<N):=by rw[← hne.out];exact HC.out.2.2.1 i hi
   obtain ⟨W1,hW1⟩:∃ W1,Hid (wr.alloc (.cells zT.toArray 78)=W1):=⟨_,rfl⟩
   obtain ⟨W2,hW2⟩:∃ W2,Hid (W1.setCells wr.heap.size 0 (wn n++bl33 p)=W2):=⟨_,rfl⟩
   have hlen:(wn n++bl33 p).length=37:=by rw[List.length_append,bl33_length hps.out];rfl
   have F1:Hid (Row W1 wr.heap.size zT∧Below wr.heap.size wr W1∧W1.heap.size=wr.heap.size+1):=by rw[← hW1.out];exact ⟨row_new wr _ _,below1 wr _,World.size_alloc _ _⟩
   have F2:Hid (Row W2 wr.heap.size (wn n++bl33 p)∧Below wr.heap.size wr W2):=by rw[← hW2.out];exact ⟨F1.out.1.put (by rw[hlen];rfl),RG.below_setCells (Nat.le_refl _) _ _ _ F1.out.2.1⟩
   have HLT:Hid ((Tryz.prog.info? 78).map (·.size)=some (wn n++bl33 p).length):=by show _=_;rw[hlen];exact iT
   have HLS:Hid ((Tryz.prog.info? 78).map (·.size)=some (wn n++bl33 p).toArray.size∧W1.there wr.heap.size 0 (wn n++bl33 p).toArray.size):=by
    have e:(wn n++bl33 p).toArray.size=37:=by rw[List.size_toArray];exact hlen
    rw[e];exact ⟨iT,F1.out.1.2.2⟩
   have HAL:Hid ((wn n++bl33 p).toArray.all (·.oneCell')=true):=by
    show _=_
    rw[Array.all_eq_true']
    intro u hu
    exact cells_one n p u (List.mem_toArray.1 hu)
   have hix:=atT g 0 k cap i hi
   obtain ⟨vt,hvt⟩:∃ v,Hid (Value.agg (wn n++bl33 p).toArray=v):=⟨_,rfl⟩
   have G2:Gr 0 (.slice none 0 0) wr W2:=Gr.of F2.out.2
   have HB:Hid (∀ b,PBs w u3 u4 wr.heap.size n W2.heap.size w.heap.size p ((List.range i).map fun j=>bx (ns j)) ((List.range i).map az) (some ⟨g,0,none⟩) k ns az b W2.drew):=fun b=>by
    match b with
    | 0=>exact F2.out.1
    | 1=>exact (KM.out.l3.kept (by decide) G2 (by decide)).drew
    | 2=>exact (KM.out.l4.kept (by decide) G2 (by decide)).drew
    | 3=>exact ⟨(KM.out.bl.trans (F2.out.2.mono KM.out.bl.size)).drew,Nat.le_trans KM.out.bl.size F2.out.2.size,Nat.le_refl _⟩
    | 4=>exact KM.out.tm.kept (W':=W2) G2
    | 5=>exact KM.out.r2.below (W':=W2) F2.out.2
    | _+6=>trivial
   have H3:Hid (∀ g,u3.ownBlock=some g→w.heap.size≤g∧g<W2.heap.size):=fun g hg=>⟨(KM.out.l3.lt g hg).1,Nat.lt_of_lt_of_le (KM.out.l3.lt g hg).2 F2.out.2.size⟩
   have H4:Hid (∀ g,u4.ownBlock=some g→w.heap.size≤g∧g<W2.heap.size):=fun g hg=>⟨(KM.out.l4.lt g hg).1,Nat.lt_of_lt_of_le (KM.out.l4.lt g hg).2 F2.out.2.size⟩
   have HG:=Hid.mk' hg
   clear hlen hr G2 KM F2 hg
   go_wp2_with (first|(refine wpList_load_mid rfl 78 _ rfl g (37*i) ?_ (wn n++bl33 p) d' ?_ ?_ ?_ ?_ ?_;rfl;exact B0.out;exact HD.out.2.1;exact HD.out.2.2;exact HLT.out;rw[hvt.out])|(refine wpList_op (v:=.pointer (some ⟨wr.heap.size,0,none⟩)) (w':=W1) rfl (.alloc 78) rfl ?_ ?_;(rw[← hW1.out];kernel_rfl))|(refine wpList_store_mid rfl 78 _ _ rfl wr.heap.size 0 (wn n++bl33 p).toArray ?_ ?_ ?_ ?_ ?_ ?_;rfl;exact hvt.out.symm;exact HLS.out.2;exact HLS.out.1;exact HAL.out;rw[show (wn n++bl33 p).toArray.toList=wn n++bl33 p from rfl,hW2.out])|fail)
   refine RG.flow_draws (FP w u3 u4 wr.heap.size n W2.heap.size w.heap.size p ((List.range i).map fun j=>bx (ns j)) ((List.range i).map az) (some ⟨g,0,none⟩) k ns az) (by kernel_rfl) ⟨by kernel_rfl,RG.certs_of ?_,fun i' j hi0 hj hij hkl hdp=>P_stab u3 u4 wr.heap.size n W2.heap.size w.heap.size p _ _ H3.out H4.out i' j hj hij hkl (fun h=>by rw[h.1,h.2] at hdp;exact absurd (show false=true from hdp.symm.trans (by kernel_rfl)) (by decide)) (fun h=>by rw[h.1,h.2] at hdp;exact absurd (show false=true from hdp.symm.trans (by kernel_rfl)) (by decide)),fun i' b _ hkl=>P_stabB w u3 u4 wr.heap.size n W2.heap.size w.heap.size p _ _ _ k ns az H3.out H4.out i' b hkl⟩ HB.out ?_
   ·have hb0:∀ W:World,Gr 0 (.slice none 0 0) W W:=fun W=>Gr.of (Below.refl _ _)
    refine ⟨RG.cf_one 3 fun a W hp=>⟨a.eval (.tmp 3),W,by kernel_rfl,by kernel_rfl,hb0 W,hp.o 3 (by kernel_rfl)⟩,
     RG.cf_one 6 fun a W hp=>⟨.pointer (some ⟨wr.heap.size,0,none⟩),W,by kernel_rfl,by rw[show a.eval (.tmp 6)=.pointer (some ⟨wr.heap.size,0,none⟩) from hp.o 6 (by kernel_rfl)];kernel_rfl,hb0 W,rfl⟩,
     RG.cf_load 47 17 rfl u40 fun a W hp=>⟨wr.heap.size,0,wn n,hp.n 1 17 (by kernel_rfl) (by kernel_rfl) (by kernel_rfl),range_front (show Row W wr.heap.size (wn n++bl33 p) from hp.b 0 (by kernel_rfl)).2.1,i40,hb0 W,rfl⟩,
     RG.cf_call 18 fun a W hp=>⟨13,#[nv n],by kernel_rfl,by rw[show a.eval (.tmp 18)=nv n from hp.n 2 18 (by kernel_rfl) (by kernel_rfl) (by kernel_rfl)];kernel_rfl,(sbytes_c HC.out.2.1 hnN.out W).mono (by
      rintro e W' ⟨u,rfl,k',hm,rfl⟩
      exact ⟨_,rfl,Gr.of hm.bel,El.of_made hm (bx_size n)⟩)⟩,
     RG.cf_one 19 fun a W hp=>⟨.slice (some ⟨W.heap.size,0,none⟩) 1 1,W.alloc (.cells #[a.eval (.tmp 19)] 24),by kernel_rfl,by
      obtain ⟨k',c',he,-⟩:=show El 32 W (a.eval (.tmp 19)) (bx n) from hp.n 3 19 (by kernel_rfl) (by kernel_rfl) (by kernel_rfl)
      rw[he];kernel_rfl,Gr.of (below1 W _),Bo.of (show El 32 W (a.eval (.tmp 19)) (bx n) from hp.n 3 19 (by kernel_rfl) (by kernel_rfl) (by kernel_rfl)) (by decide) (hp.b 3 (by kernel_rfl)).2.2 _⟩,
     RG.cf_app 16 20 33 rfl fun a W hp=>?_,
     RG.cf_one 4 fun a W hp=>⟨a.eval (.tmp 4),W,by kernel_rfl,by kernel_rfl,hb0 W,hp.o 4 (by kernel_rfl)⟩,
     RG.cf_one 6 fun a W hp=>⟨.pointer (some ⟨wr.heap.size,4,none⟩),W,by kernel_rfl,by rw[show a.eval (.tmp 6)=.pointer (some ⟨wr.heap.size,0,none⟩) from hp.o 6 (by kernel_rfl)];kernel_rfl,hb0 W,rfl⟩,
     RG.cf_load 52 23 rfl uCP fun a W hp=>⟨wr.heap.size,4,bl33 p,hp.n 7 23 (by kernel_rfl) (by kernel_rfl) (by kernel_rfl),range_back (xs:=wn n) (show Row W wr.heap.size (wn n++bl33 p) from hp.b 0 (by kernel_rfl)).2.1,by rw[bl33_length hps.out];exact infoCP,hb0 W,rfl⟩,
     RG.cf_call 24 fun a W hp=>⟨20,#[pvl p],by kernel_rfl,by rw[show a.eval (.tmp 24)=pvl p from hp.n 8 24 (by kernel_rfl) (by kernel_rfl) (by kernel_rfl)];kernel_rfl,(ptBytes_c hps.out W).mono (by
      rintro e W' ⟨u,rfl,hb,hE⟩
      exact ⟨_,rfl,Gr.of hb,hE⟩)⟩,
     RG.cf_one 25 fun a W hp=>⟨.slice (some ⟨W.heap.size,0,none⟩) 1 1,W.alloc (.cells #[a.eval (.tmp 25)] 24),by kernel_rfl,by
      obtain ⟨k',c',he,-⟩:=show El 33 W (a.eval (.tmp 25)) p from hp.n 9 25 (by kernel_rfl) (by kernel_rfl) (by kernel_rfl)
      rw[he];kernel_rfl,Gr.of (below1 W _),Bo.of (show El 33 W (a.eval (.tmp 25)) p from hp.n 9 25 (by kernel_rfl) (by kernel_rfl) (by kernel_rfl)) (by decide) (hp.b 3 (by kernel_rfl)).2.2 _⟩,
     RG.cf_app 22 26 33 rfl fun a W hp=>?_,
     RG.cf_one 21 fun a W hp=>⟨a.eval (.tmp 21),W,by kernel_rfl,by kernel_rfl,hb0 W,hp.n 5 21 (by kernel_rfl) (by kernel_rfl) (by kernel_rfl)⟩,
     RG.cf_one 27 fun a W hp=>⟨a.eval (.tmp 27),W,by kernel_rfl,by kernel_rfl,hb0 W,hp.n 11 27 (by kernel_rfl) (by kernel_rfl) (by kernel_rfl)⟩,trivial⟩
    ·obtain ⟨k',x,he,h1,h2,h3,h4⟩:=show Bo 32 W2.heap.size W (a.eval (.tmp 20)) (bx n) from hp.n 4 20 (by kernel_rfl) (by kernel_rfl) (by kernel_rfl)
     obtain ⟨v',W',r1,r2,r3⟩:=Lo.app (show Lo 32 w.heap.size W u3 _ from hp.b 1 (by kernel_rfl)) (by decide) h4 h3 (by rw[List.length_map,List.length_range];omega) (hp.b 3 (by kernel_rfl)).2.1
     refine ⟨v',W',?_,r3,r2⟩
     rw[he,show a.eval (.tmp 16)=u3 from hp.n 0 16 (by kernel_rfl) (by kernel_rfl) (by kernel_rfl)]
     exact r1
    ·obtain ⟨k',x,he,h1,h2,h3,h4⟩:=show Bo 33 W2.heap.size W (a.eval (.tmp 26)) p from hp.n 10 26 (by kernel_rfl) (by kernel_rfl) (by kernel_rfl)
     obtain ⟨v',W',r1,r2,r3⟩:=Lo.app (show Lo 33 w.heap.size W u4 _ from hp.b 2 (by kernel_rfl)) (by decide) h4 h3 (by rw[List.length_map,List.length_range];omega) (hp.b 3 (by kernel_rfl)).2.1
     refine ⟨v',W',?_,r3,r2⟩
     rw[he,show a.eval (.tmp 22)=u4 from hp.n 6 22 (by kernel_rfl) (by kernel_rfl) (by kernel_rfl)]
     exact r1
   ·intro V w5 hR5 hB5
    have KN:Hid (Pz w w5 (some ⟨g,0,none⟩) k (i+1) ns az (V 12) (V 13)):=by
     have h1:=hR5 12 (Nat.lt_of_succ_le (Nat.le_of_ble_eq_true (by kernel_rfl))) rfl
     have h2:=hR5 13 (Nat.lt_of_succ_le (Nat.le_of_ble_eq_true (by kernel_rfl))) rfl
     refine ⟨(hB5 3 rfl).1,?_,?_,hB5 4 rfl,hB5 5 rfl⟩
     ·rw[List.range_succ,List.map_append]
      show Lo 32 w.heap.size w5 (V 12) (_++[bx (ns i)])
      rw[hne.out];exact h1
     ·rw[List.range_succ,List.map_append]
      show Lo 33 w.heap.size w5 (V 13) (_++[az i])
      rw[hpe.out];exact h2
    clear hR5 hB5 HB H3 H4
    dsimp only[RG.putV,Nat.reduceAdd]
    generalize V 12=s3 at KN ⊢
    generalize V 13=s4 at KN ⊢
    go_wp2
    go_roundg (gk-1)
    case measure=>omega
    case rel=>exact ⟨i+1,by omega,rfl,KN⟩
  ·have hi':¬ (i:Int)<(k:Int):=by omega
   obtain rfl:i=k:=by omega
   obtain ⟨q3,c3,rfl,h3⟩:=KM.out.l3.args
   obtain ⟨q4,c4,rfl,h4⟩:=KM.out.l4.args
   rw[List.length_map,List.length_range] at h3 h4
   have HA:Hid (ArgsScs wr q3 i (fun j=>bx (ns j))):=fun h0=>by
    obtain ⟨g,e1,e2,e3⟩:=h3 h0
    refine ⟨g,e1,e2,fun j hj=>?_⟩
    obtain ⟨x,x1,x2⟩:=e3 j (bx (ns j)) (by rw[List.getElem?_map,List.getElem?_range hj];rfl)
    exact ⟨x,x1,x2.arg⟩
   have HP:Hid (ArgsPts wr q4 i az):=fun h0=>by
    obtain ⟨g,e1,e2,e3⟩:=h4 h0
    refine ⟨g,e1,e2,fun j hj=>?_⟩
    obtain ⟨x,x1,x2⟩:=e3 j (az j) (by rw[List.getElem?_map,List.getElem?_range hj];rfl)
    exact ⟨x,x1,x2.arg33⟩
   rw[List.length_map,List.length_range,List.length_map,List.length_range]
   have KB:Hid (Below w.heap.size w wr∧Row wr w.heap.size z33):=⟨KM.out.bl,KM.out.r2⟩
   clear h3 h4 KM
   go_wp2_with fail
   refine (gSum_c HC.out.1 HC.out.2.1.gap HC.out.2.1.le q3 q4 i c3 i c4 (fun j=>bx (ns j)) az wr HA.out HP.out).mono ?_
   rintro e w6 ⟨vv,rfl,hb6,hS⟩
   obtain ⟨gs,cs,rfl,-,-,h6,h7⟩:=SumR.all HC.out.1 HC.out.2.1 (by omega) HC.out.2.2.1 HC.out.2.2.2 (fun _ _=>rfl) (fun j _=>haz'.out j) hS
   obtain ⟨T,hT⟩:∃ T,Hid (Go.Proofs.YtmepmoalhgehhaaGreatDoor.wr (EC.tot X i (fun j=>(ns j:Int)))=T):=⟨_,rfl⟩
   have hTs:T.size=33:=by rw[← hT.out];exact wr_size _
   rw[hT.out] at h7
   have K6:Hid (Row w6 w.heap.size z33∧Below w.heap.size w w6∧Row w6 gs (bl33 T)):=⟨KB.out.2.below hb6,KB.out.1.trans (hb6.mono KB.out.1.size),row_cp h7 h6⟩
   clear hb6 hS h6 h7 KB HA HP
   have harr:=arrCP gs cs
   obtain ⟨w7,hw7⟩:∃ w7,Hid (w6.setCells w.heap.size 0 (bl33 T)=w7):=⟨_,rfl⟩
   have hlen:(bl33 T).length=33:=bl33_length hTs
   have K7:Hid (Row w7 w.heap.size (bl33 T)∧Below w.heap.size w w7):=by rw[← hw7.out];exact ⟨K6.out.1.put (by rw[hlen];rfl),RG.below_setCells (Nat.le_refl _) _ _ _ K6.out.2.1⟩
   obtain ⟨vt,hvt⟩:∃ vt,Hid (Value.agg (bl33 T).toArray=vt):=⟨_,rfl⟩
   have HI:Hid ((Tryz.prog.info? 52).map (·.size)=some (bl33 T).length∧w6.there w.heap.size 0 (bl33 T).toArray.size∧(Tryz.prog.info? 52).map (·.size)=some (bl33 T).toArray.size):=by
    have e:(bl33 T).toArray.size=33:=by rw[List.size_toArray];exact hlen
    refine ⟨by rw[hlen];exact infoCP,by rw[e];exact K6.out.1.2.2,by rw[e];exact infoCP⟩
   clear hlen
   go_wp2_with (first|(refine wpList_load_mid rfl 52 _ rfl gs 0 ?_ (bl33 T) d ?_ ?_ ?_ ?_ ?_;rfl;exact K6.out.2.2.2.1;exact HD.out.1.1;exact HD.out.1.2;exact HI.out.1;rw[hvt.out])|(refine wpList_store_mid rfl 52 _ _ rfl w.heap.size 0 (bl33 T).toArray ?_ ?_ ?_ ?_ ?_ ?_;rfl;exact hvt.out.symm;exact HI.out.2.1;exact HI.out.2.2;exact bl33_one T;rw[show (bl33 T).toArray.toList=bl33 T from rfl,hw7.out]))
   refine bodyPost_ret (results_cell 2 52 rfl K7.out.1 rfl uCP HI.out.1) rfl ?_
   exact ⟨_,rfl,K7.out.2,by rw[hT.out];rfl⟩
theorem one_point (C:Fld P) (O:Ord N) {g c n:Nat} (hn:n<N) {X:EC.Pt P} (hX:EC.On X) (w:World) (hR:Row w g (wn n++bl33 (wr X))) :
 Calls Tryz.prog 19 #[.slice (some ⟨g,0,none⟩) 1 c] w (Ret fun e w'=>Below w.heap.size w w'∧e=pvl (wr (EC.mul n X))):=by
 by_cases h0:n=0
 ·subst h0
  refine (sumPoint_g C O _ w 0 (by decide) (fun _=>0) (fun _=>X) (fun j hj=>by omega) (fun j hj=>by omega) fun W hb=>?_).mono ?_
  ·refine (merged_0 g c (wr X) (wr_size X) W (hR.below hb).1 (hR.below hb).2.1).mono ?_
   rintro e w' ⟨v,rfl,hb',q,cap,rfl⟩
   exact ⟨_,rfl,hb',q,cap,rfl,fun h=>by omega⟩
  ·rintro e w' ⟨v,rfl,hb',rfl⟩
   exact ⟨_,rfl,hb',rfl⟩
 ·refine (sumPoint_g C O _ w 1 (by decide) (fun _=>n) (fun _=>X) (fun j hj=>hn) (fun j hj=>hX) fun W hb=>?_).mono ?_
  ·have e1:mrg N (fun _=>n) (fun _=>wr X) 1=[(n,wr X)]:=rfl
   have h:=merged_d (N:=N) g 1 c (by decide) (fun _=>n) (fun _=>wr X) (fun _ _=>wr_size X) (fun i hi=>by
    obtain rfl:i=0:=by omega
    rfl) (fun x hx=>by
    rw[e1] at hx
    obtain rfl:x=(n,wr X):=by simpa using hx
    exact ⟨h0,Nat.lt_of_lt_of_le hn O.le⟩) (by rw[e1];exact Nat.lt_succ_self 0) W (hR.below hb).1 (fun j hj=>by
    obtain rfl:j=0:=by omega
    exact (hR.below hb).2.1)
   refine h.mono ?_
   rintro e w' ⟨v,rfl,hb',g',cap,rfl,h1,h2,h3⟩
   refine ⟨_,rfl,hb',some ⟨g',0,none⟩,cap,rfl,fun _=>⟨g',rfl,h2,fun j hj=>?_⟩⟩
   have:=h3 j hj
   obtain rfl:j=0:=by omega
   exact this
  ·rintro e w' ⟨v,rfl,hb',rfl⟩
   exact ⟨_,rfl,hb',rfl⟩
def S2 (nb pl:Nat):Nat→Nat:=fun j=>if j=0 then nb else pl
def mkH (k:Bs) (nb pl:Nat):Bs:=derH (S2 nb pl) k 2 [109,105,110,116]
def mkN (N:Nat) (k:Bs) (nb pl:Nat):Nat:=kSc N (mkH k nb pl)
theorem mkN_lt (O:Ord N) (k:Bs) (nb pl:Nat):mkN N k nb pl<N:=kSc_lt O _
theorem mintKey_c (O:Ord N) (sq:Option Addr) (sn sc:Nat) (k:Bs) (nb pl:Nat) (hnb:nb<4294967296) (hpl:pl<20) (w:World) (hk:SP.PartOk w (.slice sq sn sc) k.toList) :
 Calls Tryz.prog 12 #[.slice sq sn sc,.int .u32 nb,.int .i64 pl] w (Ret fun e w'=>Below w.heap.size w w'∧e=nv (mkN N k nb pl)):=by
 obtain ⟨w1,hw1⟩:∃ w1,Hid (w.alloc (.cells #[.int .u64 0,.int .u64 0,.int .u64 0,.int .u64 0] 47)=w1):=⟨_,rfl⟩
 obtain ⟨w2,hw2⟩:∃ w2,Hid (w1.alloc (.cells #[.int .u32 nb,.int .u32 pl] 22)=w2):=⟨_,rfl⟩
 have e1:w1.heap.size=w.heap.size+1:=by rw[← hw1.out,World.size_alloc]
 have hb12:Below w1.heap.size w1 w2:=by rw[← hw2.out];exact below1 w1 _
 have hb01:Below w.heap.size w w1:=by rw[← hw1.out];exact below1 w _
 have K2:Hid (Row w2 w.heap.size [.int .u64 0,.int .u64 0,.int .u64 0,.int .u64 0]∧Below w.heap.size w w2):=by
  refine ⟨?_,hb01.trans (hb12.mono hb01.size)⟩
  have q1:Row w1 w.heap.size [.int .u64 0,.int .u64 0,.int .u64 0,.int .u64 0]:=by rw[← hw1.out];exact row_new w _ _
  exact q1.below hb12
 have hN:NumsK w2 (some ⟨w.heap.size+1,0,none⟩) 2 (S2 nb pl):=by
  refine ⟨fun j hj=>?_,fun _=>⟨w.heap.size+1,0,rfl,?_,fun j hj=>?_⟩⟩
  ·unfold S2
   by_cases h:j=0
   ·rw[if_pos h];exact hnb
   ·rw[if_neg h];omega
  ·rw[← hw2.out,World.size_alloc,e1];omega
  ·have hr:=(row_new w1 [.int .u32 nb,.int .u32 pl] 22).2.1
   rw[← e1,← hw2.out,Nat.zero_add]
   have hj2:j=0∨j=1:=by omega
   rcases hj2 with rfl|rfl
   ·exact hr 0 _ rfl
   ·exact hr 1 _ rfl
 have hk2:SP.PartOk w2 (.slice sq sn sc) k.toList:=(hk.below hb01).below hb12
 have hD:=derived_c sq sn sc k ⟨#[109,105,110,116]⟩ (by decide) (some ⟨w.heap.size+1,0,none⟩) 2 2 (S2 nb pl) w2 (by decide) hk2 hN
 have hTs:(mkH k nb pl).size=32:=derH_size _ _ _ _
 have HSc:=Hid.mk2 (fun r w (h:Holds encB w r 0 (mkH k nb pl))=>scalarOf_c O r (mkH k nb pl) w hTs h)
 have hD2:Calls Tryz.prog 27 #[.slice sq sn sc,.string ⟨#[109,105,110,116]⟩,.slice (some ⟨w.heap.size+1,0,none⟩) 2 2] w2 (Ret fun e w'=>Below w2.heap.size w2 w'∧∃ r,e=.slice (some ⟨r,0,none⟩) 32 32∧w2.heap.size≤r∧Holds encB w' r 0 (mkH k nb pl)):=hD
 have HX:Hid (mkN N k nb pl=kSc N (mkH k nb pl)):=rfl
 rw[HX.out]
 generalize mkH k nb pl=T at hD2 HSc hTs
 generalize kSc N T=x at HSc ⊢
 obtain ⟨vx,hvx⟩:∃ vx,Hid (nv x=vx):=⟨_,rfl⟩
 rw[hvx.out] at HSc ⊢
 have wp:IntKind.u32.wrap (pl:Int)=(pl:Int):=by rw[IntKind.wrap_u32];omega
 clear hk hD hN hk2 hb12 hb01 HX
 go_enter Tryz.func12,Tryz.ntmps12
 go_wp2_with fail
 rw[hw1.out,hw2.out]
 clear hw1 hw2
 refine hD2.mono ?_
 rintro e w3 ⟨v3,rfl,hb3,r,rfl,hr,hH3⟩
 have K3:Hid (Row w3 w.heap.size [.int .u64 0,.int .u64 0,.int .u64 0,.int .u64 0]∧Below w.heap.size w w3∧Holds encB w3 r 0 T):=⟨K2.out.1.below hb3,K2.out.2.trans (hb3.mono K2.out.2.size),hH3⟩
 clear hb3 hr hH3 hD2 K2
 go_wp2_with fail
 refine (HSc.out r w3 K3.out.2.2).mono ?_
 rintro e w4 ⟨v4,rfl,hb4,rfl⟩
 have K4:Hid (Row w4 w.heap.size [.int .u64 0,.int .u64 0,.int .u64 0,.int .u64 0]∧Below w.heap.size w w4):=⟨K3.out.1.below hb4,K3.out.2.1.trans (hb4.mono K3.out.2.1.size)⟩
 clear hb4 K3 HSc
 obtain ⟨w5,hw5⟩:∃ w5,Hid (w4.setCells w.heap.size 0 (wn x)=w5):=⟨_,rfl⟩
 have K5:Hid (Row w5 w.heap.size (wn x)∧Below w.heap.size w w5):=by rw[← hw5.out];exact ⟨K4.out.1.put rfl,RG.below_setCells (Nat.le_refl _) _ _ _ K4.out.2⟩
 go_wp2_with (refine wpList_store_mid rfl 47 _ _ rfl w.heap.size 0 (wn x).toArray ?_ ?_ ?_ ?_ ?_ ?_;rfl;exact hvx.out.symm;exact K4.out.1.2.2;exact i40;exact wn_one x;rw[show (wn x).toArray.toList=wn x from rfl,hw5.out])
 refine bodyPost_ret (results_cell 6 47 rfl K5.out.1 rfl u40 i40) rfl ?_
 exact ⟨_,rfl,K5.out.2,hvx.out⟩
theorem isSeedY_c (q:Option Addr) (n c:Nat) (w:World):Calls Tryz.prog 11 #[.slice q n c] w fun e w'=>e=.returned (.bool (decide (n=32)))∧w'=w:=by
 go_enter Tryz.func11,Tryz.ntmps11
 by_cases h:n=32
 ·have hi:(n:Int)=32:=by omega
  subst h
  go_wp2
  go_ret
  exact ⟨rfl,rfl⟩
 ·have hi:¬ (n:Int)=32:=by omega
  have hd:decide (n=32)=false:=decide_eq_false h
  go_wp2
  go_ret
  exact ⟨by simp[h,hi],rfl⟩
theorem Key_c (O:Ord N) (sq:Option Addr) (sc:Nat) (k:Bs) (nb i x:Nat) (hnb:nb<4294967296) (hi:i<20) (hx:x=2^i) (w:World) (hk:SP.PartOk w (.slice sq 32 sc) k.toList) (hT:TabX w) :
 Calls Tryz.prog 4 #[.slice sq 32 sc,.int .u32 nb,.int .u64 x] w (Ret fun e w'=>Below w.heap.size w w'∧∃ g,e=.tuple #[.slice (some ⟨g,0,none⟩) 32 32,.int .i64 0]∧g<w'.heap.size∧Holds encB w' g 0 (bx (mkN N k nb i))):=by
 have hS:=isSeedY_c sq 32 sc w
 have hP:=placex_c i hi x hx w hT
 have hM:=mintKey_c O sq 32 sc k nb i hnb hi w hk
 have HSb:=Hid.mk2 (sbytes_c O (mkN_lt O k nb i))
 have hbs:=bx_size (mkN N k nb i)
 generalize mkN N k nb i=y at hM HSb hbs ⊢
 generalize bx y=B at HSb hbs ⊢
 obtain ⟨vy,hvy⟩:∃ vy,Hid (nv y=vy):=⟨_,rfl⟩
 rw[hvy.out] at hM HSb
 clear hk hT hx
 go_enter Tryz.func4,Tryz.ntmps4
 go_wp2_with fail
 refine hS.mono ?_
 rintro e w' ⟨rfl,rfl⟩
 clear hS
 go_wp2_with fail
 refine hP.mono ?_
 rintro e w' ⟨rfl,rfl⟩
 clear hP
 go_wp2_with fail
 refine hM.mono ?_
 rintro e w3 ⟨v3,rfl,hb3,rfl⟩
 have hsb:=HSb.out w3
 have K3:=Hid.mk2 hb3
 clear hM hb3 HSb
 go_wp2_with fail
 refine hsb.mono ?_
 rintro e w4 ⟨v4,rfl,k4,hm,rfl⟩
 have K4:Hid (Below w'.heap.size w' w4∧k4<w4.heap.size∧Holds encB w4 k4 0 B):=by
  have hH:Holds encB w4 k4 0 B:=fun j hj=>by
   have h1:=hm.range j (encB B[j]!) (by unfold cb;rw[List.getElem?_map,getElem!_pos B j hj,← Array.getElem_toList hj,List.getElem?_eq_getElem (by rw[Array.length_toList];exact hj)];rfl)
   exact ⟨h1,(hm.there j (by rw[cb_length];exact hj)).2⟩
  exact ⟨K3.out.trans (hm.bel.mono K3.out.size),Holds.lt hH (by omega),hH⟩
 clear hm hsb K3
 go_wp2
 go_ret2
 exact ⟨_,rfl,K4.out.1,k4,rfl,K4.out.2⟩
end
namespace SP
open Go.RowKit Go.Sort Go.Deep
end SP
section
open Go.RowKit Go.Sort Go.Deep
variable {P:Nat} [NeZero P] {N:Nat}
theorem undBB:Tryz.prog.underlying 33=some (.slice 24):=by kernel_rfl
theorem infoBB:(Tryz.prog.info? 24).map (fun i=>(i.size,i.bytes,i.zero.map fun z=>z.cells.size))=some (1,24,some 1):=by kernel_rfl
theorem addP0 (g o j:Nat):(⟨g,o,none⟩:Addr).add j=⟨g,o+j,none⟩:=by
 unfold Addr.add
 by_cases h0:j=0
 ·subst h0;rw[if_pos rfl];rfl
 ·rw[if_neg h0]
end
section
open Go.RowKit Go.Sort Go.Deep
theorem Hid.mkP {p:Prop} (h:p):Hid p:=h
section
variable {P:Program} {ops:Array Oper} {rest:List Oper} {op:Oper} {a:Act} {w w':World} {v:Value} {Q:Exit→Act→World→Prop}
end
theorem alloc_below (w:World) (o:Obj):Below w.heap.size w (w.alloc o):=(Below.refl _ _).alloc (Nat.le_refl _) _
theorem alloc_cell (w:World) (cs:Array Value) (T:TypeId) (j:Nat) (v:Value) (h:cs[j]? = some v):(w.alloc (.cells cs T)).cell? ⟨w.heap.size,j,none⟩=some v:=by
 unfold World.alloc World.cell?
 simp[h]
end
section
open Go.RowKit Go.Sort Go.Deep
variable {P:Nat} [NeZero P] {N:Nat}
def Pt (W:World) (u:Value) (b:SP.Bs):Prop:=∃ q c,u=.slice q (Array.size b) c∧(b.size=0∨∃ g o,q=some ⟨g,o,none⟩∧g<W.heap.size∧Holds SP.encB W g o b)
theorem Pt.below {W W':World} {u:Value} {b:SP.Bs} (h:Pt W u b) (hb:Below W.heap.size W W'):Pt W' u b:=by
 obtain ⟨q,c,h1,h2|⟨g,o,h3,h4,h5⟩⟩:=h
 ·exact ⟨q,c,h1,Or.inl h2⟩
 ·exact ⟨q,c,h1,Or.inr ⟨g,o,h3,Nat.lt_of_lt_of_le h4 hb.size,SP.Holds.below h5 hb h4⟩⟩
theorem Pt.conv {W:World} {u:Value} {b:SP.Bs} (h:Pt W u b):(convert 24 9 u).run Tryz.prog W=.ok (.string ⟨b⟩) W:=by
 obtain ⟨q,c,rfl,h2|⟨g,o,rfl,h4,h5⟩⟩:=h
 ·obtain rfl:b=#[]:=Array.eq_empty_of_size_eq_zero h2
  cases q with
  | none=>exact run_convert_bytes_nil (P:=Tryz.prog) (w:=W) 24 5 SP.slice22 SP.int5 0 c 9 SP.str9
  | some a=>exact run_convert_bytes_back (P:=Tryz.prog) W 24 9 5 a c [] SP.slice22 SP.int5 SP.str9 (fun j hj=>by cases hj)
 ·exact SP.conv_str Tryz.prog 24 9 5 SP.slice22 SP.int5 SP.str9 W g o _ c b h5 rfl
theorem range_below {w w':World} {b o:Nat} {cs:List Value} (h:w.rangeAt b o cs) (hb:Below w.heap.size w w') (hlt:b<w.heap.size):w'.rangeAt b o cs:=fun j u hj=>by rw[hb.cell (p:=⟨b,o+j,none⟩) hlt];exact h j u hj
theorem nextcap_leP (n c:Nat) (h:c<n):Builtin.nextslicecap n c≤2*n+768:=by
 unfold Builtin.nextslicecap
 split
 ·omega
 ·split
  ·omega
  ·simp only[Builtin.growBy]
   repeat' split
   all_goals omega
theorem infoU8:(Tryz.prog.info? 5).map (fun i=>(i.size,i.bytes,i.zero.map fun z=>z.cells.size))=some (1,1,some 1):=by kernel_rfl
def bC (b:SP.Bs):List Value:=b.toList.map SP.encB
theorem bC_len (b:SP.Bs):(bC b).length=b.size:=by unfold bC;simp
theorem bC_app (a b:SP.Bs):bC (a++b)=bC a++bC b:=by unfold bC;simp
theorem own_blockQ {base n m size c:Nat} {T e:TypeId} {i:TypeInfo} {z:Value} {W W':World} {v v':Value} {xs news:List Value} {a:Addr} (hT:Tryz.prog.underlying T=some (.slice e)) (hi:Tryz.prog.info? e=some i) (hz:i.zero=some z) (hsz:i.size=size) (hby:i.bytes≤1000)
 (hown:W.ownsRow base e size v n xs) (hs:Src Tryz.prog size T (.slice (some a) m c) m news W) (hn:n+m≤1000000000)
 (hr:(Builtin.append_ #[T,T] T #[v,.slice (some a) m c]).run Tryz.prog W=.ok v' W'):v'.ownBlock=v.ownBlock∨(v'.ownBlock=some W.heap.size∧Below W.heap.size W W'):=by
 subst hsz
 have hgrow:∀ (q:Option Addr) (cap:Nat) (olds:List Value),v=.slice q n cap→cap<n+m→(Builtin.firstCells i.size n (.slice q n cap)).run Tryz.prog W.drew=.ok olds.toArray W.drew→v'.ownBlock=v.ownBlock∨(v'.ownBlock=some W.heap.size∧Below W.heap.size W W'):=fun q cap olds hv hc hold=>by
  have h1:=nextcap_leP (n+m) cap hc
  have h2:Builtin.nextslicecap (n+m) cap*i.bytes≤(2*(n+m)+768)*1000:=Nat.mul_le_mul h1 hby
  have hap:=run_append_grow_src (P:=Tryz.prog) W T T T e i z hT hi hz q n cap olds hold (.slice (some a) m c) m news hs hc (by omega) (Nat.le_trans h2 (by clear h1 h2;omega))
  rw[hv,hap] at hr
  injection hr with hr1 hr2
  right
  refine ⟨by rw[← hr1];rfl,?_⟩
  rw[← hr2]
  exact (⟨rfl,rfl,rfl,Nat.le_refl _,fun _ _=>rfl⟩:Below W.heap.size W W.drew).trans (alloc_below W.drew _)
 rcases id hown with ⟨-,⟨rfl,rfl⟩|⟨g,cap,cur,rfl,g1,g2,g3,g4,g5,g6⟩⟩
 ·by_cases hm:m=0
  ·subst hm
   have hr':=hr
   obtain ⟨w1,hr2⟩:∃ w1,(Builtin.append_ #[T,T] T #[.slice none 0 0,.slice (some a) 0 c]).run Tryz.prog W=.ok (.slice none 0 0) w1:=by
    rcases hs.kind with ⟨e',hk⟩|hk<;>exact ⟨_,by simp[Builtin.append_,run_underlying hT,run_underlying hk,sizeOf,typeInfo,hi,hs.len,hs.cells];rfl⟩
   rw[hr2] at hr
   injection hr with hr1 hr2
   left
   rw[← hr1]
  ·exact hgrow none 0 [] rfl (by omega) (run_firstCells_none W.drew i.size 0 0 0)
 ·by_cases hroom:n+m≤cap
  ·have hap:=run_append_room_src (P:=Tryz.prog) W T T T e i hT hi g 0 n cap (.slice (some a) m c) m news hs hroom
    (fun j hj=>by
     have hj2:n*i.size+j<cur.size:=by
      rw[g5]
      have h1:j<m*i.size:=by rw[← hs.newsLen];exact hj
      have h2:(n+m)*i.size≤cap*i.size:=Nat.mul_le_mul_right _ hroom
      rw[Nat.add_mul] at h2
      omega
     simp[World.cell?,g2,Nat.zero_add,Array.getElem?_eq_getElem hj2])
    (fun j hj=>by simp[World.frozen?,g2])
   rw[hap] at hr
   injection hr with hr1 hr2
   left
   rw[← hr1]
   rfl
  ·refine hgrow (some ⟨g,0,none⟩) cap xs rfl (by omega) ?_
   exact run_firstCells_some W.drew i.size n ⟨g,0,none⟩ n cap xs hown.1 (fun j u hj=>by rw[World.cell?_drew];exact hown.cells (g:=g) rfl j u hj)
structure Ap1 (W W':World) (v v':Value):Prop where
 os:W'.os=W.os
 tape:W'.tape=W.tape
 output:W'.output=W.output
 size:W.heap.size≤W'.heap.size
 keep:∀ g,g<W.heap.size→v.ownBlock≠some g→W'.heap[g]? = W.heap[g]?
 mv:v'.ownBlock=v.ownBlock∨((∃ g,v'.ownBlock=some g∧W.heap.size≤g)∧∀ g,g<W.heap.size→W'.heap[g]? = W.heap[g]?)
theorem own_keep {W W':World} {base n k:Nat} {e:TypeId} {v:Value} {xs:List Value} (h:W.ownsRow base e k v n xs) (hk:∀ g,v.ownBlock=some g→W'.heap[g]? = W.heap[g]?):W'.ownsRow base e k v n xs:=by
 rcases h with ⟨h0,h1|⟨g,cap,cur,rfl,h2,h3,h4⟩⟩
 ·exact ⟨h0,Or.inl h1⟩
 ·exact ⟨h0,Or.inr ⟨g,cap,cur,rfl,h2,by rw[hk g rfl];exact h3,h4⟩⟩
theorem own_lt {W:World} {base n k g:Nat} {e:TypeId} {v:Value} {xs:List Value} (h:W.ownsRow base e k v n xs) (hg:v.ownBlock=some g):base≤g∧g<W.heap.size∧∃ cur,W.heap[g]? = some (.cells cur e (0,0)):=by
 rcases h with ⟨h0,⟨rfl,-⟩|⟨g',cap,cur,rfl,h2,h3,h4⟩⟩
 ·cases hg
 ·obtain rfl:g'=g:=Option.some.inj hg
  refine ⟨h2,?_,cur,h3⟩
  by_cases hg:g'<W.heap.size
  ·exact hg
  ·rw[Array.getElem?_eq_none (by omega)] at h3;cases h3
theorem own_app1 {base n by':Nat} {T e:TypeId} {W:World} {v x:Value} {xs:List Value} (hT:Tryz.prog.underlying T=some (.slice e)) (hI:(Tryz.prog.info? e).map (fun i=>(i.size,i.bytes,i.zero.map fun z=>z.cells.size))=some (1,by',some 1)) (hby:by'≤1000)
 (hown:W.ownsRow base e 1 v n xs) (hx:x.oneCell'=true) (hn:n≤100000000) (hb:base≤W.heap.size) :
 ∃ v' W',(Builtin.append_ #[T,T] T #[v,.slice (some ⟨W.heap.size,0,none⟩) 1 1]).run Tryz.prog (W.alloc (.cells #[x] e))=.ok v' W'∧W'.ownsRow base e 1 v' (n+1) (xs++[x])∧Ap1 W W' v v':=by
 obtain ⟨i,hi,he⟩:=Option.map_eq_some_iff.1 hI
 simp only[Prod.mk.injEq] at he
 obtain ⟨h1,h2,h3⟩:=he
 obtain ⟨z,hz,hz2⟩:=Option.map_eq_some_iff.1 h3
 have ba:=alloc_below W (.cells #[x] e)
 have hz1:(W.alloc (.cells #[x] e)).heap.size=W.heap.size+1:=World.size_alloc _ _
 have ho:(W.alloc (.cells #[x] e)).ownsRow base e 1 v n xs:=own_keep hown (fun g hg=>ba.block g (own_lt hown hg).2.1)
 have hc:∀ (j:Nat) u,[x][j]? = some u→(W.alloc (.cells #[x] e)).cell? ((⟨W.heap.size,0,none⟩:Addr).add j)=some u:=fun j u hj=>by
  rw[addP0,Nat.zero_add]
  exact alloc_cell W _ _ j u (by simpa using hj)
 have h1x:∀ u∈[x],u.oneCell'=true:=fun u hu=>by
  obtain rfl:u=x:=by simpa using hu
  exact hx
 obtain ⟨v',W',r1,r2,r3,-⟩:=run_append_own (P:=Tryz.prog) (W.alloc (.cells #[x] e)) base T T e i z 1 by' hT hi hz h1 h2 hz2 (by decide) v n xs ho ⟨W.heap.size,0,none⟩ 1 1 [x] rfl hc h1x (by unfold maxLen;omega) (by
  have:(n+1)*by'≤(n+1)*1000:=Nat.mul_le_mul_left _ hby
  omega) (by omega)
 have hq:=own_blockQ (c:=1) hT hi hz h1 (by omega) ho (Src.ofSlice (P:=Tryz.prog) (size:=1) (W.alloc (.cells #[x] e)) hT ⟨W.heap.size,0,none⟩ 1 1 [x] rfl hc h1x) (by omega) r1
 refine ⟨v',W',r1,r2,r3.os,r3.tape,r3.output,by have:=r3.size;omega,fun g hg hv=>?_,?_⟩
 ·rw[r3.block g (by omega) (fun h=>hv h.symm),ba.block g hg]
 ·rcases hq with h|⟨h,hbl⟩
  ·exact Or.inl h
  ·refine Or.inr ⟨⟨_,h,by omega⟩,fun g hg=>?_⟩
   rw[hbl.block g (by omega),ba.block g hg]
def TyQ (W:World) (L g:Nat):Prop:=g<W.heap.size∧(g<L∨∃ cur,W.heap[g]? = some (.cells cur 5 (0,0)))
theorem TyQ.keep {W W':World} {L g:Nat} (h:TyQ W L g) (hs:W.heap.size≤W'.heap.size) (e:W'.heap[g]? = W.heap[g]?):TyQ W' L g:=⟨Nat.lt_of_lt_of_le h.1 hs,by rw[e];exact h.2⟩
theorem keepQ {W W':World} {k:Nat} {b:SP.Bs} (h:Holds SP.encB W k 0 b) (e:W'.heap[k]? = W.heap[k]?):Holds SP.encB W' k 0 b:=fun j hj=>by
 rw[World.cell?_of_block (a:=⟨k,0+j,none⟩) e,World.frozen?_of_block (a:=⟨k,0+j,none⟩) e]
 exact h j hj
def OwQ (W:World) (L B:Nat) (v:Value) (b:SP.Bs):Prop:=W.ownsRow B 5 1 v b.size (bC b)∨∃ g,v=.slice (some ⟨g,0,none⟩) b.size b.size∧B≤g∧g<L∧g<W.heap.size∧Holds SP.encB W g 0 b
theorem OwQ.keep {W W':World} {L B:Nat} {v:Value} {b:SP.Bs} (h:OwQ W L B v b) (hs:W.heap.size≤W'.heap.size) (hk:∀ g,v.ownBlock=some g→W'.heap[g]? = W.heap[g]?):OwQ W' L B v b:=by
 rcases h with h|⟨g,rfl,h2,h3,h4,h5⟩
 ·exact Or.inl (own_keep h hk)
 ·exact Or.inr ⟨g,rfl,h2,h3,Nat.lt_of_lt_of_le h4 hs,keepQ h5 (hk g rfl)⟩
theorem OwQ.lt {W:World} {L B g:Nat} {v:Value} {b:SP.Bs} (h:OwQ W L B v b) (hg:v.ownBlock=some g):B≤g∧TyQ W L g:=by
 rcases h with h|⟨g',rfl,h2,h3,h4,h5⟩
 ·obtain ⟨h1,h2,h3⟩:=own_lt h hg
  exact ⟨h1,h2,Or.inr h3⟩
 ·obtain rfl:g'=g:=Option.some.inj hg
  exact ⟨h2,h4,Or.inl h3⟩
theorem own_holdsQ {W:World} {B g c:Nat} {b:SP.Bs} (h:W.ownsRow B 5 1 (.slice (some ⟨g,0,none⟩) b.size c) b.size (bC b)):Holds SP.encB W g 0 b:=fun k hk=>by
 obtain ⟨-,-,cur,h1⟩:=own_lt h (g:=g) rfl
 refine ⟨?_,by simp[World.frozen?,h1]⟩
 have h3:=h.cells (g:=g) rfl k (SP.encB b[k]!) (by
  unfold bC
  rw[List.getElem?_map,List.getElem?_eq_getElem (by simpa using hk),Option.map_some,getElem!_pos b k hk]
  simp)
 rw[addP0] at h3
 exact h3
theorem OwQ.set {W:World} {L B g c k:Nat} {b:SP.Bs} {x:UInt8} (h:OwQ W L B (.slice (some ⟨g,0,none⟩) b.size c) b) (hk:k<b.size):OwQ (W.setCell ⟨g,k,none⟩ (SP.encB x)) L B (.slice (some ⟨g,0,none⟩) b.size c) (b.setIfInBounds k x):=by
 unfold OwQ
 rw[Array.size_setIfInBounds]
 rcases h with h|⟨g',e,h2,h3,h4,h5⟩
 ·left
  have:=(h.stored k (SP.encB x)).1
  have e:bC (b.setIfInBounds k x)=(bC b).set k (SP.encB x):=by unfold bC;rw[Array.toList_setIfInBounds,List.map_set]
  rw[e]
  exact this
 ·right
  simp only[Value.slice.injEq,Option.some.injEq,Addr.mk.injEq,and_true,true_and] at e
  obtain ⟨rfl,rfl⟩:=e
  refine ⟨g,rfl,h2,h3,by rw[World.size_setCell];exact h4,fun j hj=>?_⟩
  rw[Array.size_setIfInBounds] at hj
  have h6:=h5 j hj
  rw[Nat.zero_add] at h6 ⊢
  rw[World.frozen?_setCell]
  refine ⟨?_,h6.2⟩
  rw[getElem!_pos (b.setIfInBounds k x) j (by rw[Array.size_setIfInBounds];exact hj),Array.getElem_setIfInBounds hj]
  by_cases e:k=j
  ·subst e
   rw[if_pos rfl]
   exact World.cell?_setCell_same _ _ _ h6.1
  ·rw[if_neg e,World.cell?_setCell_other _ _ _ _ (by intro x;injection x with _ x _;exact e x)]
   rw[← getElem!_pos b j hj]
   exact h6.1
theorem undB5Q:Tryz.prog.underlying 24=some (.slice 5):=by kernel_rfl
theorem OwQ.app {W:World} {L B:Nat} {v:Value} {b:SP.Bs} {x:UInt8} (h:OwQ W L B v b) (hn:b.size≤100000000) (hb:B≤W.heap.size) :
 ∃ v' W',(Builtin.append_ #[24,24] 24 #[v,.slice (some ⟨W.heap.size,0,none⟩) 1 1]).run Tryz.prog (W.alloc (.cells #[SP.encB x] 5))=.ok v' W'∧OwQ W' L B v' (b++#[x])∧Ap1 W W' v v':=by
 have e1:(b++#[x]).size=b.size+1:=by rw[Array.size_append];rfl
 have e2:bC (b++#[x])=bC b++[SP.encB x]:=by rw[bC_app];rfl
 rcases h with h|⟨g,rfl,h2,h3,h4,h5⟩
 ·obtain ⟨v',W',r1,r2,r3⟩:=own_app1 undB5Q infoU8 (by omega) h (x:=SP.encB x) rfl hn hb
  refine ⟨v',W',r1,Or.inl ?_,r3⟩
  rw[e1,e2]
  exact r2
 ·obtain ⟨i,hi,he⟩:=Option.map_eq_some_iff.1 infoU8
  simp only[Prod.mk.injEq] at he
  obtain ⟨g1,g2,g3⟩:=he
  obtain ⟨z,hz,hz2⟩:=Option.map_eq_some_iff.1 g3
  have ba:=alloc_below W (.cells #[SP.encB x] 5)
  have hz1:(W.alloc (.cells #[SP.encB x] 5)).heap.size=W.heap.size+1:=World.size_alloc _ _
  obtain ⟨v',W',r1,r2,r3⟩:=run_append_arg_grows (P:=Tryz.prog) (W.alloc (.cells #[SP.encB x] 5)) 24 24 5 i z 1 1 undB5Q hi hz g1 g2 hz2 (by decide) ⟨g,0,none⟩ b.size b.size (bC b) (by rw[bC_len,Nat.mul_one]) (fun j u hj=>by
   have hjb:j<b.size:=by have:=(List.getElem?_eq_some_iff.1 hj).1;rw[bC_len] at this;exact this
   have e:u=SP.encB b[j]!:=by
    unfold bC at hj
    rw[List.getElem?_map,List.getElem?_eq_getElem (by simpa using hjb),Option.map_some] at hj
    rw[← Option.some.inj hj,getElem!_pos b j hjb]
    simp
   rw[addP0,World.cell?_of_block (a:=⟨g,0+j,none⟩) (ba.block g h4),e]
   exact (h5 j hjb).1) ⟨W.heap.size,0,none⟩ 1 1 [SP.encB x] rfl (fun j u hj=>by
   rw[addP0,Nat.zero_add]
   exact alloc_cell W _ _ j u (by simpa using hj)) (by omega) (by unfold maxLen;omega) (by omega)
  have hv:∃ g',v'.ownBlock=some g'∧(W.alloc (.cells #[SP.encB x] 5)).heap.size≤g':=by
   rcases r2.2 with ⟨-,h0⟩|⟨g',cap,cur,rfl,hb',-⟩
   ·omega
   ·exact ⟨g',rfl,hb'⟩
  obtain ⟨g',hv1,hv2⟩:=hv
  have hk:∀ y,y<W.heap.size→W'.heap[y]? = W.heap[y]?:=fun y hy=>by rw[r3.block y (by omega) (by simp),ba.block y hy]
  refine ⟨v',W',r1,Or.inl ?_,r3.os,r3.tape,r3.output,by have:=r3.size;omega,fun y hy _=>hk y hy,Or.inr ⟨⟨g',hv1,by omega⟩,hk⟩⟩
  rw[e1,e2]
  rcases r2 with ⟨q0,q1|⟨y,cap,cur,q1,q2,q3⟩⟩
  ·exact ⟨q0,Or.inl q1⟩
  ·exact ⟨q0,Or.inr ⟨y,cap,cur,q1,by omega,q3⟩⟩
def RV (W:World) (L:Nat) (v:Value) (b:SP.Bs):Prop:=(b.size=0∧v=.slice none 0 0)∨∃ g c,v=.slice (some ⟨g,0,none⟩) b.size c∧TyQ W L g∧Holds SP.encB W g 0 b
theorem RV.keep {W W':World} {L:Nat} {v:Value} {b:SP.Bs} (h:RV W L v b) (hs:W.heap.size≤W'.heap.size) (hk:∀ g,v.ownBlock=some g→W'.heap[g]? = W.heap[g]?):RV W' L v b:=by
 rcases h with h|⟨g,c,rfl,h1,h2⟩
 ·exact Or.inl h
 ·exact Or.inr ⟨g,c,rfl,h1.keep hs (hk g rfl),keepQ h2 (hk g rfl)⟩
theorem RV.of {W:World} {L B:Nat} {v:Value} {b:SP.Bs} (h:OwQ W L B v b):RV W L v b:=by
 rcases h with h|⟨g,rfl,h2,h3,h4,h5⟩
 ·rcases id h with ⟨h0,⟨rfl,h1⟩|⟨g,cap,cur,rfl,h2,h3,h4⟩⟩
  ·exact Or.inl ⟨h1,rfl⟩
  ·exact Or.inr ⟨g,cap,rfl,⟨(own_lt h rfl).2.1,Or.inr ⟨cur,h3⟩⟩,own_holdsQ h⟩
 ·exact Or.inr ⟨g,b.size,rfl,⟨h4,Or.inl h3⟩,h5⟩
theorem RV.slice {W:World} {L:Nat} {v:Value} {b:SP.Bs} (h:RV W L v b):∃ q c,v=.slice q b.size c:=by
 rcases h with ⟨h,rfl⟩|⟨g,c,rfl,-⟩
 ·exact ⟨none,0,by rw[h]⟩
 ·exact ⟨_,_,rfl⟩
theorem RV.at {W:World} {L:Nat} {v:Value} {b:SP.Bs} (h:RV W L v b) {k:Nat} (hk:k<b.size):∃ g c,v=.slice (some ⟨g,0,none⟩) b.size c∧W.cell? ⟨g,k,none⟩=some (SP.encB b[k]!)∧W.frozen? ⟨g,k,none⟩=false:=by
 rcases h with ⟨h,-⟩|⟨g,c,rfl,-,h2⟩
 ·omega
 ·have:=h2 k hk
  rw[Nat.zero_add] at this
  exact ⟨g,c,rfl,this⟩
theorem RV.pt {W:World} {L:Nat} {v:Value} {b:SP.Bs} (h:RV W L v b):Pt W v b:=by
 rcases h with ⟨h1,rfl⟩|⟨g,c,rfl,h1,h2⟩
 ·exact ⟨none,0,by rw[h1],Or.inl h1⟩
 ·exact ⟨_,_,rfl,Or.inr ⟨g,0,rfl,h1.1,h2⟩⟩
theorem holds_frontQ {W:World} {g:Nat} {b x:SP.Bs} (h:Holds SP.encB W g 0 (b++x)):Holds SP.encB W g 0 b:=fun j hj=>by
 have:=h j (by rw[Array.size_append];omega)
 rw[getElem!_pos (b++x) j (by rw[Array.size_append];omega),Array.getElem_append_left hj,← getElem!_pos b j hj] at this
 exact this
theorem RV.typ {W:World} {L:Nat} {v:Value} {b:SP.Bs} {g:Nat} (h:RV W L v b) (hg:v.ownBlock=some g):TyQ W L g:=by
 rcases h with ⟨-,rfl⟩|⟨g',c,rfl,h1,-⟩
 ·cases hg
 ·obtain rfl:g'=g:=Option.some.inj hg
  exact h1
theorem TyQ.ne {W:World} {L g g':Nat} {cur:Array Value} {t:TypeId} (h:TyQ W L g) (hL:L≤g') (hc:W.heap[g']? = some (.cells cur t (0,0))) (ht:t≠5):g'≠g:=by
 rintro rfl
 rcases h.2 with h1|⟨cur',h1⟩
 ·omega
 ·rw[hc] at h1
  injection h1 with h1
  injection h1 with _ h1 _
  exact ht h1
end
end Go.Proofs.YtmepmoalhgehhaaGreatDoor
