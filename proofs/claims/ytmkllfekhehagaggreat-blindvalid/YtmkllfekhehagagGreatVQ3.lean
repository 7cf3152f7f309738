import Derived.Deep.LoopGhost
import Derived.Test.YtmkllfekhehagagGreatVQ2
set_option linter.unusedVariables false
set_option linter.unusedSimpArgs false
namespace Go.Proofs.YtmkllfekhehagagGreat
open Go.RowKit Go.Sort
variable {P:Nat} [NeZero P]
omit [NeZero P] in
theorem Gives.e {f:FuncId} {args:Array Value} {x c:Fin P} (h:Gives f args (fv x)) (e:c=x):Gives f args (fv c):=e ▸ h
omit [NeZero P] in
theorem Gives.e3 {f:FuncId} {args:Array Value} {x y z a b c:Fin P} (h:Gives f args (rv x y z)) (e:a=x) (e':b=y) (e'':c=z):Gives f args (rv a b c):=e ▸ e' ▸ e'' ▸ h
theorem eqW (a b c d p q r s:Int) (w:World):(binOp .eql 185 (.agg #[.int .u64 a,.int .u64 b,.int .u64 c,.int .u64 d]) (.agg #[.int .u64 p,.int .u64 q,.int .u64 r,.int .u64 s])).run Tryz.prog w=.ok (.bool (decide (a=p∧b=q∧c=r∧d=s))) w:=by
 go_simp
 by_cases h0:a=p <;> by_cases h1:b=q <;> by_cases h2:c=r <;> by_cases h3:d=s <;> simp [h0,h1,h2,h3]
theorem wn_inj {m n:Nat} (hm:m < top) (hn:n < top):(m % 18446744073709551616=n % 18446744073709551616∧m / 18446744073709551616 % 18446744073709551616=n / 18446744073709551616 % 18446744073709551616∧m / 340282366920938463463374607431768211456 % 18446744073709551616=n / 340282366920938463463374607431768211456 % 18446744073709551616∧m / 6277101735386680763835789423207666416102355444464034512896 % 18446744073709551616=n / 6277101735386680763835789423207666416102355444464034512896 % 18446744073709551616)↔m=n:=by
 constructor
 · rintro ⟨h0,h1,h2,h3⟩
   unfold top at hm hn
   omega
 · rintro rfl
   exact ⟨rfl,rfl,rfl,rfl⟩
theorem eqC (h:Fld P) (x y:Fin P) (w:World):(binOp .eql 185 (fv x) (fv y)).run Tryz.prog w=.ok (.bool (decide (x=y))) w:=by
 have h1:=eqW ((x.val % 18446744073709551616:Nat):Int) ((x.val / 18446744073709551616 % 18446744073709551616:Nat):Int) ((x.val / 340282366920938463463374607431768211456 % 18446744073709551616:Nat):Int) ((x.val / 6277101735386680763835789423207666416102355444464034512896 % 18446744073709551616:Nat):Int) ((y.val % 18446744073709551616:Nat):Int) ((y.val / 18446744073709551616 % 18446744073709551616:Nat):Int) ((y.val / 340282366920938463463374607431768211456 % 18446744073709551616:Nat):Int) ((y.val / 6277101735386680763835789423207666416102355444464034512896 % 18446744073709551616:Nat):Int) w
 refine h1.trans ?_
 have h2:=wn_inj (h.top x) (h.top y)
 simp only [Int.ofNat_inj,h2,← Fin.ext_iff]
theorem eqC_t (h:Fld P) {x y:Fin P} (e:x=y) (w:World):(binOp .eql 185 (fv x) (fv y)).run Tryz.prog w=.ok (.bool true) w:=by rw [eqC h,decide_eq_true e]
theorem eqC_f (h:Fld P) {x y:Fin P} (e:¬ x=y) (w:World):(binOp .eql 185 (fv x) (fv y)).run Tryz.prog w=.ok (.bool false) w:=by rw [eqC h,decide_eq_false e]
theorem eqPt2 (a b c d p q r s a' b' c' d' p' q' r' s':Nat) (w:World):(binOp .eql 57 (.agg #[.int .u64 (a:Int),.int .u64 (b:Int),.int .u64 (c:Int),.int .u64 (d:Int),.int .u64 (a':Int),.int .u64 (b':Int),.int .u64 (c':Int),.int .u64 (d':Int)]) (.agg #[.int .u64 (p:Int),.int .u64 (q:Int),.int .u64 (r:Int),.int .u64 (s:Int),.int .u64 (p':Int),.int .u64 (q':Int),.int .u64 (r':Int),.int .u64 (s':Int)])).run Tryz.prog w=.ok (.bool (decide (a=p∧b=q∧c=r∧d=s) && decide (a'=p'∧b'=q'∧c'=r'∧d'=s'))) w:=by
 go_simp
 rw [eqP_d 9997,Result.andThen_ok]
 by_cases h1:a=p∧b=q∧c=r∧d=s
 · rw [decide_eq_true h1]
   simp only [Bool.true_eq_false,if_false]
   rw [eqP_d 9997,Result.andThen_ok]
   by_cases h2:a'=p'∧b'=q'∧c'=r'∧d'=s'
   · rw [decide_eq_true h2]
     simp [h1.1,h1.2.1,h1.2.2.1,h1.2.2.2,h2.1,h2.2.1,h2.2.2.1,h2.2.2.2]
   · rw [decide_eq_false h2]
     simp only [if_true,Result.andThen_ok]
     have h3:(decide (a'=p') && (decide (b'=q') && (decide (c'=r') && decide (d'=s'))))=false:=by simpa using h2
     rw [h3,Bool.and_false]
 · rw [decide_eq_false h1]
   simp only [if_true,Result.andThen_ok]
   have h3:(decide (a=p) && (decide (b=q) && (decide (c=r) && decide (d=s))))=false:=by simpa using h1
   rw [h3,Bool.false_and]
theorem eqPt (h:Fld P) (x y z t:Fin P) (w:World):(binOp .eql 57 (pv x y) (pv z t)).run Tryz.prog w=.ok (.bool (decide (x=z∧y=t))) w:=by
 refine (eqPt2 (x.val % 18446744073709551616) (x.val / 18446744073709551616 % 18446744073709551616) (x.val / 340282366920938463463374607431768211456 % 18446744073709551616) (x.val / 6277101735386680763835789423207666416102355444464034512896 % 18446744073709551616) (z.val % 18446744073709551616) (z.val / 18446744073709551616 % 18446744073709551616) (z.val / 340282366920938463463374607431768211456 % 18446744073709551616) (z.val / 6277101735386680763835789423207666416102355444464034512896 % 18446744073709551616) (y.val % 18446744073709551616) (y.val / 18446744073709551616 % 18446744073709551616) (y.val / 340282366920938463463374607431768211456 % 18446744073709551616) (y.val / 6277101735386680763835789423207666416102355444464034512896 % 18446744073709551616) (t.val % 18446744073709551616) (t.val / 18446744073709551616 % 18446744073709551616) (t.val / 340282366920938463463374607431768211456 % 18446744073709551616) (t.val / 6277101735386680763835789423207666416102355444464034512896 % 18446744073709551616) w).trans ?_
 simp only [wn_inj (h.top x) (h.top z),wn_inj (h.top y) (h.top t),← Fin.ext_iff,Bool.decide_and]
theorem eqPt_t (h:Fld P) {x y z t:Fin P} (e:x=z∧y=t) (w:World):(binOp .eql 57 (pv x y) (pv z t)).run Tryz.prog w=.ok (.bool true) w:=by rw [eqPt h,decide_eq_true e]
theorem eqPt_f (h:Fld P) {x y z t:Fin P} (e:¬ (x=z∧y=t)) (w:World):(binOp .eql 57 (pv x y) (pv z t)).run Tryz.prog w=.ok (.bool false) w:=by rw [eqPt h,decide_eq_false e]
end Go.Proofs.YtmkllfekhehagagGreat
namespace Go.Proofs.YtmkllfekhehagagGreat
open Go.RowKit Go.Sort
variable {P:Nat} [NeZero P]
theorem u115:(Tryz.prog.underlying 185).map (·.isRow)=some true:=by kernel_rfl
theorem i115:(Tryz.prog.info? 185).map (·.size)=some 4:=by kernel_rfl
theorem u85:(Tryz.prog.underlying 55).map (·.isRow)=some true:=by kernel_rfl
theorem i85:(Tryz.prog.info? 55).map (·.size)=some 4:=by kernel_rfl
theorem u117:(Tryz.prog.underlying 187).map (·.isRow)=some true:=by kernel_rfl
theorem i117:(Tryz.prog.info? 187).map (·.size)=some 12:=by kernel_rfl
theorem u109:(Tryz.prog.underlying 57).map (·.isRow)=some true:=by kernel_rfl
theorem i109:(Tryz.prog.info? 57).map (·.size)=some 8:=by kernel_rfl
theorem u79:(Tryz.prog.underlying 118).map (·.isRow)=some true:=by kernel_rfl
theorem i79:(Tryz.prog.info? 118).map (·.size)=some 4:=by kernel_rfl
def F102_0:List RG.It:=[.m 2 [] 0,.m 3 [] 1,.m 4 [] 2]
def F102_1 (x y c1:Fin P):List RG.It:=[.c 5 [] gv0,.x 6 [] (fv x),.x 7 [] (fv y),.c 8 [(5,0),(6,1),(7,2)] (fv c1),.u [(8,3)] 2]
set_option maxHeartbeats 2000000 in
set_option maxRecDepth 100000 in
theorem CTimes_c (C:Fld P) (x y:Fin P):Gives 170 #[(fv x),(fv y)] (fv (x*y)):=by
 intro w
 obtain ⟨c1,hc1⟩:∃ c,c=x*y:=⟨_,rfl⟩
 have hfin:((fv c1):Value)=(fv (x*y)):=by
  subst_vars;rfl
 rw [← hfin]
 go_enter Tryz.func170,Tryz.ntmps170
 refine RG.M.enter [(0,(.v (fv x))),(1,(.v (fv y)))] 9 (by kernel_rfl) ?_
 intro a0 M0
 repeat refine wp_seq ?_
 refine M0.tx F102_0 [(0,(ws x)),(1,(ws y)),(2,(RG.z 4))] [] [(ws x),(ws y),(RG.z 4)] [(2,(.p 0 0)),(3,(.p 1 0)),(4,(.p 2 0))] (by kernel_rfl) (by kernel_rfl) ⟨RG.mk 0 185 fun _ _=>by kernel_rfl,RG.mk 1 185 fun _ _=>by kernel_rfl,RG.mk 2 185 fun _ _=>by kernel_rfl,trivial⟩ ?_
 intro j1 i1 m1 a1 w1 M1
 repeat refine wp_seq ?_
 refine M1.dr (by kernel_rfl) (F102_1 x y c1) [] [(2,4,(ws c1))] [(ws x),(ws y),(ws c1)] [(4,(.p 2 0))] (by kernel_rfl) (by kernel_rfl) ⟨RG.cl (Coordinates_c) fun _ _=>by kernel_rfl,RG.ld u115 i115 (by kernel_rfl),RG.ld u115 i115 (by kernel_rfl),RG.cl ((product_c C x y).e hc1) fun _ _=>by kernel_rfl,RG.pt i115 (by kernel_rfl),trivial⟩ ?_
 intro a2 w2 M2
 refine wp_ret ?_
 refine bodyPost_ret (v:=(fv c1)) (RG.results_row M2.st 4 185 rfl 2 _ rfl (M2.at (s:=(.p 2 0)) (by kernel_rfl)) u115 i115) M2.sl.defers ?_
 exact ⟨_,rfl,M2.st.bel.below,rfl⟩
def F114_0:List RG.It:=[.m 2 [] 0,.m 3 [] 1,.m 4 [] 2]
def F114_1 (x y c1:Fin P):List RG.It:=[.c 5 [] gv0,.x 6 [] (fv x),.x 7 [] (fv y),.c 8 [(5,0),(6,1),(7,2)] (fv c1),.u [(8,3)] 2]
set_option maxHeartbeats 2000000 in
set_option maxRecDepth 100000 in
theorem CPlus_c (C:Fld P) (x y:Fin P):Gives 172 #[(fv x),(fv y)] (fv (x+y)):=by
 intro w
 obtain ⟨c1,hc1⟩:∃ c,c=x+y:=⟨_,rfl⟩
 have hfin:((fv c1):Value)=(fv (x+y)):=by
  subst_vars;rfl
 rw [← hfin]
 go_enter Tryz.func172,Tryz.ntmps172
 refine RG.M.enter [(0,(.v (fv x))),(1,(.v (fv y)))] 9 (by kernel_rfl) ?_
 intro a0 M0
 repeat refine wp_seq ?_
 refine M0.tx F114_0 [(0,(ws x)),(1,(ws y)),(2,(RG.z 4))] [] [(ws x),(ws y),(RG.z 4)] [(2,(.p 0 0)),(3,(.p 1 0)),(4,(.p 2 0))] (by kernel_rfl) (by kernel_rfl) ⟨RG.mk 0 185 fun _ _=>by kernel_rfl,RG.mk 1 185 fun _ _=>by kernel_rfl,RG.mk 2 185 fun _ _=>by kernel_rfl,trivial⟩ ?_
 intro j1 i1 m1 a1 w1 M1
 repeat refine wp_seq ?_
 refine M1.dr (by kernel_rfl) (F114_1 x y c1) [] [(2,4,(ws c1))] [(ws x),(ws y),(ws c1)] [(4,(.p 2 0))] (by kernel_rfl) (by kernel_rfl) ⟨RG.cl (Coordinates_c) fun _ _=>by kernel_rfl,RG.ld u115 i115 (by kernel_rfl),RG.ld u115 i115 (by kernel_rfl),RG.cl ((sum_c C x y).e hc1) fun _ _=>by kernel_rfl,RG.pt i115 (by kernel_rfl),trivial⟩ ?_
 intro a2 w2 M2
 refine wp_ret ?_
 refine bodyPost_ret (v:=(fv c1)) (RG.results_row M2.st 4 185 rfl 2 _ rfl (M2.at (s:=(.p 2 0)) (by kernel_rfl)) u115 i115) M2.sl.defers ?_
 exact ⟨_,rfl,M2.st.bel.below,rfl⟩
def F104_0:List RG.It:=[.m 2 [] 0,.m 3 [] 1,.m 4 [] 2]
def F104_1 (x y c1:Fin P):List RG.It:=[.c 5 [] gv0,.x 6 [] (fv x),.x 7 [] (fv y),.c 8 [(5,0),(6,1),(7,2)] (fv c1),.u [(8,3)] 2]
set_option maxHeartbeats 2000000 in
set_option maxRecDepth 100000 in
theorem CMinus_c (C:Fld P) (x y:Fin P):Gives 173 #[(fv x),(fv y)] (fv (x - y)):=by
 intro w
 obtain ⟨c1,hc1⟩:∃ c,c=x - y:=⟨_,rfl⟩
 have hfin:((fv c1):Value)=(fv (x - y)):=by
  subst_vars;rfl
 rw [← hfin]
 go_enter Tryz.func173,Tryz.ntmps173
 refine RG.M.enter [(0,(.v (fv x))),(1,(.v (fv y)))] 9 (by kernel_rfl) ?_
 intro a0 M0
 repeat refine wp_seq ?_
 refine M0.tx F104_0 [(0,(ws x)),(1,(ws y)),(2,(RG.z 4))] [] [(ws x),(ws y),(RG.z 4)] [(2,(.p 0 0)),(3,(.p 1 0)),(4,(.p 2 0))] (by kernel_rfl) (by kernel_rfl) ⟨RG.mk 0 185 fun _ _=>by kernel_rfl,RG.mk 1 185 fun _ _=>by kernel_rfl,RG.mk 2 185 fun _ _=>by kernel_rfl,trivial⟩ ?_
 intro j1 i1 m1 a1 w1 M1
 repeat refine wp_seq ?_
 refine M1.dr (by kernel_rfl) (F104_1 x y c1) [] [(2,4,(ws c1))] [(ws x),(ws y),(ws c1)] [(4,(.p 2 0))] (by kernel_rfl) (by kernel_rfl) ⟨RG.cl (Coordinates_c) fun _ _=>by kernel_rfl,RG.ld u115 i115 (by kernel_rfl),RG.ld u115 i115 (by kernel_rfl),RG.cl ((difference_c C x y).e hc1) fun _ _=>by kernel_rfl,RG.pt i115 (by kernel_rfl),trivial⟩ ?_
 intro a2 w2 M2
 refine wp_ret ?_
 refine bodyPost_ret (v:=(fv c1)) (RG.results_row M2.st 4 185 rfl 2 _ rfl (M2.at (s:=(.p 2 0)) (by kernel_rfl)) u115 i115) M2.sl.defers ?_
 exact ⟨_,rfl,M2.st.bel.below,rfl⟩
def F100_0:List RG.It:=[.m 1 [] 0,.m 2 [] 1]
def F100_1 (x:Fin P):List RG.It:=[.x 3 [] (fv x),.c 4 [(3,0)] (fv x),.u [(4,1)] 1]
set_option maxHeartbeats 2000000 in
set_option maxRecDepth 100000 in
theorem Coord_c (C:Fld P) (x:Fin P):Gives 178 #[(fv x)] (fv x):=by
 intro w
 go_enter Tryz.func178,Tryz.ntmps178
 refine RG.M.enter [(0,(.v (fv x)))] 5 (by kernel_rfl) ?_
 intro a0 M0
 repeat refine wp_seq ?_
 refine M0.tx F100_0 [(0,(ws x)),(1,(RG.z 4))] [] [(ws x),(RG.z 4)] [(1,(.p 0 0)),(2,(.p 1 0))] (by kernel_rfl) (by kernel_rfl) ⟨RG.mk 0 55 fun _ _=>by kernel_rfl,RG.mk 1 185 fun _ _=>by kernel_rfl,trivial⟩ ?_
 intro j1 i1 a1 w1 M1
 repeat refine wp_seq ?_
 refine M1.tx (F100_1 x) [] [(1,2,(ws x))] [(ws x),(ws x)] [(2,(.p 1 0))] (by kernel_rfl) (by kernel_rfl) ⟨RG.ld u85 i85 (by kernel_rfl),RG.cl (four_c C x) fun _ _=>by kernel_rfl,RG.pt i115 (by kernel_rfl),trivial⟩ ?_
 intro a2 w2 M2
 refine wp_ret ?_
 refine bodyPost_ret (v:=(fv x)) (RG.results_row M2.st 2 185 rfl 1 _ rfl (M2.at (s:=(.p 1 0)) (by kernel_rfl)) u115 i115) M2.sl.defers ?_
 exact ⟨_,rfl,M2.st.bel.below,rfl⟩
def F106_0:List RG.It:=[.m 1 [] 0,.m 2 [] 1]
def F106_1 (x:Fin P):List RG.It:=[.x 3 [] (fv x),.c 4 [(3,0)] (fv x),.u [(4,1)] 1]
set_option maxHeartbeats 2000000 in
set_option maxRecDepth 100000 in
theorem Numb_c (C:Fld P) (x:Fin P):Gives 177 #[(fv x)] (fv x):=by
 intro w
 go_enter Tryz.func177,Tryz.ntmps177
 refine RG.M.enter [(0,(.v (fv x)))] 5 (by kernel_rfl) ?_
 intro a0 M0
 repeat refine wp_seq ?_
 refine M0.tx F106_0 [(0,(ws x)),(1,(RG.z 4))] [] [(ws x),(RG.z 4)] [(1,(.p 0 0)),(2,(.p 1 0))] (by kernel_rfl) (by kernel_rfl) ⟨RG.mk 0 185 fun _ _=>by kernel_rfl,RG.mk 1 55 fun _ _=>by kernel_rfl,trivial⟩ ?_
 intro j1 i1 a1 w1 M1
 repeat refine wp_seq ?_
 refine M1.tx (F106_1 x) [] [(1,2,(ws x))] [(ws x),(ws x)] [(2,(.p 1 0))] (by kernel_rfl) (by kernel_rfl) ⟨RG.ld u115 i115 (by kernel_rfl),RG.cl (number_c C x) fun _ _=>by kernel_rfl,RG.pt i85 (by kernel_rfl),trivial⟩ ?_
 intro a2 w2 M2
 refine wp_ret ?_
 refine bodyPost_ret (v:=(fv x)) (RG.results_row M2.st 2 55 rfl 1 _ rfl (M2.at (s:=(.p 1 0)) (by kernel_rfl)) u85 i85) M2.sl.defers ?_
 exact ⟨_,rfl,M2.st.bel.below,rfl⟩
def F105_0:List RG.It:=[.m 1 [] 0,.m 2 [] 1]
def F105_1 (x c1:Fin P):List RG.It:=[.x 3 [] (fv x),.x 4 [] (fv x),.c 5 [(3,0),(4,1)] (fv c1),.u [(5,2)] 1]
set_option maxHeartbeats 2000000 in
set_option maxRecDepth 100000 in
theorem double_c (C:Fld P) (x:Fin P):Gives 171 #[(fv x)] (fv (EC.dbl x)):=by
 intro w
 obtain ⟨c1,hc1⟩:∃ c,c=x+x:=⟨_,rfl⟩
 have hfin:((fv c1):Value)=(fv (EC.dbl x)):=by
  subst_vars;rfl
 rw [← hfin]
 go_enter Tryz.func171,Tryz.ntmps171
 refine RG.M.enter [(0,(.v (fv x)))] 6 (by kernel_rfl) ?_
 intro a0 M0
 repeat refine wp_seq ?_
 refine M0.tx F105_0 [(0,(ws x)),(1,(RG.z 4))] [] [(ws x),(RG.z 4)] [(1,(.p 0 0)),(2,(.p 1 0))] (by kernel_rfl) (by kernel_rfl) ⟨RG.mk 0 185 fun _ _=>by kernel_rfl,RG.mk 1 185 fun _ _=>by kernel_rfl,trivial⟩ ?_
 intro j1 i1 a1 w1 M1
 repeat refine wp_seq ?_
 refine M1.tx (F105_1 x c1) [] [(1,3,(ws c1))] [(ws x),(ws c1)] [(2,(.p 1 0))] (by kernel_rfl) (by kernel_rfl) ⟨RG.ld u115 i115 (by kernel_rfl),RG.ld u115 i115 (by kernel_rfl),RG.cl ((CPlus_c C x x).e hc1) fun _ _=>by kernel_rfl,RG.pt i115 (by kernel_rfl),trivial⟩ ?_
 intro a2 w2 M2
 refine wp_ret ?_
 refine bodyPost_ret (v:=(fv c1)) (RG.results_row M2.st 2 185 rfl 1 _ rfl (M2.at (s:=(.p 1 0)) (by kernel_rfl)) u115 i115) M2.sl.defers ?_
 exact ⟨_,rfl,M2.st.bel.below,rfl⟩
end Go.Proofs.YtmkllfekhehagagGreat
namespace Go.Proofs.YtmkllfekhehagagGreat
open Go.RowKit Go.Sort
variable {P:Nat} [NeZero P]
def F103_0:List RG.It:=[.m 1 [] 0,.m 2 [] 1]
def F103_1 (x y c1 c2:Fin P):List RG.It:=[.s 9 [] (.p 0 0),.x 10 [(9,0)] (fv x),.s 11 [] (.p 0 0),.x 12 [(11,2)] (fv x),.c 13 [(10,1),(12,3)] (fv c1),.s 14 [] (.p 0 4),.x 15 [(14,5)] (fv y),.s 16 [] (.p 0 4),.x 17 [(16,7)] (fv y),.c 18 [(15,6),(17,8)] (fv c2),.m 3 [] 2,.m 4 [] 3,.u [(3,10),(13,4)] 2,.u [(4,11),(18,9)] 3]
def F103_2 (x c2 c3 c4 c5:Fin P):List RG.It:=[.s 19 [] (.p 0 0),.x 20 [(19,0)] (fv x),.x 21 [] (fv c2),.c 22 [(20,1),(21,2)] (fv c3),.c 23 [(22,3)] (fv c4),.c 24 [(23,4)] (fv c5),.m 5 [] 4,.u [(5,6),(24,5)] 4]
def F103_3 (x c1 c6 c7:Fin P):List RG.It:=[.x 25 [] (fv c1),.c 26 [(25,0)] (fv c6),.x 27 [] (fv c1),.c 28 [(26,1),(27,2)] (fv c7),.m 6 [] 5,.u [(6,4),(28,3)] 5]
def F103_4 (x c5 c7 c8 c9 c10:Fin P):List RG.It:=[.x 29 [] (fv c7),.x 30 [] (fv c7),.c 31 [(29,0),(30,1)] (fv c8),.x 32 [] (fv c5),.c 33 [(32,3)] (fv c9),.c 34 [(31,2),(33,4)] (fv c10),.m 7 [] 6,.u [(7,6),(34,5)] 6]
def F103_5 (x c2 c5 c7 c10 c11 c12 c13 c14 c15 c16 c17:Fin P):List RG.It:=[.x 35 [] (fv c7),.x 36 [] (fv c5),.x 37 [] (fv c10),.c 38 [(36,1),(37,2)] (fv c11),.c 39 [(35,0),(38,3)] (fv c12),.x 40 [] (fv c2),.x 41 [] (fv c2),.c 42 [(40,5),(41,6)] (fv c13),.c 43 [(42,7)] (fv c14),.c 44 [(43,8)] (fv c15),.c 45 [(44,9)] (fv c16),.c 46 [(39,4),(45,10)] (fv c17),.m 8 [] 7,.u [(8,12),(46,11)] 7]
def F103_6 (x y z c10 c17 c18 c19:Fin P):List RG.It:=[.x 47 [] (fv c10),.x 48 [] (fv c17),.s 49 [] (.p 0 4),.x 50 [(49,2)] (fv y),.s 51 [] (.p 0 8),.x 52 [(51,4)] (fv z),.c 53 [(50,3),(52,5)] (fv c18),.c 54 [(53,6)] (fv c19),.x 55 [(47,0),(48,1),(54,7)] (rv c10 c17 c19),.u [(55,8)] 1]
set_option maxHeartbeats 2000000 in
set_option maxRecDepth 100000 in
theorem twice_c (C:Fld P) (x y z:Fin P):Gives 136 #[(rv x y z)] (rv (EC.twX x y) (EC.twY x y) (EC.twZ y z)):=by
 intro w
 obtain ⟨c1,hc1⟩:∃ c,c=x*x:=⟨_,rfl⟩
 obtain ⟨c2,hc2⟩:∃ c,c=y*y:=⟨_,rfl⟩
 obtain ⟨c3,hc3⟩:∃ c,c=x*c2:=⟨_,rfl⟩
 obtain ⟨c4,hc4⟩:∃ c,c=EC.dbl c3:=⟨_,rfl⟩
 obtain ⟨c5,hc5⟩:∃ c,c=EC.dbl c4:=⟨_,rfl⟩
 obtain ⟨c6,hc6⟩:∃ c,c=EC.dbl c1:=⟨_,rfl⟩
 obtain ⟨c7,hc7⟩:∃ c,c=c6+c1:=⟨_,rfl⟩
 obtain ⟨c8,hc8⟩:∃ c,c=c7*c7:=⟨_,rfl⟩
 obtain ⟨c9,hc9⟩:∃ c,c=EC.dbl c5:=⟨_,rfl⟩
 obtain ⟨c10,hc10⟩:∃ c,c=c8 - c9:=⟨_,rfl⟩
 obtain ⟨c11,hc11⟩:∃ c,c=c5 - c10:=⟨_,rfl⟩
 obtain ⟨c12,hc12⟩:∃ c,c=c7*c11:=⟨_,rfl⟩
 obtain ⟨c13,hc13⟩:∃ c,c=c2*c2:=⟨_,rfl⟩
 obtain ⟨c14,hc14⟩:∃ c,c=EC.dbl c13:=⟨_,rfl⟩
 obtain ⟨c15,hc15⟩:∃ c,c=EC.dbl c14:=⟨_,rfl⟩
 obtain ⟨c16,hc16⟩:∃ c,c=EC.dbl c15:=⟨_,rfl⟩
 obtain ⟨c17,hc17⟩:∃ c,c=c12 - c16:=⟨_,rfl⟩
 obtain ⟨c18,hc18⟩:∃ c,c=y*z:=⟨_,rfl⟩
 obtain ⟨c19,hc19⟩:∃ c,c=EC.dbl c18:=⟨_,rfl⟩
 have hfin:((rv c10 c17 c19):Value)=(rv (EC.twX x y) (EC.twY x y) (EC.twZ y z)):=by
  subst_vars;rfl
 rw [← hfin]
 go_enter Tryz.func136,Tryz.ntmps136
 refine RG.M.enter [(0,(.v (rv x y z)))] 56 (by kernel_rfl) ?_
 intro a0 M0
 repeat refine wp_seq ?_
 refine M0.tx F103_0 [(0,(ws x++(ws y++(ws z)))),(1,(RG.z 12))] [] [(ws x++(ws y++(ws z))),(RG.z 12)] [(1,(.p 0 0)),(2,(.p 1 0))] (by kernel_rfl) (by kernel_rfl) ⟨RG.mk 0 187 fun _ _=>by kernel_rfl,RG.mk 1 187 fun _ _=>by kernel_rfl,trivial⟩ ?_
 intro j1 i1 a1 w1 M1
 repeat refine wp_seq ?_
 refine M1.dr (by kernel_rfl) (F103_1 x y c1 c2) [(10,(RG.z 4)),(11,(RG.z 4))] [(2,12,(ws c1)),(3,13,(ws c2))] [(ws x++(ws y++(ws z))),(RG.z 12),(ws c1),(ws c2)] [(1,(.p 0 0)),(2,(.p 1 0)),(3,(.p 2 0)),(4,(.p 3 0))] (by kernel_rfl) (by kernel_rfl) ⟨RG.st fun _ _=>by kernel_rfl,RG.ld u115 i115 (by kernel_rfl),RG.st fun _ _=>by kernel_rfl,RG.ld u115 i115 (by kernel_rfl),RG.cl ((CTimes_c C x x).e hc1) fun _ _=>by kernel_rfl,RG.st fun _ _=>by kernel_rfl,RG.ld u115 i115 (by kernel_rfl),RG.st fun _ _=>by kernel_rfl,RG.ld u115 i115 (by kernel_rfl),RG.cl ((CTimes_c C y y).e hc2) fun _ _=>by kernel_rfl,RG.mk 2 185 fun _ _=>by kernel_rfl,RG.mk 3 185 fun _ _=>by kernel_rfl,RG.pt i115 (by kernel_rfl),RG.pt i115 (by kernel_rfl),trivial⟩ ?_
 intro j2 i2 a2 w2 M2
 repeat refine wp_seq ?_
 refine M2.tx (F103_2 x c2 c3 c4 c5) [(6,(RG.z 4))] [(4,7,(ws c5))] [(ws x++(ws y++(ws z))),(RG.z 12),(ws c1),(ws c2),(ws c5)] [(1,(.p 0 0)),(2,(.p 1 0)),(3,(.p 2 0)),(4,(.p 3 0)),(5,(.p 4 0))] (by kernel_rfl) (by kernel_rfl) ⟨RG.st fun _ _=>by kernel_rfl,RG.ld u115 i115 (by kernel_rfl),RG.ld u115 i115 (by kernel_rfl),RG.cl ((CTimes_c C x c2).e hc3) fun _ _=>by kernel_rfl,RG.cl ((double_c C c3).e hc4) fun _ _=>by kernel_rfl,RG.cl ((double_c C c4).e hc5) fun _ _=>by kernel_rfl,RG.mk 4 185 fun _ _=>by kernel_rfl,RG.pt i115 (by kernel_rfl),trivial⟩ ?_
 intro j3 a3 w3 M3
 repeat refine wp_seq ?_
 refine M3.dr (by kernel_rfl) (F103_3 x c1 c6 c7) [(4,(RG.z 4))] [(5,5,(ws c7))] [(ws x++(ws y++(ws z))),(RG.z 12),(ws c1),(ws c2),(ws c5),(ws c7)] [(1,(.p 0 0)),(2,(.p 1 0)),(4,(.p 3 0)),(5,(.p 4 0)),(6,(.p 5 0))] (by kernel_rfl) (by kernel_rfl) ⟨RG.ld u115 i115 (by kernel_rfl),RG.cl ((double_c C c1).e hc6) fun _ _=>by kernel_rfl,RG.ld u115 i115 (by kernel_rfl),RG.cl ((CPlus_c C c6 c1).e hc7) fun _ _=>by kernel_rfl,RG.mk 5 185 fun _ _=>by kernel_rfl,RG.pt i115 (by kernel_rfl),trivial⟩ ?_
 intro j4 a4 w4 M4
 repeat refine wp_seq ?_
 refine M4.dr (by kernel_rfl) (F103_4 x c5 c7 c8 c9 c10) [(6,(RG.z 4))] [(6,7,(ws c10))] [(ws x++(ws y++(ws z))),(RG.z 12),(ws c1),(ws c2),(ws c5),(ws c7),(ws c10)] [(1,(.p 0 0)),(2,(.p 1 0)),(4,(.p 3 0)),(5,(.p 4 0)),(6,(.p 5 0)),(7,(.p 6 0))] (by kernel_rfl) (by kernel_rfl) ⟨RG.ld u115 i115 (by kernel_rfl),RG.ld u115 i115 (by kernel_rfl),RG.cl ((CTimes_c C c7 c7).e hc8) fun _ _=>by kernel_rfl,RG.ld u115 i115 (by kernel_rfl),RG.cl ((double_c C c5).e hc9) fun _ _=>by kernel_rfl,RG.cl ((CMinus_c C c8 c9).e hc10) fun _ _=>by kernel_rfl,RG.mk 6 185 fun _ _=>by kernel_rfl,RG.pt i115 (by kernel_rfl),trivial⟩ ?_
 intro j5 a5 w5 M5
 repeat refine wp_seq ?_
 refine M5.dr (by kernel_rfl) (F103_5 x c2 c5 c7 c10 c11 c12 c13 c14 c15 c16 c17) [(12,(RG.z 4))] [(7,13,(ws c17))] [(ws x++(ws y++(ws z))),(RG.z 12),(ws c1),(ws c2),(ws c5),(ws c7),(ws c10),(ws c17)] [(1,(.p 0 0)),(2,(.p 1 0)),(7,(.p 6 0)),(8,(.p 7 0))] (by kernel_rfl) (by kernel_rfl) ⟨RG.ld u115 i115 (by kernel_rfl),RG.ld u115 i115 (by kernel_rfl),RG.ld u115 i115 (by kernel_rfl),RG.cl ((CMinus_c C c5 c10).e hc11) fun _ _=>by kernel_rfl,RG.cl ((CTimes_c C c7 c11).e hc12) fun _ _=>by kernel_rfl,RG.ld u115 i115 (by kernel_rfl),RG.ld u115 i115 (by kernel_rfl),RG.cl ((CTimes_c C c2 c2).e hc13) fun _ _=>by kernel_rfl,RG.cl ((double_c C c13).e hc14) fun _ _=>by kernel_rfl,RG.cl ((double_c C c14).e hc15) fun _ _=>by kernel_rfl,RG.cl ((double_c C c15).e hc16) fun _ _=>by kernel_rfl,RG.cl ((CMinus_c C c12 c16).e hc17) fun _ _=>by kernel_rfl,RG.mk 7 185 fun _ _=>by kernel_rfl,RG.pt i115 (by kernel_rfl),trivial⟩ ?_
 intro j6 a6 w6 M6
 repeat refine wp_seq ?_
 refine M6.dr (by kernel_rfl) (F103_6 x y z c10 c17 c18 c19) [] [(1,9,(ws c10++(ws c17++(ws c19))))] [(ws x++(ws y++(ws z))),(ws c10++(ws c17++(ws c19))),(ws c1),(ws c2),(ws c5),(ws c7),(ws c10),(ws c17)] [(2,(.p 1 0))] (by kernel_rfl) (by kernel_rfl) ⟨RG.ld u115 i115 (by kernel_rfl),RG.ld u115 i115 (by kernel_rfl),RG.st fun _ _=>by kernel_rfl,RG.ld u115 i115 (by kernel_rfl),RG.st fun _ _=>by kernel_rfl,RG.ld u115 i115 (by kernel_rfl),RG.cl ((CTimes_c C y z).e hc18) fun _ _=>by kernel_rfl,RG.cl ((double_c C c18).e hc19) fun _ _=>by kernel_rfl,RG.st fun _ _=>by kernel_rfl,RG.pt i117 (by kernel_rfl),trivial⟩ ?_
 intro a7 w7 M7
 refine wp_ret ?_
 refine bodyPost_ret (v:=(rv c10 c17 c19)) (RG.results_row M7.st 2 187 rfl 1 _ rfl (M7.at (s:=(.p 1 0)) (by kernel_rfl)) u117 i117) M7.sl.defers ?_
 exact ⟨_,rfl,M7.st.bel.below,rfl⟩
def F116_0:List RG.It:=[.m 1 [] 0,.m 2 [] 1]
def F116_1 (x y z c1:Fin P):List RG.It:=[.s 3 [] (.p 0 0),.x 4 [(3,0)] (fv x),.x 5 [] (fv (0:Fin P)),.s 6 [] (.p 0 4),.x 7 [(6,3)] (fv y),.c 8 [(5,2),(7,4)] (fv c1),.s 9 [] (.p 0 8),.x 10 [(9,6)] (fv z),.x 11 [(4,1),(8,5),(10,7)] (rv x c1 z),.u [(11,8)] 1]
set_option maxHeartbeats 2000000 in
set_option maxRecDepth 100000 in
theorem opposite_c (C:Fld P) (x y z:Fin P):Gives 175 #[(rv x y z)] (rv x (0 - y) z):=by
 intro w
 obtain ⟨c1,hc1⟩:∃ c,c=(0:Fin P) - y:=⟨_,rfl⟩
 have hfin:((rv x c1 z):Value)=(rv x (0 - y) z):=by
  subst_vars;rfl
 rw [← hfin]
 go_enter Tryz.func175,Tryz.ntmps175
 refine RG.M.enter [(0,(.v (rv x y z)))] 12 (by kernel_rfl) ?_
 intro a0 M0
 repeat refine wp_seq ?_
 refine M0.tx F116_0 [(0,(ws x++(ws y++(ws z)))),(1,(RG.z 12))] [] [(ws x++(ws y++(ws z))),(RG.z 12)] [(1,(.p 0 0)),(2,(.p 1 0))] (by kernel_rfl) (by kernel_rfl) ⟨RG.mk 0 187 fun _ _=>by kernel_rfl,RG.mk 1 187 fun _ _=>by kernel_rfl,trivial⟩ ?_
 intro j1 i1 a1 w1 M1
 repeat refine wp_seq ?_
 refine M1.dr (by kernel_rfl) (F116_1 x y z c1) [] [(1,9,(ws x++(ws c1++(ws z))))] [(ws x++(ws y++(ws z))),(ws x++(ws c1++(ws z)))] [(2,(.p 1 0))] (by kernel_rfl) (by kernel_rfl) ⟨RG.st fun _ _=>by kernel_rfl,RG.ld u115 i115 (by kernel_rfl),RG.se (zero_fv (P:=P)) fun _ _=>by kernel_rfl,RG.st fun _ _=>by kernel_rfl,RG.ld u115 i115 (by kernel_rfl),RG.cl ((CMinus_c C (0:Fin P) y).e hc1) fun _ _=>by kernel_rfl,RG.st fun _ _=>by kernel_rfl,RG.ld u115 i115 (by kernel_rfl),RG.st fun _ _=>by kernel_rfl,RG.pt i117 (by kernel_rfl),trivial⟩ ?_
 intro a2 w2 M2
 refine wp_ret ?_
 refine bodyPost_ret (v:=(rv x c1 z)) (RG.results_row M2.st 2 187 rfl 1 _ rfl (M2.at (s:=(.p 1 0)) (by kernel_rfl)) u117 i117) M2.sl.defers ?_
 exact ⟨_,rfl,M2.st.bel.below,rfl⟩
def F75_0:List RG.It:=[.m 1 [] 0,.m 2 [] 1]
def F75_1 (x z c1:Fin P):List RG.It:=[.c 5 [] gv0,.s 6 [] (.p 0 8),.x 7 [(6,1)] (fv z),.c 8 [(7,2)] (fv z),.c 9 [(5,0),(8,3)] (fv c1),.c 10 [(9,4)] (fv c1),.m 3 [] 2,.u [(3,6),(10,5)] 2]
def F75_2 (x c1 c2:Fin P):List RG.It:=[.x 11 [] (fv c1),.x 12 [] (fv c1),.c 13 [(11,0),(12,1)] (fv c2),.m 4 [] 3,.u [(4,3),(13,2)] 3]
def F75_3 (x y c1 c2 c3 c4 c5:Fin P):List RG.It:=[.s 14 [] (.p 0 0),.x 15 [(14,0)] (fv x),.x 16 [] (fv c2),.c 17 [(15,1),(16,2)] (fv c3),.c 18 [(17,3)] (fv c3),.s 19 [] (.p 0 4),.x 20 [(19,5)] (fv y),.x 21 [] (fv c2),.c 22 [(20,6),(21,7)] (fv c4),.x 23 [] (fv c1),.c 24 [(22,8),(23,9)] (fv c5),.c 25 [(24,10)] (fv c5),.x 26 [(18,4),(25,11)] (pv c3 c5),.u [(26,12)] 1]
set_option maxHeartbeats 2000000 in
set_option maxRecDepth 100000 in
theorem point_c (C:Fld P) (x y z:Fin P):Gives 139 #[(rv x y z)] (pv (x*(EC.inv z*EC.inv z)) (y*(EC.inv z*EC.inv z)*EC.inv z)):=by
 intro w
 obtain ⟨c1,hc1⟩:∃ c,c=EC.inv z:=⟨_,rfl⟩
 obtain ⟨c2,hc2⟩:∃ c,c=c1*c1:=⟨_,rfl⟩
 obtain ⟨c3,hc3⟩:∃ c,c=x*c2:=⟨_,rfl⟩
 obtain ⟨c4,hc4⟩:∃ c,c=y*c2:=⟨_,rfl⟩
 obtain ⟨c5,hc5⟩:∃ c,c=c4*c1:=⟨_,rfl⟩
 have hfin:((pv c3 c5):Value)=(pv (x*(EC.inv z*EC.inv z)) (y*(EC.inv z*EC.inv z)*EC.inv z)):=by
  subst_vars;rfl
 rw [← hfin]
 go_enter Tryz.func139,Tryz.ntmps139
 refine RG.M.enter [(0,(.v (rv x y z)))] 27 (by kernel_rfl) ?_
 intro a0 M0
 repeat refine wp_seq ?_
 refine M0.tx F75_0 [(0,(ws x++(ws y++(ws z)))),(1,(RG.z 8))] [] [(ws x++(ws y++(ws z))),(RG.z 8)] [(1,(.p 0 0)),(2,(.p 1 0))] (by kernel_rfl) (by kernel_rfl) ⟨RG.mk 0 187 fun _ _=>by kernel_rfl,RG.mk 1 57 fun _ _=>by kernel_rfl,trivial⟩ ?_
 intro j1 i1 a1 w1 M1
 repeat refine wp_seq ?_
 refine M1.dr (by kernel_rfl) (F75_1 x z c1) [(6,(RG.z 4))] [(2,7,(ws c1))] [(ws x++(ws y++(ws z))),(RG.z 8),(ws c1)] [(1,(.p 0 0)),(2,(.p 1 0)),(3,(.p 2 0))] (by kernel_rfl) (by kernel_rfl) ⟨RG.cl (Coordinates_c) fun _ _=>by kernel_rfl,RG.st fun _ _=>by kernel_rfl,RG.ld u115 i115 (by kernel_rfl),RG.cl (Numb_c C z) fun _ _=>by kernel_rfl,RG.cl ((Inverse_c C z).e hc1) fun _ _=>by kernel_rfl,RG.cl (Coord_c C c1) fun _ _=>by kernel_rfl,RG.mk 2 185 fun _ _=>by kernel_rfl,RG.pt i115 (by kernel_rfl),trivial⟩ ?_
 intro j2 a2 w2 M2
 repeat refine wp_seq ?_
 refine M2.tx (F75_2 x c1 c2) [(3,(RG.z 4))] [(3,4,(ws c2))] [(ws x++(ws y++(ws z))),(RG.z 8),(ws c1),(ws c2)] [(1,(.p 0 0)),(2,(.p 1 0)),(3,(.p 2 0)),(4,(.p 3 0))] (by kernel_rfl) (by kernel_rfl) ⟨RG.ld u115 i115 (by kernel_rfl),RG.ld u115 i115 (by kernel_rfl),RG.cl ((CTimes_c C c1 c1).e hc2) fun _ _=>by kernel_rfl,RG.mk 3 185 fun _ _=>by kernel_rfl,RG.pt i115 (by kernel_rfl),trivial⟩ ?_
 intro j3 a3 w3 M3
 repeat refine wp_seq ?_
 refine M3.dr (by kernel_rfl) (F75_3 x y c1 c2 c3 c4 c5) [] [(1,13,(ws c3++(ws c5)))] [(ws x++(ws y++(ws z))),(ws c3++(ws c5)),(ws c1),(ws c2)] [(2,(.p 1 0))] (by kernel_rfl) (by kernel_rfl) ⟨RG.st fun _ _=>by kernel_rfl,RG.ld u115 i115 (by kernel_rfl),RG.ld u115 i115 (by kernel_rfl),RG.cl ((CTimes_c C x c2).e hc3) fun _ _=>by kernel_rfl,RG.cl (Numb_c C c3) fun _ _=>by kernel_rfl,RG.st fun _ _=>by kernel_rfl,RG.ld u115 i115 (by kernel_rfl),RG.ld u115 i115 (by kernel_rfl),RG.cl ((CTimes_c C y c2).e hc4) fun _ _=>by kernel_rfl,RG.ld u115 i115 (by kernel_rfl),RG.cl ((CTimes_c C c4 c1).e hc5) fun _ _=>by kernel_rfl,RG.cl (Numb_c C c5) fun _ _=>by kernel_rfl,RG.st fun _ _=>by kernel_rfl,RG.pt i109 (by kernel_rfl),trivial⟩ ?_
 intro a4 w4 M4
 refine wp_ret ?_
 refine bodyPost_ret (v:=(pv c3 c5)) (RG.results_row M4.st 2 57 rfl 1 _ rfl (M4.at (s:=(.p 1 0)) (by kernel_rfl)) u109 i109) M4.sl.defers ?_
 exact ⟨_,rfl,M4.st.bel.below,rfl⟩
end Go.Proofs.YtmkllfekhehagagGreat
namespace Go.Proofs.YtmkllfekhehagagGreat
open Go.RowKit Go.Sort
variable {P:Nat} [NeZero P]
def F101t_0 (x:Fin P):List RG.It:=[.m 1 [] 0,.x 2 [] (.bool false)]
def F101t_1 (x z:Fin P):List RG.It:=[.s 3 [] (.p 0 8),.x 4 [(3,0)] (fv z),.x 5 [] (fv (0:Fin P)),.x 6 [(4,1),(5,2)] (.bool true),.x 2 [(6,3)] (.bool true)]
set_option maxHeartbeats 2000000 in
set_option maxRecDepth 100000 in
theorem nothing_t_c (C:Fld P) (x y z:Fin P)(hz:z=0) :Gives 174 #[(rv x y z)] (.bool true):=by
 intro w
 go_enter Tryz.func174,Tryz.ntmps174
 refine RG.M.enter [(0,(.v (rv x y z)))] 7 (by kernel_rfl) ?_
 intro a0 M0
 repeat refine wp_seq ?_
 refine M0.tx (F101t_0 x) [(0,(ws x++(ws y++(ws z))))] [] [(ws x++(ws y++(ws z)))] [(1,(.p 0 0)),(2,(.v (.bool false)))] (by kernel_rfl) (by kernel_rfl) ⟨RG.mk 0 187 fun _ _=>by kernel_rfl,RG.st fun _ _=>by kernel_rfl,trivial⟩ ?_
 intro j1 a1 w1 M1
 repeat refine wp_seq ?_
 refine M1.tx0 (F101t_1 x z) [(2,(.v (.bool true)))] (by kernel_rfl) ⟨RG.st fun _ _=>by kernel_rfl,RG.ld u115 i115 (by kernel_rfl),RG.se (zero_fv (P:=P)) fun _ _=>by kernel_rfl,RG.cert_bin rfl .eql 185 185 4 5 (fv z) (fv (0:Fin P)) (.bool true) rfl rfl (RG.sx fun _=>by kernel_rfl) (RG.sx fun _=>by kernel_rfl) (fun w=>by kernel_rfl) (eqC_t C hz),RG.st fun _ _=>by kernel_rfl,trivial⟩ ?_
 intro a2 w2 M2
 refine wp_ret ?_
 refine bodyPost_ret (v:=(.bool true)) (RG.results_t 2 rfl _ (M2.at (s:=(.v (.bool true))) (by kernel_rfl))) M2.sl.defers ?_
 exact ⟨_,rfl,M2.st.bel.below,rfl⟩
def F101f_0 (x:Fin P):List RG.It:=[.m 1 [] 0,.x 2 [] (.bool false)]
def F101f_1 (x z:Fin P):List RG.It:=[.s 3 [] (.p 0 8),.x 4 [(3,0)] (fv z),.x 5 [] (fv (0:Fin P)),.x 6 [(4,1),(5,2)] (.bool false),.x 2 [(6,3)] (.bool false)]
set_option maxHeartbeats 2000000 in
set_option maxRecDepth 100000 in
theorem nothing_f_c (C:Fld P) (x y z:Fin P)(hz:¬ z=0) :Gives 174 #[(rv x y z)] (.bool false):=by
 intro w
 go_enter Tryz.func174,Tryz.ntmps174
 refine RG.M.enter [(0,(.v (rv x y z)))] 7 (by kernel_rfl) ?_
 intro a0 M0
 repeat refine wp_seq ?_
 refine M0.tx (F101f_0 x) [(0,(ws x++(ws y++(ws z))))] [] [(ws x++(ws y++(ws z)))] [(1,(.p 0 0)),(2,(.v (.bool false)))] (by kernel_rfl) (by kernel_rfl) ⟨RG.mk 0 187 fun _ _=>by kernel_rfl,RG.st fun _ _=>by kernel_rfl,trivial⟩ ?_
 intro j1 a1 w1 M1
 repeat refine wp_seq ?_
 refine M1.tx0 (F101f_1 x z) [(2,(.v (.bool false)))] (by kernel_rfl) ⟨RG.st fun _ _=>by kernel_rfl,RG.ld u115 i115 (by kernel_rfl),RG.se (zero_fv (P:=P)) fun _ _=>by kernel_rfl,RG.cert_bin rfl .eql 185 185 4 5 (fv z) (fv (0:Fin P)) (.bool false) rfl rfl (RG.sx fun _=>by kernel_rfl) (RG.sx fun _=>by kernel_rfl) (fun w=>by kernel_rfl) (eqC_f C hz),RG.st fun _ _=>by kernel_rfl,trivial⟩ ?_
 intro a2 w2 M2
 refine wp_ret ?_
 refine bodyPost_ret (v:=(.bool false)) (RG.results_t 2 rfl _ (M2.at (s:=(.v (.bool false))) (by kernel_rfl))) M2.sl.defers ?_
 exact ⟨_,rfl,M2.st.bel.below,rfl⟩
def F73t_0:List RG.It:=[.m 1 [] 0,.m 2 [] 1]
def F73t_1 (x y:Fin P):List RG.It:=[.x 3 [] (pv x y),.x 4 [] (pv (0:Fin P) (0:Fin P)),.x 5 [(3,0),(4,1)] (.bool true)]
def F73t_2 (x:Fin P):List RG.It:=[.x 6 [] (rv (0:Fin P) (0:Fin P) (0:Fin P)),.u [(6,0)] 1]
set_option maxHeartbeats 2000000 in
set_option maxRecDepth 100000 in
theorem ratio_t_c (C:Fld P) (x y:Fin P)(hz:x=0∧y=0) :Gives 169 #[(pv x y)] (rv (0:Fin P) 0 0):=by
 intro w
 have hfin:((rv (0:Fin P) (0:Fin P) (0:Fin P)):Value)=(rv (0:Fin P) 0 0):=by
  subst_vars;rfl
 rw [← hfin]
 go_enter Tryz.func169,Tryz.ntmps169
 refine RG.M.enter [(0,(.v (pv x y)))] 16 (by kernel_rfl) ?_
 intro a0 M0
 repeat refine wp_seq ?_
 refine M0.tx F73t_0 [(0,(ws x++(ws y))),(1,(RG.z 12))] [] [(ws x++(ws y)),(RG.z 12)] [(1,(.p 0 0)),(2,(.p 1 0))] (by kernel_rfl) (by kernel_rfl) ⟨RG.mk 0 57 fun _ _=>by kernel_rfl,RG.mk 1 187 fun _ _=>by kernel_rfl,trivial⟩ ?_
 intro j1 i1 a1 w1 M1
 repeat refine wp_seq ?_
 refine M1.tx0 (F73t_1 x y) [(2,(.p 1 0)),(5,(.v (.bool true)))] (by kernel_rfl) ⟨RG.ld u109 i109 (by kernel_rfl),RG.se (zero_pv (P:=P)) fun _ _=>by kernel_rfl,RG.cert_bin rfl .eql 57 57 3 4 (pv x y) (pv (0:Fin P) (0:Fin P)) (.bool true) rfl rfl (RG.sx fun _=>by kernel_rfl) (RG.sx fun _=>by kernel_rfl) (fun w=>by kernel_rfl) (eqPt_t C hz),trivial⟩ ?_
 intro a2 w2 M2
 repeat refine wp_seq ?_
 refine wp_cond_true (M2.ev (by kernel_rfl)) ?_
 repeat refine wp_seq ?_
 refine M2.tx (F73t_2 x) [] [(1,1,(ws (0:Fin P)++(ws (0:Fin P)++(ws (0:Fin P)))))] [(ws x++(ws y)),(ws (0:Fin P)++(ws (0:Fin P)++(ws (0:Fin P))))] [(2,(.p 1 0))] (by kernel_rfl) (by kernel_rfl) ⟨RG.se (zero_rv (P:=P)) fun _ _=>by kernel_rfl,RG.pt i117 (by kernel_rfl),trivial⟩ ?_
 intro a3 w3 M3
 refine wp_ret ?_
 refine bodyPost_ret (v:=(rv (0:Fin P) (0:Fin P) (0:Fin P))) (RG.results_row M3.st 2 187 rfl 1 _ rfl (M3.at (s:=(.p 1 0)) (by kernel_rfl)) u117 i117) M3.sl.defers ?_
 exact ⟨_,rfl,M3.st.bel.below,rfl⟩
def F73f_0:List RG.It:=[.m 1 [] 0,.m 2 [] 1]
def F73f_1 (x y:Fin P):List RG.It:=[.x 3 [] (pv x y),.x 4 [] (pv (0:Fin P) (0:Fin P)),.x 5 [(3,0),(4,1)] (.bool false)]
def F73f_3 (x y:Fin P):List RG.It:=[.s 7 [] (.p 0 0),.x 8 [(7,0)] (fv x),.c 9 [(8,1)] (fv x),.s 10 [] (.p 0 4),.x 11 [(10,3)] (fv y),.c 12 [(11,4)] (fv y),.x 13 [] (fv (1:Fin P)),.c 14 [(13,6)] (fv (1:Fin P)),.x 15 [(9,2),(12,5),(14,7)] (rv x y (1:Fin P)),.u [(15,8)] 1]
set_option maxHeartbeats 2000000 in
set_option maxRecDepth 100000 in
theorem ratio_f_c (C:Fld P) (x y:Fin P)(hz:¬ (x=0∧y=0)) :Gives 169 #[(pv x y)] (rv x y 1):=by
 intro w
 have hfin:((rv x y (1:Fin P)):Value)=(rv x y 1):=by
  subst_vars;rfl
 rw [← hfin]
 go_enter Tryz.func169,Tryz.ntmps169
 refine RG.M.enter [(0,(.v (pv x y)))] 16 (by kernel_rfl) ?_
 intro a0 M0
 repeat refine wp_seq ?_
 refine M0.tx F73f_0 [(0,(ws x++(ws y))),(1,(RG.z 12))] [] [(ws x++(ws y)),(RG.z 12)] [(1,(.p 0 0)),(2,(.p 1 0))] (by kernel_rfl) (by kernel_rfl) ⟨RG.mk 0 57 fun _ _=>by kernel_rfl,RG.mk 1 187 fun _ _=>by kernel_rfl,trivial⟩ ?_
 intro j1 i1 a1 w1 M1
 repeat refine wp_seq ?_
 refine M1.tx0 (F73f_1 x y) [(1,(.p 0 0)),(2,(.p 1 0)),(5,(.v (.bool false)))] (by kernel_rfl) ⟨RG.ld u109 i109 (by kernel_rfl),RG.se (zero_pv (P:=P)) fun _ _=>by kernel_rfl,RG.cert_bin rfl .eql 57 57 3 4 (pv x y) (pv (0:Fin P) (0:Fin P)) (.bool false) rfl rfl (RG.sx fun _=>by kernel_rfl) (RG.sx fun _=>by kernel_rfl) (fun w=>by kernel_rfl) (eqPt_f C hz),trivial⟩ ?_
 intro a2 w2 M2
 repeat refine wp_seq ?_
 refine wp_cond_false (M2.ev (by kernel_rfl)) ?_
 refine wp_skip ?_
 repeat refine wp_seq ?_
 refine M2.dr (by kernel_rfl) (F73f_3 x y) [] [(1,9,(ws x++(ws y++(ws (1:Fin P)))))] [(ws x++(ws y)),(ws x++(ws y++(ws (1:Fin P))))] [(2,(.p 1 0))] (by kernel_rfl) (by kernel_rfl) ⟨RG.st fun _ _=>by kernel_rfl,RG.ld u85 i85 (by kernel_rfl),RG.cl (Coord_c C x) fun _ _=>by kernel_rfl,RG.st fun _ _=>by kernel_rfl,RG.ld u85 i85 (by kernel_rfl),RG.cl (Coord_c C y) fun _ _=>by kernel_rfl,RG.se (one_fv C) fun _ _=>by kernel_rfl,RG.cl (Coord_c C (1:Fin P)) fun _ _=>by kernel_rfl,RG.st fun _ _=>by kernel_rfl,RG.pt i117 (by kernel_rfl),trivial⟩ ?_
 intro a3 w3 M3
 refine wp_ret ?_
 refine bodyPost_ret (v:=(rv x y (1:Fin P))) (RG.results_row M3.st 2 187 rfl 1 _ rfl (M3.at (s:=(.p 1 0)) (by kernel_rfl)) u117 i117) M3.sl.defers ?_
 exact ⟨_,rfl,M3.st.bel.below,rfl⟩
def F74a_0:List RG.It:=[.m 2 [] 0,.m 3 [] 1,.m 4 [] 2]
def F74a_1 (x1 y1 z1:Fin P):List RG.It:=[.x 18 [] (rv x1 y1 z1),.c 19 [(18,0)] (.bool true)]
def F74a_2 (x2 y2 z2:Fin P):List RG.It:=[.x 20 [] (rv x2 y2 z2),.u [(20,0)] 2]
set_option maxHeartbeats 2000000 in
set_option maxRecDepth 100000 in
theorem plus_a_c (C:Fld P) (x1 y1 z1 x2 y2 z2:Fin P)(hz1:z1=0) :Gives 137 #[(rv x1 y1 z1),(rv x2 y2 z2)] (rv x2 y2 z2):=by
 intro w
 go_enter Tryz.func137,Tryz.ntmps137
 refine RG.M.enter [(0,(.v (rv x1 y1 z1))),(1,(.v (rv x2 y2 z2)))] 108 (by kernel_rfl) ?_
 intro a0 M0
 repeat refine wp_seq ?_
 refine M0.tx F74a_0 [(0,(ws x1++(ws y1++(ws z1)))),(1,(ws x2++(ws y2++(ws z2)))),(2,(RG.z 12))] [] [(ws x1++(ws y1++(ws z1))),(ws x2++(ws y2++(ws z2))),(RG.z 12)] [(2,(.p 0 0)),(3,(.p 1 0)),(4,(.p 2 0))] (by kernel_rfl) (by kernel_rfl) ⟨RG.mk 0 187 fun _ _=>by kernel_rfl,RG.mk 1 187 fun _ _=>by kernel_rfl,RG.mk 2 187 fun _ _=>by kernel_rfl,trivial⟩ ?_
 intro j1 i1 m1 a1 w1 M1
 repeat refine wp_seq ?_
 refine M1.tx0 (F74a_1 x1 y1 z1) [(3,(.p 1 0)),(4,(.p 2 0)),(19,(.v (.bool true)))] (by kernel_rfl) ⟨RG.ld u117 i117 (by kernel_rfl),RG.cl (nothing_t_c C x1 y1 z1 hz1) fun _ _=>by kernel_rfl,trivial⟩ ?_
 intro a2 w2 M2
 repeat refine wp_seq ?_
 refine wp_cond_true (M2.ev (by kernel_rfl)) ?_
 repeat refine wp_seq ?_
 refine M2.tx (F74a_2 x2 y2 z2) [] [(2,1,(ws x2++(ws y2++(ws z2))))] [(ws x1++(ws y1++(ws z1))),(ws x2++(ws y2++(ws z2))),(ws x2++(ws y2++(ws z2)))] [(4,(.p 2 0))] (by kernel_rfl) (by kernel_rfl) ⟨RG.ld u117 i117 (by kernel_rfl),RG.pt i117 (by kernel_rfl),trivial⟩ ?_
 intro a3 w3 M3
 refine wp_ret ?_
 refine bodyPost_ret (v:=(rv x2 y2 z2)) (RG.results_row M3.st 4 187 rfl 2 _ rfl (M3.at (s:=(.p 2 0)) (by kernel_rfl)) u117 i117) M3.sl.defers ?_
 exact ⟨_,rfl,M3.st.bel.below,rfl⟩
def F74b_0:List RG.It:=[.m 2 [] 0,.m 3 [] 1,.m 4 [] 2]
def F74b_1 (x1 y1 z1:Fin P):List RG.It:=[.x 18 [] (rv x1 y1 z1),.c 19 [(18,0)] (.bool false)]
def F74b_3 (x2 y2 z2:Fin P):List RG.It:=[.x 21 [] (rv x2 y2 z2),.c 22 [(21,0)] (.bool true)]
def F74b_4 (x1 y1 z1:Fin P):List RG.It:=[.x 23 [] (rv x1 y1 z1),.u [(23,0)] 2]
set_option maxHeartbeats 2000000 in
set_option maxRecDepth 100000 in
theorem plus_b_c (C:Fld P) (x1 y1 z1 x2 y2 z2:Fin P)(hz1:¬ z1=0) (hz2:z2=0) :Gives 137 #[(rv x1 y1 z1),(rv x2 y2 z2)] (rv x1 y1 z1):=by
 intro w
 go_enter Tryz.func137,Tryz.ntmps137
 refine RG.M.enter [(0,(.v (rv x1 y1 z1))),(1,(.v (rv x2 y2 z2)))] 108 (by kernel_rfl) ?_
 intro a0 M0
 repeat refine wp_seq ?_
 refine M0.tx F74b_0 [(0,(ws x1++(ws y1++(ws z1)))),(1,(ws x2++(ws y2++(ws z2)))),(2,(RG.z 12))] [] [(ws x1++(ws y1++(ws z1))),(ws x2++(ws y2++(ws z2))),(RG.z 12)] [(2,(.p 0 0)),(3,(.p 1 0)),(4,(.p 2 0))] (by kernel_rfl) (by kernel_rfl) ⟨RG.mk 0 187 fun _ _=>by kernel_rfl,RG.mk 1 187 fun _ _=>by kernel_rfl,RG.mk 2 187 fun _ _=>by kernel_rfl,trivial⟩ ?_
 intro j1 i1 m1 a1 w1 M1
 repeat refine wp_seq ?_
 refine M1.tx0 (F74b_1 x1 y1 z1) [(2,(.p 0 0)),(3,(.p 1 0)),(4,(.p 2 0)),(19,(.v (.bool false)))] (by kernel_rfl) ⟨RG.ld u117 i117 (by kernel_rfl),RG.cl (nothing_f_c C x1 y1 z1 hz1) fun _ _=>by kernel_rfl,trivial⟩ ?_
 intro a2 w2 M2
 repeat refine wp_seq ?_
 refine wp_cond_false (M2.ev (by kernel_rfl)) ?_
 refine wp_skip ?_
 repeat refine wp_seq ?_
 refine M2.tx0 (F74b_3 x2 y2 z2) [(2,(.p 0 0)),(4,(.p 2 0)),(22,(.v (.bool true)))] (by kernel_rfl) ⟨RG.ld u117 i117 (by kernel_rfl),RG.cl (nothing_t_c C x2 y2 z2 hz2) fun _ _=>by kernel_rfl,trivial⟩ ?_
 intro a3 w3 M3
 repeat refine wp_seq ?_
 refine wp_cond_true (M3.ev (by kernel_rfl)) ?_
 repeat refine wp_seq ?_
 refine M3.tx (F74b_4 x1 y1 z1) [] [(2,1,(ws x1++(ws y1++(ws z1))))] [(ws x1++(ws y1++(ws z1))),(ws x2++(ws y2++(ws z2))),(ws x1++(ws y1++(ws z1)))] [(4,(.p 2 0))] (by kernel_rfl) (by kernel_rfl) ⟨RG.ld u117 i117 (by kernel_rfl),RG.pt i117 (by kernel_rfl),trivial⟩ ?_
 intro a4 w4 M4
 refine wp_ret ?_
 refine bodyPost_ret (v:=(rv x1 y1 z1)) (RG.results_row M4.st 4 187 rfl 2 _ rfl (M4.at (s:=(.p 2 0)) (by kernel_rfl)) u117 i117) M4.sl.defers ?_
 exact ⟨_,rfl,M4.st.bel.below,rfl⟩
def F74c_0:List RG.It:=[.m 2 [] 0,.m 3 [] 1,.m 4 [] 2]
def F74c_1 (x1 y1 z1:Fin P):List RG.It:=[.x 18 [] (rv x1 y1 z1),.c 19 [(18,0)] (.bool false)]
def F74c_3 (x2 y2 z2:Fin P):List RG.It:=[.x 21 [] (rv x2 y2 z2),.c 22 [(21,0)] (.bool false)]
def F74c_5 (z1 z2 c1 c2:Fin P):List RG.It:=[.s 24 [] (.p 0 8),.x 25 [(24,0)] (fv z1),.s 26 [] (.p 0 8),.x 27 [(26,2)] (fv z1),.c 28 [(25,1),(27,3)] (fv c1),.s 29 [] (.p 1 8),.x 30 [(29,5)] (fv z2),.s 31 [] (.p 1 8),.x 32 [(31,7)] (fv z2),.c 33 [(30,6),(32,8)] (fv c2),.m 5 [] 3,.m 6 [] 4,.u [(5,10),(28,4)] 3,.u [(6,11),(33,9)] 4]
def F74c_6 (x1 x2 c1 c2 c3 c4:Fin P):List RG.It:=[.s 34 [] (.p 0 0),.x 35 [(34,0)] (fv x1),.x 36 [] (fv c2),.c 37 [(35,1),(36,2)] (fv c3),.s 38 [] (.p 1 0),.x 39 [(38,4)] (fv x2),.x 40 [] (fv c1),.c 41 [(39,5),(40,6)] (fv c4),.m 7 [] 5,.m 8 [] 6,.u [(7,8),(37,3)] 5,.u [(8,9),(41,7)] 6]
def F74c_7 (y1 z1 y2 z2 c1 c2 c5 c6 c7 c8:Fin P):List RG.It:=[.s 42 [] (.p 0 4),.x 43 [(42,0)] (fv y1),.x 44 [] (fv c2),.c 45 [(43,1),(44,2)] (fv c5),.s 46 [] (.p 1 8),.x 47 [(46,4)] (fv z2),.c 48 [(45,3),(47,5)] (fv c6),.s 49 [] (.p 1 4),.x 50 [(49,7)] (fv y2),.x 51 [] (fv c1),.c 52 [(50,8),(51,9)] (fv c7),.s 53 [] (.p 0 8),.x 54 [(53,11)] (fv z1),.c 55 [(52,10),(54,12)] (fv c8),.m 9 [] 7,.m 10 [] 8,.u [(9,14),(48,6)] 7,.u [(10,15),(55,13)] 8]
def F74c_8 (c3 c4 c6 c8:Fin P):List RG.It:=[.x 56 [] (fv c3),.x 57 [] (fv c4),.x 58 [(56,0),(57,1)] (.bool true),.x 59 [(58,2)] (.bool true),.x 60 [] (fv c6),.x 61 [] (fv c8),.x 62 [(60,4),(61,5)] (.bool true),.x 63 [(59,3),(62,6)] (.bool true)]
def F74c_9 (x1 y1 z1 c9 c10 c11:Fin P):List RG.It:=[.x 64 [] (rv x1 y1 z1),.c 65 [(64,0)] (rv c9 c10 c11),.u [(65,1)] 2]
set_option maxHeartbeats 2000000 in
set_option maxRecDepth 100000 in
theorem plus_c_c (C:Fld P) (x1 y1 z1 x2 y2 z2:Fin P)(hz1:¬ z1=0) (hz2:¬ z2=0) (hx:EC.plAx x1 z2=EC.plAx x2 z1) (hy:EC.plAy y1 z2=EC.plAy y2 z1) :Gives 137 #[(rv x1 y1 z1),(rv x2 y2 z2)] (rv (EC.twX x1 y1) (EC.twY x1 y1) (EC.twZ y1 z1)):=by
 intro w
 obtain ⟨c1,hc1⟩:∃ c,c=z1*z1:=⟨_,rfl⟩
 obtain ⟨c2,hc2⟩:∃ c,c=z2*z2:=⟨_,rfl⟩
 obtain ⟨c3,hc3⟩:∃ c,c=x1*c2:=⟨_,rfl⟩
 obtain ⟨c4,hc4⟩:∃ c,c=x2*c1:=⟨_,rfl⟩
 obtain ⟨c5,hc5⟩:∃ c,c=y1*c2:=⟨_,rfl⟩
 obtain ⟨c6,hc6⟩:∃ c,c=c5*z2:=⟨_,rfl⟩
 obtain ⟨c7,hc7⟩:∃ c,c=y2*c1:=⟨_,rfl⟩
 obtain ⟨c8,hc8⟩:∃ c,c=c7*z1:=⟨_,rfl⟩
 obtain ⟨c9,hc9⟩:∃ c,c=EC.twX x1 y1:=⟨_,rfl⟩
 obtain ⟨c10,hc10⟩:∃ c,c=EC.twY x1 y1:=⟨_,rfl⟩
 obtain ⟨c11,hc11⟩:∃ c,c=EC.twZ y1 z1:=⟨_,rfl⟩
 have hfin:((rv c9 c10 c11):Value)=(rv (EC.twX x1 y1) (EC.twY x1 y1) (EC.twZ y1 z1)):=by
  subst_vars;rfl
 rw [← hfin]
 go_enter Tryz.func137,Tryz.ntmps137
 refine RG.M.enter [(0,(.v (rv x1 y1 z1))),(1,(.v (rv x2 y2 z2)))] 108 (by kernel_rfl) ?_
 intro a0 M0
 repeat refine wp_seq ?_
 refine M0.tx F74c_0 [(0,(ws x1++(ws y1++(ws z1)))),(1,(ws x2++(ws y2++(ws z2)))),(2,(RG.z 12))] [] [(ws x1++(ws y1++(ws z1))),(ws x2++(ws y2++(ws z2))),(RG.z 12)] [(2,(.p 0 0)),(3,(.p 1 0)),(4,(.p 2 0))] (by kernel_rfl) (by kernel_rfl) ⟨RG.mk 0 187 fun _ _=>by kernel_rfl,RG.mk 1 187 fun _ _=>by kernel_rfl,RG.mk 2 187 fun _ _=>by kernel_rfl,trivial⟩ ?_
 intro j1 i1 m1 a1 w1 M1
 repeat refine wp_seq ?_
 refine M1.tx0 (F74c_1 x1 y1 z1) [(2,(.p 0 0)),(3,(.p 1 0)),(4,(.p 2 0)),(19,(.v (.bool false)))] (by kernel_rfl) ⟨RG.ld u117 i117 (by kernel_rfl),RG.cl (nothing_f_c C x1 y1 z1 hz1) fun _ _=>by kernel_rfl,trivial⟩ ?_
 intro a2 w2 M2
 repeat refine wp_seq ?_
 refine wp_cond_false (M2.ev (by kernel_rfl)) ?_
 refine wp_skip ?_
 repeat refine wp_seq ?_
 refine M2.tx0 (F74c_3 x2 y2 z2) [(2,(.p 0 0)),(3,(.p 1 0)),(4,(.p 2 0)),(22,(.v (.bool false)))] (by kernel_rfl) ⟨RG.ld u117 i117 (by kernel_rfl),RG.cl (nothing_f_c C x2 y2 z2 hz2) fun _ _=>by kernel_rfl,trivial⟩ ?_
 intro a3 w3 M3
 repeat refine wp_seq ?_
 refine wp_cond_false (M3.ev (by kernel_rfl)) ?_
 refine wp_skip ?_
 repeat refine wp_seq ?_
 refine M3.dr (by kernel_rfl) (F74c_5 z1 z2 c1 c2) [(10,(RG.z 4)),(11,(RG.z 4))] [(3,12,(ws c1)),(4,13,(ws c2))] [(ws x1++(ws y1++(ws z1))),(ws x2++(ws y2++(ws z2))),(RG.z 12),(ws c1),(ws c2)] [(2,(.p 0 0)),(3,(.p 1 0)),(4,(.p 2 0)),(5,(.p 3 0)),(6,(.p 4 0))] (by kernel_rfl) (by kernel_rfl) ⟨RG.st fun _ _=>by kernel_rfl,RG.ld u115 i115 (by kernel_rfl),RG.st fun _ _=>by kernel_rfl,RG.ld u115 i115 (by kernel_rfl),RG.cl ((CTimes_c C z1 z1).e hc1) fun _ _=>by kernel_rfl,RG.st fun _ _=>by kernel_rfl,RG.ld u115 i115 (by kernel_rfl),RG.st fun _ _=>by kernel_rfl,RG.ld u115 i115 (by kernel_rfl),RG.cl ((CTimes_c C z2 z2).e hc2) fun _ _=>by kernel_rfl,RG.mk 3 185 fun _ _=>by kernel_rfl,RG.mk 4 185 fun _ _=>by kernel_rfl,RG.pt i115 (by kernel_rfl),RG.pt i115 (by kernel_rfl),trivial⟩ ?_
 intro j4 i4 a4 w4 M4
 repeat refine wp_seq ?_
 refine M4.dr (by kernel_rfl) (F74c_6 x1 x2 c1 c2 c3 c4) [(8,(RG.z 4)),(9,(RG.z 4))] [(5,10,(ws c3)),(6,11,(ws c4))] [(ws x1++(ws y1++(ws z1))),(ws x2++(ws y2++(ws z2))),(RG.z 12),(ws c1),(ws c2),(ws c3),(ws c4)] [(2,(.p 0 0)),(3,(.p 1 0)),(4,(.p 2 0)),(5,(.p 3 0)),(6,(.p 4 0)),(7,(.p 5 0)),(8,(.p 6 0))] (by kernel_rfl) (by kernel_rfl) ⟨RG.st fun _ _=>by kernel_rfl,RG.ld u115 i115 (by kernel_rfl),RG.ld u115 i115 (by kernel_rfl),RG.cl ((CTimes_c C x1 c2).e hc3) fun _ _=>by kernel_rfl,RG.st fun _ _=>by kernel_rfl,RG.ld u115 i115 (by kernel_rfl),RG.ld u115 i115 (by kernel_rfl),RG.cl ((CTimes_c C x2 c1).e hc4) fun _ _=>by kernel_rfl,RG.mk 5 185 fun _ _=>by kernel_rfl,RG.mk 6 185 fun _ _=>by kernel_rfl,RG.pt i115 (by kernel_rfl),RG.pt i115 (by kernel_rfl),trivial⟩ ?_
 intro j5 i5 a5 w5 M5
 repeat refine wp_seq ?_
 refine M5.dr (by kernel_rfl) (F74c_7 y1 z1 y2 z2 c1 c2 c5 c6 c7 c8) [(14,(RG.z 4)),(15,(RG.z 4))] [(7,16,(ws c6)),(8,17,(ws c8))] [(ws x1++(ws y1++(ws z1))),(ws x2++(ws y2++(ws z2))),(RG.z 12),(ws c1),(ws c2),(ws c3),(ws c4),(ws c6),(ws c8)] [(2,(.p 0 0)),(4,(.p 2 0)),(7,(.p 5 0)),(8,(.p 6 0)),(9,(.p 7 0)),(10,(.p 8 0))] (by kernel_rfl) (by kernel_rfl) ⟨RG.st fun _ _=>by kernel_rfl,RG.ld u115 i115 (by kernel_rfl),RG.ld u115 i115 (by kernel_rfl),RG.cl ((CTimes_c C y1 c2).e hc5) fun _ _=>by kernel_rfl,RG.st fun _ _=>by kernel_rfl,RG.ld u115 i115 (by kernel_rfl),RG.cl ((CTimes_c C c5 z2).e hc6) fun _ _=>by kernel_rfl,RG.st fun _ _=>by kernel_rfl,RG.ld u115 i115 (by kernel_rfl),RG.ld u115 i115 (by kernel_rfl),RG.cl ((CTimes_c C y2 c1).e hc7) fun _ _=>by kernel_rfl,RG.st fun _ _=>by kernel_rfl,RG.ld u115 i115 (by kernel_rfl),RG.cl ((CTimes_c C c7 z1).e hc8) fun _ _=>by kernel_rfl,RG.mk 7 185 fun _ _=>by kernel_rfl,RG.mk 8 185 fun _ _=>by kernel_rfl,RG.pt i115 (by kernel_rfl),RG.pt i115 (by kernel_rfl),trivial⟩ ?_
 intro j6 i6 a6 w6 M6
 repeat refine wp_seq ?_
 refine M6.tx0 (F74c_8 c3 c4 c6 c8) [(2,(.p 0 0)),(4,(.p 2 0)),(63,(.v (.bool true)))] (by kernel_rfl) ⟨RG.ld u115 i115 (by kernel_rfl),RG.ld u115 i115 (by kernel_rfl),RG.cert_bin rfl .eql 185 185 56 57 (fv c3) (fv c4) (.bool true) rfl rfl (RG.sx fun _=>by kernel_rfl) (RG.sx fun _=>by kernel_rfl) (fun w=>by kernel_rfl) (eqC_t C (by subst_vars;exact hx)),RG.st fun _ _=>by kernel_rfl,RG.ld u115 i115 (by kernel_rfl),RG.ld u115 i115 (by kernel_rfl),RG.cert_bin rfl .eql 185 185 60 61 (fv c6) (fv c8) (.bool true) rfl rfl (RG.sx fun _=>by kernel_rfl) (RG.sx fun _=>by kernel_rfl) (fun w=>by kernel_rfl) (eqC_t C (by subst_vars;exact hy)),RG.st fun _ _=>by kernel_rfl,trivial⟩ ?_
 intro a7 w7 M7
 repeat refine wp_seq ?_
 refine wp_cond_true (M7.ev (by kernel_rfl)) ?_
 repeat refine wp_seq ?_
 refine M7.tx (F74c_9 x1 y1 z1 c9 c10 c11) [] [(2,2,(ws c9++(ws c10++(ws c11))))] [(ws x1++(ws y1++(ws z1))),(ws x2++(ws y2++(ws z2))),(ws c9++(ws c10++(ws c11))),(ws c1),(ws c2),(ws c3),(ws c4),(ws c6),(ws c8)] [(4,(.p 2 0))] (by kernel_rfl) (by kernel_rfl) ⟨RG.ld u117 i117 (by kernel_rfl),RG.cl ((twice_c C x1 y1 z1).e3 hc9 hc10 hc11) fun _ _=>by kernel_rfl,RG.pt i117 (by kernel_rfl),trivial⟩ ?_
 intro a8 w8 M8
 refine wp_ret ?_
 refine bodyPost_ret (v:=(rv c9 c10 c11)) (RG.results_row M8.st 4 187 rfl 2 _ rfl (M8.at (s:=(.p 2 0)) (by kernel_rfl)) u117 i117) M8.sl.defers ?_
 exact ⟨_,rfl,M8.st.bel.below,rfl⟩
def F74d_0:List RG.It:=[.m 2 [] 0,.m 3 [] 1,.m 4 [] 2]
def F74d_1 (x1 y1 z1:Fin P):List RG.It:=[.x 18 [] (rv x1 y1 z1),.c 19 [(18,0)] (.bool false)]
def F74d_3 (x2 y2 z2:Fin P):List RG.It:=[.x 21 [] (rv x2 y2 z2),.c 22 [(21,0)] (.bool false)]
def F74d_5 (z1 z2 c1 c2:Fin P):List RG.It:=[.s 24 [] (.p 0 8),.x 25 [(24,0)] (fv z1),.s 26 [] (.p 0 8),.x 27 [(26,2)] (fv z1),.c 28 [(25,1),(27,3)] (fv c1),.s 29 [] (.p 1 8),.x 30 [(29,5)] (fv z2),.s 31 [] (.p 1 8),.x 32 [(31,7)] (fv z2),.c 33 [(30,6),(32,8)] (fv c2),.m 5 [] 3,.m 6 [] 4,.u [(5,10),(28,4)] 3,.u [(6,11),(33,9)] 4]
def F74d_6 (x1 x2 c1 c2 c3 c4:Fin P):List RG.It:=[.s 34 [] (.p 0 0),.x 35 [(34,0)] (fv x1),.x 36 [] (fv c2),.c 37 [(35,1),(36,2)] (fv c3),.s 38 [] (.p 1 0),.x 39 [(38,4)] (fv x2),.x 40 [] (fv c1),.c 41 [(39,5),(40,6)] (fv c4),.m 7 [] 5,.m 8 [] 6,.u [(7,8),(37,3)] 5,.u [(8,9),(41,7)] 6]
def F74d_7 (y1 z1 y2 z2 c1 c2 c5 c6 c7 c8:Fin P):List RG.It:=[.s 42 [] (.p 0 4),.x 43 [(42,0)] (fv y1),.x 44 [] (fv c2),.c 45 [(43,1),(44,2)] (fv c5),.s 46 [] (.p 1 8),.x 47 [(46,4)] (fv z2),.c 48 [(45,3),(47,5)] (fv c6),.s 49 [] (.p 1 4),.x 50 [(49,7)] (fv y2),.x 51 [] (fv c1),.c 52 [(50,8),(51,9)] (fv c7),.s 53 [] (.p 0 8),.x 54 [(53,11)] (fv z1),.c 55 [(52,10),(54,12)] (fv c8),.m 9 [] 7,.m 10 [] 8,.u [(9,14),(48,6)] 7,.u [(10,15),(55,13)] 8]
def F74d_8 (c3 c4:Fin P):List RG.It:=[.x 56 [] (fv c3),.x 57 [] (fv c4),.x 58 [(56,0),(57,1)] (.bool false),.x 59 [(58,2)] (.bool false),⟨some 60,[],(.v undef),.pass⟩,⟨some 61,[],(.v undef),.pass⟩,⟨some 62,[],(.v undef),.pass⟩,.x 63 [(59,3),(62,6)] (.bool false)]
def F74d_10 (c3 c4 c6 c8 c9 c10:Fin P):List RG.It:=[.x 66 [] (fv c4),.x 67 [] (fv c3),.c 68 [(66,0),(67,1)] (fv c9),.x 69 [] (fv c8),.x 70 [] (fv c6),.c 71 [(69,3),(70,4)] (fv c10),.m 11 [] 9,.m 12 [] 10,.u [(11,6),(68,2)] 9,.u [(12,7),(71,5)] 10]
def F74d_11 (c9 c11:Fin P):List RG.It:=[.x 72 [] (fv c9),.x 73 [] (fv c9),.c 74 [(72,0),(73,1)] (fv c11),.m 13 [] 11,.u [(13,3),(74,2)] 11]
def F74d_12 (c3 c9 c11 c12 c13:Fin P):List RG.It:=[.x 75 [] (fv c11),.x 76 [] (fv c9),.c 77 [(75,0),(76,1)] (fv c12),.x 78 [] (fv c11),.x 79 [] (fv c3),.c 80 [(78,3),(79,4)] (fv c13),.m 14 [] 12,.m 15 [] 13,.u [(14,6),(77,2)] 12,.u [(15,7),(80,5)] 13]
def F74d_13 (c10 c12 c13 c14 c15 c16 c17:Fin P):List RG.It:=[.x 81 [] (fv c10),.x 82 [] (fv c10),.c 83 [(81,0),(82,1)] (fv c14),.x 84 [] (fv c12),.c 85 [(83,2),(84,3)] (fv c15),.x 86 [] (fv c13),.c 87 [(86,5)] (fv c16),.c 88 [(85,4),(87,6)] (fv c17),.m 16 [] 14,.u [(16,8),(88,7)] 14]
def F74d_14 (c6 c10 c12 c13 c17 c18 c19 c20 c21:Fin P):List RG.It:=[.x 89 [] (fv c10),.x 90 [] (fv c13),.x 91 [] (fv c17),.c 92 [(90,1),(91,2)] (fv c18),.c 93 [(89,0),(92,3)] (fv c19),.x 94 [] (fv c12),.x 95 [] (fv c6),.c 96 [(94,5),(95,6)] (fv c20),.c 97 [(93,4),(96,7)] (fv c21),.m 17 [] 15,.u [(17,9),(97,8)] 15]
def F74d_15 (z1 z2 c9 c17 c21 c22 c23:Fin P):List RG.It:=[.x 98 [] (fv c17),.x 99 [] (fv c21),.s 100 [] (.p 0 8),.x 101 [(100,2)] (fv z1),.s 102 [] (.p 1 8),.x 103 [(102,4)] (fv z2),.c 104 [(101,3),(103,5)] (fv c22),.x 105 [] (fv c9),.c 106 [(104,6),(105,7)] (fv c23),.x 107 [(98,0),(99,1),(106,8)] (rv c17 c21 c23),.u [(107,9)] 2]
set_option maxHeartbeats 2000000 in
set_option maxRecDepth 100000 in
theorem plus_d_c (C:Fld P) (x1 y1 z1 x2 y2 z2:Fin P)(hz1:¬ z1=0) (hz2:¬ z2=0) (hx:¬ EC.plAx x1 z2=EC.plAx x2 z1) :Gives 137 #[(rv x1 y1 z1),(rv x2 y2 z2)] (rv (EC.plX (EC.plAx x1 z2) (EC.plAy y1 z2) (EC.plAx x2 z1) (EC.plAy y2 z1)) (EC.plY (EC.plAx x1 z2) (EC.plAy y1 z2) (EC.plAx x2 z1) (EC.plAy y2 z1)) (EC.plZ z1 z2 (EC.plAx x1 z2) (EC.plAx x2 z1))):=by
 intro w
 obtain ⟨c1,hc1⟩:∃ c,c=z1*z1:=⟨_,rfl⟩
 obtain ⟨c2,hc2⟩:∃ c,c=z2*z2:=⟨_,rfl⟩
 obtain ⟨c3,hc3⟩:∃ c,c=x1*c2:=⟨_,rfl⟩
 obtain ⟨c4,hc4⟩:∃ c,c=x2*c1:=⟨_,rfl⟩
 obtain ⟨c5,hc5⟩:∃ c,c=y1*c2:=⟨_,rfl⟩
 obtain ⟨c6,hc6⟩:∃ c,c=c5*z2:=⟨_,rfl⟩
 obtain ⟨c7,hc7⟩:∃ c,c=y2*c1:=⟨_,rfl⟩
 obtain ⟨c8,hc8⟩:∃ c,c=c7*z1:=⟨_,rfl⟩
 obtain ⟨c9,hc9⟩:∃ c,c=c4 - c3:=⟨_,rfl⟩
 obtain ⟨c10,hc10⟩:∃ c,c=c8 - c6:=⟨_,rfl⟩
 obtain ⟨c11,hc11⟩:∃ c,c=c9*c9:=⟨_,rfl⟩
 obtain ⟨c12,hc12⟩:∃ c,c=c11*c9:=⟨_,rfl⟩
 obtain ⟨c13,hc13⟩:∃ c,c=c11*c3:=⟨_,rfl⟩
 obtain ⟨c14,hc14⟩:∃ c,c=c10*c10:=⟨_,rfl⟩
 obtain ⟨c15,hc15⟩:∃ c,c=c14 - c12:=⟨_,rfl⟩
 obtain ⟨c16,hc16⟩:∃ c,c=EC.dbl c13:=⟨_,rfl⟩
 obtain ⟨c17,hc17⟩:∃ c,c=c15 - c16:=⟨_,rfl⟩
 obtain ⟨c18,hc18⟩:∃ c,c=c13 - c17:=⟨_,rfl⟩
 obtain ⟨c19,hc19⟩:∃ c,c=c10*c18:=⟨_,rfl⟩
 obtain ⟨c20,hc20⟩:∃ c,c=c12*c6:=⟨_,rfl⟩
 obtain ⟨c21,hc21⟩:∃ c,c=c19 - c20:=⟨_,rfl⟩
 obtain ⟨c22,hc22⟩:∃ c,c=z1*z2:=⟨_,rfl⟩
 obtain ⟨c23,hc23⟩:∃ c,c=c22*c9:=⟨_,rfl⟩
 have hfin:((rv c17 c21 c23):Value)=(rv (EC.plX (EC.plAx x1 z2) (EC.plAy y1 z2) (EC.plAx x2 z1) (EC.plAy y2 z1)) (EC.plY (EC.plAx x1 z2) (EC.plAy y1 z2) (EC.plAx x2 z1) (EC.plAy y2 z1)) (EC.plZ z1 z2 (EC.plAx x1 z2) (EC.plAx x2 z1))):=by
  subst_vars;rfl
 rw [← hfin]
 go_enter Tryz.func137,Tryz.ntmps137
 refine RG.M.enter [(0,(.v (rv x1 y1 z1))),(1,(.v (rv x2 y2 z2)))] 108 (by kernel_rfl) ?_
 intro a0 M0
 repeat refine wp_seq ?_
 refine M0.tx F74d_0 [(0,(ws x1++(ws y1++(ws z1)))),(1,(ws x2++(ws y2++(ws z2)))),(2,(RG.z 12))] [] [(ws x1++(ws y1++(ws z1))),(ws x2++(ws y2++(ws z2))),(RG.z 12)] [(2,(.p 0 0)),(3,(.p 1 0)),(4,(.p 2 0))] (by kernel_rfl) (by kernel_rfl) ⟨RG.mk 0 187 fun _ _=>by kernel_rfl,RG.mk 1 187 fun _ _=>by kernel_rfl,RG.mk 2 187 fun _ _=>by kernel_rfl,trivial⟩ ?_
 intro j1 i1 m1 a1 w1 M1
 repeat refine wp_seq ?_
 refine M1.tx0 (F74d_1 x1 y1 z1) [(2,(.p 0 0)),(3,(.p 1 0)),(4,(.p 2 0)),(19,(.v (.bool false)))] (by kernel_rfl) ⟨RG.ld u117 i117 (by kernel_rfl),RG.cl (nothing_f_c C x1 y1 z1 hz1) fun _ _=>by kernel_rfl,trivial⟩ ?_
 intro a2 w2 M2
 repeat refine wp_seq ?_
 refine wp_cond_false (M2.ev (by kernel_rfl)) ?_
 refine wp_skip ?_
 repeat refine wp_seq ?_
 refine M2.tx0 (F74d_3 x2 y2 z2) [(2,(.p 0 0)),(3,(.p 1 0)),(4,(.p 2 0)),(22,(.v (.bool false)))] (by kernel_rfl) ⟨RG.ld u117 i117 (by kernel_rfl),RG.cl (nothing_f_c C x2 y2 z2 hz2) fun _ _=>by kernel_rfl,trivial⟩ ?_
 intro a3 w3 M3
 repeat refine wp_seq ?_
 refine wp_cond_false (M3.ev (by kernel_rfl)) ?_
 refine wp_skip ?_
 repeat refine wp_seq ?_
 refine M3.dr (by kernel_rfl) (F74d_5 z1 z2 c1 c2) [(10,(RG.z 4)),(11,(RG.z 4))] [(3,12,(ws c1)),(4,13,(ws c2))] [(ws x1++(ws y1++(ws z1))),(ws x2++(ws y2++(ws z2))),(RG.z 12),(ws c1),(ws c2)] [(2,(.p 0 0)),(3,(.p 1 0)),(4,(.p 2 0)),(5,(.p 3 0)),(6,(.p 4 0))] (by kernel_rfl) (by kernel_rfl) ⟨RG.st fun _ _=>by kernel_rfl,RG.ld u115 i115 (by kernel_rfl),RG.st fun _ _=>by kernel_rfl,RG.ld u115 i115 (by kernel_rfl),RG.cl ((CTimes_c C z1 z1).e hc1) fun _ _=>by kernel_rfl,RG.st fun _ _=>by kernel_rfl,RG.ld u115 i115 (by kernel_rfl),RG.st fun _ _=>by kernel_rfl,RG.ld u115 i115 (by kernel_rfl),RG.cl ((CTimes_c C z2 z2).e hc2) fun _ _=>by kernel_rfl,RG.mk 3 185 fun _ _=>by kernel_rfl,RG.mk 4 185 fun _ _=>by kernel_rfl,RG.pt i115 (by kernel_rfl),RG.pt i115 (by kernel_rfl),trivial⟩ ?_
 intro j4 i4 a4 w4 M4
 repeat refine wp_seq ?_
 refine M4.dr (by kernel_rfl) (F74d_6 x1 x2 c1 c2 c3 c4) [(8,(RG.z 4)),(9,(RG.z 4))] [(5,10,(ws c3)),(6,11,(ws c4))] [(ws x1++(ws y1++(ws z1))),(ws x2++(ws y2++(ws z2))),(RG.z 12),(ws c1),(ws c2),(ws c3),(ws c4)] [(2,(.p 0 0)),(3,(.p 1 0)),(4,(.p 2 0)),(5,(.p 3 0)),(6,(.p 4 0)),(7,(.p 5 0)),(8,(.p 6 0))] (by kernel_rfl) (by kernel_rfl) ⟨RG.st fun _ _=>by kernel_rfl,RG.ld u115 i115 (by kernel_rfl),RG.ld u115 i115 (by kernel_rfl),RG.cl ((CTimes_c C x1 c2).e hc3) fun _ _=>by kernel_rfl,RG.st fun _ _=>by kernel_rfl,RG.ld u115 i115 (by kernel_rfl),RG.ld u115 i115 (by kernel_rfl),RG.cl ((CTimes_c C x2 c1).e hc4) fun _ _=>by kernel_rfl,RG.mk 5 185 fun _ _=>by kernel_rfl,RG.mk 6 185 fun _ _=>by kernel_rfl,RG.pt i115 (by kernel_rfl),RG.pt i115 (by kernel_rfl),trivial⟩ ?_
 intro j5 i5 a5 w5 M5
 repeat refine wp_seq ?_
 refine M5.dr (by kernel_rfl) (F74d_7 y1 z1 y2 z2 c1 c2 c5 c6 c7 c8) [(14,(RG.z 4)),(15,(RG.z 4))] [(7,16,(ws c6)),(8,17,(ws c8))] [(ws x1++(ws y1++(ws z1))),(ws x2++(ws y2++(ws z2))),(RG.z 12),(ws c1),(ws c2),(ws c3),(ws c4),(ws c6),(ws c8)] [(2,(.p 0 0)),(3,(.p 1 0)),(4,(.p 2 0)),(7,(.p 5 0)),(8,(.p 6 0)),(9,(.p 7 0)),(10,(.p 8 0))] (by kernel_rfl) (by kernel_rfl) ⟨RG.st fun _ _=>by kernel_rfl,RG.ld u115 i115 (by kernel_rfl),RG.ld u115 i115 (by kernel_rfl),RG.cl ((CTimes_c C y1 c2).e hc5) fun _ _=>by kernel_rfl,RG.st fun _ _=>by kernel_rfl,RG.ld u115 i115 (by kernel_rfl),RG.cl ((CTimes_c C c5 z2).e hc6) fun _ _=>by kernel_rfl,RG.st fun _ _=>by kernel_rfl,RG.ld u115 i115 (by kernel_rfl),RG.ld u115 i115 (by kernel_rfl),RG.cl ((CTimes_c C y2 c1).e hc7) fun _ _=>by kernel_rfl,RG.st fun _ _=>by kernel_rfl,RG.ld u115 i115 (by kernel_rfl),RG.cl ((CTimes_c C c7 z1).e hc8) fun _ _=>by kernel_rfl,RG.mk 7 185 fun _ _=>by kernel_rfl,RG.mk 8 185 fun _ _=>by kernel_rfl,RG.pt i115 (by kernel_rfl),RG.pt i115 (by kernel_rfl),trivial⟩ ?_
 intro j6 i6 a6 w6 M6
 repeat refine wp_seq ?_
 refine M6.tx0 (F74d_8 c3 c4) [(2,(.p 0 0)),(3,(.p 1 0)),(4,(.p 2 0)),(7,(.p 5 0)),(8,(.p 6 0)),(9,(.p 7 0)),(10,(.p 8 0)),(63,(.v (.bool false)))] (by kernel_rfl) ⟨RG.ld u115 i115 (by kernel_rfl),RG.ld u115 i115 (by kernel_rfl),RG.cert_bin rfl .eql 185 185 56 57 (fv c3) (fv c4) (.bool false) rfl rfl (RG.sx fun _=>by kernel_rfl) (RG.sx fun _=>by kernel_rfl) (fun w=>by kernel_rfl) (eqC_f C (by subst_vars;exact hx)),RG.st fun _ _=>by kernel_rfl,RG.cert_pass rfl rfl,RG.cert_pass rfl rfl,RG.cert_pass rfl rfl,RG.st fun _ _=>by kernel_rfl,trivial⟩ ?_
 intro a7 w7 M7
 repeat refine wp_seq ?_
 refine wp_cond_false (M7.ev (by kernel_rfl)) ?_
 refine wp_skip ?_
 repeat refine wp_seq ?_
 refine M7.dr (by kernel_rfl) (F74d_10 c3 c4 c6 c8 c9 c10) [(6,(RG.z 4)),(7,(RG.z 4))] [(9,8,(ws c9)),(10,9,(ws c10))] [(ws x1++(ws y1++(ws z1))),(ws x2++(ws y2++(ws z2))),(RG.z 12),(ws c1),(ws c2),(ws c3),(ws c4),(ws c6),(ws c8),(ws c9),(ws c10)] [(2,(.p 0 0)),(3,(.p 1 0)),(4,(.p 2 0)),(7,(.p 5 0)),(9,(.p 7 0)),(11,(.p 9 0)),(12,(.p 10 0))] (by kernel_rfl) (by kernel_rfl) ⟨RG.ld u115 i115 (by kernel_rfl),RG.ld u115 i115 (by kernel_rfl),RG.cl ((CMinus_c C c4 c3).e hc9) fun _ _=>by kernel_rfl,RG.ld u115 i115 (by kernel_rfl),RG.ld u115 i115 (by kernel_rfl),RG.cl ((CMinus_c C c8 c6).e hc10) fun _ _=>by kernel_rfl,RG.mk 9 185 fun _ _=>by kernel_rfl,RG.mk 10 185 fun _ _=>by kernel_rfl,RG.pt i115 (by kernel_rfl),RG.pt i115 (by kernel_rfl),trivial⟩ ?_
 intro j8 i8 a8 w8 M8
 repeat refine wp_seq ?_
 refine M8.tx (F74d_11 c9 c11) [(3,(RG.z 4))] [(11,4,(ws c11))] [(ws x1++(ws y1++(ws z1))),(ws x2++(ws y2++(ws z2))),(RG.z 12),(ws c1),(ws c2),(ws c3),(ws c4),(ws c6),(ws c8),(ws c9),(ws c10),(ws c11)] [(2,(.p 0 0)),(3,(.p 1 0)),(4,(.p 2 0)),(7,(.p 5 0)),(9,(.p 7 0)),(11,(.p 9 0)),(12,(.p 10 0)),(13,(.p 11 0))] (by kernel_rfl) (by kernel_rfl) ⟨RG.ld u115 i115 (by kernel_rfl),RG.ld u115 i115 (by kernel_rfl),RG.cl ((CTimes_c C c9 c9).e hc11) fun _ _=>by kernel_rfl,RG.mk 11 185 fun _ _=>by kernel_rfl,RG.pt i115 (by kernel_rfl),trivial⟩ ?_
 intro j9 a9 w9 M9
 repeat refine wp_seq ?_
 refine M9.dr (by kernel_rfl) (F74d_12 c3 c9 c11 c12 c13) [(6,(RG.z 4)),(7,(RG.z 4))] [(12,8,(ws c12)),(13,9,(ws c13))] [(ws x1++(ws y1++(ws z1))),(ws x2++(ws y2++(ws z2))),(RG.z 12),(ws c1),(ws c2),(ws c3),(ws c4),(ws c6),(ws c8),(ws c9),(ws c10),(ws c11),(ws c12),(ws c13)] [(2,(.p 0 0)),(3,(.p 1 0)),(4,(.p 2 0)),(9,(.p 7 0)),(11,(.p 9 0)),(12,(.p 10 0)),(14,(.p 12 0)),(15,(.p 13 0))] (by kernel_rfl) (by kernel_rfl) ⟨RG.ld u115 i115 (by kernel_rfl),RG.ld u115 i115 (by kernel_rfl),RG.cl ((CTimes_c C c11 c9).e hc12) fun _ _=>by kernel_rfl,RG.ld u115 i115 (by kernel_rfl),RG.ld u115 i115 (by kernel_rfl),RG.cl ((CTimes_c C c11 c3).e hc13) fun _ _=>by kernel_rfl,RG.mk 12 185 fun _ _=>by kernel_rfl,RG.mk 13 185 fun _ _=>by kernel_rfl,RG.pt i115 (by kernel_rfl),RG.pt i115 (by kernel_rfl),trivial⟩ ?_
 intro j10 i10 a10 w10 M10
 repeat refine wp_seq ?_
 refine M10.dr (by kernel_rfl) (F74d_13 c10 c12 c13 c14 c15 c16 c17) [(8,(RG.z 4))] [(14,9,(ws c17))] [(ws x1++(ws y1++(ws z1))),(ws x2++(ws y2++(ws z2))),(RG.z 12),(ws c1),(ws c2),(ws c3),(ws c4),(ws c6),(ws c8),(ws c9),(ws c10),(ws c11),(ws c12),(ws c13),(ws c17)] [(2,(.p 0 0)),(3,(.p 1 0)),(4,(.p 2 0)),(9,(.p 7 0)),(11,(.p 9 0)),(12,(.p 10 0)),(14,(.p 12 0)),(15,(.p 13 0)),(16,(.p 14 0))] (by kernel_rfl) (by kernel_rfl) ⟨RG.ld u115 i115 (by kernel_rfl),RG.ld u115 i115 (by kernel_rfl),RG.cl ((CTimes_c C c10 c10).e hc14) fun _ _=>by kernel_rfl,RG.ld u115 i115 (by kernel_rfl),RG.cl ((CMinus_c C c14 c12).e hc15) fun _ _=>by kernel_rfl,RG.ld u115 i115 (by kernel_rfl),RG.cl ((double_c C c13).e hc16) fun _ _=>by kernel_rfl,RG.cl ((CMinus_c C c15 c16).e hc17) fun _ _=>by kernel_rfl,RG.mk 14 185 fun _ _=>by kernel_rfl,RG.pt i115 (by kernel_rfl),trivial⟩ ?_
 intro j11 a11 w11 M11
 repeat refine wp_seq ?_
 refine M11.dr (by kernel_rfl) (F74d_14 c6 c10 c12 c13 c17 c18 c19 c20 c21) [(9,(RG.z 4))] [(15,10,(ws c21))] [(ws x1++(ws y1++(ws z1))),(ws x2++(ws y2++(ws z2))),(RG.z 12),(ws c1),(ws c2),(ws c3),(ws c4),(ws c6),(ws c8),(ws c9),(ws c10),(ws c11),(ws c12),(ws c13),(ws c17),(ws c21)] [(2,(.p 0 0)),(3,(.p 1 0)),(4,(.p 2 0)),(11,(.p 9 0)),(16,(.p 14 0)),(17,(.p 15 0))] (by kernel_rfl) (by kernel_rfl) ⟨RG.ld u115 i115 (by kernel_rfl),RG.ld u115 i115 (by kernel_rfl),RG.ld u115 i115 (by kernel_rfl),RG.cl ((CMinus_c C c13 c17).e hc18) fun _ _=>by kernel_rfl,RG.cl ((CTimes_c C c10 c18).e hc19) fun _ _=>by kernel_rfl,RG.ld u115 i115 (by kernel_rfl),RG.ld u115 i115 (by kernel_rfl),RG.cl ((CTimes_c C c12 c6).e hc20) fun _ _=>by kernel_rfl,RG.cl ((CMinus_c C c19 c20).e hc21) fun _ _=>by kernel_rfl,RG.mk 15 185 fun _ _=>by kernel_rfl,RG.pt i115 (by kernel_rfl),trivial⟩ ?_
 intro j12 a12 w12 M12
 repeat refine wp_seq ?_
 refine M12.dr (by kernel_rfl) (F74d_15 z1 z2 c9 c17 c21 c22 c23) [] [(2,10,(ws c17++(ws c21++(ws c23))))] [(ws x1++(ws y1++(ws z1))),(ws x2++(ws y2++(ws z2))),(ws c17++(ws c21++(ws c23))),(ws c1),(ws c2),(ws c3),(ws c4),(ws c6),(ws c8),(ws c9),(ws c10),(ws c11),(ws c12),(ws c13),(ws c17),(ws c21)] [(4,(.p 2 0))] (by kernel_rfl) (by kernel_rfl) ⟨RG.ld u115 i115 (by kernel_rfl),RG.ld u115 i115 (by kernel_rfl),RG.st fun _ _=>by kernel_rfl,RG.ld u115 i115 (by kernel_rfl),RG.st fun _ _=>by kernel_rfl,RG.ld u115 i115 (by kernel_rfl),RG.cl ((CTimes_c C z1 z2).e hc22) fun _ _=>by kernel_rfl,RG.ld u115 i115 (by kernel_rfl),RG.cl ((CTimes_c C c22 c9).e hc23) fun _ _=>by kernel_rfl,RG.st fun _ _=>by kernel_rfl,RG.pt i117 (by kernel_rfl),trivial⟩ ?_
 intro a13 w13 M13
 refine wp_ret ?_
 refine bodyPost_ret (v:=(rv c17 c21 c23)) (RG.results_row M13.st 4 187 rfl 2 _ rfl (M13.at (s:=(.p 2 0)) (by kernel_rfl)) u117 i117) M13.sl.defers ?_
 exact ⟨_,rfl,M13.st.bel.below,rfl⟩
def F74e_0:List RG.It:=[.m 2 [] 0,.m 3 [] 1,.m 4 [] 2]
def F74e_1 (x1 y1 z1:Fin P):List RG.It:=[.x 18 [] (rv x1 y1 z1),.c 19 [(18,0)] (.bool false)]
def F74e_3 (x2 y2 z2:Fin P):List RG.It:=[.x 21 [] (rv x2 y2 z2),.c 22 [(21,0)] (.bool false)]
def F74e_5 (z1 z2 c1 c2:Fin P):List RG.It:=[.s 24 [] (.p 0 8),.x 25 [(24,0)] (fv z1),.s 26 [] (.p 0 8),.x 27 [(26,2)] (fv z1),.c 28 [(25,1),(27,3)] (fv c1),.s 29 [] (.p 1 8),.x 30 [(29,5)] (fv z2),.s 31 [] (.p 1 8),.x 32 [(31,7)] (fv z2),.c 33 [(30,6),(32,8)] (fv c2),.m 5 [] 3,.m 6 [] 4,.u [(5,10),(28,4)] 3,.u [(6,11),(33,9)] 4]
def F74e_6 (x1 x2 c1 c2 c3 c4:Fin P):List RG.It:=[.s 34 [] (.p 0 0),.x 35 [(34,0)] (fv x1),.x 36 [] (fv c2),.c 37 [(35,1),(36,2)] (fv c3),.s 38 [] (.p 1 0),.x 39 [(38,4)] (fv x2),.x 40 [] (fv c1),.c 41 [(39,5),(40,6)] (fv c4),.m 7 [] 5,.m 8 [] 6,.u [(7,8),(37,3)] 5,.u [(8,9),(41,7)] 6]
def F74e_7 (y1 z1 y2 z2 c1 c2 c5 c6 c7 c8:Fin P):List RG.It:=[.s 42 [] (.p 0 4),.x 43 [(42,0)] (fv y1),.x 44 [] (fv c2),.c 45 [(43,1),(44,2)] (fv c5),.s 46 [] (.p 1 8),.x 47 [(46,4)] (fv z2),.c 48 [(45,3),(47,5)] (fv c6),.s 49 [] (.p 1 4),.x 50 [(49,7)] (fv y2),.x 51 [] (fv c1),.c 52 [(50,8),(51,9)] (fv c7),.s 53 [] (.p 0 8),.x 54 [(53,11)] (fv z1),.c 55 [(52,10),(54,12)] (fv c8),.m 9 [] 7,.m 10 [] 8,.u [(9,14),(48,6)] 7,.u [(10,15),(55,13)] 8]
def F74e_8 (c3 c4 c6 c8:Fin P):List RG.It:=[.x 56 [] (fv c3),.x 57 [] (fv c4),.x 58 [(56,0),(57,1)] (.bool true),.x 59 [(58,2)] (.bool true),.x 60 [] (fv c6),.x 61 [] (fv c8),.x 62 [(60,4),(61,5)] (.bool false),.x 63 [(59,3),(62,6)] (.bool false)]
def F74e_10 (c3 c4 c6 c8 c9 c10:Fin P):List RG.It:=[.x 66 [] (fv c4),.x 67 [] (fv c3),.c 68 [(66,0),(67,1)] (fv c9),.x 69 [] (fv c8),.x 70 [] (fv c6),.c 71 [(69,3),(70,4)] (fv c10),.m 11 [] 9,.m 12 [] 10,.u [(11,6),(68,2)] 9,.u [(12,7),(71,5)] 10]
def F74e_11 (c9 c11:Fin P):List RG.It:=[.x 72 [] (fv c9),.x 73 [] (fv c9),.c 74 [(72,0),(73,1)] (fv c11),.m 13 [] 11,.u [(13,3),(74,2)] 11]
def F74e_12 (c3 c9 c11 c12 c13:Fin P):List RG.It:=[.x 75 [] (fv c11),.x 76 [] (fv c9),.c 77 [(75,0),(76,1)] (fv c12),.x 78 [] (fv c11),.x 79 [] (fv c3),.c 80 [(78,3),(79,4)] (fv c13),.m 14 [] 12,.m 15 [] 13,.u [(14,6),(77,2)] 12,.u [(15,7),(80,5)] 13]
def F74e_13 (c10 c12 c13 c14 c15 c16 c17:Fin P):List RG.It:=[.x 81 [] (fv c10),.x 82 [] (fv c10),.c 83 [(81,0),(82,1)] (fv c14),.x 84 [] (fv c12),.c 85 [(83,2),(84,3)] (fv c15),.x 86 [] (fv c13),.c 87 [(86,5)] (fv c16),.c 88 [(85,4),(87,6)] (fv c17),.m 16 [] 14,.u [(16,8),(88,7)] 14]
def F74e_14 (c6 c10 c12 c13 c17 c18 c19 c20 c21:Fin P):List RG.It:=[.x 89 [] (fv c10),.x 90 [] (fv c13),.x 91 [] (fv c17),.c 92 [(90,1),(91,2)] (fv c18),.c 93 [(89,0),(92,3)] (fv c19),.x 94 [] (fv c12),.x 95 [] (fv c6),.c 96 [(94,5),(95,6)] (fv c20),.c 97 [(93,4),(96,7)] (fv c21),.m 17 [] 15,.u [(17,9),(97,8)] 15]
def F74e_15 (z1 z2 c9 c17 c21 c22 c23:Fin P):List RG.It:=[.x 98 [] (fv c17),.x 99 [] (fv c21),.s 100 [] (.p 0 8),.x 101 [(100,2)] (fv z1),.s 102 [] (.p 1 8),.x 103 [(102,4)] (fv z2),.c 104 [(101,3),(103,5)] (fv c22),.x 105 [] (fv c9),.c 106 [(104,6),(105,7)] (fv c23),.x 107 [(98,0),(99,1),(106,8)] (rv c17 c21 c23),.u [(107,9)] 2]
set_option maxHeartbeats 2000000 in
set_option maxRecDepth 100000 in
theorem plus_e_c (C:Fld P) (x1 y1 z1 x2 y2 z2:Fin P)(hz1:¬ z1=0) (hz2:¬ z2=0) (hx:EC.plAx x1 z2=EC.plAx x2 z1) (hy:¬ EC.plAy y1 z2=EC.plAy y2 z1) :Gives 137 #[(rv x1 y1 z1),(rv x2 y2 z2)] (rv (EC.plX (EC.plAx x1 z2) (EC.plAy y1 z2) (EC.plAx x2 z1) (EC.plAy y2 z1)) (EC.plY (EC.plAx x1 z2) (EC.plAy y1 z2) (EC.plAx x2 z1) (EC.plAy y2 z1)) (EC.plZ z1 z2 (EC.plAx x1 z2) (EC.plAx x2 z1))):=by
 intro w
 obtain ⟨c1,hc1⟩:∃ c,c=z1*z1:=⟨_,rfl⟩
 obtain ⟨c2,hc2⟩:∃ c,c=z2*z2:=⟨_,rfl⟩
 obtain ⟨c3,hc3⟩:∃ c,c=x1*c2:=⟨_,rfl⟩
 obtain ⟨c4,hc4⟩:∃ c,c=x2*c1:=⟨_,rfl⟩
 obtain ⟨c5,hc5⟩:∃ c,c=y1*c2:=⟨_,rfl⟩
 obtain ⟨c6,hc6⟩:∃ c,c=c5*z2:=⟨_,rfl⟩
 obtain ⟨c7,hc7⟩:∃ c,c=y2*c1:=⟨_,rfl⟩
 obtain ⟨c8,hc8⟩:∃ c,c=c7*z1:=⟨_,rfl⟩
 obtain ⟨c9,hc9⟩:∃ c,c=c4 - c3:=⟨_,rfl⟩
 obtain ⟨c10,hc10⟩:∃ c,c=c8 - c6:=⟨_,rfl⟩
 obtain ⟨c11,hc11⟩:∃ c,c=c9*c9:=⟨_,rfl⟩
 obtain ⟨c12,hc12⟩:∃ c,c=c11*c9:=⟨_,rfl⟩
 obtain ⟨c13,hc13⟩:∃ c,c=c11*c3:=⟨_,rfl⟩
 obtain ⟨c14,hc14⟩:∃ c,c=c10*c10:=⟨_,rfl⟩
 obtain ⟨c15,hc15⟩:∃ c,c=c14 - c12:=⟨_,rfl⟩
 obtain ⟨c16,hc16⟩:∃ c,c=EC.dbl c13:=⟨_,rfl⟩
 obtain ⟨c17,hc17⟩:∃ c,c=c15 - c16:=⟨_,rfl⟩
 obtain ⟨c18,hc18⟩:∃ c,c=c13 - c17:=⟨_,rfl⟩
 obtain ⟨c19,hc19⟩:∃ c,c=c10*c18:=⟨_,rfl⟩
 obtain ⟨c20,hc20⟩:∃ c,c=c12*c6:=⟨_,rfl⟩
 obtain ⟨c21,hc21⟩:∃ c,c=c19 - c20:=⟨_,rfl⟩
 obtain ⟨c22,hc22⟩:∃ c,c=z1*z2:=⟨_,rfl⟩
 obtain ⟨c23,hc23⟩:∃ c,c=c22*c9:=⟨_,rfl⟩
 have hfin:((rv c17 c21 c23):Value)=(rv (EC.plX (EC.plAx x1 z2) (EC.plAy y1 z2) (EC.plAx x2 z1) (EC.plAy y2 z1)) (EC.plY (EC.plAx x1 z2) (EC.plAy y1 z2) (EC.plAx x2 z1) (EC.plAy y2 z1)) (EC.plZ z1 z2 (EC.plAx x1 z2) (EC.plAx x2 z1))):=by
  subst_vars;rfl
 rw [← hfin]
 go_enter Tryz.func137,Tryz.ntmps137
 refine RG.M.enter [(0,(.v (rv x1 y1 z1))),(1,(.v (rv x2 y2 z2)))] 108 (by kernel_rfl) ?_
 intro a0 M0
 repeat refine wp_seq ?_
 refine M0.tx F74e_0 [(0,(ws x1++(ws y1++(ws z1)))),(1,(ws x2++(ws y2++(ws z2)))),(2,(RG.z 12))] [] [(ws x1++(ws y1++(ws z1))),(ws x2++(ws y2++(ws z2))),(RG.z 12)] [(2,(.p 0 0)),(3,(.p 1 0)),(4,(.p 2 0))] (by kernel_rfl) (by kernel_rfl) ⟨RG.mk 0 187 fun _ _=>by kernel_rfl,RG.mk 1 187 fun _ _=>by kernel_rfl,RG.mk 2 187 fun _ _=>by kernel_rfl,trivial⟩ ?_
 intro j1 i1 m1 a1 w1 M1
 repeat refine wp_seq ?_
 refine M1.tx0 (F74e_1 x1 y1 z1) [(2,(.p 0 0)),(3,(.p 1 0)),(4,(.p 2 0)),(19,(.v (.bool false)))] (by kernel_rfl) ⟨RG.ld u117 i117 (by kernel_rfl),RG.cl (nothing_f_c C x1 y1 z1 hz1) fun _ _=>by kernel_rfl,trivial⟩ ?_
 intro a2 w2 M2
 repeat refine wp_seq ?_
 refine wp_cond_false (M2.ev (by kernel_rfl)) ?_
 refine wp_skip ?_
 repeat refine wp_seq ?_
 refine M2.tx0 (F74e_3 x2 y2 z2) [(2,(.p 0 0)),(3,(.p 1 0)),(4,(.p 2 0)),(22,(.v (.bool false)))] (by kernel_rfl) ⟨RG.ld u117 i117 (by kernel_rfl),RG.cl (nothing_f_c C x2 y2 z2 hz2) fun _ _=>by kernel_rfl,trivial⟩ ?_
 intro a3 w3 M3
 repeat refine wp_seq ?_
 refine wp_cond_false (M3.ev (by kernel_rfl)) ?_
 refine wp_skip ?_
 repeat refine wp_seq ?_
 refine M3.dr (by kernel_rfl) (F74e_5 z1 z2 c1 c2) [(10,(RG.z 4)),(11,(RG.z 4))] [(3,12,(ws c1)),(4,13,(ws c2))] [(ws x1++(ws y1++(ws z1))),(ws x2++(ws y2++(ws z2))),(RG.z 12),(ws c1),(ws c2)] [(2,(.p 0 0)),(3,(.p 1 0)),(4,(.p 2 0)),(5,(.p 3 0)),(6,(.p 4 0))] (by kernel_rfl) (by kernel_rfl) ⟨RG.st fun _ _=>by kernel_rfl,RG.ld u115 i115 (by kernel_rfl),RG.st fun _ _=>by kernel_rfl,RG.ld u115 i115 (by kernel_rfl),RG.cl ((CTimes_c C z1 z1).e hc1) fun _ _=>by kernel_rfl,RG.st fun _ _=>by kernel_rfl,RG.ld u115 i115 (by kernel_rfl),RG.st fun _ _=>by kernel_rfl,RG.ld u115 i115 (by kernel_rfl),RG.cl ((CTimes_c C z2 z2).e hc2) fun _ _=>by kernel_rfl,RG.mk 3 185 fun _ _=>by kernel_rfl,RG.mk 4 185 fun _ _=>by kernel_rfl,RG.pt i115 (by kernel_rfl),RG.pt i115 (by kernel_rfl),trivial⟩ ?_
 intro j4 i4 a4 w4 M4
 repeat refine wp_seq ?_
 refine M4.dr (by kernel_rfl) (F74e_6 x1 x2 c1 c2 c3 c4) [(8,(RG.z 4)),(9,(RG.z 4))] [(5,10,(ws c3)),(6,11,(ws c4))] [(ws x1++(ws y1++(ws z1))),(ws x2++(ws y2++(ws z2))),(RG.z 12),(ws c1),(ws c2),(ws c3),(ws c4)] [(2,(.p 0 0)),(3,(.p 1 0)),(4,(.p 2 0)),(5,(.p 3 0)),(6,(.p 4 0)),(7,(.p 5 0)),(8,(.p 6 0))] (by kernel_rfl) (by kernel_rfl) ⟨RG.st fun _ _=>by kernel_rfl,RG.ld u115 i115 (by kernel_rfl),RG.ld u115 i115 (by kernel_rfl),RG.cl ((CTimes_c C x1 c2).e hc3) fun _ _=>by kernel_rfl,RG.st fun _ _=>by kernel_rfl,RG.ld u115 i115 (by kernel_rfl),RG.ld u115 i115 (by kernel_rfl),RG.cl ((CTimes_c C x2 c1).e hc4) fun _ _=>by kernel_rfl,RG.mk 5 185 fun _ _=>by kernel_rfl,RG.mk 6 185 fun _ _=>by kernel_rfl,RG.pt i115 (by kernel_rfl),RG.pt i115 (by kernel_rfl),trivial⟩ ?_
 intro j5 i5 a5 w5 M5
 repeat refine wp_seq ?_
 refine M5.dr (by kernel_rfl) (F74e_7 y1 z1 y2 z2 c1 c2 c5 c6 c7 c8) [(14,(RG.z 4)),(15,(RG.z 4))] [(7,16,(ws c6)),(8,17,(ws c8))] [(ws x1++(ws y1++(ws z1))),(ws x2++(ws y2++(ws z2))),(RG.z 12),(ws c1),(ws c2),(ws c3),(ws c4),(ws c6),(ws c8)] [(2,(.p 0 0)),(3,(.p 1 0)),(4,(.p 2 0)),(7,(.p 5 0)),(8,(.p 6 0)),(9,(.p 7 0)),(10,(.p 8 0))] (by kernel_rfl) (by kernel_rfl) ⟨RG.st fun _ _=>by kernel_rfl,RG.ld u115 i115 (by kernel_rfl),RG.ld u115 i115 (by kernel_rfl),RG.cl ((CTimes_c C y1 c2).e hc5) fun _ _=>by kernel_rfl,RG.st fun _ _=>by kernel_rfl,RG.ld u115 i115 (by kernel_rfl),RG.cl ((CTimes_c C c5 z2).e hc6) fun _ _=>by kernel_rfl,RG.st fun _ _=>by kernel_rfl,RG.ld u115 i115 (by kernel_rfl),RG.ld u115 i115 (by kernel_rfl),RG.cl ((CTimes_c C y2 c1).e hc7) fun _ _=>by kernel_rfl,RG.st fun _ _=>by kernel_rfl,RG.ld u115 i115 (by kernel_rfl),RG.cl ((CTimes_c C c7 z1).e hc8) fun _ _=>by kernel_rfl,RG.mk 7 185 fun _ _=>by kernel_rfl,RG.mk 8 185 fun _ _=>by kernel_rfl,RG.pt i115 (by kernel_rfl),RG.pt i115 (by kernel_rfl),trivial⟩ ?_
 intro j6 i6 a6 w6 M6
 repeat refine wp_seq ?_
 refine M6.tx0 (F74e_8 c3 c4 c6 c8) [(2,(.p 0 0)),(3,(.p 1 0)),(4,(.p 2 0)),(7,(.p 5 0)),(8,(.p 6 0)),(9,(.p 7 0)),(10,(.p 8 0)),(63,(.v (.bool false)))] (by kernel_rfl) ⟨RG.ld u115 i115 (by kernel_rfl),RG.ld u115 i115 (by kernel_rfl),RG.cert_bin rfl .eql 185 185 56 57 (fv c3) (fv c4) (.bool true) rfl rfl (RG.sx fun _=>by kernel_rfl) (RG.sx fun _=>by kernel_rfl) (fun w=>by kernel_rfl) (eqC_t C (by subst_vars;exact hx)),RG.st fun _ _=>by kernel_rfl,RG.ld u115 i115 (by kernel_rfl),RG.ld u115 i115 (by kernel_rfl),RG.cert_bin rfl .eql 185 185 60 61 (fv c6) (fv c8) (.bool false) rfl rfl (RG.sx fun _=>by kernel_rfl) (RG.sx fun _=>by kernel_rfl) (fun w=>by kernel_rfl) (eqC_f C (by subst_vars;exact hy)),RG.st fun _ _=>by kernel_rfl,trivial⟩ ?_
 intro a7 w7 M7
 repeat refine wp_seq ?_
 refine wp_cond_false (M7.ev (by kernel_rfl)) ?_
 refine wp_skip ?_
 repeat refine wp_seq ?_
 refine M7.dr (by kernel_rfl) (F74e_10 c3 c4 c6 c8 c9 c10) [(6,(RG.z 4)),(7,(RG.z 4))] [(9,8,(ws c9)),(10,9,(ws c10))] [(ws x1++(ws y1++(ws z1))),(ws x2++(ws y2++(ws z2))),(RG.z 12),(ws c1),(ws c2),(ws c3),(ws c4),(ws c6),(ws c8),(ws c9),(ws c10)] [(2,(.p 0 0)),(3,(.p 1 0)),(4,(.p 2 0)),(7,(.p 5 0)),(9,(.p 7 0)),(11,(.p 9 0)),(12,(.p 10 0))] (by kernel_rfl) (by kernel_rfl) ⟨RG.ld u115 i115 (by kernel_rfl),RG.ld u115 i115 (by kernel_rfl),RG.cl ((CMinus_c C c4 c3).e hc9) fun _ _=>by kernel_rfl,RG.ld u115 i115 (by kernel_rfl),RG.ld u115 i115 (by kernel_rfl),RG.cl ((CMinus_c C c8 c6).e hc10) fun _ _=>by kernel_rfl,RG.mk 9 185 fun _ _=>by kernel_rfl,RG.mk 10 185 fun _ _=>by kernel_rfl,RG.pt i115 (by kernel_rfl),RG.pt i115 (by kernel_rfl),trivial⟩ ?_
 intro j8 i8 a8 w8 M8
 repeat refine wp_seq ?_
 refine M8.tx (F74e_11 c9 c11) [(3,(RG.z 4))] [(11,4,(ws c11))] [(ws x1++(ws y1++(ws z1))),(ws x2++(ws y2++(ws z2))),(RG.z 12),(ws c1),(ws c2),(ws c3),(ws c4),(ws c6),(ws c8),(ws c9),(ws c10),(ws c11)] [(2,(.p 0 0)),(3,(.p 1 0)),(4,(.p 2 0)),(7,(.p 5 0)),(9,(.p 7 0)),(11,(.p 9 0)),(12,(.p 10 0)),(13,(.p 11 0))] (by kernel_rfl) (by kernel_rfl) ⟨RG.ld u115 i115 (by kernel_rfl),RG.ld u115 i115 (by kernel_rfl),RG.cl ((CTimes_c C c9 c9).e hc11) fun _ _=>by kernel_rfl,RG.mk 11 185 fun _ _=>by kernel_rfl,RG.pt i115 (by kernel_rfl),trivial⟩ ?_
 intro j9 a9 w9 M9
 repeat refine wp_seq ?_
 refine M9.dr (by kernel_rfl) (F74e_12 c3 c9 c11 c12 c13) [(6,(RG.z 4)),(7,(RG.z 4))] [(12,8,(ws c12)),(13,9,(ws c13))] [(ws x1++(ws y1++(ws z1))),(ws x2++(ws y2++(ws z2))),(RG.z 12),(ws c1),(ws c2),(ws c3),(ws c4),(ws c6),(ws c8),(ws c9),(ws c10),(ws c11),(ws c12),(ws c13)] [(2,(.p 0 0)),(3,(.p 1 0)),(4,(.p 2 0)),(9,(.p 7 0)),(11,(.p 9 0)),(12,(.p 10 0)),(14,(.p 12 0)),(15,(.p 13 0))] (by kernel_rfl) (by kernel_rfl) ⟨RG.ld u115 i115 (by kernel_rfl),RG.ld u115 i115 (by kernel_rfl),RG.cl ((CTimes_c C c11 c9).e hc12) fun _ _=>by kernel_rfl,RG.ld u115 i115 (by kernel_rfl),RG.ld u115 i115 (by kernel_rfl),RG.cl ((CTimes_c C c11 c3).e hc13) fun _ _=>by kernel_rfl,RG.mk 12 185 fun _ _=>by kernel_rfl,RG.mk 13 185 fun _ _=>by kernel_rfl,RG.pt i115 (by kernel_rfl),RG.pt i115 (by kernel_rfl),trivial⟩ ?_
 intro j10 i10 a10 w10 M10
 repeat refine wp_seq ?_
 refine M10.dr (by kernel_rfl) (F74e_13 c10 c12 c13 c14 c15 c16 c17) [(8,(RG.z 4))] [(14,9,(ws c17))] [(ws x1++(ws y1++(ws z1))),(ws x2++(ws y2++(ws z2))),(RG.z 12),(ws c1),(ws c2),(ws c3),(ws c4),(ws c6),(ws c8),(ws c9),(ws c10),(ws c11),(ws c12),(ws c13),(ws c17)] [(2,(.p 0 0)),(3,(.p 1 0)),(4,(.p 2 0)),(9,(.p 7 0)),(11,(.p 9 0)),(12,(.p 10 0)),(14,(.p 12 0)),(15,(.p 13 0)),(16,(.p 14 0))] (by kernel_rfl) (by kernel_rfl) ⟨RG.ld u115 i115 (by kernel_rfl),RG.ld u115 i115 (by kernel_rfl),RG.cl ((CTimes_c C c10 c10).e hc14) fun _ _=>by kernel_rfl,RG.ld u115 i115 (by kernel_rfl),RG.cl ((CMinus_c C c14 c12).e hc15) fun _ _=>by kernel_rfl,RG.ld u115 i115 (by kernel_rfl),RG.cl ((double_c C c13).e hc16) fun _ _=>by kernel_rfl,RG.cl ((CMinus_c C c15 c16).e hc17) fun _ _=>by kernel_rfl,RG.mk 14 185 fun _ _=>by kernel_rfl,RG.pt i115 (by kernel_rfl),trivial⟩ ?_
 intro j11 a11 w11 M11
 repeat refine wp_seq ?_
 refine M11.dr (by kernel_rfl) (F74e_14 c6 c10 c12 c13 c17 c18 c19 c20 c21) [(9,(RG.z 4))] [(15,10,(ws c21))] [(ws x1++(ws y1++(ws z1))),(ws x2++(ws y2++(ws z2))),(RG.z 12),(ws c1),(ws c2),(ws c3),(ws c4),(ws c6),(ws c8),(ws c9),(ws c10),(ws c11),(ws c12),(ws c13),(ws c17),(ws c21)] [(2,(.p 0 0)),(3,(.p 1 0)),(4,(.p 2 0)),(11,(.p 9 0)),(16,(.p 14 0)),(17,(.p 15 0))] (by kernel_rfl) (by kernel_rfl) ⟨RG.ld u115 i115 (by kernel_rfl),RG.ld u115 i115 (by kernel_rfl),RG.ld u115 i115 (by kernel_rfl),RG.cl ((CMinus_c C c13 c17).e hc18) fun _ _=>by kernel_rfl,RG.cl ((CTimes_c C c10 c18).e hc19) fun _ _=>by kernel_rfl,RG.ld u115 i115 (by kernel_rfl),RG.ld u115 i115 (by kernel_rfl),RG.cl ((CTimes_c C c12 c6).e hc20) fun _ _=>by kernel_rfl,RG.cl ((CMinus_c C c19 c20).e hc21) fun _ _=>by kernel_rfl,RG.mk 15 185 fun _ _=>by kernel_rfl,RG.pt i115 (by kernel_rfl),trivial⟩ ?_
 intro j12 a12 w12 M12
 repeat refine wp_seq ?_
 refine M12.dr (by kernel_rfl) (F74e_15 z1 z2 c9 c17 c21 c22 c23) [] [(2,10,(ws c17++(ws c21++(ws c23))))] [(ws x1++(ws y1++(ws z1))),(ws x2++(ws y2++(ws z2))),(ws c17++(ws c21++(ws c23))),(ws c1),(ws c2),(ws c3),(ws c4),(ws c6),(ws c8),(ws c9),(ws c10),(ws c11),(ws c12),(ws c13),(ws c17),(ws c21)] [(4,(.p 2 0))] (by kernel_rfl) (by kernel_rfl) ⟨RG.ld u115 i115 (by kernel_rfl),RG.ld u115 i115 (by kernel_rfl),RG.st fun _ _=>by kernel_rfl,RG.ld u115 i115 (by kernel_rfl),RG.st fun _ _=>by kernel_rfl,RG.ld u115 i115 (by kernel_rfl),RG.cl ((CTimes_c C z1 z2).e hc22) fun _ _=>by kernel_rfl,RG.ld u115 i115 (by kernel_rfl),RG.cl ((CTimes_c C c22 c9).e hc23) fun _ _=>by kernel_rfl,RG.st fun _ _=>by kernel_rfl,RG.pt i117 (by kernel_rfl),trivial⟩ ?_
 intro a13 w13 M13
 refine wp_ret ?_
 refine bodyPost_ret (v:=(rv c17 c21 c23)) (RG.results_row M13.st 4 187 rfl 2 _ rfl (M13.at (s:=(.p 2 0)) (by kernel_rfl)) u117 i117) M13.sl.defers ?_
 exact ⟨_,rfl,M13.st.bel.below,rfl⟩
end Go.Proofs.YtmkllfekhehagagGreat
namespace Go.Proofs.YtmkllfekhehagagGreat
open Go.RowKit Go.Sort
variable {P:Nat} [NeZero P]
abbrev T3 (P:Nat):=Fin P × Fin P × Fin P
abbrev tv (t:T3 P):Value:=rv t.1 t.2.1 t.2.2
abbrev tw (t:T3 P):List Value:=ws t.1++(ws t.2.1++ws t.2.2)
def JacT (t:T3 P) (p:EC.Pt P):Prop:=EC.Jac t.1 t.2.1 t.2.2 p∧EC.On p
def twJ (t:T3 P):T3 P:=(EC.twX t.1 t.2.1,EC.twY t.1 t.2.1,EC.twZ t.2.1 t.2.2)
def plJ (a b:T3 P):T3 P :=
 if a.2.2=0 then b else if b.2.2=0 then a else
 if EC.plAx a.1 b.2.2=EC.plAx b.1 a.2.2∧EC.plAy a.2.1 b.2.2=EC.plAy b.2.1 a.2.2 then twJ a else
 (EC.plX (EC.plAx a.1 b.2.2) (EC.plAy a.2.1 b.2.2) (EC.plAx b.1 a.2.2) (EC.plAy b.2.1 a.2.2),EC.plY (EC.plAx a.1 b.2.2) (EC.plAy a.2.1 b.2.2) (EC.plAx b.1 a.2.2) (EC.plAy b.2.1 a.2.2),EC.plZ a.2.2 b.2.2 (EC.plAx a.1 b.2.2) (EC.plAx b.1 a.2.2))
def opJ (t:T3 P):T3 P:=(t.1,0 - t.2.1,t.2.2)
def raJ (x y:Fin P):T3 P:=if x=0∧y=0 then (0,0,0) else (x,y,1)
theorem twJ_c (C:Fld P) (t:T3 P):Gives 136 #[tv t] (tv (twJ t)):=twice_c C t.1 t.2.1 t.2.2
theorem plJ_c (C:Fld P) (a b:T3 P):Gives 137 #[tv a,tv b] (tv (plJ a b)):=by
 obtain ⟨x1,y1,z1⟩:=a
 obtain ⟨x2,y2,z2⟩:=b
 unfold plJ
 by_cases n1:z1=0
 · rw [if_pos n1]
   exact plus_a_c C x1 y1 z1 x2 y2 z2 n1
 · rw [if_neg n1]
   by_cases n2:z2=0
   · rw [if_pos n2]
     exact plus_b_c C x1 y1 z1 x2 y2 z2 n1 n2
   · rw [if_neg n2]
     by_cases hx:EC.plAx x1 z2=EC.plAx x2 z1
     · by_cases hy:EC.plAy y1 z2=EC.plAy y2 z1
       · rw [if_pos ⟨hx,hy⟩]
         exact plus_c_c C x1 y1 z1 x2 y2 z2 n1 n2 hx hy
       · rw [if_neg (fun h=>hy h.2)]
         exact plus_e_c C x1 y1 z1 x2 y2 z2 n1 n2 hx hy
     · rw [if_neg (fun h=>hx h.1)]
       exact plus_d_c C x1 y1 z1 x2 y2 z2 n1 n2 hx
theorem opJ_c (C:Fld P) (t:T3 P):Gives 175 #[tv t] (tv (opJ t)):=opposite_c C t.1 t.2.1 t.2.2
theorem raJ_c (C:Fld P) (x y:Fin P):Gives 169 #[pv x y] (tv (raJ x y)):=by
 unfold raJ
 by_cases hz:x=0∧y=0
 · rw [if_pos hz]
   exact ratio_t_c C x y hz
 · rw [if_neg hz]
   exact ratio_f_c C x y hz
theorem ptJ_c (C:Fld P) (t:T3 P):Gives 139 #[tv t] (pv (t.1*(EC.inv t.2.2*EC.inv t.2.2)) (t.2.1*(EC.inv t.2.2*EC.inv t.2.2)*EC.inv t.2.2)):=point_c C t.1 t.2.1 t.2.2
theorem JacT.twice (C:Fld P) {t:T3 P} {p:EC.Pt P} (h:JacT t p):JacT (twJ t) (EC.add p p):=⟨h.1.twice C.cur h.2,C.cur.on h.2 h.2⟩
theorem JacT.plus (C:Fld P) {a b:T3 P} {p q:EC.Pt P} (h:JacT a p) (h':JacT b q):JacT (plJ a b) (EC.add p q):=by
 refine ⟨?_,C.cur.on h.2 h'.2⟩
 obtain ⟨x1,y1,z1⟩:=a
 obtain ⟨x2,y2,z2⟩:=b
 unfold plJ
 by_cases n1:z1=0
 · rw [if_pos n1]
   obtain rfl:=h.1.zero C.cur n1
   exact h'.1
 · rw [if_neg n1]
   by_cases n2:z2=0
   · rw [if_pos n2]
     obtain rfl:=h'.1.zero C.cur n2
     rw [EC.add_none]
     exact h.1
   · rw [if_neg n2]
     rcases h.1.plus C.cur h.2 h'.1 h'.2 n1 n2 with ⟨e1,e2,e3⟩ | ⟨e1,e2⟩
     · rw [if_pos ⟨e1,e2⟩,e3]
       exact h.1.twice C.cur h.2
     · rw [if_neg e1]
       exact e2
theorem JacT.neg {t:T3 P} {p:EC.Pt P} (h:JacT t p):JacT (opJ t) (EC.neg p):=⟨h.1.neg,EC.neg_on h.2⟩
theorem raJ_J (C:Fld P) {x y:Fin P} {p:EC.Pt P} (h:EC.Pair x y p) (hp:EC.On p):JacT (raJ x y) p:=by
 refine ⟨?_,hp⟩
 unfold raJ
 by_cases hz:x=0∧y=0
 · obtain rfl:=h.nothing C.cur hp hz
   rw [if_pos hz]
   rfl
 · rw [if_neg hz]
   exact h.jac C.cur hz
theorem JacT.pair (C:Fld P) {t:T3 P} {p:EC.Pt P} (h:JacT t p):EC.Pair (t.1*(EC.inv t.2.2*EC.inv t.2.2)) (t.2.1*(EC.inv t.2.2*EC.inv t.2.2)*EC.inv t.2.2) p:=h.1.pair C.cur
theorem JacT.none:JacT ((0,0,0):T3 P) .none:=⟨rfl,EC.none_on⟩
end Go.Proofs.YtmkllfekhehagagGreat
namespace Go.Proofs.YtmkllfekhehagagGreat.DG
def dsum (d:Nat→Int):Nat→Int
 | 0=>0
 | k+1=>dsum d k+d k*2 ^ k
def upd (d:Nat→Int) (i:Nat) (v:Int):Nat→Int:=fun j=>if j=i then v else d j
theorem dsum_congr {d e:Nat→Int}:∀ k,(∀ j,j < k→d j=e j)→dsum d k=dsum e k
 | 0,_=>rfl
 | k+1,h=>by
  show dsum d k+d k*2 ^ k=dsum e k+e k*2 ^ k
  rw [dsum_congr k fun j hj=>h j (by omega),h k (by omega)]
theorem dsum_pad {d:Nat→Int} (i:Nat) (h:∀ j,i≤j→d j=0):∀ k,dsum d (i+k)=dsum d i
 | 0=>rfl
 | k+1=>by
  show dsum d (i+k)+d (i+k)*2 ^ (i+k)=_
  rw [h (i+k) (by omega),Int.zero_mul,Int.add_zero,dsum_pad i h k]
theorem upd_same (d:Nat→Int) (i:Nat) (v:Int):upd d i v i=v:=if_pos rfl
theorem upd_other {d:Nat→Int} {i j:Nat} {v:Int} (h:j≠i):upd d i v j=d j:=if_neg h
theorem dsum_upd {d:Nat→Int} (i:Nat) (v:Int) (h:∀ j,i≤j→d j=0) (k:Nat):dsum (upd d i v) (i+1+k)=dsum d i+v*2 ^ i:=by
 rw [dsum_pad (i+1) (fun j hj=>by rw [upd_other (by omega)];exact h j (by omega)) k]
 show dsum (upd d i v) i+upd d i v i*2 ^ i=_
 rw [upd_same,dsum_congr i fun j hj=>upd_other (by omega)]
structure DI (n:Nat) (d:Nat→Int) (i c:Nat):Prop where
 hc:c≤1
 hz:∀ j,i≤j→d j=0
 hw:∀ j,257≤j→d j=0
 ho:∀ j,d j=0∨(d j % 2=1∧-15≤d j∧d j≤15)
 hs:(n:Int)=dsum d i+((n / 2 ^ i+c:Nat):Int)*2 ^ i
 he:257≤i→n / 2 ^ i+c=0
theorem DI.start (n:Nat):DI n (fun _=>0) 0 0:=by
 refine ⟨by decide,fun _ _=>rfl,fun _ _=>rfl,fun _=>Or.inl rfl,?_,fun h=>by omega⟩
 rw [Nat.pow_zero,Nat.div_one]
 show (n:Int)=0+((n+0:Nat):Int)*1
 omega
theorem high {n i:Nat} (hn:n < 2 ^ 256) (hi:256≤i):n / 2 ^ i=0 :=
 Nat.div_eq_of_lt (Nat.lt_of_lt_of_le hn (Nat.pow_le_pow_right (by decide) hi))
theorem DI.skip {n i c:Nat} {d:Nat→Int} (h:DI n d i c) (hn:n < 2 ^ 256) (hi:i < 257) (hb:n / 2 ^ i % 2=c):DI n d (i+1) c:=by
 have hdiv:n / 2 ^ (i+1)=n / 2 ^ i / 2:=by rw [Nat.pow_succ,Nat.div_div_eq_div_mul]
 refine ⟨h.hc,fun j hj=>h.hz j (by omega),h.hw,h.ho,?_,fun h257=>?_⟩
 · rw [h.hs]
   show _=dsum d i+d i*2 ^ i+_
   rw [h.hz i (Nat.le_refl _),Int.zero_mul,Int.add_zero,hdiv,show n / 2 ^ i+c=(n / 2 ^ i / 2+c)*2 by have:=h.hc;omega]
   rw [show (2:Int) ^ (i+1)=2 ^ i*2 by rw [Int.pow_succ]]
   generalize (2:Int) ^ i=t
   rw [Int.natCast_mul,Int.mul_assoc,Int.mul_comm (2:Nat) t]
   rfl
 · have h1:i=256:=by omega
   have h2:n / 2 ^ i=0:=high hn (by omega)
   rw [hdiv,h2]
   rw [h2] at hb
   omega
theorem DI.take {n i c:Nat} {d:Nat→Int} (h:DI n d i c) (hn:n < 2 ^ 256) (hi:i < 257) (hb:n / 2 ^ i % 2≠c) :
 DI n (upd d i (((n / 2 ^ i % 32+c:Nat):Int) - 32*(((n / 2 ^ i % 32+c) / 16:Nat):Int))) (i+5) ((n / 2 ^ i % 32+c) / 16):=by
 have hdiv:n / 2 ^ (i+5)=n / 2 ^ i / 32:=by rw [Nat.pow_add,Nat.div_div_eq_div_mul]
 have hc:=h.hc
 have hodd:(n / 2 ^ i % 32+c) % 2=1:=by omega
 have hlt:n / 2 ^ i % 32+c < 32:=by omega
 refine ⟨by omega,fun j hj=>?_,fun j hj=>?_,fun j=>?_,?_,fun h257=>?_⟩
 · rw [upd_other (by omega)];exact h.hz j (by omega)
 · rw [upd_other (by omega)];exact h.hw j hj
 · by_cases hj:j=i
   · subst hj
     rw [upd_same]
     right
     omega
   · rw [upd_other hj];exact h.ho j
 · rw [show i+5=i+1+4 by omega,dsum_upd i _ h.hz 4,show i+1+4=i+5 by omega,h.hs,Int.add_assoc]
   congr 1
   rw [hdiv,Int.pow_add,show (2:Int) ^ 5=32 by decide,← Int.mul_comm (32:Int),← Int.mul_assoc,← Int.add_mul]
   congr 1
   omega
 · have h2:n / 2 ^ i < 16:=by
    rw [Nat.div_lt_iff_lt_mul (Nat.pow_pos (by decide))]
    refine Nat.lt_of_lt_of_le hn ?_
    calc 2 ^ 256=16*2 ^ 252:=by decide +kernel
     _≤16*2 ^ i:=Nat.mul_le_mul (Nat.le_refl _) (Nat.pow_le_pow_right (by decide) (by omega))
   rw [hdiv]
   generalize n / 2 ^ i=m at h2 hb hodd hlt ⊢
   rw [Nat.mod_eq_of_lt (show m < 32 by omega)] at hodd ⊢
   have h3:m+c < 16:=by omega
   rw [Nat.div_eq_of_lt h3,Nat.div_eq_of_lt (show m < 32 by omega)]
theorem DI.all {n i c:Nat} {d:Nat→Int} (h:DI n d i c) (hi:257≤i):(n:Int)=dsum d 257:=by
 have h1:=h.hs
 rw [h.he hi,Int.natCast_zero,Int.zero_mul,Int.add_zero] at h1
 rw [h1,show i=257+(i - 257) by omega,dsum_pad 257 h.hw]
def hor (d:Nat→Int):Nat→Int
 | 0=>0
 | k+1=>2*hor d k+d (256 - k)
theorem hor_sum (d:Nat→Int):∀ k,k≤257→hor d k*2 ^ (257 - k)+dsum d (257 - k)=dsum d 257
 | 0,_=>by show 0*_+_=_;rw [Int.zero_mul,Int.zero_add]
 | k+1,hk=>by
  rw [← hor_sum d k (by omega)]
  show (2*hor d k+d (256 - k))*2 ^ (257 - (k+1))+dsum d (257 - (k+1))=_
  rw [show 257 - (k+1)=256 - k by omega,show 257 - k=(256 - k)+1 by omega]
  show _=hor d k*2 ^ (256 - k+1)+(dsum d (256 - k)+d (256 - k)*2 ^ (256 - k))
  rw [Int.pow_succ]
  generalize (2:Int) ^ (256 - k)=t
  generalize hor d k=a
  generalize dsum d (256 - k)=b
  rw [Int.add_mul,Int.mul_comm t 2,← Int.mul_assoc,Int.mul_comm a 2]
  omega
theorem hor_all {n i c:Nat} {d:Nat→Int} (h:DI n d i c) (hi:257≤i):hor d 257=(n:Int):=by
 have h1:=hor_sum d 257 (Nat.le_refl _)
 rw [Nat.sub_self] at h1
 rw [h.all hi,← h1]
 show hor d 257=hor d 257*1+0
 omega
end Go.Proofs.YtmkllfekhehagagGreat.DG
set_option linter.unusedVariables false
set_option linter.unusedSimpArgs false
namespace Go.Proofs.YtmkllfekhehagagGreat
open Go.RowKit Go.Sort
theorem at138 (k o i:Nat) (hi:i < 257) (w:World):(Instr.indexAt 190 (.pointer (some ⟨k,o,none⟩)) (.int .i64 (i:Int))).run Tryz.prog w=.ok (.pointer (some ⟨k,o+i,none⟩)) w:=by
 have h1:¬ (i:Int) < 0:=by omega
 have h2:(i:Int) < 257:=by omega
 go_simp
theorem at138z (k i:Nat) (hi:i < 257) (w:World):(Instr.indexAt 190 (.pointer (some ⟨k,0,none⟩)) (.int .i64 (i:Int))).run Tryz.prog w=.ok (.pointer (some ⟨k,i,none⟩)) w:=by
 rw [at138 k 0 i hi,Nat.zero_add]
theorem at136 (k o i:Nat) (hi:i < 8) (w:World):(Instr.indexAt 188 (.pointer (some ⟨k,o,none⟩)) (.int .i64 (i:Int))).run Tryz.prog w=.ok (.pointer (some ⟨k,o+12*i,none⟩)) w:=by
 have h1:¬ (i:Int) < 0:=by omega
 have h2:(i:Int) < 8:=by omega
 go_simp
theorem at136b (k o i:Nat) (hi:i < 8) (w:World):(Instr.indexAt 188 (.pointer (some ⟨k,o,none⟩)) (.int .i8 (i:Int))).run Tryz.prog w=.ok (.pointer (some ⟨k,o+12*i,none⟩)) w:=by
 have h1:¬ (i:Int) < 0:=by omega
 have h2:(i:Int) < 8:=by omega
 go_simp
theorem at135 (k n c i:Nat) (hi:i < n) (w:World):(Instr.indexAt 184 (.slice (some ⟨k,0,none⟩) n c) (.int .i64 (i:Int))).run Tryz.prog w=.ok (.pointer (some ⟨k,353*i,none⟩)) w:=by
 have h1:¬ (i:Int) < 0:=by omega
 have h2:(i:Int) < n:=by omega
 go_simp
theorem at82 (k o n c i:Nat) (hi:i < n) (w:World):(Instr.indexAt 130 (.slice (some ⟨k,o,none⟩) n c) (.int .i64 (i:Int))).run Tryz.prog w=.ok (.pointer (some ⟨k,o+4*i,none⟩)) w:=by
 have h1:¬ (i:Int) < 0:=by omega
 have h2:(i:Int) < n:=by omega
 go_simp
theorem at112 (k o n c i:Nat) (hi:i < n) (w:World):(Instr.indexAt 133 (.slice (some ⟨k,o,none⟩) n c) (.int .i64 (i:Int))).run Tryz.prog w=.ok (.pointer (some ⟨k,o+8*i,none⟩)) w:=by
 have h1:¬ (i:Int) < 0:=by omega
 have h2:(i:Int) < n:=by omega
 go_simp
theorem i8neg (d:Int) (hd:-15≤d∧d≤15) (w:World):(Op.unary .neg (.int .i8 d)).run Tryz.prog w=.ok (.int .i8 (-d)) w:=by
 have h:=IntWalk.i8_in (-d) (by omega)
 go_simp
theorem i8quo (k:Nat) (hk:k < 8) (w:World):(binOp .quo 189 (.int .i8 (2*(k:Int)+1)) (.int .i8 2)).run Tryz.prog w=.ok (.int .i8 (k:Int)) w:=by
 have h0:(2*(k:Int)+1).tdiv 2=(k:Int):=by rw [Int.tdiv_eq_ediv_of_nonneg (by omega)];omega
 have h:=IntWalk.i8_in (k:Int) (by omega)
 go_simp
theorem shr4 (g:Nat) (hg:g < 32) (w:World):(binOp .shr 3 (.int .i64 (g:Int)) (.int .u64 4)).run Tryz.prog w=.ok (.int .i64 ((g / 16:Nat):Int)) w:=by
 go_simp
theorem shl5 (g:Nat) (hg:g < 32) (w:World):(binOp .shl 3 (.int .i64 (g:Int)) (.int .u64 5)).run Tryz.prog w=.ok (.int .i64 (32*(g:Int))) w:=by
 have h:=IntWalk.i64_in (32*(g:Int)) (by omega)
 have h2:(g:Int)*32=32*(g:Int):=by omega
 go_simp
theorem sub64i (a b:Int) (ha:-1000≤a∧a≤1000) (hb:-1000≤b∧b≤1000) (w:World):(binOp .sub 3 (.int .i64 a) (.int .i64 b)).run Tryz.prog w=.ok (.int .i64 (a - b)) w:=by
 have h:=IntWalk.i64_in (a - b) (by omega)
 go_simp
theorem addn (a b:Nat) (ha:a≤1000000) (hb:b≤1000000) (w:World):(binOp .add 3 (.int .i64 (a:Int)) (.int .i64 (b:Int))).run Tryz.prog w=.ok (.int .i64 ((a+b:Nat):Int)) w:=by
 have h:=IntWalk.i64_in ((a:Int)+(b:Int)) (by omega)
 go_simp
theorem cv8 (v:Int) (hv:-15≤v∧v≤15) (w:World):(convert 3 189 (.int .i64 v)).run Tryz.prog w=.ok (.int .i8 v) w:=by
 have h:=IntWalk.i8_in v (by omega)
 go_simp
theorem cmp_t {b c:Nat} (e:b=c) (w:World):(binOp .eql 3 (.int .i64 (b:Int)) (.int .i64 (c:Int))).run Tryz.prog w=.ok (.bool true) w:=by
 subst e
 go_simp
theorem cmp_f {b c:Nat} (e:¬ b=c) (w:World):(binOp .eql 3 (.int .i64 (b:Int)) (.int .i64 (c:Int))).run Tryz.prog w=.ok (.bool false) w:=by
 have h:¬ (b:Int)=(c:Int):=by omega
 go_simp
theorem lssn_t {i n:Nat} (e:i < n) (w:World):(binOp .lss 3 (.int .i64 (i:Int)) (.int .i64 (n:Int))).run Tryz.prog w=.ok (.bool true) w:=by
 have h:(i:Int) < (n:Int):=by omega
 go_simp
theorem lssn_f {i n:Nat} (e:¬ i < n) (w:World):(binOp .lss 3 (.int .i64 (i:Int)) (.int .i64 (n:Int))).run Tryz.prog w=.ok (.bool false) w:=by
 have h:¬ (i:Int) < (n:Int):=by omega
 go_simp
theorem Bits_c {n f c:Nat} (hn:n < top) (hf:f≤256) (hc:c≤32):Gives 190 #[nv n,.int .i64 (f:Int),.int .i64 (c:Int)] (.int .i64 ((n / 2 ^ f % 2 ^ c:Nat):Int)):=fun w =>
 (Bits_any _ n f c (four_nv hn) hf hc w).mono (by rintro e w' ⟨v,rfl,hb,rfl⟩;exact ⟨_,rfl,hb,rfl⟩)
def dg (d:Nat→Int):List Value:=(List.range 257).map (fun j=>Value.int .i8 (d j))
def dv (d:Nat→Int):Value:=.agg (dg d).toArray
theorem dg_length (d:Nat→Int):(dg d).length=257:=by unfold dg;rw [List.length_map,List.length_range]
theorem dg_at (d:Nat→Int) (j:Nat) (hj:j < 257):(dg d)[j]? = some (.int .i8 (d j)):=by
 unfold dg
 rw [List.getElem?_map,List.getElem?_range hj]
 rfl
theorem dg_set (d:Nat→Int) (i:Nat) (v:Int):dg (DG.upd d i v)=(dg d).set i (.int .i8 v):=by
 apply List.ext_getElem?
 intro j
 rw [List.getElem?_set]
 by_cases hj:j < 257
 · rw [dg_at _ j hj,dg_at _ j hj]
   by_cases hij:i=j
   · subst hij
     rw [if_pos rfl,if_pos (by rw [dg_length];exact hj),DG.upd_same]
   · rw [if_neg hij,DG.upd_other (fun h=>hij h.symm)]
 · rw [List.getElem?_eq_none (by rw [dg_length];omega)]
   by_cases hij:i=j
   · rw [if_pos hij,if_neg (by rw [dg_length];omega)]
   · rw [if_neg hij,List.getElem?_eq_none (by rw [dg_length];omega)]
theorem dg_one (d:Nat→Int):(dg d).all (·.oneCell')=true:=by
 unfold dg
 rw [List.all_map]
 exact List.all_eq_true.2 fun _ _=>rfl
theorem dg_sub (d:Nat→Int):((dg d).drop 0).take (dg d).length=dg d:=by rw [List.drop_zero,List.take_length]
def dgo (n:Nat):Nat→(Nat→Int)→Nat→Nat→(Nat→Int)
 | 0,d,_,_=>d
 | f+1,d,i,c=>if i < 257 then (if n / 2 ^ i % 2=c then dgo n f d (i+1) c else
  dgo n f (DG.upd d i (((n / 2 ^ i % 32+c:Nat):Int) - 32*(((n / 2 ^ i % 32+c) / 16:Nat):Int))) (i+5) ((n / 2 ^ i % 32+c) / 16)) else d
theorem dgo_end (n:Nat) (f:Nat) (d:Nat→Int) (i c:Nat) (h:¬ i < 257):dgo n f d i c=d:=by
 cases f with
 | zero=>rfl
 | succ f=>rw [dgo,if_neg h]
theorem dgo_DI {n:Nat} (hn:n < 2 ^ 256):∀ (f:Nat) (d:Nat→Int) (i c:Nat),DG.DI n d i c→257≤i+f→∃ i' c',257≤i'∧DG.DI n (dgo n f d i c) i' c'
 | 0,d,i,c,h,hf=>⟨i,c,by omega,h⟩
 | f+1,d,i,c,h,hf=>by
  by_cases hi:i < 257
  · rw [dgo,if_pos hi]
    by_cases hb:n / 2 ^ i % 2=c
    · rw [if_pos hb]
      exact dgo_DI hn f d (i+1) c (h.skip hn hi hb) (by omega)
    · rw [if_neg hb]
      exact dgo_DI hn f _ (i+5) _ (h.take hn hi hb) (by omega)
  · rw [dgo_end n _ d i c hi]
    exact ⟨i,c,by omega,h⟩
def digs (n:Nat):Nat→Int:=dgo n 257 (fun _=>0) 0 0
theorem digs_DI {n:Nat} (hn:n < 2 ^ 256):∃ i c,257≤i∧DG.DI n (digs n) i c:=dgo_DI hn 257 _ 0 0 (DG.DI.start n) (by omega)
end Go.Proofs.YtmkllfekhehagagGreat
namespace Go.Proofs.YtmkllfekhehagagGreat
open Go.RowKit Go.Sort
variable {P:Nat} [NeZero P]
theorem u138:(Tryz.prog.underlying 190).map (·.isRow)=some true:=by kernel_rfl
theorem i138:(Tryz.prog.info? 190).map (·.size)=some 257:=by kernel_rfl
theorem i137:(Tryz.prog.info? 189).map (·.size)=some 1:=by kernel_rfl
theorem u137:(Tryz.prog.underlying 189).map (·.isRow)=some false:=by kernel_rfl
theorem al138 (w:World):(Instr.alloc 190 true (.tuple #[])).run Tryz.prog w=.ok (.pointer (some ⟨w.heap.size,0,none⟩)) (w.alloc (.cells (dg (fun _=>0)).toArray 190)):=by kernel_rfl
def F115_0:List RG.It:=[.m 1 [] 0,.m 2 [] 1]
def F115_1:List RG.It:=[.m 3 [] 2]
def F115_2:List RG.It:=[.x 4 [] (.int .i64 0)]
def F115_3:List RG.It:=[.x 5 [] (.int .i64 0)]
def F115s_4 (i:Nat):List RG.It:=[.x 7 [] (.int .i64 (i:Int)),.x 8 [(7,0)] (.bool true)]
def F115s_6 (n i c b:Nat):List RG.It:=[.x 11 [] (nv n),.x 12 [] (.int .i64 (i:Int)),.c 13 [(11,0),(12,1)] (.int .i64 (b:Int)),.x 14 [] (.int .i64 (c:Int)),.x 15 [(13,2),(14,3)] (.bool true)]
def F115s_5 (i:Nat):List RG.It:=[.x 9 [] (.int .i64 (i:Int)),.x 10 [(9,0)] (.int .i64 ((i+1:Nat):Int)),.x 5 [(10,1)] (.int .i64 ((i+1:Nat):Int))]
def F115t_4 (i:Nat):List RG.It:=[.x 7 [] (.int .i64 (i:Int)),.x 8 [(7,0)] (.bool true)]
def F115t_6 (n i c b:Nat):List RG.It:=[.x 11 [] (nv n),.x 12 [] (.int .i64 (i:Int)),.c 13 [(11,0),(12,1)] (.int .i64 (b:Int)),.x 14 [] (.int .i64 (c:Int)),.x 15 [(13,2),(14,3)] (.bool false)]
def F115t_7 (n i c g e:Nat):List RG.It:=[.x 16 [] (nv n),.x 17 [] (.int .i64 (i:Int)),.c 18 [(16,0),(17,1)] (.int .i64 (e:Int)),.x 19 [] (.int .i64 (c:Int)),.x 20 [(18,2),(19,3)] (.int .i64 (g:Int)),.x 6 [(20,4)] (.int .i64 (g:Int))]
def F115t_8 (g:Nat):List RG.It:=[.x 21 [] (.int .i64 (g:Int)),.x 22 [(21,0)] (.int .i64 ((g / 16:Nat):Int)),.x 4 [(22,1)] (.int .i64 ((g / 16:Nat):Int))]
def F115t_9 (i g:Nat) (v:Int):List RG.It:=[.x 23 [] (.int .i64 (i:Int)),.x 24 [] (.int .i64 (g:Int)),.x 25 [] (.int .i64 ((g / 16:Nat):Int)),.x 26 [(25,2)] (.int .i64 (32*((g / 16:Nat):Int))),.x 27 [(24,1),(26,3)] (.int .i64 v),.x 28 [(27,4)] (.int .i8 v),.s 29 [(23,0)] (.p 2 i),.u [(29,6),(28,5)] 2]
def F115t_10 (i:Nat):List RG.It:=[.x 30 [] (.int .i64 (i:Int)),.x 31 [(30,0)] (.int .i64 ((i+4:Nat):Int)),.x 5 [(31,1)] (.int .i64 ((i+4:Nat):Int))]
def F115t_5 (i:Nat):List RG.It:=[.x 9 [] (.int .i64 ((i+4:Nat):Int)),.x 10 [(9,0)] (.int .i64 ((i+4+1:Nat):Int)),.x 5 [(10,1)] (.int .i64 ((i+4+1:Nat):Int))]
def F115z_4 (i:Nat):List RG.It:=[.x 7 [] (.int .i64 (i:Int)),.x 8 [(7,0)] (.bool false)]
def F115z_11 (d:Nat→Int):List RG.It:=[.x 32 [] (dv d),.u [(32,0)] 1]
set_option maxHeartbeats 2000000 in
set_option maxRecDepth 100000 in
theorem digits_c {n:Nat} (hn:n < top):Gives 168 #[nv n] (dv (digs n)):=by
 intro w
 go_enter Tryz.func168,Tryz.ntmps168
 refine RG.var1 (v0:=nv n) (n:=33) (by kernel_rfl) (by kernel_rfl) (by kernel_rfl) ?_
 intro a0 sl0 f0
 have hS0:=RG.St.begin w
 have M0:RG.M w w.heap.size [] 33 [] [] [(0,(.v (nv n)))] a0 _:=⟨hS0,sl0,⟨f0,trivial⟩⟩
 repeat refine wp_seq ?_
 refine M0.tx F115_0 [(0,(wn n)),(1,(dg (fun _=>0)))] [] [(wn n),(dg (fun _=>0))] [(1,(.p 0 0)),(2,(.p 1 0))] (by kernel_rfl) (by kernel_rfl) ⟨RG.mk 0 55 fun _ _=>by kernel_rfl,RG.cert_alloc 1 rfl rfl _ rfl 190 rfl (al138),trivial⟩ ?_
 intro j1 i1 a1 w1 M1
 repeat refine wp_seq ?_
 refine M1.tx F115_1 [(0,(dg (fun _=>0)))] [] [(wn n),(dg (fun _=>0)),(dg (fun _=>0))] [(1,(.p 0 0)),(2,(.p 1 0)),(3,(.p 2 0))] (by kernel_rfl) (by kernel_rfl) ⟨RG.cert_alloc 2 rfl rfl _ rfl 190 rfl (al138),trivial⟩ ?_
 intro j2 a2 w2 M2
 repeat refine wp_seq ?_
 refine M2.tx0 F115_2 [(1,(.p 0 0)),(2,(.p 1 0)),(3,(.p 2 0)),(4,(.v (.int .i64 0)))] (by kernel_rfl) ⟨RG.st fun _ _=>by kernel_rfl,trivial⟩ ?_
 intro a3 w3 M3
 repeat refine wp_seq ?_
 refine M3.tx0 F115_3 [(1,(.p 0 0)),(2,(.p 1 0)),(3,(.p 2 0)),(4,(.v (.int .i64 0))),(5,(.v (.int .i64 0)))] (by kernel_rfl) ⟨RG.st fun _ _=>by kernel_rfl,trivial⟩ ?_
 intro a4 w4 M4
 have hS4:RG.St w w.heap.size [] [(wn n),(dg (fun _=>0)),(dg (fun _=>0))] [j1,i1,j2] _:=M4.st
 have sl4:=M4.sl
 have f1_4:a4.tmps[1]? = some (.pointer (some ⟨j1,0,none⟩)):=M4.at (s:=(.p 0 0)) (by kernel_rfl)
 have f2_4:a4.tmps[2]? = some (.pointer (some ⟨i1,0,none⟩)):=M4.at (s:=(.p 1 0)) (by kernel_rfl)
 have f3_4:a4.tmps[3]? = some (.pointer (some ⟨j2,0,none⟩)):=M4.at (s:=(.p 2 0)) (by kernel_rfl)
 have f4_4:a4.tmps[4]? = some (.int .i64 0):=M4.at (s:=(.v (.int .i64 0))) (by kernel_rfl)
 have f5_4:a4.tmps[5]? = some (.int .i64 0):=M4.at (s:=(.v (.int .i64 0))) (by kernel_rfl)
 repeat refine wp_seq ?_
 refine wp_block ?_
 refine wp_loop_ghost (fun m a wr=>∃ (d:Nat→Int) (i c:Nat),c≤1∧i≤261∧257≤i+m∧dgo n m d i c=digs n∧RG.Sl a 33∧a.tmps[1]? = some (.pointer (some ⟨j1,0,none⟩))∧a.tmps[2]? = some (.pointer (some ⟨i1,0,none⟩))∧a.tmps[3]? = some (.pointer (some ⟨j2,0,none⟩))∧a.tmps[4]? = some (.int .i64 (c:Int))∧a.tmps[5]? = some (.int .i64 (i:Int))∧RG.St w w.heap.size [] [wn n,dg (fun _=>0),dg d] [j1,i1,j2] wr) 257 ⟨fun _=>0,0,0,by omega,by omega,by omega,rfl,sl4,f1_4,f2_4,f3_4,f4_4,f5_4,hS4⟩ ?_
 intro m a wr
 rintro ⟨d,i,c,hc,hi2,hm,hd,sl,f1,f2,f3,f4,f5,hS⟩
 obtain ⟨b,hbv⟩:∃ b,n / 2 ^ i % 2=b:=⟨_,rfl⟩
 obtain ⟨e,hev⟩:∃ e,n / 2 ^ i % 32=e:=⟨_,rfl⟩
 obtain ⟨g,hgv⟩:∃ g,e+c=g:=⟨_,rfl⟩
 obtain ⟨v,hvv⟩:∃ v:Int,(g:Int) - 32*((g / 16:Nat):Int)=v:=⟨_,rfl⟩
 generalize j1=k1 at f1 f2 f3 hS
 generalize i1=k2 at f1 f2 f3 hS
 generalize j2=k3 at f1 f2 f3 hS
 by_cases hi:i < 257
 · have hB1:Gives 190 #[nv n,.int .i64 (i:Int),.int .i64 1] (.int .i64 (b:Int)):=by rw [← hbv];exact Bits_c (c:=1) hn (by omega) (by omega)
   have hB5:Gives 190 #[nv n,.int .i64 (i:Int),.int .i64 5] (.int .i64 (e:Int)):=by rw [← hev];exact Bits_c (c:=5) hn (by omega) (by omega)
   have hm0:∃ m',m=m'+1:=by
    cases m with
    | zero=>exact absurd hm (by omega)
    | succ m'=>exact ⟨m',rfl⟩
   obtain ⟨m',rfl⟩:=hm0
   rw [dgo,if_pos hi,hbv,hev,hgv,hvv] at hd
   by_cases hb:b=c
   · rw [if_pos hb] at hd
     have M0:RG.M w w.heap.size [] 33 [(wn n),(dg (fun _=>0)),(dg d)] [k1,k2,k3] [(1,(.p 0 0)),(2,(.p 1 0)),(3,(.p 2 0)),(4,(.v (.int .i64 (c:Int)))),(5,(.v (.int .i64 (i:Int))))] a _:=⟨hS,sl,⟨f1,f2,f3,f4,f5,trivial⟩⟩
     repeat refine wp_seq ?_
     refine M0.tx0 (F115s_4 i) [(1,(.p 0 0)),(2,(.p 1 0)),(3,(.p 2 0)),(4,(.v (.int .i64 (c:Int)))),(5,(.v (.int .i64 (i:Int)))),(8,(.v (.bool true)))] (by kernel_rfl) ⟨RG.st fun _ _=>by kernel_rfl,RG.cert_binc rfl .lss 3 3 7 (.int .i64 (i:Int)) (.int .i64 257) (.bool true) rfl rfl (RG.sx fun _=>by kernel_rfl) (fun w=>by kernel_rfl) (lssn_t (n:=257) hi),trivial⟩ ?_
     intro a1 w1 M1
     repeat refine wp_seq ?_
     refine wp_cond_true (M1.ev (by kernel_rfl)) ?_
     refine wp_skip ?_
     refine wp_seq ?_
     refine wp_block ?_
     repeat refine wp_seq ?_
     refine M1.tx0 (F115s_6 n i c b) [(1,(.p 0 0)),(2,(.p 1 0)),(3,(.p 2 0)),(4,(.v (.int .i64 (c:Int)))),(5,(.v (.int .i64 (i:Int)))),(15,(.v (.bool true)))] (by kernel_rfl) ⟨RG.ld u85 i85 (by kernel_rfl),RG.st fun _ _=>by kernel_rfl,RG.cl (hB1) fun _ _=>by kernel_rfl,RG.st fun _ _=>by kernel_rfl,RG.cert_bin rfl .eql 3 3 13 14 (.int .i64 (b:Int)) (.int .i64 (c:Int)) (.bool true) rfl rfl (RG.sx fun _=>by kernel_rfl) (RG.sx fun _=>by kernel_rfl) (fun w=>by kernel_rfl) (cmp_t hb),trivial⟩ ?_
     intro a2 w2 M2
     repeat refine wp_seq ?_
     refine wp_cond_true (M2.ev (by kernel_rfl)) ?_
     refine wp_exit ?_
     dsimp only [Exit.then,Exit.inBlock]
     rw [if_pos rfl]
     repeat refine wp_seq ?_
     refine M2.tx0 (F115s_5 i) [(1,(.p 0 0)),(2,(.p 1 0)),(3,(.p 2 0)),(4,(.v (.int .i64 (c:Int)))),(5,(.v (.int .i64 ((i+1:Nat):Int))))] (by kernel_rfl) ⟨RG.st fun _ _=>by kernel_rfl,RG.cert_binc rfl .add 3 3 9 (.int .i64 (i:Int)) (.int .i64 1) (.int .i64 ((i+1:Nat):Int)) rfl rfl (RG.sx fun _=>by kernel_rfl) (fun w=>by kernel_rfl) (addn i 1 (by omega) (by omega)),RG.st fun _ _=>by kernel_rfl,trivial⟩ ?_
     intro a3 w3 M3
     have hS3:RG.St w w.heap.size [] [(wn n),(dg (fun _=>0)),(dg d)] [k1,k2,k3] _:=M3.st
     have sl3:=M3.sl
     have f1_3:a3.tmps[1]? = some (.pointer (some ⟨k1,0,none⟩)):=M3.at (s:=(.p 0 0)) (by kernel_rfl)
     have f2_3:a3.tmps[2]? = some (.pointer (some ⟨k2,0,none⟩)):=M3.at (s:=(.p 1 0)) (by kernel_rfl)
     have f3_3:a3.tmps[3]? = some (.pointer (some ⟨k3,0,none⟩)):=M3.at (s:=(.p 2 0)) (by kernel_rfl)
     have f4_3:a3.tmps[4]? = some (.int .i64 (c:Int)):=M3.at (s:=(.v (.int .i64 (c:Int)))) (by kernel_rfl)
     have f5_3:a3.tmps[5]? = some (.int .i64 ((i+1:Nat):Int)):=M3.at (s:=(.v (.int .i64 ((i+1:Nat):Int)))) (by kernel_rfl)
     show ∃ n',_
     exact ⟨m',Nat.lt_succ_self m',d,i+1,c,hc,by omega,by omega,hd,sl3,f1_3,f2_3,f3_3,f4_3,f5_3,hS3⟩
   · rw [if_neg hb] at hd
     have he:e < 32:=by omega
     have hpar:g % 2=1:=by omega
     have hg:g < 32:=by omega
     have hv:-15≤v∧v≤15:=by omega
     have hadd:∀ w,(binOp .add 3 (.int .i64 (e:Int)) (.int .i64 (c:Int))).run Tryz.prog w=.ok (.int .i64 (g:Int)) w:=fun w=>by rw [addn e c (by omega) (by omega),hgv]
     have hsub:∀ w,(binOp .sub 3 (.int .i64 (g:Int)) (.int .i64 (32*((g / 16:Nat):Int)))).run Tryz.prog w=.ok (.int .i64 v) w:=fun w=>by rw [sub64i _ _ (by omega) (by omega),hvv]
     have M0:RG.M w w.heap.size [] 33 [(wn n),(dg (fun _=>0)),(dg d)] [k1,k2,k3] [(1,(.p 0 0)),(2,(.p 1 0)),(3,(.p 2 0)),(4,(.v (.int .i64 (c:Int)))),(5,(.v (.int .i64 (i:Int))))] a _:=⟨hS,sl,⟨f1,f2,f3,f4,f5,trivial⟩⟩
     repeat refine wp_seq ?_
     refine M0.tx0 (F115t_4 i) [(1,(.p 0 0)),(2,(.p 1 0)),(3,(.p 2 0)),(4,(.v (.int .i64 (c:Int)))),(5,(.v (.int .i64 (i:Int)))),(8,(.v (.bool true)))] (by kernel_rfl) ⟨RG.st fun _ _=>by kernel_rfl,RG.cert_binc rfl .lss 3 3 7 (.int .i64 (i:Int)) (.int .i64 257) (.bool true) rfl rfl (RG.sx fun _=>by kernel_rfl) (fun w=>by kernel_rfl) (lssn_t (n:=257) hi),trivial⟩ ?_
     intro a1 w1 M1
     repeat refine wp_seq ?_
     refine wp_cond_true (M1.ev (by kernel_rfl)) ?_
     refine wp_skip ?_
     refine wp_seq ?_
     refine wp_block ?_
     repeat refine wp_seq ?_
     refine M1.tx0 (F115t_6 n i c b) [(1,(.p 0 0)),(2,(.p 1 0)),(3,(.p 2 0)),(4,(.v (.int .i64 (c:Int)))),(5,(.v (.int .i64 (i:Int)))),(15,(.v (.bool false)))] (by kernel_rfl) ⟨RG.ld u85 i85 (by kernel_rfl),RG.st fun _ _=>by kernel_rfl,RG.cl (hB1) fun _ _=>by kernel_rfl,RG.st fun _ _=>by kernel_rfl,RG.cert_bin rfl .eql 3 3 13 14 (.int .i64 (b:Int)) (.int .i64 (c:Int)) (.bool false) rfl rfl (RG.sx fun _=>by kernel_rfl) (RG.sx fun _=>by kernel_rfl) (fun w=>by kernel_rfl) (cmp_f hb),trivial⟩ ?_
     intro a2 w2 M2
     repeat refine wp_seq ?_
     refine wp_cond_false (M2.ev (by kernel_rfl)) ?_
     refine wp_skip ?_
     repeat refine wp_seq ?_
     refine M2.tx0 (F115t_7 n i c g e) [(1,(.p 0 0)),(2,(.p 1 0)),(3,(.p 2 0)),(4,(.v (.int .i64 (c:Int)))),(5,(.v (.int .i64 (i:Int)))),(6,(.v (.int .i64 (g:Int))))] (by kernel_rfl) ⟨RG.ld u85 i85 (by kernel_rfl),RG.st fun _ _=>by kernel_rfl,RG.cl (hB5) fun _ _=>by kernel_rfl,RG.st fun _ _=>by kernel_rfl,RG.cert_bin rfl .add 3 3 18 19 (.int .i64 (e:Int)) (.int .i64 (c:Int)) (.int .i64 (g:Int)) rfl rfl (RG.sx fun _=>by kernel_rfl) (RG.sx fun _=>by kernel_rfl) (fun w=>by kernel_rfl) (hadd),RG.st fun _ _=>by kernel_rfl,trivial⟩ ?_
     intro a3 w3 M3
     repeat refine wp_seq ?_
     refine M3.tx0 (F115t_8 g) [(1,(.p 0 0)),(2,(.p 1 0)),(3,(.p 2 0)),(4,(.v (.int .i64 ((g / 16:Nat):Int)))),(5,(.v (.int .i64 (i:Int)))),(6,(.v (.int .i64 (g:Int))))] (by kernel_rfl) ⟨RG.st fun _ _=>by kernel_rfl,RG.cert_binc rfl .shr 3 212 21 (.int .i64 (g:Int)) (.int .u64 4) (.int .i64 ((g / 16:Nat):Int)) rfl rfl (RG.sx fun _=>by kernel_rfl) (fun w=>by kernel_rfl) (shr4 g hg),RG.st fun _ _=>by kernel_rfl,trivial⟩ ?_
     intro a4 w4 M4
     repeat refine wp_seq ?_
     refine M4.tx (F115t_9 i g v) [] [(2,7,(dg (DG.upd d i v)))] [(wn n),(dg (fun _=>0)),(dg (DG.upd d i v))] [(1,(.p 0 0)),(2,(.p 1 0)),(3,(.p 2 0)),(4,(.v (.int .i64 ((g / 16:Nat):Int)))),(5,(.v (.int .i64 (i:Int))))] (by kernel_rfl) (by kernel_rfl) ⟨RG.st fun _ _=>by kernel_rfl,RG.st fun _ _=>by kernel_rfl,RG.st fun _ _=>by kernel_rfl,RG.cert_binc rfl .shl 3 212 25 (.int .i64 ((g / 16:Nat):Int)) (.int .u64 5) (.int .i64 (32*((g / 16:Nat):Int))) rfl rfl (RG.sx fun _=>by kernel_rfl) (fun w=>by kernel_rfl) (shl5 (g / 16) (by omega)),RG.cert_bin rfl .sub 3 3 24 26 (.int .i64 (g:Int)) (.int .i64 (32*((g / 16:Nat):Int))) (.int .i64 v) rfl rfl (RG.sx fun _=>by kernel_rfl) (RG.sx fun _=>by kernel_rfl) (fun w=>by kernel_rfl) (hsub),RG.cert_conv rfl 3 189 27 (.int .i64 v) (.int .i8 v) rfl rfl (RG.sx fun _=>by kernel_rfl) (cv8 v hv),RG.cert_idx rfl 190 3 23 rfl (.p 2 0) (.int .i64 (i:Int)) (RG.sx fun _=>by kernel_rfl) (RG.sx fun _=>by kernel_rfl) (fun μ w=>at138z _ i hi w),RG.cert_put1 2 i rfl _ rfl 189 (.tmp 29) (.tmp 28) (.int .i8 v) rfl rfl (RG.sx fun _=>by kernel_rfl) (RG.sx fun _=>by kernel_rfl) (by show i < (dg _).length;rw [dg_length];exact hi) (dg_set d i v) i137 rfl rfl,trivial⟩ ?_
     intro a5 w5 M5
     repeat refine wp_seq ?_
     refine M5.tx0 (F115t_10 i) [(1,(.p 0 0)),(2,(.p 1 0)),(3,(.p 2 0)),(4,(.v (.int .i64 ((g / 16:Nat):Int)))),(5,(.v (.int .i64 ((i+4:Nat):Int))))] (by kernel_rfl) ⟨RG.st fun _ _=>by kernel_rfl,RG.cert_binc rfl .add 3 3 30 (.int .i64 (i:Int)) (.int .i64 4) (.int .i64 ((i+4:Nat):Int)) rfl rfl (RG.sx fun _=>by kernel_rfl) (fun w=>by kernel_rfl) (addn i 4 (by omega) (by omega)),RG.st fun _ _=>by kernel_rfl,trivial⟩ ?_
     intro a6 w6 M6
     repeat refine wp_seq ?_
     refine M6.tx0 (F115t_5 i) [(1,(.p 0 0)),(2,(.p 1 0)),(3,(.p 2 0)),(4,(.v (.int .i64 ((g / 16:Nat):Int)))),(5,(.v (.int .i64 ((i+4+1:Nat):Int))))] (by kernel_rfl) ⟨RG.st fun _ _=>by kernel_rfl,RG.cert_binc rfl .add 3 3 9 (.int .i64 ((i+4:Nat):Int)) (.int .i64 1) (.int .i64 ((i+4+1:Nat):Int)) rfl rfl (RG.sx fun _=>by kernel_rfl) (fun w=>by kernel_rfl) (addn (i+4) 1 (by omega) (by omega)),RG.st fun _ _=>by kernel_rfl,trivial⟩ ?_
     intro a7 w7 M7
     have hS7:RG.St w w.heap.size [] [(wn n),(dg (fun _=>0)),(dg (DG.upd d i v))] [k1,k2,k3] _:=M7.st
     have sl7:=M7.sl
     have f1_7:a7.tmps[1]? = some (.pointer (some ⟨k1,0,none⟩)):=M7.at (s:=(.p 0 0)) (by kernel_rfl)
     have f2_7:a7.tmps[2]? = some (.pointer (some ⟨k2,0,none⟩)):=M7.at (s:=(.p 1 0)) (by kernel_rfl)
     have f3_7:a7.tmps[3]? = some (.pointer (some ⟨k3,0,none⟩)):=M7.at (s:=(.p 2 0)) (by kernel_rfl)
     have f4_7:a7.tmps[4]? = some (.int .i64 ((g / 16:Nat):Int)):=M7.at (s:=(.v (.int .i64 ((g / 16:Nat):Int)))) (by kernel_rfl)
     have f5_7:a7.tmps[5]? = some (.int .i64 ((i+4+1:Nat):Int)):=M7.at (s:=(.v (.int .i64 ((i+4+1:Nat):Int)))) (by kernel_rfl)
     show ∃ n',_
     exact ⟨m',Nat.lt_succ_self m',DG.upd d i v,i+5,g / 16,by omega,by omega,by omega,hd,sl7,f1_7,f2_7,f3_7,f4_7,f5_7,hS7⟩
 · have hD:d=digs n:=by rw [← hd,dgo_end n m d i c hi]
   have M0:RG.M w w.heap.size [] 33 [(wn n),(dg (fun _=>0)),(dg d)] [k1,k2,k3] [(1,(.p 0 0)),(2,(.p 1 0)),(3,(.p 2 0)),(4,(.v (.int .i64 (c:Int)))),(5,(.v (.int .i64 (i:Int))))] a _:=⟨hS,sl,⟨f1,f2,f3,f4,f5,trivial⟩⟩
   repeat refine wp_seq ?_
   refine M0.tx0 (F115z_4 i) [(2,(.p 1 0)),(3,(.p 2 0)),(8,(.v (.bool false)))] (by kernel_rfl) ⟨RG.st fun _ _=>by kernel_rfl,RG.cert_binc rfl .lss 3 3 7 (.int .i64 (i:Int)) (.int .i64 257) (.bool false) rfl rfl (RG.sx fun _=>by kernel_rfl) (fun w=>by kernel_rfl) (lssn_f (n:=257) hi),trivial⟩ ?_
   intro a1 w1 M1
   repeat refine wp_seq ?_
   refine wp_cond_false (M1.ev (by kernel_rfl)) ?_
   refine wp_exit ?_
   dsimp only [Exit.then,Exit.inBlock]
   rw [if_pos rfl]
   repeat refine wp_seq ?_
   refine M1.tx (F115z_11 d) [] [(1,1,(dg d))] [(wn n),(dg d),(dg d)] [(2,(.p 1 0))] (by kernel_rfl) (by kernel_rfl) ⟨RG.cert_load rfl 2 0 _ rfl rfl (by kernel_rfl) 190 3 rfl (dg d) rfl (RG.sx fun _=>by kernel_rfl) (dg_sub _) u138 (by rw [dg_length];exact i138),RG.cert_put 1 rfl _ rfl 190 (.tmp 2) (.tmp 32) rfl rfl (by show (dg _).length=(dg _).length;rw [dg_length,dg_length]) (RG.sx fun _=>by kernel_rfl) (RG.sx fun _=>by kernel_rfl) (by show _=some (dg _).length;rw [dg_length];exact i138) (dg_one _),trivial⟩ ?_
   intro a2 w2 M2
   have hS2:RG.St w w.heap.size [] [(wn n),(dg d),(dg d)] [k1,k2,k3] _:=M2.st
   have sl2:=M2.sl
   have f2_2:a2.tmps[2]? = some (.pointer (some ⟨k2,0,none⟩)):=M2.at (s:=(.p 1 0)) (by kernel_rfl)
   refine wp_ret ?_
   refine bodyPost_ret (v:=dv d) (RG.results_row hS2 2 190 rfl 1 _ rfl f2_2 u138 (by rw [dg_length];exact i138)) sl2.defers ?_
   exact ⟨_,rfl,hS2.bel.below,by rw [hD]⟩
end Go.Proofs.YtmkllfekhehagagGreat
namespace Go.Proofs.YtmkllfekhehagagGreat
open Go.RowKit Go.Sort
variable {P:Nat} [NeZero P]
omit [NeZero P] in
theorem tw_length (t:T3 P):(tw t).length=12:=rfl
omit [NeZero P] in
theorem tw_one (t:T3 P):(tw t).all (·.oneCell')=true:=rfl
def od (x y:Fin P):Nat→T3 P
 | 0=>raJ x y
 | q+1=>plJ (od x y q) (twJ (raJ x y))
theorem od_J (C:Fld P) {x y:Fin P} {p:EC.Pt P} (h:EC.Pair x y p) (hp:EC.On p):∀ q,JacT (od x y q) (EC.zmul ((2*q+1:Nat):Int) p)
 | 0=>by
  show JacT (raJ x y) (EC.zmul 1 p)
  rw [EC.zmul_one]
  exact raJ_J C h hp
 | q+1=>by
  have h1:=od_J C h hp q
  have h2:=(raJ_J C h hp).twice C
  have h3:=h1.plus C h2
  have e:EC.zmul ((2*(q+1)+1:Nat):Int) p=EC.add (EC.zmul ((2*q+1:Nat):Int) p) (EC.add p p):=by
   have:EC.add p p=EC.zmul 2 p:=by
    rw [show (2:Int)=1+1 by rfl,EC.zmul_add C.cur hp,EC.zmul_one]
   rw [this,← EC.zmul_add C.cur hp]
   congr 1
  rw [e]
  exact h3
structure Fi (x y:Fin P) (D:Nat→Int) (C0:List Value) (off m:Nat) (C:List Value):Prop where
 len:C.length=C0.length
 out:∀ j,j < off∨off+353≤j→C[j]? = C0[j]?
 dig:∀ j,j < 257→C[off+96+j]? = some (.int .i8 (D j))
 odd:∀ q j,q < m→j < 12→C[off+12*q+j]? = (tw (od x y q))[j]?
theorem Fi.first {x y:Fin P} {D:Nat→Int} {C0:List Value} {off:Nat} (h:off+353≤C0.length):Fi x y D C0 off 0 (RG.rep C0 (off+96) (dg D)):=by
 have hl:off+96+(dg D).length≤C0.length:=by rw [dg_length];omega
 refine ⟨RG.rep_length hl,fun j hj=>?_,fun j hj=>?_,fun q j hq _=>by omega⟩
 · rw [RG.rep_at hl,if_neg (by rw [dg_length];omega)]
 · rw [RG.rep_at hl,if_pos (by rw [dg_length];omega),show off+96+j - (off+96)=j by omega,dg_at D j hj]
theorem Fi.next {x y:Fin P} {D:Nat→Int} {C0 C:List Value} {off m:Nat} (h:off+353≤C0.length) (hF:Fi x y D C0 off m C) (hm:m < 8):Fi x y D C0 off (m+1) (RG.rep C (off+12*m) (tw (od x y m))):=by
 have hlen:=hF.len
 have hl:off+12*m+(tw (od x y m)).length≤C.length:=by rw [tw_length];omega
 refine ⟨by rw [RG.rep_length hl];exact hlen,fun j hj=>?_,fun j hj=>?_,fun q j hq hj=>?_⟩
 · rw [RG.rep_at hl,if_neg (by rw [tw_length];omega)]
   exact hF.out j hj
 · rw [RG.rep_at hl,if_neg (by rw [tw_length];omega)]
   exact hF.dig j hj
 · rw [RG.rep_at hl]
   by_cases hqm:q=m
   · subst hqm
     rw [if_pos (by rw [tw_length];omega),show off+12*q+j - (off+12*q)=j by omega]
   · rw [if_neg (by rw [tw_length];omega)]
     exact hF.odd q j (by omega) hj
theorem Fi.sub {x y:Fin P} {D:Nat→Int} {C0 C:List Value} {off m q:Nat} (h:off+353≤C0.length) (hF:Fi x y D C0 off m C) (hq:q < m) (hm:m≤8):(C.drop (off+12*q)).take (tw (od x y q)).length=tw (od x y q) :=
 RG.sub_of (fun j hj=>hF.odd q j hq (by rw [tw_length] at hj;exact hj)) (by rw [tw_length];have:=hF.len;omega)
def fc (x y:Fin P) (D:Nat→Int) (C0:List Value) (off:Nat):Nat→List Value
 | 0=>RG.rep C0 (off+96) (dg D)
 | m+1=>RG.rep (fc x y D C0 off m) (off+12*m) (tw (od x y m))
theorem fc_Fi {x y:Fin P} {D:Nat→Int} {C0:List Value} {off:Nat} (h:off+353≤C0.length):∀ m,m≤8→Fi x y D C0 off m (fc x y D C0 off m)
 | 0,_=>Fi.first h
 | m+1,hm=>(fc_Fi h m (by omega)).next h (by omega)
theorem Fi.uniq {x y:Fin P} {D:Nat→Int} {C0 C C':List Value} {off:Nat} (h:Fi x y D C0 off 8 C) (h':Fi x y D C0 off 8 C'):C=C':=by
 apply List.ext_getElem?
 intro j
 by_cases h1:j < off∨off+353≤j
 · rw [h.out j h1,h'.out j h1]
 · by_cases h2:j < off+96
   · have e:j=off+12*((j - off) / 12)+(j - off) % 12:=by omega
     rw [e,h.odd _ _ (by omega) (by omega),h'.odd _ _ (by omega) (by omega)]
   · have e:j=off+96+(j - off - 96):=by omega
     rw [e,h.dig _ (by omega),h'.dig _ (by omega)]
end Go.Proofs.YtmkllfekhehagagGreat
namespace Go.Proofs.YtmkllfekhehagagGreat
open Go.RowKit Go.Sort
variable {P:Nat} [NeZero P]
def F107a_0:List RG.It:=[.m 4 [] 1,.m 5 [] 2]
def F107b_1 (n off:Nat) (x:Fin P) (D:Nat→Int):List RG.It:=[.s 8 [] (.p 0 off),.x 9 [] (nv n),.c 10 [(9,1)] (dv D),.s 11 [(8,0)] (.p 0 off),.s 12 [(11,3)] (.p 0 (off+96)),.u [(12,4),(10,2)] 0]
def F107c_2 (off:Nat) (x y:Fin P) (s0:T3 P):List RG.It:=[.s 13 [] (.p 0 off),.x 14 [] (pv x y),.c 15 [(14,1)] (tv s0),.s 16 [(13,0)] (.p 0 off),.s 17 [(16,3)] (.p 0 (off+0)),.s 18 [(17,4)] (.p 0 ((off+0)+12*0)),.u [(18,5),(15,2)] 0]
def F107d_3 (off:Nat) (x:Fin P) (s0 s2:T3 P):List RG.It:=[.s 19 [] (.p 0 off),.s 20 [(19,0)] (.p 0 off),.s 21 [(20,1)] (.p 0 (off+0)),.s 22 [(21,2)] (.p 0 ((off+0)+12*0)),.x 23 [(22,3)] (tv s0),.c 24 [(23,4)] (tv s2),.m 6 [] 3,.u [(6,6),(24,5)] 3]
def F107d_4 (x:Fin P):List RG.It:=[.x 7 [] (.int .i64 1)]
def F107e_5 (i:Nat) (x:Fin P):List RG.It:=[.x 25 [] (.int .i64 (i:Int)),.x 26 [(25,0)] (.bool true)]
def F107e_7 (off i:Nat) (x:Fin P) (s2 s3 sp:T3 P):List RG.It:=[.s 29 [] (.p 0 off),.x 30 [] (.int .i64 (i:Int)),.s 31 [] (.p 0 off),.x 32 [] (.int .i64 (i:Int)),.x 33 [(32,3)] (.int .i64 ((i - 1:Nat):Int)),.s 34 [(31,2)] (.p 0 off),.s 35 [(34,5)] (.p 0 (off+0)),.s 36 [(35,6),(33,4)] (.p 0 ((off+0)+12*(i - 1))),.x 37 [(36,7)] (tv sp),.x 38 [] (tv s2),.c 39 [(37,8),(38,9)] (tv s3),.s 40 [(29,0)] (.p 0 off),.s 41 [(40,11)] (.p 0 (off+0)),.s 42 [(41,12),(30,1)] (.p 0 ((off+0)+12*i)),.u [(42,13),(39,10)] 0]
def F107e_6 (i:Nat) (x:Fin P):List RG.It:=[.x 27 [] (.int .i64 (i:Int)),.x 28 [(27,0)] (.int .i64 ((i+1:Nat):Int)),.x 7 [(28,1)] (.int .i64 ((i+1:Nat):Int))]
def F107f_5 (i:Nat) (x:Fin P):List RG.It:=[.x 25 [] (.int .i64 (i:Int)),.x 26 [(25,0)] (.bool false)]
set_option maxHeartbeats 2000000 in
set_option maxRecDepth 100000 in
theorem fill_c (F:Fld P) {n:Nat} (hn:n < top) (x y:Fin P) (C0:List Value) (kt off:Nat) (hoff:off+353≤C0.length) (w:World) (hk:kt < w.heap.size) (ht:w.there kt 0 C0.length) (hr:w.rangeAt kt 0 C0) :
 Calls Tryz.prog 135 #[.pointer (some ⟨kt,off,none⟩),nv n,pv x y] w (Ret fun r w'=>(∃ C,Fi x y (digs n) C0 off 8 C∧RG.PutTo kt C0.length C w w')∧r=.tuple #[]):=by
 obtain ⟨D,hDe⟩:∃ D,digs n=D:=⟨_,rfl⟩
 have hD:Gives 168 #[nv n] (dv D):=hDe ▸ digits_c hn
 obtain ⟨s0,hs0e⟩:∃ s,raJ x y=s:=⟨_,rfl⟩
 have hs0:Gives 169 #[pv x y] (tv s0):=hs0e ▸ raJ_c F x y
 obtain ⟨s2,hs2e⟩:∃ s,twJ s0=s:=⟨_,rfl⟩
 have hs2:Gives 136 #[tv s0] (tv s2):=hs2e ▸ twJ_c F s0
 obtain ⟨C1,hC1e⟩:∃ c,RG.rep C0 (off+96) (dg D)=c:=⟨_,rfl⟩
 have hlD:off+96+(dg D).length≤C0.length:=by rw [dg_length];omega
 have hC1:=hC1e ▸ RG.rep_at hlD
 have hL1:C1.length=C0.length:=hC1e ▸ RG.rep_length hlD
 have F1:Fi x y D C0 off 0 C1:=hC1e ▸ Fi.first hoff
 obtain ⟨C2,hC2e⟩:∃ c,RG.rep C1 (off+0+12*0) (tw s0)=c:=⟨_,rfl⟩
 have hlS:off+0+12*0+(tw s0).length≤C1.length:=by rw [tw_length];omega
 have hC2:=hC2e ▸ RG.rep_at hlS
 have hL2:C2.length=C1.length:=hC2e ▸ RG.rep_length hlS
 have F2:Fi x y D C0 off 1 C2:=by
  have:=F1.next hoff (by decide)
  rw [← hC2e,← hs0e]
  exact this
 have hsub0:(C2.drop (off+0+12*0)).take (tw s0).length=tw s0:=by
  have:=F2.sub hoff (q:=0) (by decide) (by decide)
  rw [← hs0e]
  exact this
 obtain ⟨i,hi0⟩:∃ i:Nat,i=0:=⟨_,rfl⟩
 obtain ⟨s3,-⟩:∃ s:T3 P,s=s0:=⟨_,rfl⟩
 obtain ⟨sp,-⟩:∃ s:T3 P,s=s0:=⟨_,rfl⟩
 go_enter Tryz.func135,Tryz.ntmps135
 refine RG.var3 (v0:=.pointer (some ⟨kt,off,none⟩)) (v1:=nv n) (v2:=pv x y) (n:=43) (by kernel_rfl) (by kernel_rfl) (by kernel_rfl) (by kernel_rfl) (by kernel_rfl) ?_
 intro a0 sl0 f0 f1 f2
 have hS0:=RG.St.lent hk hr ht
 have M0:RG.M w w.heap.size [kt] 43 [C0] [kt] [(0,(.p 0 off)),(1,(.v (nv n))),(2,(.v (pv x y)))] a0 _:=⟨hS0,sl0,⟨f0,f1,f2,trivial⟩⟩
 repeat refine wp_seq ?_
 refine M0.tx F107a_0 [(0,(wn n)),(1,(ws x++(ws y)))] [] [C0,(wn n),(ws x++(ws y))] [(0,(.p 0 off)),(4,(.p 1 0)),(5,(.p 2 0))] (by kernel_rfl) (by kernel_rfl) ⟨RG.mk 1 55 fun _ _=>by kernel_rfl,RG.mk 2 57 fun _ _=>by kernel_rfl,trivial⟩ ?_
 intro j1 i1 a1 w1 M1
 have hS1:RG.St w w.heap.size [kt] [C0,(wn n),(ws x++(ws y))] [kt,j1,i1] _:=M1.st
 have sl1:=M1.sl
 have f0_1:a1.tmps[0]? = some (.pointer (some ⟨kt,off,none⟩)):=M1.at (s:=(.p 0 off)) (by kernel_rfl)
 have f4_1:a1.tmps[4]? = some (.pointer (some ⟨j1,0,none⟩)):=M1.at (s:=(.p 1 0)) (by kernel_rfl)
 have f5_1:a1.tmps[5]? = some (.pointer (some ⟨i1,0,none⟩)):=M1.at (s:=(.p 2 0)) (by kernel_rfl)
 have M1:RG.M w w.heap.size [kt] 43 [C0,(wn n),(ws x++(ws y))] [kt,j1,i1] [(0,(.p 0 off)),(4,(.p 1 0)),(5,(.p 2 0))] a1 _:=⟨hS1,sl1,⟨f0_1,f4_1,f5_1,trivial⟩⟩
 repeat refine wp_seq ?_
 refine M1.tx (F107b_1 n off x D) [] [(0,5,C1)] [C1,(wn n),(ws x++(ws y))] [(0,(.p 0 off)),(5,(.p 2 0))] (by kernel_rfl) (congrArg (fun n=>[n]) hL1) ⟨RG.st fun _ _=>by kernel_rfl,RG.ld u85 i85 (by kernel_rfl),RG.cl (hD) fun _ _=>by kernel_rfl,RG.st fun _ _=>by kernel_rfl,RG.st fun _ _=>by kernel_rfl,RG.cert_putAt 0 (off+96) rfl _ rfl 190 (.tmp 12) (.tmp 10) (dg D) rfl rfl (RG.sx fun _=>by kernel_rfl) (RG.sx fun _=>by kernel_rfl) (by show off+96+(dg D).length≤C0.length;rw [dg_length];omega) (hC1) (by show _=some (dg _).length;rw [dg_length];exact i138) (dg_one _),trivial⟩ ?_
 intro a2 w2 M2
 have hS2:RG.St w w.heap.size [kt] [C1,(wn n),(ws x++(ws y))] [kt,j1,i1] _:=M2.st
 have sl2:=M2.sl
 have f0_2:a2.tmps[0]? = some (.pointer (some ⟨kt,off,none⟩)):=M2.at (s:=(.p 0 off)) (by kernel_rfl)
 have f5_2:a2.tmps[5]? = some (.pointer (some ⟨i1,0,none⟩)):=M2.at (s:=(.p 2 0)) (by kernel_rfl)
 have M2:RG.M w w.heap.size [kt] 43 [C1,(wn n),(ws x++(ws y))] [kt,j1,i1] [(0,(.p 0 off)),(5,(.p 2 0))] a2 _:=⟨hS2,sl2,⟨f0_2,f5_2,trivial⟩⟩
 repeat refine wp_seq ?_
 refine M2.dr (by kernel_rfl) (F107c_2 off x y s0) [] [(0,6,C2)] [C2,(wn n),(ws x++(ws y))] [(0,(.p 0 off))] (by kernel_rfl) (congrArg (fun n=>[n]) hL2) ⟨RG.st fun _ _=>by kernel_rfl,RG.ld u109 i109 (by kernel_rfl),RG.cl (hs0) fun _ _=>by kernel_rfl,RG.st fun _ _=>by kernel_rfl,RG.st fun _ _=>by kernel_rfl,RG.cert_idxc rfl 188 17 (.int .i64 0) rfl (.p 0 (off+0)) (RG.sx fun _=>by kernel_rfl) (fun μ w=>at136 _ _ 0 (by decide) w),RG.cert_putAt 0 ((off+0)+12*0) rfl _ rfl 187 (.tmp 18) (.tmp 15) (tw s0) rfl rfl (RG.sx fun _=>by kernel_rfl) (RG.sx fun _=>by kernel_rfl) (by show off+0+12*0+(tw s0).length≤C1.length;rw [tw_length];omega) (hC2) i117 (tw_one _),trivial⟩ ?_
 intro a3 w3 M3
 have hS3:RG.St w w.heap.size [kt] [C2,(wn n),(ws x++(ws y))] [kt,j1,i1] _:=M3.st
 have sl3:=M3.sl
 have f0_3:a3.tmps[0]? = some (.pointer (some ⟨kt,off,none⟩)):=M3.at (s:=(.p 0 off)) (by kernel_rfl)
 have M3:RG.M w w.heap.size [kt] 43 [C2,(wn n),(ws x++(ws y))] [kt,j1,i1] [(0,(.p 0 off))] a3 _:=⟨hS3,sl3,⟨f0_3,trivial⟩⟩
 repeat refine wp_seq ?_
 refine M3.tx (F107d_3 off x s0 s2) [(6,(RG.z 12))] [(3,7,(tw s2))] [C2,(wn n),(ws x++(ws y)),(tw s2)] [(0,(.p 0 off)),(6,(.p 3 0))] (by kernel_rfl) (by kernel_rfl) ⟨RG.st fun _ _=>by kernel_rfl,RG.st fun _ _=>by kernel_rfl,RG.st fun _ _=>by kernel_rfl,RG.cert_idxc rfl 188 21 (.int .i64 0) rfl (.p 0 (off+0)) (RG.sx fun _=>by kernel_rfl) (fun μ w=>at136 _ _ 0 (by decide) w),RG.cert_load rfl 0 ((off+0)+12*0) _ rfl rfl (by kernel_rfl) 187 22 rfl (tw s0) rfl (RG.sx fun _=>by kernel_rfl) (hsub0) u117 i117,RG.cl (hs2) fun _ _=>by kernel_rfl,RG.mk 3 187 fun _ _=>by kernel_rfl,RG.pt i117 (by kernel_rfl),trivial⟩ ?_
 intro j4 a4 w4 M4
 repeat refine wp_seq ?_
 refine M4.tx0 (F107d_4 x) [(0,(.p 0 off)),(6,(.p 3 0)),(7,(.v (.int .i64 1)))] (by kernel_rfl) ⟨RG.st fun _ _=>by kernel_rfl,trivial⟩ ?_
 intro a5 w5 M5
 have hS5:RG.St w w.heap.size [kt] [C2,(wn n),(ws x++(ws y)),(tw s2)] [kt,j1,i1,j4] _:=M5.st
 have sl5:=M5.sl
 have f0_5:a5.tmps[0]? = some (.pointer (some ⟨kt,off,none⟩)):=M5.at (s:=(.p 0 off)) (by kernel_rfl)
 have f6_5:a5.tmps[6]? = some (.pointer (some ⟨j4,0,none⟩)):=M5.at (s:=(.p 3 0)) (by kernel_rfl)
 have f7_5:a5.tmps[7]? = some (.int .i64 1):=M5.at (s:=(.v (.int .i64 1))) (by kernel_rfl)
 subst hDe
 subst hs0e
 subst hs2e
 clear hC1 hC2 hsub0 hL1 hL2 hlD hlS
 repeat refine wp_seq ?_
 refine wp_block ?_
 refine wp_loop_ghost (fun m a wr=>∃ (i:Nat) (C:List Value),1≤i∧i≤8∧i+m=8∧Fi x y (digs n) C0 off i C∧RG.Sl a 43∧a.tmps[0]? = some (.pointer (some ⟨kt,off,none⟩))∧a.tmps[6]? = some (.pointer (some ⟨j4,0,none⟩))∧a.tmps[7]? = some (.int .i64 (i:Int))∧RG.St w w.heap.size [kt] [C,wn n,ws x++ws y,tw (twJ (raJ x y))] [kt,j1,i1,j4] wr) 7 ⟨1,C2,by omega,by omega,by omega,F2,sl5,f0_5,f6_5,f7_5,hS5⟩ ?_
 intro m a wr
 rintro ⟨i,C1,hi1,hi8,hm,hF,sl,g0,g6,g7,hS⟩
 generalize j1=k1 at g6 hS
 generalize i1=k2 at g6 hS
 generalize j4=k3 at g6 hS
 obtain ⟨D,hDe⟩:∃ D,digs n=D:=⟨_,rfl⟩
 rw [hDe] at hF
 obtain ⟨s0,hs0e⟩:∃ s,raJ x y=s:=⟨_,rfl⟩
 obtain ⟨s2,hs2e⟩:∃ s,twJ (raJ x y)=s:=⟨_,rfl⟩
 rw [hs2e] at hS
 obtain ⟨sp,hspe⟩:∃ s,od x y (i - 1)=s:=⟨_,rfl⟩
 obtain ⟨s3,hs3e⟩:∃ s,plJ sp s2=s:=⟨_,rfl⟩
 have hs3:Gives 137 #[tv sp,tv s2] (tv s3):=hs3e ▸ plJ_c F sp s2
 have hlen:=hF.len
 by_cases hi:i < 8
 · have hod:od x y i=s3:=by
    obtain ⟨q,rfl⟩:∃ q,i=q+1:=⟨i - 1,by omega⟩
    rw [← hs3e,← hspe,← hs2e]
    rfl
   have hsubp:(C1.drop (off+0+12*(i - 1))).take (tw sp).length=tw sp:=by
    have:=hF.sub hoff (q:=i - 1) (by omega) (by omega)
    rw [hspe] at this
    exact this
   obtain ⟨C2,hC2e⟩:∃ c,RG.rep C1 (off+0+12*i) (tw s3)=c:=⟨_,rfl⟩
   have hlS:off+0+12*i+(tw s3).length≤C1.length:=by rw [tw_length];omega
   have hC2:=hC2e ▸ RG.rep_at hlS
   have hL2:C2.length=C1.length:=hC2e ▸ RG.rep_length hlS
   have hF2:Fi x y D C0 off (i+1) C2:=by
    have:=hF.next hoff hi
    rw [hod] at this
    rw [← hC2e]
    exact this
   have hsb:∀ w,(binOp .sub 3 (.int .i64 (i:Int)) (.int .i64 1)).run Tryz.prog w=.ok (.int .i64 ((i - 1:Nat):Int)) w:=fun w=>by
    rw [sub64i _ _ (by omega) (by omega),show (i:Int) - 1=((i - 1:Nat):Int) by omega]
   clear hs0e hC2e
   have M0:RG.M w w.heap.size [kt] 43 [C1,(wn n),(ws x++(ws y)),(tw s2)] [kt,k1,k2,k3] [(0,(.p 0 off)),(6,(.p 3 0)),(7,(.v (.int .i64 (i:Int))))] a _:=⟨hS,sl,⟨g0,g6,g7,trivial⟩⟩
   repeat refine wp_seq ?_
   refine M0.tx0 (F107e_5 i x) [(0,(.p 0 off)),(6,(.p 3 0)),(7,(.v (.int .i64 (i:Int)))),(26,(.v (.bool true)))] (by kernel_rfl) ⟨RG.st fun _ _=>by kernel_rfl,RG.cert_binc rfl .lss 3 3 25 (.int .i64 (i:Int)) (.int .i64 8) (.bool true) rfl rfl (RG.sx fun _=>by kernel_rfl) (fun w=>by kernel_rfl) (lssn_t (n:=8) hi),trivial⟩ ?_
   intro a1 w1 M1
   repeat refine wp_seq ?_
   refine wp_cond_true (M1.ev (by kernel_rfl)) ?_
   refine wp_skip ?_
   refine wp_seq ?_
   refine wp_block ?_
   repeat refine wp_seq ?_
   refine M1.dr (by kernel_rfl) (F107e_7 off i x s2 s3 sp) [] [(0,14,C2)] [C2,(wn n),(ws x++(ws y)),(tw s2)] [(0,(.p 0 off)),(6,(.p 3 0)),(7,(.v (.int .i64 (i:Int))))] (by kernel_rfl) (congrArg (fun n=>[n]) hL2) ⟨RG.st fun _ _=>by kernel_rfl,RG.st fun _ _=>by kernel_rfl,RG.st fun _ _=>by kernel_rfl,RG.st fun _ _=>by kernel_rfl,RG.cert_binc rfl .sub 3 3 32 (.int .i64 (i:Int)) (.int .i64 1) (.int .i64 ((i - 1:Nat):Int)) rfl rfl (RG.sx fun _=>by kernel_rfl) (fun w=>by kernel_rfl) (hsb),RG.st fun _ _=>by kernel_rfl,RG.st fun _ _=>by kernel_rfl,RG.cert_idx rfl 188 35 33 rfl (.p 0 (off+0)) (.int .i64 ((i - 1:Nat):Int)) (RG.sx fun _=>by kernel_rfl) (RG.sx fun _=>by kernel_rfl) (fun μ w=>at136 _ _ (i - 1) (by omega) w),RG.cert_load rfl 0 ((off+0)+12*(i - 1)) _ rfl rfl (by kernel_rfl) 187 36 rfl (tw sp) rfl (RG.sx fun _=>by kernel_rfl) (hsubp) u117 i117,RG.ld u117 i117 (by kernel_rfl),RG.cl (hs3) fun _ _=>by kernel_rfl,RG.st fun _ _=>by kernel_rfl,RG.st fun _ _=>by kernel_rfl,RG.cert_idx rfl 188 41 30 rfl (.p 0 (off+0)) (.int .i64 (i:Int)) (RG.sx fun _=>by kernel_rfl) (RG.sx fun _=>by kernel_rfl) (fun μ w=>at136 _ _ i (by omega) w),RG.cert_putAt 0 ((off+0)+12*i) rfl _ rfl 187 (.tmp 42) (.tmp 39) (tw s3) rfl rfl (RG.sx fun _=>by kernel_rfl) (RG.sx fun _=>by kernel_rfl) (by show off+0+12*i+(tw s3).length≤C1.length;rw [tw_length];omega) (hC2) i117 (tw_one _),trivial⟩ ?_
   intro a2 w2 M2
   repeat refine wp_seq ?_
   refine M2.tx0 (F107e_6 i x) [(0,(.p 0 off)),(6,(.p 3 0)),(7,(.v (.int .i64 ((i+1:Nat):Int))))] (by kernel_rfl) ⟨RG.st fun _ _=>by kernel_rfl,RG.cert_binc rfl .add 3 3 27 (.int .i64 (i:Int)) (.int .i64 1) (.int .i64 ((i+1:Nat):Int)) rfl rfl (RG.sx fun _=>by kernel_rfl) (fun w=>by kernel_rfl) (addn i 1 (by omega) (by omega)),RG.st fun _ _=>by kernel_rfl,trivial⟩ ?_
   intro a3 w3 M3
   have hS3:RG.St w w.heap.size [kt] [C2,(wn n),(ws x++(ws y)),(tw s2)] [kt,k1,k2,k3] _:=M3.st
   have sl3:=M3.sl
   have f0_3:a3.tmps[0]? = some (.pointer (some ⟨kt,off,none⟩)):=M3.at (s:=(.p 0 off)) (by kernel_rfl)
   have f6_3:a3.tmps[6]? = some (.pointer (some ⟨k3,0,none⟩)):=M3.at (s:=(.p 3 0)) (by kernel_rfl)
   have f7_3:a3.tmps[7]? = some (.int .i64 ((i+1:Nat):Int)):=M3.at (s:=(.v (.int .i64 ((i+1:Nat):Int)))) (by kernel_rfl)
   show ∃ n',_
   exact ⟨m - 1,by omega,i+1,C2,by omega,by omega,by omega,hDe.symm ▸ hF2,sl3,f0_3,f6_3,f7_3,by rw [hs2e];exact hS3⟩
 · have hi9:i=8:=by omega
   obtain ⟨C2,-⟩:∃ c:List Value,c=C1:=⟨_,rfl⟩
   have M0:RG.M w w.heap.size [kt] 43 [C1,(wn n),(ws x++(ws y)),(tw s2)] [kt,k1,k2,k3] [(0,(.p 0 off)),(6,(.p 3 0)),(7,(.v (.int .i64 (i:Int))))] a _:=⟨hS,sl,⟨g0,g6,g7,trivial⟩⟩
   repeat refine wp_seq ?_
   refine M0.tx0 (F107f_5 i x) [(0,(.p 0 off)),(6,(.p 3 0)),(7,(.v (.int .i64 (i:Int)))),(26,(.v (.bool false)))] (by kernel_rfl) ⟨RG.st fun _ _=>by kernel_rfl,RG.cert_binc rfl .lss 3 3 25 (.int .i64 (i:Int)) (.int .i64 8) (.bool false) rfl rfl (RG.sx fun _=>by kernel_rfl) (fun w=>by kernel_rfl) (lssn_f (n:=8) hi),trivial⟩ ?_
   intro a1 w1 M1
   repeat refine wp_seq ?_
   refine wp_cond_false (M1.ev (by kernel_rfl)) ?_
   refine wp_exit ?_
   dsimp only [Exit.then,Exit.inBlock]
   rw [if_pos rfl]
   have hS1:RG.St w w.heap.size [kt] [C1,(wn n),(ws x++(ws y)),(tw s2)] [kt,k1,k2,k3] _:=M1.st
   have sl1:=M1.sl
   have f0_1:a1.tmps[0]? = some (.pointer (some ⟨kt,off,none⟩)):=M1.at (s:=(.p 0 off)) (by kernel_rfl)
   have f6_1:a1.tmps[6]? = some (.pointer (some ⟨k3,0,none⟩)):=M1.at (s:=(.p 3 0)) (by kernel_rfl)
   have f7_1:a1.tmps[7]? = some (.int .i64 (i:Int)):=M1.at (s:=(.v (.int .i64 (i:Int)))) (by kernel_rfl)
   exact ⟨sl1.defers,.tuple #[],RG.results_none rfl,_,rfl,⟨C1,hDe.symm ▸ hi9 ▸ hF,hS1.putTo hF.len⟩,rfl⟩
end Go.Proofs.YtmkllfekhehagagGreat
namespace Go.Proofs.YtmkllfekhehagagGreat
open Go.RowKit Go.Sort
variable {P:Nat} [NeZero P]
def F108n_0:List RG.It:=[.m 4 [] 0]
def F108n_1 (k:Nat):List RG.It:=[.x 5 [] (.int .i8 (-(2*(k:Int)+1))),.x 6 [(5,0)] (.bool true)]
def F108n_2 (kt o k:Nat) (s s2:T3 P):List RG.It:=[.x 7 [] (.pointer (some ⟨kt,o,none⟩)),.x 8 [] (.int .i8 (-(2*(k:Int)+1))),.x 9 [(8,1)] (.int .i8 (2*(k:Int)+1)),.x 10 [(9,2)] (.int .i8 (k:Int)),.x 11 [(7,0)] (.pointer (some ⟨kt,o,none⟩)),.x 12 [(11,4)] (.pointer (some ⟨kt,(o+0),none⟩)),.x 13 [(12,5),(10,3)] (.pointer (some ⟨kt,((o+0)+12*k),none⟩)),.x 14 [(13,6)] (tv s),.c 15 [(14,7)] (tv s2),.u [(15,8)] 0]
def F108p_0:List RG.It:=[.m 4 [] 0]
def F108p_1 (k:Nat):List RG.It:=[.x 5 [] (.int .i8 (2*(k:Int)+1)),.x 6 [(5,0)] (.bool false)]
def F108p_3 (kt o k:Nat) (s:T3 P):List RG.It:=[.x 16 [] (.pointer (some ⟨kt,o,none⟩)),.x 17 [] (.int .i8 (2*(k:Int)+1)),.x 18 [(17,1)] (.int .i8 (k:Int)),.x 19 [(16,0)] (.pointer (some ⟨kt,o,none⟩)),.x 20 [(19,3)] (.pointer (some ⟨kt,(o+0),none⟩)),.x 21 [(20,4),(18,2)] (.pointer (some ⟨kt,((o+0)+12*k),none⟩)),.x 22 [(21,5)] (tv s),.u [(22,6)] 0]
set_option maxHeartbeats 2000000 in
set_option maxRecDepth 100000 in
theorem times_n (F:Fld P) (kt o k:Nat) (hq:k < 8) (s:T3 P) (w:World) (hk:kt < w.heap.size) (hr:w.rangeAt kt (o+0+12*k) (tw s)):Calls Tryz.prog 138 #[(.pointer (some ⟨kt,o,none⟩)),(.int .i8 (-(2*(k:Int)+1)))] w (Ret fun e w'=>Below w.heap.size w w'∧e=tv (opJ s)):=by
 obtain ⟨s2,hs2e⟩:∃ s2,opJ s=s2:=⟨_,rfl⟩
 have hs2:Gives 175 #[tv s] (tv s2):=hs2e ▸ opJ_c F s
 have hlss:∀ w,(binOp .lss 189 (.int .i8 (-(2*(k:Int)+1))) (.int .i8 0)).run Tryz.prog w=.ok (.bool true) w:=fun w=>by
  have h1:-(2*(k:Int)+1) < 0:=by omega
  go_simp
  try omega
 have hneg:∀ w,(Op.unary .neg (.int .i8 (-(2*(k:Int)+1)))).run Tryz.prog w=.ok (.int .i8 (2*(k:Int)+1)) w:=fun w=>by
  rw [i8neg _ (by omega),Int.neg_neg]
 go_enter Tryz.func138,Tryz.ntmps138
 refine RG.var2 (v0:=(.pointer (some ⟨kt,o,none⟩))) (v1:=(.int .i8 (-(2*(k:Int)+1)))) (n:=23) (by kernel_rfl) (by kernel_rfl) (by kernel_rfl) (by kernel_rfl) ?_
 intro a0 sl0 f0 f1
 have hS0:=RG.St.begin w
 have M0:RG.M w w.heap.size [] 23 [] [] [(0,(.v (.pointer (some ⟨kt,o,none⟩)))),(1,(.v (.int .i8 (-(2*(k:Int)+1)))))] a0 _:=⟨hS0,sl0,⟨f0,f1,trivial⟩⟩
 repeat refine wp_seq ?_
 refine M0.tx F108n_0 [(0,(RG.z 12))] [] [(RG.z 12)] [(0,(.v (.pointer (some ⟨kt,o,none⟩)))),(1,(.v (.int .i8 (-(2*(k:Int)+1))))),(4,(.p 0 0))] (by kernel_rfl) (by kernel_rfl) ⟨RG.mk 0 187 fun _ _=>by kernel_rfl,trivial⟩ ?_
 intro j1 a1 w1 M1
 repeat refine wp_seq ?_
 refine M1.tx0 (F108n_1 k) [(0,(.v (.pointer (some ⟨kt,o,none⟩)))),(1,(.v (.int .i8 (-(2*(k:Int)+1))))),(4,(.p 0 0)),(6,(.v (.bool true)))] (by kernel_rfl) ⟨RG.st fun _ _=>by kernel_rfl,RG.cert_binc rfl .lss 189 189 5 (.int .i8 (-(2*(k:Int)+1))) (.int .i8 0) (.bool true) rfl rfl (RG.sx fun _=>by kernel_rfl) (fun w=>by kernel_rfl) (hlss),trivial⟩ ?_
 intro a2 w2 M2
 repeat refine wp_seq ?_
 refine wp_cond_true (M2.ev (by kernel_rfl)) ?_
 repeat refine wp_seq ?_
 refine M2.tx (F108n_2 kt o k s s2) [] [(0,9,(tw s2))] [(tw s2)] [(4,(.p 0 0))] (by kernel_rfl) (by kernel_rfl) ⟨RG.st fun _ _=>by kernel_rfl,RG.st fun _ _=>by kernel_rfl,RG.cert_un rfl .neg 189 8 (.int .i8 (-(2*(k:Int)+1))) (.int .i8 (2*(k:Int)+1)) rfl rfl (RG.sx fun _=>by kernel_rfl) (hneg),RG.cert_binc rfl .quo 189 189 9 (.int .i8 (2*(k:Int)+1)) (.int .i8 2) (.int .i8 (k:Int)) rfl rfl (RG.sx fun _=>by kernel_rfl) (fun w=>by kernel_rfl) (i8quo k hq),RG.st fun _ _=>by kernel_rfl,RG.st fun _ _=>by kernel_rfl,RG.cert_idx rfl 188 12 10 rfl (.v (.pointer (some ⟨kt,(o+0),none⟩))) (.int .i8 (k:Int)) (RG.sx fun _=>by kernel_rfl) (RG.sx fun _=>by kernel_rfl) (fun μ w=>at136b _ _ k hq w),RG.cert_loadB rfl kt ((o+0)+12*k) hk List.not_mem_nil 187 13 rfl (tw s) rfl (RG.sx fun _=>by kernel_rfl) hr u117 i117,RG.cl (hs2) fun _ _=>by kernel_rfl,RG.pt i117 (by kernel_rfl),trivial⟩ ?_
 intro a3 w3 M3
 have hS3:RG.St w w.heap.size [] [(tw s2)] [j1] _:=M3.st
 have sl3:=M3.sl
 have f4_3:a3.tmps[4]? = some (.pointer (some ⟨j1,0,none⟩)):=M3.at (s:=(.p 0 0)) (by kernel_rfl)
 refine wp_ret ?_
 refine bodyPost_ret (v:=tv s2) (RG.results_row hS3 4 187 rfl 0 _ rfl f4_3 u117 i117) sl3.defers ?_
 exact ⟨_,rfl,hS3.bel.below,by rw [hs2e]⟩
set_option maxHeartbeats 2000000 in
set_option maxRecDepth 100000 in
theorem times_p (F:Fld P) (kt o k:Nat) (hq:k < 8) (s:T3 P) (w:World) (hk:kt < w.heap.size) (hr:w.rangeAt kt (o+0+12*k) (tw s)):Calls Tryz.prog 138 #[(.pointer (some ⟨kt,o,none⟩)),(.int .i8 (2*(k:Int)+1))] w (Ret fun e w'=>Below w.heap.size w w'∧e=tv s):=by
 obtain ⟨s2,hs2e⟩:∃ s2,opJ s=s2:=⟨_,rfl⟩
 have hs2:Gives 175 #[tv s] (tv s2):=hs2e ▸ opJ_c F s
 have hlss:∀ w,(binOp .lss 189 (.int .i8 (2*(k:Int)+1)) (.int .i8 0)).run Tryz.prog w=.ok (.bool false) w:=fun w=>by
  have h1:¬ 2*(k:Int)+1 < 0:=by omega
  go_simp
  try omega
 have hneg:∀ w,(Op.unary .neg (.int .i8 (-(2*(k:Int)+1)))).run Tryz.prog w=.ok (.int .i8 (2*(k:Int)+1)) w:=fun w=>by
  rw [i8neg _ (by omega),Int.neg_neg]
 go_enter Tryz.func138,Tryz.ntmps138
 refine RG.var2 (v0:=(.pointer (some ⟨kt,o,none⟩))) (v1:=(.int .i8 (2*(k:Int)+1))) (n:=23) (by kernel_rfl) (by kernel_rfl) (by kernel_rfl) (by kernel_rfl) ?_
 intro a0 sl0 f0 f1
 have hS0:=RG.St.begin w
 have M0:RG.M w w.heap.size [] 23 [] [] [(0,(.v (.pointer (some ⟨kt,o,none⟩)))),(1,(.v (.int .i8 (2*(k:Int)+1))))] a0 _:=⟨hS0,sl0,⟨f0,f1,trivial⟩⟩
 repeat refine wp_seq ?_
 refine M0.tx F108p_0 [(0,(RG.z 12))] [] [(RG.z 12)] [(0,(.v (.pointer (some ⟨kt,o,none⟩)))),(1,(.v (.int .i8 (2*(k:Int)+1)))),(4,(.p 0 0))] (by kernel_rfl) (by kernel_rfl) ⟨RG.mk 0 187 fun _ _=>by kernel_rfl,trivial⟩ ?_
 intro j1 a1 w1 M1
 repeat refine wp_seq ?_
 refine M1.tx0 (F108p_1 k) [(0,(.v (.pointer (some ⟨kt,o,none⟩)))),(1,(.v (.int .i8 (2*(k:Int)+1)))),(4,(.p 0 0)),(6,(.v (.bool false)))] (by kernel_rfl) ⟨RG.st fun _ _=>by kernel_rfl,RG.cert_binc rfl .lss 189 189 5 (.int .i8 (2*(k:Int)+1)) (.int .i8 0) (.bool false) rfl rfl (RG.sx fun _=>by kernel_rfl) (fun w=>by kernel_rfl) (hlss),trivial⟩ ?_
 intro a2 w2 M2
 repeat refine wp_seq ?_
 refine wp_cond_false (M2.ev (by kernel_rfl)) ?_
 refine wp_skip ?_
 repeat refine wp_seq ?_
 refine M2.tx (F108p_3 kt o k s) [] [(0,7,(tw s))] [(tw s)] [(4,(.p 0 0))] (by kernel_rfl) (by kernel_rfl) ⟨RG.st fun _ _=>by kernel_rfl,RG.st fun _ _=>by kernel_rfl,RG.cert_binc rfl .quo 189 189 17 (.int .i8 (2*(k:Int)+1)) (.int .i8 2) (.int .i8 (k:Int)) rfl rfl (RG.sx fun _=>by kernel_rfl) (fun w=>by kernel_rfl) (i8quo k hq),RG.st fun _ _=>by kernel_rfl,RG.st fun _ _=>by kernel_rfl,RG.cert_idx rfl 188 20 18 rfl (.v (.pointer (some ⟨kt,(o+0),none⟩))) (.int .i8 (k:Int)) (RG.sx fun _=>by kernel_rfl) (RG.sx fun _=>by kernel_rfl) (fun μ w=>at136b _ _ k hq w),RG.cert_loadB rfl kt ((o+0)+12*k) hk List.not_mem_nil 187 21 rfl (tw s) rfl (RG.sx fun _=>by kernel_rfl) hr u117 i117,RG.pt i117 (by kernel_rfl),trivial⟩ ?_
 intro a3 w3 M3
 have hS3:RG.St w w.heap.size [] [(tw s)] [j1] _:=M3.st
 have sl3:=M3.sl
 have f4_3:a3.tmps[4]? = some (.pointer (some ⟨j1,0,none⟩)):=M3.at (s:=(.p 0 0)) (by kernel_rfl)
 refine wp_ret ?_
 refine bodyPost_ret (v:=tv s) (RG.results_row hS3 4 187 rfl 0 _ rfl f4_3 u117 i117) sl3.defers ?_
 exact ⟨_,rfl,hS3.bel.below,rfl⟩
end Go.Proofs.YtmkllfekhehagagGreat
namespace Go.Proofs.YtmkllfekhehagagGreat
open Go.RowKit Go.Sort
variable {P:Nat} [NeZero P]
def tmJ (x y:Fin P) (d:Int):T3 P:=if d < 0 then opJ (od x y ((-d).toNat / 2)) else od x y (d.toNat / 2)
theorem tmJ_J (C:Fld P) {x y:Fin P} {p:EC.Pt P} (h:EC.Pair x y p) (hp:EC.On p) {d:Int} (hd:d % 2=1):JacT (tmJ x y d) (EC.zmul d p):=by
 unfold tmJ
 by_cases hn:d < 0
 · rw [if_pos hn]
   have h1:=(od_J C h hp ((-d).toNat / 2)).neg
   rw [← EC.zmul_neg C.cur hp] at h1
   rw [show -((2*((-d).toNat / 2)+1:Nat):Int)=d by omega] at h1
   exact h1
 · rw [if_neg hn]
   have h1:=od_J C h hp (d.toNat / 2)
   rw [show ((2*(d.toNat / 2)+1:Nat):Int)=d by omega] at h1
   exact h1
def inn (ns:Nat→Nat) (xs ys:Nat→Fin P) (st:T3 P) (place:Nat):Nat→T3 P
 | 0=>st
 | i+1=>if digs (ns i) place=0 then inn ns xs ys st place i else plJ (inn ns xs ys st place i) (tmJ (xs i) (ys i) (digs (ns i) place))
def sumJ (ns:Nat→Nat) (xs ys:Nat→Fin P) (N:Nat):Nat→T3 P
 | 0=>(0,0,0)
 | m+1=>inn ns xs ys (twJ (sumJ ns xs ys N m)) (256 - m) N
theorem inn_J (C:Fld P) {ns:Nat→Nat} {xs ys:Nat→Fin P} {p:Nat→EC.Pt P} {N:Nat} (hns:∀ i,i < N→ns i < 2 ^ 256) (hp:∀ i,i < N→EC.Pair (xs i) (ys i) (p i)) (ho:∀ i,i < N→EC.On (p i)) {st:T3 P} {g:Nat→Int} {place:Nat}
 (h:JacT st (EC.tot p N g)):∀ i,i≤N→JacT (inn ns xs ys st place i) (EC.tot p N (fun j=>if j < i then g j+digs (ns j) place else g j))
 | 0,_=>by
  have:EC.tot p N (fun j=>if j < 0 then g j+digs (ns j) place else g j)=EC.tot p N g:=EC.tot_congr N fun j _=>if_neg (by omega)
  rw [this]
  exact h
 | i+1,hi=>by
  have ih:=inn_J C hns hp ho (place:=place) h i (by omega)
  have e:EC.tot p N (fun j=>if j < i+1 then g j+digs (ns j) place else g j)=EC.add (EC.tot p N (fun j=>if j < i then g j+digs (ns j) place else g j)) (EC.zmul (digs (ns i) place) (p i)):=by
   rw [← EC.tot_upd C.cur _ i (digs (ns i) place) N (by omega) ho]
   refine EC.tot_congr N fun j _=>?_
   by_cases h1:j=i
   · subst h1
     rw [if_pos (by omega),if_pos rfl,if_neg (by omega)]
   · rw [if_neg h1]
     by_cases h2:j < i
     · rw [if_pos (by omega),if_pos h2]
     · rw [if_neg (by omega),if_neg h2]
  rw [e]
  unfold inn
  by_cases hz:digs (ns i) place=0
  · rw [if_pos hz,hz,EC.zmul_zero,EC.add_none]
    exact ih
  · rw [if_neg hz]
    obtain ⟨q,c,-,hD⟩:=digs_DI (hns i (by omega))
    rcases hD.ho place with h1 | h1
    · exact absurd h1 hz
    · exact ih.plus C (tmJ_J C (hp i (by omega)) (ho i (by omega)) h1.1)
theorem sumJ_J (C:Fld P) {ns:Nat→Nat} {xs ys:Nat→Fin P} {p:Nat→EC.Pt P} {N:Nat} (hns:∀ i,i < N→ns i < 2 ^ 256) (hp:∀ i,i < N→EC.Pair (xs i) (ys i) (p i)) (ho:∀ i,i < N→EC.On (p i)) :
 ∀ m,m≤257→JacT (sumJ ns xs ys N m) (EC.tot p N (fun j=>DG.hor (digs (ns j)) m))
 | 0,_=>by
  rw [show EC.tot p N (fun j=>DG.hor (digs (ns j)) 0)=.none from EC.tot_zero p N (fun _ _=>rfl)]
  exact JacT.none
 | m+1,hm=>by
  have ih:=(sumJ_J C hns hp ho m (by omega)).twice C
  rw [← EC.tot_twice C.cur _ N ho] at ih
  have h1:=inn_J C hns hp ho (place:=256 - m) ih N (Nat.le_refl _)
  have e:EC.tot p N (fun j=>DG.hor (digs (ns j)) (m+1))=EC.tot p N (fun j=>if j < N then 2*DG.hor (digs (ns j)) m+digs (ns j) (256 - m) else 2*DG.hor (digs (ns j)) m) :=
   EC.tot_congr N fun j hj=>by rw [if_pos hj];rfl
  rw [e]
  exact h1
theorem sumJ_all (C:Fld P) {ns:Nat→Nat} {xs ys:Nat→Fin P} {p:Nat→EC.Pt P} {N:Nat} (hns:∀ i,i < N→ns i < 2 ^ 256) (hp:∀ i,i < N→EC.Pair (xs i) (ys i) (p i)) (ho:∀ i,i < N→EC.On (p i)) :
 JacT (sumJ ns xs ys N 257) (EC.tot p N (fun j=>(ns j:Int))):=by
 have h:=sumJ_J C hns hp ho 257 (Nat.le_refl _)
 have e:EC.tot p N (fun j=>(ns j:Int))=EC.tot p N (fun j=>DG.hor (digs (ns j)) 257):=EC.tot_congr N fun j hj=>by
  obtain ⟨q,c,hq,hD⟩:=digs_DI (hns j hj)
  exact (DG.hor_all hD hq).symm
 rw [e]
 exact h
def cc (ns:Nat→Nat) (xs ys:Nat→Fin P) (C0:List Value):Nat→List Value
 | 0=>C0
 | i+1=>fc (xs i) (ys i) (digs (ns i)) (cc ns xs ys C0 i) (353*i) 8
theorem cc_at {ns:Nat→Nat} {xs ys:Nat→Fin P} {C0:List Value} {N:Nat} (hl:C0.length=353*N):∀ i,i≤N→(cc ns xs ys C0 i).length=353*N ∧
 ∀ j,j < i→(∀ q,q < 257→(cc ns xs ys C0 i)[353*j+96+q]? = some (.int .i8 (digs (ns j) q)))∧∀ q r,q < 8→r < 12→(cc ns xs ys C0 i)[353*j+12*q+r]? = (tw (od (xs j) (ys j) q))[r]?
 | 0,_=>⟨hl,fun j hj=>by omega⟩
 | i+1,hi=>by
  obtain ⟨h1,h2⟩:=cc_at hl i (by omega)
  have hF:=fc_Fi (x:=xs i) (y:=ys i) (D:=digs (ns i)) (C0:=cc ns xs ys C0 i) (off:=353*i) (by rw [h1];omega) 8 (Nat.le_refl _)
  refine ⟨by rw [← h1];exact hF.len,fun j hj=>?_⟩
  by_cases hji:j=i
  · subst hji
    exact ⟨hF.dig,fun q r hq hr=>hF.odd q r hq hr⟩
  · obtain ⟨g1,g2⟩:=h2 j (by omega)
    exact ⟨fun q hq=>(hF.out _ (by omega)).trans (g1 q hq),fun q r hq hr=>(hF.out _ (by omega)).trans (g2 q r hq hr)⟩
theorem mk135 (N:Nat) (hN:N≤512):∃ C0:List Value,C0.length=353*N∧∀ w:World,(Instr.makeSlice 184 (.int .i64 (N:Int)) (.int .i64 (N:Int))).run Tryz.prog w=.ok (.slice (some ⟨w.heap.size,0,none⟩) N N) (w.alloc (.cells C0.toArray 192)):=by
 have hu:Tryz.prog.underlying 184=some (.slice 192):=by kernel_rfl
 have hi:(Tryz.prog.info? 192).map (fun i=>(i.size,decide (i.bytes≤4000),i.zero.isSome))=some (353,true,true):=by kernel_rfl
 obtain ⟨i,hi1,hi2⟩:=Option.map_eq_some_iff.1 hi
 simp only [Prod.mk.injEq,decide_eq_true_eq] at hi2
 obtain ⟨h1,h2,h3⟩:=hi2
 obtain ⟨z,hz⟩:=Option.isSome_iff_exists.1 h3
 refine ⟨(madeCells z.cells (N*353)).toList,by rw [Array.length_toList,size_madeCells,Nat.mul_comm],fun w=>?_⟩
 have hb:(i.bytes:Int)*(N:Int)≤281474976710656:=by
  have:i.bytes*N≤4000*512:=Nat.mul_le_mul h2 hN
  have h5:((i.bytes*N:Nat):Int)≤281474976710656:=by omega
  rwa [Int.natCast_mul] at h5
 have:=run_make (P:=Tryz.prog) w 184 192 i z hu hi1 hz .i64 .i64 (N:Int) (N:Int) (by omega) (by omega) hb (by omega)
 rw [Int.toNat_natCast,h1] at this
 rw [Array.toArray_toList]
 exact this
theorem fill_put (F:Fld P) {n:Nat} (hn:n < top) (x y:Fin P) (C0:List Value) (kt off:Nat) (hoff:off+353≤C0.length) (w:World) (ht:w.there kt 0 C0.length) (hr:w.rangeAt kt 0 C0) :
 Calls Tryz.prog 135 #[.pointer (some ⟨kt,off,none⟩),nv n,pv x y] w (Ret fun r w'=>RG.PutTo kt C0.length (fc x y (digs n) C0 off 8) w w'∧r=.tuple #[]):=by
 have hk:kt < w.heap.size:=by
  have h1:=(ht 0 (by omega)).1
  exact Classical.byContradiction fun hn=>by
   have h2:w.heap[kt]? = none:=Array.getElem?_eq_none (by omega)
   simp [World.cell?,h2] at h1
 refine (fill_c F hn x y C0 kt off hoff w hk ht hr).mono ?_
 rintro e w' ⟨v,rfl,⟨C,hF,hP⟩,rfl⟩
 refine ⟨_,rfl,?_,rfl⟩
 rw [(fc_Fi hoff 8 (Nat.le_refl _)).uniq hF]
 exact hP
theorem times_d (F:Fld P) (kt o:Nat) (x y:Fin P) {d:Int} (hd:d % 2=1) (hd2:-15≤d∧d≤15) (w:World) (hk:kt < w.heap.size) (hr:∀ q,q < 8→w.rangeAt kt (o+0+12*q) (tw (od x y q))) :
 Calls Tryz.prog 138 #[.pointer (some ⟨kt,o,none⟩),.int .i8 d] w (Ret fun e w'=>Below w.heap.size w w'∧e=tv (tmJ x y d)):=by
 unfold tmJ
 by_cases hn:d < 0
 · rw [if_pos hn]
   have h1:=times_n F kt o ((-d).toNat / 2) (by omega) (od x y ((-d).toNat / 2)) w hk (hr _ (by omega))
   rw [show -(2*(((-d).toNat / 2:Nat):Int)+1)=d by omega] at h1
   exact h1
 · rw [if_neg hn]
   have h1:=times_p F kt o (d.toNat / 2) (by omega) (od x y (d.toNat / 2)) w hk (hr _ (by omega))
   rw [show 2*((d.toNat / 2:Nat):Int)+1=d by omega] at h1
   exact h1
end Go.Proofs.YtmkllfekhehagagGreat
namespace Go.Proofs.YtmkllfekhehagagGreat
open Go.RowKit Go.Sort
variable {P:Nat} [NeZero P]
theorem al117 {P:Nat} [NeZero P] (w:World):(Instr.alloc 187 true (.tuple #[])).run Tryz.prog w=.ok (.pointer (some ⟨w.heap.size,0,none⟩)) (w.alloc (.cells (tw ((0,0,0):T3 P)).toArray 187)):=by
 show _=Result.ok _ (w.alloc (.cells (ws (0:Fin P)++(ws (0:Fin P)++ws (0:Fin P))).toArray 187))
 rw [← ws_zero]
 kernel_rfl
theorem ne8_f (w:World):(binOp .neq 189 (.int .i8 0) (.int .i8 0)).run Tryz.prog w=.ok (.bool false) w:=by kernel_rfl
theorem ne8_t {d:Int} (h:¬ d=0) (w:World):(binOp .neq 189 (.int .i8 d) (.int .i8 0)).run Tryz.prog w=.ok (.bool true) w:=by
 go_simp
theorem sub1' (q:Nat) (hq:q < 1000) (w:World):(binOp .sub 3 (.int .i64 (q:Int)) (.int .i64 1)).run Tryz.prog w=.ok (.int .i64 ((q:Int) - 1)) w:=sub64i _ _ (by omega) (by omega) w
theorem geq0' (i:Nat) (w:World):(binOp .geq 3 (.int .i64 (i:Int)) (.int .i64 0)).run Tryz.prog w=.ok (.bool true) w:=by
 go_simp
def F82a_0:List RG.It:=[.m 4 [] 0]
def F82a_1 (N kn:Nat) (s:T3 P):List RG.It:=[.x 11 [] (.slice (some ⟨kn,0,none⟩) N N),.x 12 [(11,0)] (.int .i64 (N:Int)),⟨some 13,[(12,1)],(.s 1 N N),.make 1⟩,.s 5 [(13,2)] (.s 1 N N)]
def F82a_2 (N:Nat) (s:T3 P):List RG.It:=[.s 14 [] (.s 1 N N),.x 15 [(14,0)] (.int .i64 (N:Int)),.x 16 [] (.int .i64 0)]
def F82b_3:List RG.It:=[.x 17 [] (.bool true)]
def F82b_4 (i:Nat):List RG.It:=[.x 18 [] (.int .i64 (i:Int)),.x 6 [(18,0)] (.int .i64 (i:Int))]
def F82b_5 (N kn ka i:Nat) (ns:Nat→Nat) (xs ys:Nat→Fin P) (s:T3 P):List RG.It:=[.s 19 [] (.s 1 N N),.x 20 [] (.int .i64 (i:Int)),.s 21 [(19,0),(20,1)] (.p 1 (353*i)),.x 22 [] (.slice (some ⟨kn,0,none⟩) N N),.x 23 [] (.int .i64 (i:Int)),.x 24 [(22,3),(23,4)] (.pointer (some ⟨kn,(0+4*i),none⟩)),.x 25 [(24,5)] (nv (ns i)),.x 26 [] (.slice (some ⟨ka,0,none⟩) N N),.x 27 [] (.int .i64 (i:Int)),.x 28 [(26,7),(27,8)] (.pointer (some ⟨ka,(0+8*i),none⟩)),.x 29 [(28,9)] (pv (xs i) (ys i)),⟨some 30,[(21,2),(25,6),(29,10)],(.v (.tuple #[])),.put 1⟩]
def F82b_6 (i:Nat):List RG.It:=[.x 31 [] (.int .i64 ((i+1:Nat):Int)),.x 16 [(31,0)] (.int .i64 ((i+1:Nat):Int))]
def F82c_3:List RG.It:=[.x 17 [] (.bool false)]
def F82c_7:List RG.It:=[.m 7 [] 2]
def F82c_8:List RG.It:=[.x 8 [] (.int .i64 256)]
def F82d_9 (q:Nat):List RG.It:=[.x 32 [] (.int .i64 (q:Int)),.x 33 [(32,0)] (.bool true)]
def F82d_11 (s s2:T3 P):List RG.It:=[.x 36 [] (tv s),.c 37 [(36,0)] (tv s2),.u [(37,1)] 2]
def F82d_12 (N:Nat) (s:T3 P):List RG.It:=[.s 38 [] (.s 1 N N),.x 39 [(38,0)] (.int .i64 (N:Int)),.x 40 [] (.int .i64 0)]
def F82e_9:List RG.It:=[.x 32 [] (.int .i64 (-1)),.x 33 [(32,0)] (.bool false)]
def F82e_19 (s:T3 P):List RG.It:=[.x 60 [] (tv s),.c 61 [(60,0)] (pv (s.1*(EC.inv s.2.2*EC.inv s.2.2)) (s.2.1*(EC.inv s.2.2*EC.inv s.2.2)*EC.inv s.2.2)),.u [(61,1)] 0]
def F82f_13:List RG.It:=[.x 41 [] (.bool true)]
def F82f_14 (i:Nat):List RG.It:=[.x 42 [] (.int .i64 (i:Int)),.x 9 [(42,0)] (.int .i64 (i:Int))]
def F82f_15 (N i q:Nat) (s:T3 P):List RG.It:=[.s 43 [] (.s 1 N N),.x 44 [] (.int .i64 (i:Int)),.x 45 [] (.int .i64 (q:Int)),.s 46 [(43,0),(44,1)] (.p 1 (353*i)),.s 47 [(46,3)] (.p 1 ((353*i)+96)),.s 48 [(47,4),(45,2)] (.p 1 (((353*i)+96)+q)),.x 49 [(48,5)] (.int .i8 0),.x 10 [(49,6)] (.int .i8 0)]
def F82f_16:List RG.It:=[.x 50 [] (.int .i8 0),.x 51 [(50,0)] (.bool false)]
def F82f_18 (i:Nat):List RG.It:=[.x 59 [] (.int .i64 ((i+1:Nat):Int)),.x 40 [(59,0)] (.int .i64 ((i+1:Nat):Int))]
def F82g_13:List RG.It:=[.x 41 [] (.bool true)]
def F82g_14 (i:Nat):List RG.It:=[.x 42 [] (.int .i64 (i:Int)),.x 9 [(42,0)] (.int .i64 (i:Int))]
def F82g_15 (N i q:Nat) (d:Int) (s:T3 P):List RG.It:=[.s 43 [] (.s 1 N N),.x 44 [] (.int .i64 (i:Int)),.x 45 [] (.int .i64 (q:Int)),.s 46 [(43,0),(44,1)] (.p 1 (353*i)),.s 47 [(46,3)] (.p 1 ((353*i)+96)),.s 48 [(47,4),(45,2)] (.p 1 (((353*i)+96)+q)),.x 49 [(48,5)] (.int .i8 d),.x 10 [(49,6)] (.int .i8 d)]
def F82g_16 (d:Int):List RG.It:=[.x 50 [] (.int .i8 d),.x 51 [(50,0)] (.bool true)]
def F82g_17 (N i:Nat) (d:Int) (s s3 s4:T3 P):List RG.It:=[.x 52 [] (tv s),.s 53 [] (.s 1 N N),.x 54 [] (.int .i64 (i:Int)),.s 55 [(53,1),(54,2)] (.p 1 (353*i)),.x 56 [] (.int .i8 d),.c 57 [(55,3),(56,4)] (tv s3),.c 58 [(52,0),(57,5)] (tv s4),.u [(58,6)] 2]
def F82g_18 (i:Nat):List RG.It:=[.x 59 [] (.int .i64 ((i+1:Nat):Int)),.x 40 [(59,0)] (.int .i64 ((i+1:Nat):Int))]
def F82h_13:List RG.It:=[.x 41 [] (.bool false)]
def F82h_10 (q:Nat):List RG.It:=[.x 34 [] (.int .i64 (q:Int)),.x 35 [(34,0)] (.int .i64 ((q:Int) - 1)),.x 8 [(35,1)] (.int .i64 ((q:Int) - 1))]
set_option maxHeartbeats 4000000 in
set_option maxRecDepth 100000 in
theorem sums_c (F:Fld P) (N:Nat) (hN:N≤512) (ns:Nat→Nat) (xs ys:Nat→Fin P) (hns:∀ i,i < N→ns i < top) (kn ka:Nat) (w:World) (hkn:kn < w.heap.size) (hka:ka < w.heap.size)
 (hn:∀ i,i < N→w.rangeAt kn (4*i) (wn (ns i))) (ha:∀ i,i < N→w.rangeAt ka (8*i) (ws (xs i)++ws (ys i))) :
 Calls Tryz.prog 97 #[(.slice (some ⟨kn,0,none⟩) N N),(.slice (some ⟨ka,0,none⟩) N N)] w (Ret fun e w'=>Below w.heap.size w w'∧∃ s,s=sumJ ns xs ys N 257∧e=pv (s.1*(EC.inv s.2.2*EC.inv s.2.2)) (s.2.1*(EC.inv s.2.2*EC.inv s.2.2)*EC.inv s.2.2)):=by
 obtain ⟨C,hCl,hmk⟩:=mk135 N hN
 have hstepC:∀ (i:Nat) (c2:List Value),fc (xs i) (ys i) (digs (ns i)) (cc ns xs ys C i) (353*i) 8=c2→cc ns xs ys C (i+1)=c2:=fun i c2 h=>h
 obtain ⟨i,-⟩:∃ i:Nat,i=0:=⟨_,rfl⟩
 obtain ⟨q,-⟩:∃ i:Nat,i=0:=⟨_,rfl⟩
 obtain ⟨d,-⟩:∃ i:Int,i=0:=⟨_,rfl⟩
 obtain ⟨C2,-⟩:∃ c:List Value,c=C:=⟨_,rfl⟩
 obtain ⟨s,-⟩:∃ s:T3 P,s=(0,0,0):=⟨_,rfl⟩
 obtain ⟨s2,-⟩:∃ s:T3 P,s=(0,0,0):=⟨_,rfl⟩
 obtain ⟨s3,-⟩:∃ s:T3 P,s=(0,0,0):=⟨_,rfl⟩
 obtain ⟨s4,-⟩:∃ s:T3 P,s=(0,0,0):=⟨_,rfl⟩
 go_enter Tryz.func97,Tryz.ntmps97
 refine RG.var2 (v0:=(.slice (some ⟨kn,0,none⟩) N N)) (v1:=(.slice (some ⟨ka,0,none⟩) N N)) (n:=62) (by kernel_rfl) (by kernel_rfl) (by kernel_rfl) (by kernel_rfl) ?_
 intro a0 sl0 f0 f1
 have hS0:=RG.St.begin w
 have M0:RG.M w w.heap.size [] 62 [] [] [(0,(.v (.slice (some ⟨kn,0,none⟩) N N))),(1,(.v (.slice (some ⟨ka,0,none⟩) N N)))] a0 _:=⟨hS0,sl0,⟨f0,f1,trivial⟩⟩
 repeat refine wp_seq ?_
 refine M0.tx F82a_0 [(0,(RG.z 8))] [] [(RG.z 8)] [(0,(.v (.slice (some ⟨kn,0,none⟩) N N))),(1,(.v (.slice (some ⟨ka,0,none⟩) N N))),(4,(.p 0 0))] (by kernel_rfl) (by kernel_rfl) ⟨RG.mk 0 57 fun _ _=>by kernel_rfl,trivial⟩ ?_
 intro j1 a1 w1 M1
 repeat refine wp_seq ?_
 refine M1.tx (F82a_1 N kn s) [(2,C)] [] [(RG.z 8),C] [(0,(.v (.slice (some ⟨kn,0,none⟩) N N))),(1,(.v (.slice (some ⟨ka,0,none⟩) N N))),(4,(.p 0 0)),(5,(.s 1 N N))] (by kernel_rfl) (by kernel_rfl) ⟨RG.st fun _ _=>by kernel_rfl,RG.cert_one rfl 11 (.v (.slice (some ⟨kn,0,none⟩) N N)) (.int .i64 (N:Int)) rfl (RG.sx fun _=>by kernel_rfl) (fun a w=>by kernel_rfl) (fun μ w=>by kernel_rfl),RG.cert_makes 1 rfl _ rfl 184 192 12 12 N rfl rfl (RG.sx fun _=>by kernel_rfl) (RG.sx fun _=>by kernel_rfl) (hmk),RG.st fun _ _=>by kernel_rfl,trivial⟩ ?_
 intro j2 a2 w2 M2
 repeat refine wp_seq ?_
 refine M2.tx0 (F82a_2 N s) [(0,(.v (.slice (some ⟨kn,0,none⟩) N N))),(1,(.v (.slice (some ⟨ka,0,none⟩) N N))),(4,(.p 0 0)),(5,(.s 1 N N)),(15,(.v (.int .i64 (N:Int)))),(16,(.v (.int .i64 0)))] (by kernel_rfl) ⟨RG.st fun _ _=>by kernel_rfl,RG.cert_one rfl 14 (.s 1 N N) (.int .i64 (N:Int)) rfl (RG.sx fun _=>by kernel_rfl) (fun a w=>by kernel_rfl) (fun μ w=>by kernel_rfl),RG.st fun _ _=>by kernel_rfl,trivial⟩ ?_
 intro a3 w3 M3
 have hS3:RG.St w w.heap.size [] [(RG.z 8),C] [j1,j2] _:=M3.st
 have sl3:=M3.sl
 have f0_3:a3.tmps[0]? = some (.slice (some ⟨kn,0,none⟩) N N):=M3.at (s:=(.v (.slice (some ⟨kn,0,none⟩) N N))) (by kernel_rfl)
 have f1_3:a3.tmps[1]? = some (.slice (some ⟨ka,0,none⟩) N N):=M3.at (s:=(.v (.slice (some ⟨ka,0,none⟩) N N))) (by kernel_rfl)
 have f4_3:a3.tmps[4]? = some (.pointer (some ⟨j1,0,none⟩)):=M3.at (s:=(.p 0 0)) (by kernel_rfl)
 have f5_3:a3.tmps[5]? = some (.slice (some ⟨j2,0,none⟩) N N):=M3.at (s:=(.s 1 N N)) (by kernel_rfl)
 have f15_3:a3.tmps[15]? = some (.int .i64 (N:Int)):=M3.at (s:=(.v (.int .i64 (N:Int)))) (by kernel_rfl)
 have f16_3:a3.tmps[16]? = some (.int .i64 0):=M3.at (s:=(.v (.int .i64 0))) (by kernel_rfl)
 repeat refine wp_seq ?_
 refine wp_block ?_
 refine wp_loop_ghost (fun m a wr=>∃ i,i+m=N∧RG.Sl a 62∧a.tmps[0]? = some (.slice (some ⟨kn,0,none⟩) N N)∧a.tmps[1]? = some (.slice (some ⟨ka,0,none⟩) N N)∧a.tmps[4]? = some (.pointer (some ⟨j1,0,none⟩))∧a.tmps[5]? = some (.slice (some ⟨j2,0,none⟩) N N)∧a.tmps[15]? = some (.int .i64 (N:Int))∧a.tmps[16]? = some (.int .i64 (i:Int))∧RG.St w w.heap.size [] [[.int .u64 0,.int .u64 0,.int .u64 0,.int .u64 0,.int .u64 0,.int .u64 0,.int .u64 0,.int .u64 0],cc ns xs ys C i] [j1,j2] wr) N ⟨0,by omega,sl3,f0_3,f1_3,f4_3,f5_3,f15_3,f16_3,hS3⟩ ?_
 intro m a wr
 rintro ⟨i,him,sl,p0,p1,p4,p5,p15,p16,hSp⟩
 generalize j1=kr at p4 hSp
 generalize j2=kt at p5 hSp
 obtain ⟨C,hCe⟩:∃ c,cc ns xs ys C i=c:=⟨_,rfl⟩
 have hcc:=cc_at (ns:=ns) (xs:=xs) (ys:=ys) hCl i (by omega)
 rw [hCe] at hSp hcc
 by_cases hi:i < N
 · obtain ⟨C2,hC2e⟩:∃ c,fc (xs i) (ys i) (digs (ns i)) C (353*i) 8=c:=⟨_,rfl⟩
   have hoff:353*i+353≤C.length:=by rw [hcc.1];omega
   have hcl:C2.length=C.length:=hC2e ▸ (fc_Fi hoff 8 (Nat.le_refl _)).len
   have hfill:∀ (k:Nat) (w:World),w.there k 0 C.length→w.rangeAt k 0 C→Calls Tryz.prog 135 #[.pointer (some ⟨k,353*i,none⟩),nv (ns i),pv (xs i) (ys i)] w (Ret fun r w'=>RG.PutTo k C.length C2 w w'∧r=.tuple #[]):=fun k w ht hr=>hC2e ▸ fill_put F (hns i hi) (xs i) (ys i) C k (353*i) hoff w ht hr
   have hrn:w.rangeAt kn (0+4*i) (wn (ns i)):=by rw [Nat.zero_add];exact hn i hi
   have hra:w.rangeAt ka (0+8*i) (ws (xs i)++ws (ys i)):=by rw [Nat.zero_add];exact ha i hi
   have M10:RG.M w w.heap.size [] 62 [(RG.z 8),C] [kr,kt] [(0,(.v (.slice (some ⟨kn,0,none⟩) N N))),(1,(.v (.slice (some ⟨ka,0,none⟩) N N))),(4,(.p 0 0)),(5,(.s 1 N N)),(15,(.v (.int .i64 (N:Int)))),(16,(.v (.int .i64 (i:Int))))] a _:=⟨hSp,sl,⟨p0,p1,p4,p5,p15,p16,trivial⟩⟩
   repeat refine wp_seq ?_
   refine M10.tx0 F82b_3 [(0,(.v (.slice (some ⟨kn,0,none⟩) N N))),(1,(.v (.slice (some ⟨ka,0,none⟩) N N))),(4,(.p 0 0)),(5,(.s 1 N N)),(15,(.v (.int .i64 (N:Int)))),(16,(.v (.int .i64 (i:Int)))),(17,(.v (.bool true)))] (by kernel_rfl) ⟨RG.cert_bin rfl .lss 3 3 16 15 (.int .i64 (i:Int)) (.int .i64 (N:Int)) (.bool true) rfl rfl (RG.sx fun _=>by kernel_rfl) (RG.sx fun _=>by kernel_rfl) (fun w=>by kernel_rfl) (lssn_t hi),trivial⟩ ?_
   intro a11 w11 M11
   repeat refine wp_seq ?_
   refine wp_cond_true (M11.ev (by kernel_rfl)) ?_
   refine wp_skip ?_
   refine wp_seq ?_
   refine wp_block ?_
   repeat refine wp_seq ?_
   refine M11.tx0 (F82b_4 i) [(0,(.v (.slice (some ⟨kn,0,none⟩) N N))),(1,(.v (.slice (some ⟨ka,0,none⟩) N N))),(4,(.p 0 0)),(5,(.s 1 N N)),(6,(.v (.int .i64 (i:Int)))),(15,(.v (.int .i64 (N:Int)))),(16,(.v (.int .i64 (i:Int))))] (by kernel_rfl) ⟨RG.st fun _ _=>by kernel_rfl,RG.st fun _ _=>by kernel_rfl,trivial⟩ ?_
   intro a12 w12 M12
   repeat refine wp_seq ?_
   refine M12.dr (by kernel_rfl) (F82b_5 N kn ka i ns xs ys s) [] [(1,11,C2)] [(RG.z 8),C2] [(0,(.v (.slice (some ⟨kn,0,none⟩) N N))),(1,(.v (.slice (some ⟨ka,0,none⟩) N N))),(4,(.p 0 0)),(5,(.s 1 N N)),(15,(.v (.int .i64 (N:Int)))),(16,(.v (.int .i64 (i:Int))))] (by kernel_rfl) (congrArg (fun n=>[n]) hcl) ⟨RG.st fun _ _=>by kernel_rfl,RG.st fun _ _=>by kernel_rfl,RG.cert_idx rfl 184 19 20 rfl (.s 1 N N) (.int .i64 (i:Int)) (RG.sx fun _=>by kernel_rfl) (RG.sx fun _=>by kernel_rfl) (fun μ w=>at135 _ _ _ i hi w),RG.st fun _ _=>by kernel_rfl,RG.st fun _ _=>by kernel_rfl,RG.cert_idx rfl 130 22 23 rfl (.v (.slice (some ⟨kn,0,none⟩) N N)) (.int .i64 (i:Int)) (RG.sx fun _=>by kernel_rfl) (RG.sx fun _=>by kernel_rfl) (fun μ w=>at82 _ _ _ _ i hi w),RG.cert_loadB rfl kn (0+4*i) hkn List.not_mem_nil 55 24 rfl (wn (ns i)) rfl (RG.sx fun _=>by kernel_rfl) hrn u85 i85,RG.st fun _ _=>by kernel_rfl,RG.st fun _ _=>by kernel_rfl,RG.cert_idx rfl 133 26 27 rfl (.v (.slice (some ⟨ka,0,none⟩) N N)) (.int .i64 (i:Int)) (RG.sx fun _=>by kernel_rfl) (RG.sx fun _=>by kernel_rfl) (fun μ w=>at112 _ _ _ _ i hi w),RG.cert_loadB rfl ka (0+8*i) hka List.not_mem_nil 57 28 rfl (ws (xs i)++ws (ys i)) rfl (RG.sx fun _=>by kernel_rfl) hra u109 i109,RG.cert_callput3 1 rfl _ rfl 135 21 25 29 (.p 1 (353*i)) (nv (ns i)) (pv (xs i) (ys i)) (.tuple #[]) rfl (fun a w=>by kernel_rfl) (RG.sx fun _=>by kernel_rfl) (RG.sx fun _=>by kernel_rfl) (RG.sx fun _=>by kernel_rfl) (fun μ w ht hr=>hfill (μ 1) w ht hr),trivial⟩ ?_
   intro a13 w13 M13
   repeat refine wp_seq ?_
   refine M13.tx0 (F82b_6 i) [(0,(.v (.slice (some ⟨kn,0,none⟩) N N))),(1,(.v (.slice (some ⟨ka,0,none⟩) N N))),(4,(.p 0 0)),(5,(.s 1 N N)),(15,(.v (.int .i64 (N:Int)))),(16,(.v (.int .i64 ((i+1:Nat):Int))))] (by kernel_rfl) ⟨RG.cert_binc rfl .add 3 3 16 (.int .i64 (i:Int)) (.int .i64 1) (.int .i64 ((i+1:Nat):Int)) rfl rfl (RG.sx fun _=>by kernel_rfl) (fun w=>by kernel_rfl) (addn i 1 (by omega) (by omega)),RG.st fun _ _=>by kernel_rfl,trivial⟩ ?_
   intro a14 w14 M14
   have hS14:RG.St w w.heap.size [] [(RG.z 8),C2] [kr,kt] _:=M14.st
   have sl14:=M14.sl
   have f0_14:a14.tmps[0]? = some (.slice (some ⟨kn,0,none⟩) N N):=M14.at (s:=(.v (.slice (some ⟨kn,0,none⟩) N N))) (by kernel_rfl)
   have f1_14:a14.tmps[1]? = some (.slice (some ⟨ka,0,none⟩) N N):=M14.at (s:=(.v (.slice (some ⟨ka,0,none⟩) N N))) (by kernel_rfl)
   have f4_14:a14.tmps[4]? = some (.pointer (some ⟨kr,0,none⟩)):=M14.at (s:=(.p 0 0)) (by kernel_rfl)
   have f5_14:a14.tmps[5]? = some (.slice (some ⟨kt,0,none⟩) N N):=M14.at (s:=(.s 1 N N)) (by kernel_rfl)
   have f15_14:a14.tmps[15]? = some (.int .i64 (N:Int)):=M14.at (s:=(.v (.int .i64 (N:Int)))) (by kernel_rfl)
   have f16_14:a14.tmps[16]? = some (.int .i64 ((i+1:Nat):Int)):=M14.at (s:=(.v (.int .i64 ((i+1:Nat):Int)))) (by kernel_rfl)
   show ∃ n',_
   refine ⟨m - 1,by omega,i+1,by omega,sl14,f0_14,f1_14,f4_14,f5_14,f15_14,f16_14,?_⟩
   rw [hstepC i C2 (by rw [hCe];exact hC2e)]
   exact hS14
 · have hiN:i=N:=by omega
   rw [hiN] at hcc
   have hcN:=hcc.2
   have M20:RG.M w w.heap.size [] 62 [(RG.z 8),C] [kr,kt] [(0,(.v (.slice (some ⟨kn,0,none⟩) N N))),(1,(.v (.slice (some ⟨ka,0,none⟩) N N))),(4,(.p 0 0)),(5,(.s 1 N N)),(15,(.v (.int .i64 (N:Int)))),(16,(.v (.int .i64 (i:Int))))] a _:=⟨hSp,sl,⟨p0,p1,p4,p5,p15,p16,trivial⟩⟩
   repeat refine wp_seq ?_
   refine M20.tx0 F82c_3 [(4,(.p 0 0)),(5,(.s 1 N N)),(17,(.v (.bool false)))] (by kernel_rfl) ⟨RG.cert_bin rfl .lss 3 3 16 15 (.int .i64 (i:Int)) (.int .i64 (N:Int)) (.bool false) rfl rfl (RG.sx fun _=>by kernel_rfl) (RG.sx fun _=>by kernel_rfl) (fun w=>by kernel_rfl) (lssn_f hi),trivial⟩ ?_
   intro a21 w21 M21
   repeat refine wp_seq ?_
   refine wp_cond_false (M21.ev (by kernel_rfl)) ?_
   refine wp_exit ?_
   dsimp only [Exit.then,Exit.inBlock]
   rw [if_pos rfl]
   repeat refine wp_seq ?_
   refine M21.tx F82c_7 [(0,(tw ((0,0,0):T3 P)))] [] [(RG.z 8),C,(tw ((0,0,0):T3 P))] [(4,(.p 0 0)),(5,(.s 1 N N)),(7,(.p 2 0))] (by kernel_rfl) (by kernel_rfl) ⟨RG.cert_alloc 2 rfl rfl _ rfl 187 rfl (al117),trivial⟩ ?_
   intro j22 a22 w22 M22
   repeat refine wp_seq ?_
   refine M22.tx0 F82c_8 [(4,(.p 0 0)),(5,(.s 1 N N)),(7,(.p 2 0)),(8,(.v (.int .i64 256)))] (by kernel_rfl) ⟨RG.st fun _ _=>by kernel_rfl,trivial⟩ ?_
   intro a23 w23 M23
   have hS23:RG.St w w.heap.size [] [(RG.z 8),C,(tw ((0,0,0):T3 P))] [kr,kt,j22] _:=M23.st
   have sl23:=M23.sl
   have f4_23:a23.tmps[4]? = some (.pointer (some ⟨kr,0,none⟩)):=M23.at (s:=(.p 0 0)) (by kernel_rfl)
   have f5_23:a23.tmps[5]? = some (.slice (some ⟨kt,0,none⟩) N N):=M23.at (s:=(.s 1 N N)) (by kernel_rfl)
   have f7_23:a23.tmps[7]? = some (.pointer (some ⟨j22,0,none⟩)):=M23.at (s:=(.p 2 0)) (by kernel_rfl)
   have f8_23:a23.tmps[8]? = some (.int .i64 256):=M23.at (s:=(.v (.int .i64 256))) (by kernel_rfl)
   repeat refine wp_seq ?_
   refine wp_block ?_
   refine wp_loop_ghost (fun m a wr=>m≤257∧RG.Sl a 62∧a.tmps[4]? = some (.pointer (some ⟨kr,0,none⟩))∧a.tmps[5]? = some (.slice (some ⟨kt,0,none⟩) N N)∧a.tmps[7]? = some (.pointer (some ⟨j22,0,none⟩))∧a.tmps[8]? = some (.int .i64 ((m:Int) - 1))∧RG.St w w.heap.size [] [[.int .u64 0,.int .u64 0,.int .u64 0,.int .u64 0,.int .u64 0,.int .u64 0,.int .u64 0,.int .u64 0],C,tw (sumJ ns xs ys N (257 - m))] [kr,kt,j22] wr) 257 ⟨Nat.le_refl _,sl23,f4_23,f5_23,f7_23,f8_23,?_⟩ ?_
   · rw [Nat.sub_self,sumJ]
     exact hS23
   intro m b wr
   rintro ⟨hm,slb,q4,q5,q7,q8,hSq⟩
   generalize j22=kl at q7 hSq
   by_cases hz:m=0
   · subst hz
     rw [show 257 - 0=257 from rfl] at hSq
     obtain ⟨s,hse⟩:∃ s,sumJ ns xs ys N 257=s:=⟨_,rfl⟩
     rw [hse] at hSq
     have M40:RG.M w w.heap.size [] 62 [(RG.z 8),C,(tw s)] [kr,kt,kl] [(4,(.p 0 0)),(5,(.s 1 N N)),(7,(.p 2 0)),(8,(.v (.int .i64 (-1))))] b _:=⟨hSq,slb,⟨q4,q5,q7,q8,trivial⟩⟩
     repeat refine wp_seq ?_
     refine M40.tx0 F82e_9 [(4,(.p 0 0)),(7,(.p 2 0)),(33,(.v (.bool false)))] (by kernel_rfl) ⟨RG.st fun _ _=>by kernel_rfl,RG.st fun _ _=>by kernel_rfl,trivial⟩ ?_
     intro a41 w41 M41
     repeat refine wp_seq ?_
     refine wp_cond_false (M41.ev (by kernel_rfl)) ?_
     refine wp_exit ?_
     dsimp only [Exit.then,Exit.inBlock]
     rw [if_pos rfl]
     repeat refine wp_seq ?_
     refine M41.tx (F82e_19 s) [] [(0,2,(ws (s.1*(EC.inv s.2.2*EC.inv s.2.2))++(ws (s.2.1*(EC.inv s.2.2*EC.inv s.2.2)*EC.inv s.2.2))))] [(ws (s.1*(EC.inv s.2.2*EC.inv s.2.2))++(ws (s.2.1*(EC.inv s.2.2*EC.inv s.2.2)*EC.inv s.2.2))),C,(tw s)] [(4,(.p 0 0))] (by kernel_rfl) (by kernel_rfl) ⟨RG.ld u117 i117 (by kernel_rfl),RG.cl (ptJ_c F s) fun _ _=>by kernel_rfl,RG.pt i109 (by kernel_rfl),trivial⟩ ?_
     intro a42 w42 M42
     have hS42:RG.St w w.heap.size [] [(ws (s.1*(EC.inv s.2.2*EC.inv s.2.2))++(ws (s.2.1*(EC.inv s.2.2*EC.inv s.2.2)*EC.inv s.2.2))),C,(tw s)] [kr,kt,kl] _:=M42.st
     have sl42:=M42.sl
     have f4_42:a42.tmps[4]? = some (.pointer (some ⟨kr,0,none⟩)):=M42.at (s:=(.p 0 0)) (by kernel_rfl)
     refine wp_ret ?_
     refine bodyPost_ret (v:=pv (s.1*(EC.inv s.2.2*EC.inv s.2.2)) (s.2.1*(EC.inv s.2.2*EC.inv s.2.2)*EC.inv s.2.2)) (RG.results_row hS42 4 57 rfl 0 _ rfl f4_42 u109 i109) sl42.defers ?_
     exact ⟨_,rfl,hS42.bel.below,s,hse.symm,rfl⟩
   · obtain ⟨q,rfl⟩:∃ q,m=q+1:=⟨m - 1,by omega⟩
     have hq:q < 257:=by omega
     replace q8:b.tmps[8]? = some (.int .i64 (q:Int)):=by rw [q8];congr 2;omega
     obtain ⟨s,hse⟩:∃ s,sumJ ns xs ys N (257 - (q+1))=s:=⟨_,rfl⟩
     rw [hse] at hSq
     obtain ⟨s2,hs2e⟩:∃ t,twJ s=t:=⟨_,rfl⟩
     have hs2:Gives 136 #[tv s] (tv s2):=hs2e ▸ twJ_c F s
     have hnext:sumJ ns xs ys N (257 - q)=inn ns xs ys s2 q N:=by
      rw [show 257 - q=257 - (q+1)+1 by omega]
      show inn ns xs ys (twJ (sumJ ns xs ys N (257 - (q+1)))) (256 - (257 - (q+1))) N=_
      rw [hse,hs2e,show 256 - (257 - (q+1))=q by omega]
     have M30:RG.M w w.heap.size [] 62 [(RG.z 8),C,(tw s)] [kr,kt,kl] [(4,(.p 0 0)),(5,(.s 1 N N)),(7,(.p 2 0)),(8,(.v (.int .i64 (q:Int))))] b _:=⟨hSq,slb,⟨q4,q5,q7,q8,trivial⟩⟩
     repeat refine wp_seq ?_
     refine M30.tx0 (F82d_9 q) [(4,(.p 0 0)),(5,(.s 1 N N)),(7,(.p 2 0)),(8,(.v (.int .i64 (q:Int)))),(33,(.v (.bool true)))] (by kernel_rfl) ⟨RG.st fun _ _=>by kernel_rfl,RG.cert_binc rfl .geq 3 3 32 (.int .i64 (q:Int)) (.int .i64 0) (.bool true) rfl rfl (RG.sx fun _=>by kernel_rfl) (fun w=>by kernel_rfl) (geq0' q),trivial⟩ ?_
     intro a31 w31 M31
     repeat refine wp_seq ?_
     refine wp_cond_true (M31.ev (by kernel_rfl)) ?_
     refine wp_skip ?_
     refine wp_seq ?_
     refine wp_block ?_
     repeat refine wp_seq ?_
     refine M31.tx (F82d_11 s s2) [] [(2,2,(tw s2))] [(RG.z 8),C,(tw s2)] [(4,(.p 0 0)),(5,(.s 1 N N)),(7,(.p 2 0)),(8,(.v (.int .i64 (q:Int))))] (by kernel_rfl) (by kernel_rfl) ⟨RG.ld u117 i117 (by kernel_rfl),RG.cl (hs2) fun _ _=>by kernel_rfl,RG.pt i117 (by kernel_rfl),trivial⟩ ?_
     intro a32 w32 M32
     repeat refine wp_seq ?_
     refine M32.tx0 (F82d_12 N s) [(4,(.p 0 0)),(5,(.s 1 N N)),(7,(.p 2 0)),(8,(.v (.int .i64 (q:Int)))),(39,(.v (.int .i64 (N:Int)))),(40,(.v (.int .i64 0)))] (by kernel_rfl) ⟨RG.st fun _ _=>by kernel_rfl,RG.cert_one rfl 38 (.s 1 N N) (.int .i64 (N:Int)) rfl (RG.sx fun _=>by kernel_rfl) (fun a w=>by kernel_rfl) (fun μ w=>by kernel_rfl),RG.st fun _ _=>by kernel_rfl,trivial⟩ ?_
     intro a33 w33 M33
     have hS33:RG.St w w.heap.size [] [(RG.z 8),C,(tw s2)] [kr,kt,kl] _:=M33.st
     have sl33:=M33.sl
     have f4_33:a33.tmps[4]? = some (.pointer (some ⟨kr,0,none⟩)):=M33.at (s:=(.p 0 0)) (by kernel_rfl)
     have f5_33:a33.tmps[5]? = some (.slice (some ⟨kt,0,none⟩) N N):=M33.at (s:=(.s 1 N N)) (by kernel_rfl)
     have f7_33:a33.tmps[7]? = some (.pointer (some ⟨kl,0,none⟩)):=M33.at (s:=(.p 2 0)) (by kernel_rfl)
     have f8_33:a33.tmps[8]? = some (.int .i64 (q:Int)):=M33.at (s:=(.v (.int .i64 (q:Int)))) (by kernel_rfl)
     have f39_33:a33.tmps[39]? = some (.int .i64 (N:Int)):=M33.at (s:=(.v (.int .i64 (N:Int)))) (by kernel_rfl)
     have f40_33:a33.tmps[40]? = some (.int .i64 0):=M33.at (s:=(.v (.int .i64 0))) (by kernel_rfl)
     repeat refine wp_seq ?_
     refine wp_block ?_
     refine wp_loop_ghost (fun m a wr=>∃ i,i+m=N∧RG.Sl a 62∧a.tmps[4]? = some (.pointer (some ⟨kr,0,none⟩))∧a.tmps[5]? = some (.slice (some ⟨kt,0,none⟩) N N)∧a.tmps[7]? = some (.pointer (some ⟨kl,0,none⟩))∧a.tmps[8]? = some (.int .i64 (q:Int))∧a.tmps[39]? = some (.int .i64 (N:Int))∧a.tmps[40]? = some (.int .i64 (i:Int))∧RG.St w w.heap.size [] [[.int .u64 0,.int .u64 0,.int .u64 0,.int .u64 0,.int .u64 0,.int .u64 0,.int .u64 0,.int .u64 0],C,tw (inn ns xs ys s2 q i)] [kr,kt,kl] wr) N ⟨0,by omega,sl33,f4_33,f5_33,f7_33,f8_33,f39_33,f40_33,hS33⟩ ?_
     intro m' c wr
     rintro ⟨i,him,slc,r4,r5,r7,r8,r39,r40,hSr⟩
     obtain ⟨s,hse3⟩:∃ s,inn ns xs ys s2 q i=s:=⟨_,rfl⟩
     rw [hse3] at hSr
     by_cases hi:i < N
     · obtain ⟨h1,h2⟩:=hcN i hi
       obtain ⟨d,hde⟩:∃ d,digs (ns i) q=d:=⟨_,rfl⟩
       have hdig:C[353*i+96+q]? = some (.int .i8 d):=hde ▸ h1 q hq
       have hCne:C≠[]:=by intro h;rw [h] at hdig;simp at hdig
       have hstep:inn ns xs ys s2 q (i+1)=if d=0 then s else plJ s (tmJ (xs i) (ys i) d):=by rw [← hse3,← hde];rfl
       by_cases hdz:d=0
       · rw [if_pos hdz] at hstep
         rw [hdz] at hdig
         have M50:RG.M w w.heap.size [] 62 [(RG.z 8),C,(tw s)] [kr,kt,kl] [(4,(.p 0 0)),(5,(.s 1 N N)),(7,(.p 2 0)),(8,(.v (.int .i64 (q:Int)))),(39,(.v (.int .i64 (N:Int)))),(40,(.v (.int .i64 (i:Int))))] c _:=⟨hSr,slc,⟨r4,r5,r7,r8,r39,r40,trivial⟩⟩
         repeat refine wp_seq ?_
         refine M50.tx0 F82f_13 [(4,(.p 0 0)),(5,(.s 1 N N)),(7,(.p 2 0)),(8,(.v (.int .i64 (q:Int)))),(39,(.v (.int .i64 (N:Int)))),(40,(.v (.int .i64 (i:Int)))),(41,(.v (.bool true)))] (by kernel_rfl) ⟨RG.cert_bin rfl .lss 3 3 40 39 (.int .i64 (i:Int)) (.int .i64 (N:Int)) (.bool true) rfl rfl (RG.sx fun _=>by kernel_rfl) (RG.sx fun _=>by kernel_rfl) (fun w=>by kernel_rfl) (lssn_t hi),trivial⟩ ?_
         intro a51 w51 M51
         repeat refine wp_seq ?_
         refine wp_cond_true (M51.ev (by kernel_rfl)) ?_
         refine wp_skip ?_
         refine wp_seq ?_
         refine wp_block ?_
         repeat refine wp_seq ?_
         refine M51.tx0 (F82f_14 i) [(4,(.p 0 0)),(5,(.s 1 N N)),(7,(.p 2 0)),(8,(.v (.int .i64 (q:Int)))),(9,(.v (.int .i64 (i:Int)))),(39,(.v (.int .i64 (N:Int)))),(40,(.v (.int .i64 (i:Int))))] (by kernel_rfl) ⟨RG.st fun _ _=>by kernel_rfl,RG.st fun _ _=>by kernel_rfl,trivial⟩ ?_
         intro a52 w52 M52
         repeat refine wp_seq ?_
         refine M52.tx0 (F82f_15 N i q s) [(4,(.p 0 0)),(5,(.s 1 N N)),(7,(.p 2 0)),(8,(.v (.int .i64 (q:Int)))),(10,(.v (.int .i8 0))),(39,(.v (.int .i64 (N:Int)))),(40,(.v (.int .i64 (i:Int))))] (by kernel_rfl) ⟨RG.st fun _ _=>by kernel_rfl,RG.st fun _ _=>by kernel_rfl,RG.st fun _ _=>by kernel_rfl,RG.cert_idx rfl 184 43 44 rfl (.s 1 N N) (.int .i64 (i:Int)) (RG.sx fun _=>by kernel_rfl) (RG.sx fun _=>by kernel_rfl) (fun μ w=>at135 _ _ _ i hi w),RG.st fun _ _=>by kernel_rfl,RG.cert_idx rfl 190 47 45 rfl (.p 1 ((353*i)+96)) (.int .i64 (q:Int)) (RG.sx fun _=>by kernel_rfl) (RG.sx fun _=>by kernel_rfl) (fun μ w=>at138 _ _ q hq w),RG.cert_load1 rfl 1 (((353*i)+96)+q) _ rfl rfl (by kernel_rfl) 189 48 rfl (.int .i8 0) rfl (RG.sx fun _=>by kernel_rfl) hdig u137,RG.st fun _ _=>by kernel_rfl,trivial⟩ ?_
         intro a53 w53 M53
         repeat refine wp_seq ?_
         refine M53.tx0 F82f_16 [(4,(.p 0 0)),(5,(.s 1 N N)),(7,(.p 2 0)),(8,(.v (.int .i64 (q:Int)))),(39,(.v (.int .i64 (N:Int)))),(40,(.v (.int .i64 (i:Int)))),(51,(.v (.bool false)))] (by kernel_rfl) ⟨RG.st fun _ _=>by kernel_rfl,RG.cert_binc rfl .neq 189 189 50 (.int .i8 0) (.int .i8 0) (.bool false) rfl rfl (RG.sx fun _=>by kernel_rfl) (fun w=>by kernel_rfl) (ne8_f),trivial⟩ ?_
         intro a54 w54 M54
         repeat refine wp_seq ?_
         refine wp_cond_false (M54.ev (by kernel_rfl)) ?_
         refine wp_skip ?_
         repeat refine wp_seq ?_
         refine M54.tx0 (F82f_18 i) [(4,(.p 0 0)),(5,(.s 1 N N)),(7,(.p 2 0)),(8,(.v (.int .i64 (q:Int)))),(39,(.v (.int .i64 (N:Int)))),(40,(.v (.int .i64 ((i+1:Nat):Int))))] (by kernel_rfl) ⟨RG.cert_binc rfl .add 3 3 40 (.int .i64 (i:Int)) (.int .i64 1) (.int .i64 ((i+1:Nat):Int)) rfl rfl (RG.sx fun _=>by kernel_rfl) (fun w=>by kernel_rfl) (addn i 1 (by omega) (by omega)),RG.st fun _ _=>by kernel_rfl,trivial⟩ ?_
         intro a55 w55 M55
         have hS55:RG.St w w.heap.size [] [(RG.z 8),C,(tw s)] [kr,kt,kl] _:=M55.st
         have sl55:=M55.sl
         have f4_55:a55.tmps[4]? = some (.pointer (some ⟨kr,0,none⟩)):=M55.at (s:=(.p 0 0)) (by kernel_rfl)
         have f5_55:a55.tmps[5]? = some (.slice (some ⟨kt,0,none⟩) N N):=M55.at (s:=(.s 1 N N)) (by kernel_rfl)
         have f7_55:a55.tmps[7]? = some (.pointer (some ⟨kl,0,none⟩)):=M55.at (s:=(.p 2 0)) (by kernel_rfl)
         have f8_55:a55.tmps[8]? = some (.int .i64 (q:Int)):=M55.at (s:=(.v (.int .i64 (q:Int)))) (by kernel_rfl)
         have f39_55:a55.tmps[39]? = some (.int .i64 (N:Int)):=M55.at (s:=(.v (.int .i64 (N:Int)))) (by kernel_rfl)
         have f40_55:a55.tmps[40]? = some (.int .i64 ((i+1:Nat):Int)):=M55.at (s:=(.v (.int .i64 ((i+1:Nat):Int)))) (by kernel_rfl)
         show ∃ n',_
         exact ⟨m' - 1,by omega,i+1,by omega,sl55,f4_55,f5_55,f7_55,f8_55,f39_55,f40_55,by rw [hstep];exact hS55⟩
       · rw [if_neg hdz] at hstep
         have hodd:d % 2=1∧-15≤d∧d≤15:=by
          obtain ⟨_,_,-,hD⟩:=digs_DI (show ns i < 2 ^ 256 from hns i hi)
          rcases hD.ho q with h | h
          · exact absurd (hde ▸ h) hdz
          · exact hde ▸ h
         obtain ⟨s3,hs3e⟩:∃ t,tmJ (xs i) (ys i) d=t:=⟨_,rfl⟩
         obtain ⟨s4,hs4e⟩:∃ t,plJ s s3=t:=⟨_,rfl⟩
         have hs4:Gives 137 #[tv s,tv s3] (tv s4):=hs4e ▸ plJ_c F s s3
         have htm:∀ (k:Nat) (w:World),k < w.heap.size→w.rangeAt k 0 C→Calls Tryz.prog 138 #[.pointer (some ⟨k,353*i,none⟩),.int .i8 d] w (Ret fun r w'=>Below w.heap.size w w'∧r=tv s3):=fun k w hlt hr =>
          hs3e ▸ times_d F k (353*i) (xs i) (ys i) hodd.1 hodd.2 w hlt (fun qq hqq=>RG.range_sub hr (fun j hj=>by rw [Nat.add_zero];exact h2 qq j hqq (by rw [tw_length] at hj;exact hj)))
         rw [hs3e,hs4e] at hstep
         have M50:RG.M w w.heap.size [] 62 [(RG.z 8),C,(tw s)] [kr,kt,kl] [(4,(.p 0 0)),(5,(.s 1 N N)),(7,(.p 2 0)),(8,(.v (.int .i64 (q:Int)))),(39,(.v (.int .i64 (N:Int)))),(40,(.v (.int .i64 (i:Int))))] c _:=⟨hSr,slc,⟨r4,r5,r7,r8,r39,r40,trivial⟩⟩
         repeat refine wp_seq ?_
         refine M50.tx0 F82g_13 [(4,(.p 0 0)),(5,(.s 1 N N)),(7,(.p 2 0)),(8,(.v (.int .i64 (q:Int)))),(39,(.v (.int .i64 (N:Int)))),(40,(.v (.int .i64 (i:Int)))),(41,(.v (.bool true)))] (by kernel_rfl) ⟨RG.cert_bin rfl .lss 3 3 40 39 (.int .i64 (i:Int)) (.int .i64 (N:Int)) (.bool true) rfl rfl (RG.sx fun _=>by kernel_rfl) (RG.sx fun _=>by kernel_rfl) (fun w=>by kernel_rfl) (lssn_t hi),trivial⟩ ?_
         intro a51 w51 M51
         repeat refine wp_seq ?_
         refine wp_cond_true (M51.ev (by kernel_rfl)) ?_
         refine wp_skip ?_
         refine wp_seq ?_
         refine wp_block ?_
         repeat refine wp_seq ?_
         refine M51.tx0 (F82g_14 i) [(4,(.p 0 0)),(5,(.s 1 N N)),(7,(.p 2 0)),(8,(.v (.int .i64 (q:Int)))),(9,(.v (.int .i64 (i:Int)))),(39,(.v (.int .i64 (N:Int)))),(40,(.v (.int .i64 (i:Int))))] (by kernel_rfl) ⟨RG.st fun _ _=>by kernel_rfl,RG.st fun _ _=>by kernel_rfl,trivial⟩ ?_
         intro a52 w52 M52
         repeat refine wp_seq ?_
         refine M52.tx0 (F82g_15 N i q d s) [(4,(.p 0 0)),(5,(.s 1 N N)),(7,(.p 2 0)),(8,(.v (.int .i64 (q:Int)))),(9,(.v (.int .i64 (i:Int)))),(10,(.v (.int .i8 d))),(39,(.v (.int .i64 (N:Int)))),(40,(.v (.int .i64 (i:Int))))] (by kernel_rfl) ⟨RG.st fun _ _=>by kernel_rfl,RG.st fun _ _=>by kernel_rfl,RG.st fun _ _=>by kernel_rfl,RG.cert_idx rfl 184 43 44 rfl (.s 1 N N) (.int .i64 (i:Int)) (RG.sx fun _=>by kernel_rfl) (RG.sx fun _=>by kernel_rfl) (fun μ w=>at135 _ _ _ i hi w),RG.st fun _ _=>by kernel_rfl,RG.cert_idx rfl 190 47 45 rfl (.p 1 ((353*i)+96)) (.int .i64 (q:Int)) (RG.sx fun _=>by kernel_rfl) (RG.sx fun _=>by kernel_rfl) (fun μ w=>at138 _ _ q hq w),RG.cert_load1 rfl 1 (((353*i)+96)+q) _ rfl rfl (by kernel_rfl) 189 48 rfl (.int .i8 d) rfl (RG.sx fun _=>by kernel_rfl) hdig u137,RG.st fun _ _=>by kernel_rfl,trivial⟩ ?_
         intro a53 w53 M53
         repeat refine wp_seq ?_
         refine M53.tx0 (F82g_16 d) [(4,(.p 0 0)),(5,(.s 1 N N)),(7,(.p 2 0)),(8,(.v (.int .i64 (q:Int)))),(9,(.v (.int .i64 (i:Int)))),(10,(.v (.int .i8 d))),(39,(.v (.int .i64 (N:Int)))),(40,(.v (.int .i64 (i:Int)))),(51,(.v (.bool true)))] (by kernel_rfl) ⟨RG.st fun _ _=>by kernel_rfl,RG.cert_binc rfl .neq 189 189 50 (.int .i8 d) (.int .i8 0) (.bool true) rfl rfl (RG.sx fun _=>by kernel_rfl) (fun w=>by kernel_rfl) (ne8_t hdz),trivial⟩ ?_
         intro a54 w54 M54
         repeat refine wp_seq ?_
         refine wp_cond_true (M54.ev (by kernel_rfl)) ?_
         repeat refine wp_seq ?_
         refine M54.dr (by kernel_rfl) (F82g_17 N i d s s3 s4) [] [(2,7,(tw s4))] [(RG.z 8),C,(tw s4)] [(4,(.p 0 0)),(5,(.s 1 N N)),(7,(.p 2 0)),(8,(.v (.int .i64 (q:Int)))),(39,(.v (.int .i64 (N:Int)))),(40,(.v (.int .i64 (i:Int))))] (by kernel_rfl) (by kernel_rfl) ⟨RG.ld u117 i117 (by kernel_rfl),RG.st fun _ _=>by kernel_rfl,RG.st fun _ _=>by kernel_rfl,RG.cert_idx rfl 184 53 54 rfl (.s 1 N N) (.int .i64 (i:Int)) (RG.sx fun _=>by kernel_rfl) (RG.sx fun _=>by kernel_rfl) (fun μ w=>at135 _ _ _ i hi w),RG.st fun _ _=>by kernel_rfl,RG.cert_callM2 rfl 1 _ rfl rfl (by kernel_rfl) hCne 138 55 56 (.p 1 (353*i)) (.int .i8 d) (tv s3) rfl (fun a w=>by kernel_rfl) (RG.sx fun _=>by kernel_rfl) (RG.sx fun _=>by kernel_rfl) (fun μ w hlt hr=>htm (μ 1) w hlt hr),RG.cl (hs4) fun _ _=>by kernel_rfl,RG.pt i117 (by kernel_rfl),trivial⟩ ?_
         intro a55 w55 M55
         repeat refine wp_seq ?_
         refine M55.tx0 (F82g_18 i) [(4,(.p 0 0)),(5,(.s 1 N N)),(7,(.p 2 0)),(8,(.v (.int .i64 (q:Int)))),(39,(.v (.int .i64 (N:Int)))),(40,(.v (.int .i64 ((i+1:Nat):Int))))] (by kernel_rfl) ⟨RG.cert_binc rfl .add 3 3 40 (.int .i64 (i:Int)) (.int .i64 1) (.int .i64 ((i+1:Nat):Int)) rfl rfl (RG.sx fun _=>by kernel_rfl) (fun w=>by kernel_rfl) (addn i 1 (by omega) (by omega)),RG.st fun _ _=>by kernel_rfl,trivial⟩ ?_
         intro a56 w56 M56
         have hS56:RG.St w w.heap.size [] [(RG.z 8),C,(tw s4)] [kr,kt,kl] _:=M56.st
         have sl56:=M56.sl
         have f4_56:a56.tmps[4]? = some (.pointer (some ⟨kr,0,none⟩)):=M56.at (s:=(.p 0 0)) (by kernel_rfl)
         have f5_56:a56.tmps[5]? = some (.slice (some ⟨kt,0,none⟩) N N):=M56.at (s:=(.s 1 N N)) (by kernel_rfl)
         have f7_56:a56.tmps[7]? = some (.pointer (some ⟨kl,0,none⟩)):=M56.at (s:=(.p 2 0)) (by kernel_rfl)
         have f8_56:a56.tmps[8]? = some (.int .i64 (q:Int)):=M56.at (s:=(.v (.int .i64 (q:Int)))) (by kernel_rfl)
         have f39_56:a56.tmps[39]? = some (.int .i64 (N:Int)):=M56.at (s:=(.v (.int .i64 (N:Int)))) (by kernel_rfl)
         have f40_56:a56.tmps[40]? = some (.int .i64 ((i+1:Nat):Int)):=M56.at (s:=(.v (.int .i64 ((i+1:Nat):Int)))) (by kernel_rfl)
         show ∃ n',_
         exact ⟨m' - 1,by omega,i+1,by omega,sl56,f4_56,f5_56,f7_56,f8_56,f39_56,f40_56,by rw [hstep];exact hS56⟩
     · have hiN3:i=N:=by omega
       rw [hiN3] at hse3
       rw [hse3] at hnext
       have M60:RG.M w w.heap.size [] 62 [(RG.z 8),C,(tw s)] [kr,kt,kl] [(4,(.p 0 0)),(5,(.s 1 N N)),(7,(.p 2 0)),(8,(.v (.int .i64 (q:Int)))),(39,(.v (.int .i64 (N:Int)))),(40,(.v (.int .i64 (i:Int))))] c _:=⟨hSr,slc,⟨r4,r5,r7,r8,r39,r40,trivial⟩⟩
       repeat refine wp_seq ?_
       refine M60.tx0 F82h_13 [(4,(.p 0 0)),(5,(.s 1 N N)),(7,(.p 2 0)),(8,(.v (.int .i64 (q:Int)))),(41,(.v (.bool false)))] (by kernel_rfl) ⟨RG.cert_bin rfl .lss 3 3 40 39 (.int .i64 (i:Int)) (.int .i64 (N:Int)) (.bool false) rfl rfl (RG.sx fun _=>by kernel_rfl) (RG.sx fun _=>by kernel_rfl) (fun w=>by kernel_rfl) (lssn_f hi),trivial⟩ ?_
       intro a61 w61 M61
       repeat refine wp_seq ?_
       refine wp_cond_false (M61.ev (by kernel_rfl)) ?_
       refine wp_exit ?_
       dsimp only [Exit.then,Exit.inBlock]
       rw [if_pos rfl]
       repeat refine wp_seq ?_
       refine M61.tx0 (F82h_10 q) [(4,(.p 0 0)),(5,(.s 1 N N)),(7,(.p 2 0)),(8,(.v (.int .i64 ((q:Int) - 1))))] (by kernel_rfl) ⟨RG.st fun _ _=>by kernel_rfl,RG.cert_binc rfl .sub 3 3 34 (.int .i64 (q:Int)) (.int .i64 1) (.int .i64 ((q:Int) - 1)) rfl rfl (RG.sx fun _=>by kernel_rfl) (fun w=>by kernel_rfl) (sub1' q (by omega)),RG.st fun _ _=>by kernel_rfl,trivial⟩ ?_
       intro a62 w62 M62
       have hS62:RG.St w w.heap.size [] [(RG.z 8),C,(tw s)] [kr,kt,kl] _:=M62.st
       have sl62:=M62.sl
       have f4_62:a62.tmps[4]? = some (.pointer (some ⟨kr,0,none⟩)):=M62.at (s:=(.p 0 0)) (by kernel_rfl)
       have f5_62:a62.tmps[5]? = some (.slice (some ⟨kt,0,none⟩) N N):=M62.at (s:=(.s 1 N N)) (by kernel_rfl)
       have f7_62:a62.tmps[7]? = some (.pointer (some ⟨kl,0,none⟩)):=M62.at (s:=(.p 2 0)) (by kernel_rfl)
       have f8_62:a62.tmps[8]? = some (.int .i64 ((q:Int) - 1)):=M62.at (s:=(.v (.int .i64 ((q:Int) - 1)))) (by kernel_rfl)
       show ∃ n',_
       exact ⟨q,Nat.lt_succ_self q,by omega,sl62,f4_62,f5_62,f7_62,f8_62,by rw [hnext];exact hS62⟩
end Go.Proofs.YtmkllfekhehagagGreat
set_option linter.unusedVariables false
set_option linter.unusedSimpArgs false
namespace Go.Proofs.YtmkllfekhehagagGreat
open Go.RowKit Go.Sort
variable {P:Nat} [NeZero P]
theorem ws_one (h:Fld P):([.int .u64 1,.int .u64 0,.int .u64 0,.int .u64 0]:List Value)=ws (1:Fin P):=by
 have h:=one_fv h
 unfold nv at h
 injection h with h
 exact congrArg Array.toList h
def rt (m:Fin P):Option (Fin P):=if m.val ^ (P / 4+1) % P*(m.val ^ (P / 4+1) % P) % P=m.val then some (Fin.ofNat P (even P (m.val ^ (P / 4+1) % P))) else none
omit [NeZero P] in
theorem even_lt {r:Nat} (hP:0 < P) (h:r < P):even P r < P:=by unfold even;split <;> omega
theorem rt_four {m y:Fin P} {v:Value} (h:rt m=some y) (hF:Four v (even P (m.val ^ (P / 4+1) % P))):v=fv y:=by
 unfold rt at h
 split at h
 · obtain rfl:=Option.some.inj h
   have:(Fin.ofNat P (even P (m.val ^ (P / 4+1) % P))).val=even P (m.val ^ (P / 4+1) % P):=Nat.mod_eq_of_lt (even_lt (Nat.pos_of_neZero P) (Nat.mod_lt _ (Nat.pos_of_neZero P)))
   show v=nv _
   rw [this]
   exact hF.nv
 · cases h
theorem rt_yes {m y:Fin P} (h:rt m=some y):m.val ^ (P / 4+1) % P*(m.val ^ (P / 4+1) % P) % P=m.val:=by
 unfold rt at h
 split at h
 · assumption
 · cases h
theorem rt_no {m:Fin P} (h:rt m=none):¬ m.val ^ (P / 4+1) % P*(m.val ^ (P / 4+1) % P) % P=m.val:=by
 unfold rt at h
 split at h
 · cases h
 · assumption
theorem RootR.val {m:Fin P} {e:Value} (h:RootR P m.val (m.val ^ (P / 4+1) % P) e):(∀ y,rt m=some y→e=.tuple #[fv y,.bool true])∧(rt m=none→e=.tuple #[fv (0:Fin P),.bool false]):=by
 obtain ⟨ya,yb,yc,yd,ok,rfl,h1,h2,h3⟩:=h
 refine ⟨fun y hy=>?_,fun hn=>?_⟩
 · cases ok with
   | true=>rw [rt_four hy (h1 rfl).2]
   | false=>exact absurd (rt_yes hy) (h2 rfl)
 · cases ok with
   | true=>exact absurd (h1 rfl).1 (rt_no hn)
   | false =>
    obtain ⟨rfl,rfl,rfl,rfl⟩:=h3 rfl
    rw [← zero_fv]
    rfl
theorem Root_y (h:Fld P) {m y:Fin P} (e:rt m=some y):Gives 187 #[gv0,fv m] (.tuple #[fv y,.bool true]):=fun w =>
 (Root_any 4294968273 0 0 P _ m.val h.gap h.p4 (h.four m) w).mono (by rintro e' w' ⟨v,rfl,hb,hF⟩;exact ⟨_,rfl,hb,hF.val.1 y e⟩)
theorem Root_n (h:Fld P) {m:Fin P} (e:rt m=none):Gives 187 #[gv0,fv m] (.tuple #[fv (0:Fin P),.bool false]):=fun w =>
 (Root_any 4294968273 0 0 P _ m.val h.gap h.p4 (h.four m) w).mono (by rintro e' w' ⟨v,rfl,hb,hF⟩;exact ⟨_,rfl,hb,hF.val.2 e⟩)
end Go.Proofs.YtmkllfekhehagagGreat
namespace Go.Proofs.YtmkllfekhehagagGreat
open Go.RowKit Go.Sort
variable {P:Nat} [NeZero P]
def gl0:List Value:=[.int .u64 4294968273,.int .u64 0,.int .u64 0,.int .u64 0]
def F99y_0 (x:Fin P):List RG.It:=[.m 1 [] 0,.m 2 [] 1,.x 3 [] (.bool false)]
def F99y_1:List RG.It:=[.c 8 [] gv0,.m 4 [] 2,.u [(4,1),(8,0)] 2]
def F99y_2 (x c1 c2 c3:Fin P):List RG.It:=[.x 9 [] gv0,.x 10 [] gv0,.x 11 [] gv0,.x 12 [] (fv x),.x 13 [] (fv x),.c 14 [(11,2),(12,3),(13,4)] (fv c1),.x 15 [] (fv x),.c 16 [(10,1),(14,5),(15,6)] (fv c2),.x 17 [] (fv (7:Fin P)),.c 18 [(9,0),(16,7),(17,8)] (fv c3),.m 5 [] 3,.u [(5,10),(18,9)] 3]
def F99y_3 (x y c3:Fin P):List RG.It:=[.x 20 [] gv0,.x 21 [] (fv c3),.c 22 [(20,0),(21,1)] (.tuple #[(fv y),(.bool true)]),.x 19 [(22,2)] (.tuple #[(fv y),(.bool true)]),.x 23 [(19,3)] (fv y),.x 24 [(19,3)] (.bool true),.m 6 [] 4,.u [(6,6),(23,4)] 4,.x 7 [(24,5)] (.bool true)]
def F99y_4 (x:Fin P):List RG.It:=[.x 25 [] (.bool true),.x 26 [(25,0)] (.bool false)]
def F99y_6 (x y:Fin P):List RG.It:=[.x 28 [] (fv x),.x 29 [] (fv y),.x 30 [(28,0),(29,1)] (pv x y),.u [(30,2)] 1,.x 3 [] (.bool true)]
set_option maxHeartbeats 2000000 in
set_option maxRecDepth 100000 in
theorem above_y_c (C:Fld P) (x y:Fin P)(hr:rt (x*x*x+7)=some y) :Gives 161 #[(fv x)] (.tuple #[pv x y,.bool true]):=by
 intro w
 obtain ⟨c1,hc1⟩:∃ c,c=x*x:=⟨_,rfl⟩
 obtain ⟨c2,hc2⟩:∃ c,c=c1*x:=⟨_,rfl⟩
 obtain ⟨c3,hc3⟩:∃ c,c=c2+(7:Fin P):=⟨_,rfl⟩
 have hfin:((.tuple #[(pv x y),(.bool true)]):Value)=(.tuple #[pv x y,.bool true]):=by
  subst_vars;rfl
 rw [← hfin]
 go_enter Tryz.func161,Tryz.ntmps161
 refine RG.M.enter [(0,(.v (fv x)))] 31 (by kernel_rfl) ?_
 intro a0 M0
 repeat refine wp_seq ?_
 refine M0.tx (F99y_0 x) [(0,(ws x)),(1,(RG.z 8))] [] [(ws x),(RG.z 8)] [(1,(.p 0 0)),(2,(.p 1 0)),(3,(.v (.bool false)))] (by kernel_rfl) (by kernel_rfl) ⟨RG.mk 0 55 fun _ _=>by kernel_rfl,RG.mk 1 57 fun _ _=>by kernel_rfl,RG.st fun _ _=>by kernel_rfl,trivial⟩ ?_
 intro j1 i1 a1 w1 M1
 repeat refine wp_seq ?_
 refine M1.tx F99y_1 [(1,(RG.z 4))] [(2,2,gl0)] [(ws x),(RG.z 8),gl0] [(1,(.p 0 0)),(2,(.p 1 0)),(3,(.v (.bool false))),(4,(.p 2 0))] (by kernel_rfl) (by kernel_rfl) ⟨RG.cl (Coordinates_c) fun _ _=>by kernel_rfl,RG.mk 2 118 fun _ _=>by kernel_rfl,RG.pt i79 (by kernel_rfl),trivial⟩ ?_
 intro j2 a2 w2 M2
 repeat refine wp_seq ?_
 refine M2.dr (by kernel_rfl) (F99y_2 x c1 c2 c3) [(10,(RG.z 4))] [(3,11,(ws c3))] [(ws x),(RG.z 8),gl0,(ws c3)] [(1,(.p 0 0)),(2,(.p 1 0)),(3,(.v (.bool false))),(4,(.p 2 0)),(5,(.p 3 0))] (by kernel_rfl) (by kernel_rfl) ⟨RG.ld u79 i79 (by kernel_rfl),RG.ld u79 i79 (by kernel_rfl),RG.ld u79 i79 (by kernel_rfl),RG.ld u85 i85 (by kernel_rfl),RG.ld u85 i85 (by kernel_rfl),RG.cl ((PTimes_c C x x).e hc1) fun _ _=>by kernel_rfl,RG.ld u85 i85 (by kernel_rfl),RG.cl ((PTimes_c C c1 x).e hc2) fun _ _=>by kernel_rfl,RG.se (seven_fv C) fun _ _=>by kernel_rfl,RG.cl ((PPlus_c C c2 (7:Fin P)).e hc3) fun _ _=>by kernel_rfl,RG.mk 3 55 fun _ _=>by kernel_rfl,RG.pt i85 (by kernel_rfl),trivial⟩ ?_
 intro j3 a3 w3 M3
 repeat refine wp_seq ?_
 refine M3.tx (F99y_3 x y c3) [(6,(RG.z 4))] [(4,7,(ws y))] [(ws x),(RG.z 8),gl0,(ws c3),(ws y)] [(1,(.p 0 0)),(2,(.p 1 0)),(3,(.v (.bool false))),(6,(.p 4 0)),(7,(.v (.bool true)))] (by kernel_rfl) (by kernel_rfl) ⟨RG.ld u79 i79 (by kernel_rfl),RG.ld u85 i85 (by kernel_rfl),RG.cl (f:=187) (args:=#[gv0,(fv c3)]) (v:=(.tuple #[(fv y),(.bool true)])) (Root_y C (by subst_vars;exact hr)) fun _ _=>by kernel_rfl,RG.st fun _ _=>by kernel_rfl,RG.st fun _ _=>by kernel_rfl,RG.st fun _ _=>by kernel_rfl,RG.mk 4 55 fun _ _=>by kernel_rfl,RG.pt i85 (by kernel_rfl),RG.st fun _ _=>by kernel_rfl,trivial⟩ ?_
 intro j4 a4 w4 M4
 repeat refine wp_seq ?_
 refine M4.tx0 (F99y_4 x) [(1,(.p 0 0)),(2,(.p 1 0)),(3,(.v (.bool false))),(6,(.p 4 0)),(26,(.v (.bool false)))] (by kernel_rfl) ⟨RG.st fun _ _=>by kernel_rfl,RG.st fun _ _=>by kernel_rfl,trivial⟩ ?_
 intro a5 w5 M5
 repeat refine wp_seq ?_
 refine wp_cond_false (M5.ev (by kernel_rfl)) ?_
 refine wp_skip ?_
 repeat refine wp_seq ?_
 refine M5.tx (F99y_6 x y) [] [(1,3,(ws x++(ws y)))] [(ws x),(ws x++(ws y)),gl0,(ws c3),(ws y)] [(2,(.p 1 0)),(3,(.v (.bool true)))] (by kernel_rfl) (by kernel_rfl) ⟨RG.ld u85 i85 (by kernel_rfl),RG.ld u85 i85 (by kernel_rfl),RG.st fun _ _=>by kernel_rfl,RG.pt i109 (by kernel_rfl),RG.st fun _ _=>by kernel_rfl,trivial⟩ ?_
 intro a6 w6 M6
 refine wp_ret ?_
 refine bodyPost_ret (v:=(.tuple #[(pv x y),(.bool true)])) (RG.results_rt M6.st 2 3 57 rfl 1 _ rfl (M6.at (s:=(.p 1 0)) (by kernel_rfl)) _ (M6.at (s:=(.v (.bool true))) (by kernel_rfl)) u109 i109) M6.sl.defers ?_
 exact ⟨_,rfl,M6.st.bel.below,rfl⟩
def F99n_0 (x:Fin P):List RG.It:=[.m 1 [] 0,.m 2 [] 1,.x 3 [] (.bool false)]
def F99n_1:List RG.It:=[.c 8 [] gv0,.m 4 [] 2,.u [(4,1),(8,0)] 2]
def F99n_2 (x c1 c2 c3:Fin P):List RG.It:=[.x 9 [] gv0,.x 10 [] gv0,.x 11 [] gv0,.x 12 [] (fv x),.x 13 [] (fv x),.c 14 [(11,2),(12,3),(13,4)] (fv c1),.x 15 [] (fv x),.c 16 [(10,1),(14,5),(15,6)] (fv c2),.x 17 [] (fv (7:Fin P)),.c 18 [(9,0),(16,7),(17,8)] (fv c3),.m 5 [] 3,.u [(5,10),(18,9)] 3]
def F99n_3 (x c3:Fin P):List RG.It:=[.x 20 [] gv0,.x 21 [] (fv c3),.c 22 [(20,0),(21,1)] (.tuple #[(fv (0:Fin P)),(.bool false)]),.x 19 [(22,2)] (.tuple #[(fv (0:Fin P)),(.bool false)]),.x 23 [(19,3)] (fv (0:Fin P)),.x 24 [(19,3)] (.bool false),.m 6 [] 4,.u [(6,6),(23,4)] 4,.x 7 [(24,5)] (.bool false)]
def F99n_4 (x:Fin P):List RG.It:=[.x 25 [] (.bool false),.x 26 [(25,0)] (.bool true)]
def F99n_5 (x:Fin P):List RG.It:=[.x 27 [] (pv (0:Fin P) (0:Fin P)),.u [(27,0)] 1,.x 3 [] (.bool false)]
set_option maxHeartbeats 2000000 in
set_option maxRecDepth 100000 in
theorem above_n_c (C:Fld P) (x:Fin P)(hr:rt (x*x*x+7)=none) :Gives 161 #[(fv x)] (.tuple #[pv (0:Fin P) 0,.bool false]):=by
 intro w
 obtain ⟨c1,hc1⟩:∃ c,c=x*x:=⟨_,rfl⟩
 obtain ⟨c2,hc2⟩:∃ c,c=c1*x:=⟨_,rfl⟩
 obtain ⟨c3,hc3⟩:∃ c,c=c2+(7:Fin P):=⟨_,rfl⟩
 have hfin:((.tuple #[(pv (0:Fin P) (0:Fin P)),(.bool false)]):Value)=(.tuple #[pv (0:Fin P) 0,.bool false]):=by
  subst_vars;rfl
 rw [← hfin]
 go_enter Tryz.func161,Tryz.ntmps161
 refine RG.M.enter [(0,(.v (fv x)))] 31 (by kernel_rfl) ?_
 intro a0 M0
 repeat refine wp_seq ?_
 refine M0.tx (F99n_0 x) [(0,(ws x)),(1,(RG.z 8))] [] [(ws x),(RG.z 8)] [(1,(.p 0 0)),(2,(.p 1 0)),(3,(.v (.bool false)))] (by kernel_rfl) (by kernel_rfl) ⟨RG.mk 0 55 fun _ _=>by kernel_rfl,RG.mk 1 57 fun _ _=>by kernel_rfl,RG.st fun _ _=>by kernel_rfl,trivial⟩ ?_
 intro j1 i1 a1 w1 M1
 repeat refine wp_seq ?_
 refine M1.tx F99n_1 [(1,(RG.z 4))] [(2,2,gl0)] [(ws x),(RG.z 8),gl0] [(1,(.p 0 0)),(2,(.p 1 0)),(3,(.v (.bool false))),(4,(.p 2 0))] (by kernel_rfl) (by kernel_rfl) ⟨RG.cl (Coordinates_c) fun _ _=>by kernel_rfl,RG.mk 2 118 fun _ _=>by kernel_rfl,RG.pt i79 (by kernel_rfl),trivial⟩ ?_
 intro j2 a2 w2 M2
 repeat refine wp_seq ?_
 refine M2.dr (by kernel_rfl) (F99n_2 x c1 c2 c3) [(10,(RG.z 4))] [(3,11,(ws c3))] [(ws x),(RG.z 8),gl0,(ws c3)] [(2,(.p 1 0)),(3,(.v (.bool false))),(4,(.p 2 0)),(5,(.p 3 0))] (by kernel_rfl) (by kernel_rfl) ⟨RG.ld u79 i79 (by kernel_rfl),RG.ld u79 i79 (by kernel_rfl),RG.ld u79 i79 (by kernel_rfl),RG.ld u85 i85 (by kernel_rfl),RG.ld u85 i85 (by kernel_rfl),RG.cl ((PTimes_c C x x).e hc1) fun _ _=>by kernel_rfl,RG.ld u85 i85 (by kernel_rfl),RG.cl ((PTimes_c C c1 x).e hc2) fun _ _=>by kernel_rfl,RG.se (seven_fv C) fun _ _=>by kernel_rfl,RG.cl ((PPlus_c C c2 (7:Fin P)).e hc3) fun _ _=>by kernel_rfl,RG.mk 3 55 fun _ _=>by kernel_rfl,RG.pt i85 (by kernel_rfl),trivial⟩ ?_
 intro j3 a3 w3 M3
 repeat refine wp_seq ?_
 refine M3.tx (F99n_3 x c3) [(6,(RG.z 4))] [(4,7,(ws (0:Fin P)))] [(ws x),(RG.z 8),gl0,(ws c3),(ws (0:Fin P))] [(2,(.p 1 0)),(3,(.v (.bool false))),(7,(.v (.bool false)))] (by kernel_rfl) (by kernel_rfl) ⟨RG.ld u79 i79 (by kernel_rfl),RG.ld u85 i85 (by kernel_rfl),RG.cl (f:=187) (args:=#[gv0,(fv c3)]) (v:=(.tuple #[(fv (0:Fin P)),(.bool false)])) (Root_n C (by subst_vars;exact hr)) fun _ _=>by kernel_rfl,RG.st fun _ _=>by kernel_rfl,RG.st fun _ _=>by kernel_rfl,RG.st fun _ _=>by kernel_rfl,RG.mk 4 55 fun _ _=>by kernel_rfl,RG.pt i85 (by kernel_rfl),RG.st fun _ _=>by kernel_rfl,trivial⟩ ?_
 intro j4 a4 w4 M4
 repeat refine wp_seq ?_
 refine M4.tx0 (F99n_4 x) [(2,(.p 1 0)),(3,(.v (.bool false))),(26,(.v (.bool true)))] (by kernel_rfl) ⟨RG.st fun _ _=>by kernel_rfl,RG.st fun _ _=>by kernel_rfl,trivial⟩ ?_
 intro a5 w5 M5
 repeat refine wp_seq ?_
 refine wp_cond_true (M5.ev (by kernel_rfl)) ?_
 repeat refine wp_seq ?_
 refine M5.tx (F99n_5 x) [] [(1,1,(ws (0:Fin P)++(ws (0:Fin P))))] [(ws x),(ws (0:Fin P)++(ws (0:Fin P))),gl0,(ws c3),(ws (0:Fin P))] [(2,(.p 1 0)),(3,(.v (.bool false)))] (by kernel_rfl) (by kernel_rfl) ⟨RG.se (zero_pv (P:=P)) fun _ _=>by kernel_rfl,RG.pt i109 (by kernel_rfl),RG.st fun _ _=>by kernel_rfl,trivial⟩ ?_
 intro a6 w6 M6
 refine wp_ret ?_
 refine bodyPost_ret (v:=(.tuple #[(pv (0:Fin P) (0:Fin P)),(.bool false)])) (RG.results_rt M6.st 2 3 57 rfl 1 _ rfl (M6.at (s:=(.p 1 0)) (by kernel_rfl)) _ (M6.at (s:=(.v (.bool false))) (by kernel_rfl)) u109 i109) M6.sl.defers ?_
 exact ⟨_,rfl,M6.st.bel.below,rfl⟩
def F77_0:List RG.It:=[.m 1 [] 0,.m 2 [] 1]
def F77_1 (x y c1:Fin P):List RG.It:=[.s 3 [] (.p 0 0),.x 4 [(3,0)] (fv x),.c 5 [] gv0,.x 6 [] (fv (0:Fin P)),.s 7 [] (.p 0 4),.x 8 [(7,4)] (fv y),.c 9 [(5,2),(6,3),(8,5)] (fv c1),.x 10 [(4,1),(9,6)] (pv x c1),.u [(10,7)] 1]
set_option maxHeartbeats 2000000 in
set_option maxRecDepth 100000 in
theorem popp_c (C:Fld P) (x y:Fin P):Gives 162 #[(pv x y)] (pv x (0 - y)):=by
 intro w
 obtain ⟨c1,hc1⟩:∃ c,c=(0:Fin P) - y:=⟨_,rfl⟩
 have hfin:((pv x c1):Value)=(pv x (0 - y)):=by
  subst_vars;rfl
 rw [← hfin]
 go_enter Tryz.func162,Tryz.ntmps162
 refine RG.M.enter [(0,(.v (pv x y)))] 11 (by kernel_rfl) ?_
 intro a0 M0
 repeat refine wp_seq ?_
 refine M0.tx F77_0 [(0,(ws x++(ws y))),(1,(RG.z 8))] [] [(ws x++(ws y)),(RG.z 8)] [(1,(.p 0 0)),(2,(.p 1 0))] (by kernel_rfl) (by kernel_rfl) ⟨RG.mk 0 57 fun _ _=>by kernel_rfl,RG.mk 1 57 fun _ _=>by kernel_rfl,trivial⟩ ?_
 intro j1 i1 a1 w1 M1
 repeat refine wp_seq ?_
 refine M1.dr (by kernel_rfl) (F77_1 x y c1) [] [(1,8,(ws x++(ws c1)))] [(ws x++(ws y)),(ws x++(ws c1))] [(2,(.p 1 0))] (by kernel_rfl) (by kernel_rfl) ⟨RG.st fun _ _=>by kernel_rfl,RG.ld u85 i85 (by kernel_rfl),RG.cl (Coordinates_c) fun _ _=>by kernel_rfl,RG.se (zero_fv (P:=P)) fun _ _=>by kernel_rfl,RG.st fun _ _=>by kernel_rfl,RG.ld u85 i85 (by kernel_rfl),RG.cl ((PMinus_c C (0:Fin P) y).e hc1) fun _ _=>by kernel_rfl,RG.st fun _ _=>by kernel_rfl,RG.pt i109 (by kernel_rfl),trivial⟩ ?_
 intro a2 w2 M2
 refine wp_ret ?_
 refine bodyPost_ret (v:=(pv x c1)) (RG.results_row M2.st 2 57 rfl 1 _ rfl (M2.at (s:=(.p 1 0)) (by kernel_rfl)) u109 i109) M2.sl.defers ?_
 exact ⟨_,rfl,M2.st.bel.below,rfl⟩
end Go.Proofs.YtmkllfekhehagagGreat
