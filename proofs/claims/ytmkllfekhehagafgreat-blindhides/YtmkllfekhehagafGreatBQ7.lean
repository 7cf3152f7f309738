import Derived.Deep.RegionHeld3
import Derived.Deep.LoopGhost
import Derived.Great.BuildSlice
import Derived.Lib.LazyBuf
import Derived.Laws.AppendOwn
import Derived.Laws.IdiomCopy
import Derived.Test.YtmkllfekhehagafGreatBQ6
set_option linter.unusedVariables false
set_option linter.unusedSimpArgs false
namespace Go.Proofs.YtmkllfekhehagafGreat
open Go.RowKit Go.Sort
variable {P:Nat} [NeZero P]
theorem u33:(Tryz.prog.underlying 54).map (·.isRow)=some true:=by kernel_rfl
theorem i33:(Tryz.prog.info? 54).map (·.size)=some 4:=by kernel_rfl
theorem u56:(Tryz.prog.underlying 56).map (·.isRow)=some true:=by kernel_rfl
theorem i56:(Tryz.prog.info? 56).map (·.size)=some 12:=by kernel_rfl
theorem u35:(Tryz.prog.underlying 107).map (·.isRow)=some true:=by kernel_rfl
theorem i35:(Tryz.prog.info? 107).map (·.size)=some 8:=by kernel_rfl
def F69_0:List RG.It:=[.m 0 [] 0]
def F69_1:List RG.It:=[.c 1 [] rv0,.u [(1,0)] 0]
set_option maxHeartbeats 2000000 in
set_option maxRecDepth 100000 in
theorem F3_c :Gives 97 #[] rv0:=by
 intro w
 go_enter Tryz.func97,Tryz.ntmps97
 refine RG.M.enter [] 2 (by kernel_rfl) ?_
 intro a0 M0
 repeat refine wp_seq ?_
 refine M0.tx F69_0 [(0,(RG.z 8))] [] [(RG.z 8)] [(0,(.p 0 0))] (by kernel_rfl) (by kernel_rfl) ⟨RG.mk 0 107 fun _ _=>by kernel_rfl,trivial⟩ ?_
 intro j1 a1 w1 M1
 repeat refine wp_seq ?_
 refine M1.tx F69_1 [] [(0,1,rl0)] [rl0] [(0,(.p 0 0))] (by kernel_rfl) (by kernel_rfl) ⟨RG.cl (rMake_c) fun _ _=>by kernel_rfl,RG.pt i35 (by kernel_rfl),trivial⟩ ?_
 intro a2 w2 M2
 refine wp_ret ?_
 refine bodyPost_ret (v:=rv0) (RG.results_row M2.st 0 107 rfl 0 _ rfl (M2.at (s:=(.p 0 0)) (by kernel_rfl)) u35 i35) M2.sl.defers ?_
 exact ⟨_,rfl,M2.st.bel.below,rfl⟩
def F68_0:List RG.It:=[.m 0 [] 0]
def F68_1:List RG.It:=[.c 1 [] (fv (1:Fin P)),.x 2 [(1,0)] (rv (0:Fin P) (1:Fin P) (0:Fin P)),.u [(2,1)] 0]
set_option maxHeartbeats 2000000 in
set_option maxRecDepth 100000 in
theorem None_c (C:Fl3 P) :Gives 94 #[] (rv (0:Fin P) 1 0):=by
 intro w
 have hfin:((rv (0:Fin P) (1:Fin P) (0:Fin P)):Value)=(rv (0:Fin P) 1 0):=by
  subst_vars;rfl
 rw [← hfin]
 go_enter Tryz.func94,Tryz.ntmps94
 refine RG.M.enter [] 3 (by kernel_rfl) ?_
 intro a0 M0
 repeat refine wp_seq ?_
 refine M0.tx F68_0 [(0,(RG.z 12))] [] [(RG.z 12)] [(0,(.p 0 0))] (by kernel_rfl) (by kernel_rfl) ⟨RG.mk 0 56 fun _ _=>by kernel_rfl,trivial⟩ ?_
 intro j1 a1 w1 M1
 repeat refine wp_seq ?_
 refine M1.tx (F68_1 (P:=P)) [] [(0,2,(ws (0:Fin P)++(ws (1:Fin P)++(ws (0:Fin P)))))] [(ws (0:Fin P)++(ws (1:Fin P)++(ws (0:Fin P))))] [(0,(.p 0 0))] (by kernel_rfl) (by kernel_rfl) ⟨RG.cl (rSmall1_c C) fun _ _=>by kernel_rfl,RG.cert_build1 rfl 56 1 1 rfl (fv (1:Fin P)) (rv (0:Fin P) (1:Fin P) (0:Fin P)) rfl (RG.sx fun _=>by kernel_rfl) (build_none C.toFld),RG.pt i56 (by kernel_rfl),trivial⟩ ?_
 intro a2 w2 M2
 refine wp_ret ?_
 refine bodyPost_ret (v:=(rv (0:Fin P) (1:Fin P) (0:Fin P))) (RG.results_row M2.st 0 56 rfl 0 _ rfl (M2.at (s:=(.p 0 0)) (by kernel_rfl)) u56 i56) M2.sl.defers ?_
 exact ⟨_,rfl,M2.st.bel.below,rfl⟩
def F78t_0 (x:Fin P):List RG.It:=[.m 1 [] 0,.x 2 [] (.bool false)]
def F78t_1 (x z:Fin P):List RG.It:=[.s 3 [] (.p 0 8),.x 4 [(3,0)] (fv z),.c 5 [(4,1)] (.bool true),.x 2 [(5,2)] (.bool true)]
set_option maxHeartbeats 2000000 in
set_option maxRecDepth 100000 in
theorem Is_t_c (C:Fl3 P) (x y z:Fin P)(hz:z=0) :Gives 96 #[(rv x y z)] (.bool true):=by
 intro w
 go_enter Tryz.func96,Tryz.ntmps96
 refine RG.M.enter [(0,(.v (rv x y z)))] 6 (by kernel_rfl) ?_
 intro a0 M0
 repeat refine wp_seq ?_
 refine M0.tx (F78t_0 x) [(0,(ws x++(ws y++(ws z))))] [] [(ws x++(ws y++(ws z)))] [(1,(.p 0 0)),(2,(.v (.bool false)))] (by kernel_rfl) (by kernel_rfl) ⟨RG.mk 0 56 fun _ _=>by kernel_rfl,RG.st fun _ _=>by kernel_rfl,trivial⟩ ?_
 intro j1 a1 w1 M1
 repeat refine wp_seq ?_
 refine M1.tx0 (F78t_1 x z) [(2,(.v (.bool true)))] (by kernel_rfl) ⟨RG.st fun _ _=>by kernel_rfl,RG.ld u33 i33 (by kernel_rfl),RG.cl (rZero_t C hz) fun _ _=>by kernel_rfl,RG.st fun _ _=>by kernel_rfl,trivial⟩ ?_
 intro a2 w2 M2
 refine wp_ret ?_
 refine bodyPost_ret (v:=(.bool true)) (RG.results_t 2 rfl _ (M2.at (s:=(.v (.bool true))) (by kernel_rfl))) M2.sl.defers ?_
 exact ⟨_,rfl,M2.st.bel.below,rfl⟩
def F78f_0 (x:Fin P):List RG.It:=[.m 1 [] 0,.x 2 [] (.bool false)]
def F78f_1 (x z:Fin P):List RG.It:=[.s 3 [] (.p 0 8),.x 4 [(3,0)] (fv z),.c 5 [(4,1)] (.bool false),.x 2 [(5,2)] (.bool false)]
set_option maxHeartbeats 2000000 in
set_option maxRecDepth 100000 in
theorem Is_f_c (C:Fl3 P) (x y z:Fin P)(hz:¬ z=0) :Gives 96 #[(rv x y z)] (.bool false):=by
 intro w
 go_enter Tryz.func96,Tryz.ntmps96
 refine RG.M.enter [(0,(.v (rv x y z)))] 6 (by kernel_rfl) ?_
 intro a0 M0
 repeat refine wp_seq ?_
 refine M0.tx (F78f_0 x) [(0,(ws x++(ws y++(ws z))))] [] [(ws x++(ws y++(ws z)))] [(1,(.p 0 0)),(2,(.v (.bool false)))] (by kernel_rfl) (by kernel_rfl) ⟨RG.mk 0 56 fun _ _=>by kernel_rfl,RG.st fun _ _=>by kernel_rfl,trivial⟩ ?_
 intro j1 a1 w1 M1
 repeat refine wp_seq ?_
 refine M1.tx0 (F78f_1 x z) [(2,(.v (.bool false)))] (by kernel_rfl) ⟨RG.st fun _ _=>by kernel_rfl,RG.ld u33 i33 (by kernel_rfl),RG.cl (rZero_f C hz) fun _ _=>by kernel_rfl,RG.st fun _ _=>by kernel_rfl,trivial⟩ ?_
 intro a2 w2 M2
 refine wp_ret ?_
 refine bodyPost_ret (v:=(.bool false)) (RG.results_t 2 rfl _ (M2.at (s:=(.v (.bool false))) (by kernel_rfl))) M2.sl.defers ?_
 exact ⟨_,rfl,M2.st.bel.below,rfl⟩
def F80_0:List RG.It:=[.m 1 [] 0,.m 2 [] 1]
def F80_1 (x c1:Fin P):List RG.It:=[.c 11 [] rv0,.s 12 [] (.p 0 0),.x 13 [(12,1)] (fv x),.s 14 [] (.p 0 0),.x 15 [(14,3)] (fv x),.c 16 [(11,0),(13,2),(15,4)] (fv c1),.m 3 [] 2,.u [(3,6),(16,5)] 2]
def F80_2 (x c1 c2 c3:Fin P):List RG.It:=[.c 17 [] rv0,.c 18 [] rv0,.x 19 [] (fv c1),.x 20 [] (fv c1),.c 21 [(18,1),(19,2),(20,3)] (fv c2),.x 22 [] (fv c1),.c 23 [(17,0),(21,4),(22,5)] (fv c3),.m 4 [] 3,.u [(4,7),(23,6)] 3]
def F80_3 (x y z c4 c5:Fin P):List RG.It:=[.c 24 [] rv0,.c 25 [] rv0,.s 26 [] (.p 0 4),.x 27 [(26,2)] (fv y),.s 28 [] (.p 0 4),.x 29 [(28,4)] (fv y),.c 30 [(25,1),(27,3),(29,5)] (fv c4),.s 31 [] (.p 0 8),.x 32 [(31,7)] (fv z),.c 33 [(24,0),(30,6),(32,8)] (fv c5),.m 5 [] 4,.u [(5,10),(33,9)] 4]
def F80_4 (x c5 c6:Fin P):List RG.It:=[.c 34 [] rv0,.x 35 [] (fv c5),.x 36 [] (fv c5),.c 37 [(34,0),(35,1),(36,2)] (fv c6),.m 6 [] 5,.u [(6,4),(37,3)] 5]
def F80_5 (x c5 c6 c7:Fin P):List RG.It:=[.c 38 [] rv0,.x 39 [] (fv c6),.x 40 [] (fv c5),.c 41 [(38,0),(39,1),(40,2)] (fv c7),.m 7 [] 6,.u [(7,4),(41,3)] 6]
def F80_6 (x z c3 c6 c8 c9 c10 c11 c12:Fin P):List RG.It:=[.c 42 [] rv0,.c 43 [] rv0,.c 44 [] rv0,.x 45 [] (fv c3),.x 46 [] (fv c3),.c 47 [(44,2),(45,3),(46,4)] (fv c8),.s 48 [] (.p 0 8),.x 49 [(48,6)] (fv z),.c 50 [(43,1),(47,5),(49,7)] (fv c9),.c 51 [] rv0,.c 52 [] rv0,.s 53 [] (.p 0 0),.x 54 [(53,11)] (fv x),.s 55 [] (.p 0 0),.x 56 [(55,13)] (fv x),.c 57 [(52,10),(54,12),(56,14)] (fv c10),.x 58 [] (fv c6),.c 59 [(51,9),(57,15),(58,16)] (fv c11),.c 60 [(42,0),(50,8),(59,17)] (fv c12),.m 8 [] 7,.u [(8,19),(60,18)] 7]
def F80_7 (x c5 c12 c13:Fin P):List RG.It:=[.c 61 [] rv0,.x 62 [] (fv c5),.x 63 [] (fv c12),.c 64 [(61,0),(62,1),(63,2)] (fv c13),.m 9 [] 8,.u [(9,4),(64,3)] 8]
def F80_8 (x y c3 c6 c7 c12 c14 c15 c16 c17 c18:Fin P):List RG.It:=[.c 65 [] rv0,.c 66 [] rv0,.x 67 [] (fv c3),.c 68 [] rv0,.c 69 [] rv0,.s 70 [] (.p 0 0),.x 71 [(70,5)] (fv x),.x 72 [] (fv c6),.c 73 [(69,4),(71,6),(72,7)] (fv c14),.x 74 [] (fv c12),.c 75 [(68,3),(73,8),(74,9)] (fv c15),.c 76 [(66,1),(67,2),(75,10)] (fv c16),.c 77 [] rv0,.s 78 [] (.p 0 4),.x 79 [(78,13)] (fv y),.x 80 [] (fv c7),.c 81 [(77,12),(79,14),(80,15)] (fv c17),.c 82 [(65,0),(76,11),(81,16)] (fv c18),.m 10 [] 9,.u [(10,18),(82,17)] 9]
def F80_9 (x z c7 c13 c18 c19:Fin P):List RG.It:=[.x 83 [] (fv c13),.x 84 [] (fv c18),.c 85 [] rv0,.x 86 [] (fv c7),.s 87 [] (.p 0 8),.x 88 [(87,4)] (fv z),.c 89 [(85,2),(86,3),(88,5)] (fv c19),.x 90 [(83,0),(84,1),(89,6)] (rv c13 c18 c19),.u [(90,7)] 1]
set_option maxHeartbeats 2000000 in
set_option maxRecDepth 100000 in
theorem rdouble_c (C:Fl3 P) (x y z:Fin P):Gives 141 #[(rv x y z)] (rv ((EC.fdE y z)*(EC.fdT x y z)) ((EC.fdD x)*(x*((EC.fdE y z)*(EC.fdE y z)) - (EC.fdT x y z)) - y*((EC.fdE y z)*(EC.fdE y z)*(EC.fdE y z))) ((EC.fdE y z)*(EC.fdE y z)*(EC.fdE y z)*z)):=by
 intro w
 obtain ⟨c1,hc1⟩:∃ c,c=x*x:=⟨_,rfl⟩
 obtain ⟨c2,hc2⟩:∃ c,c=c1+c1:=⟨_,rfl⟩
 obtain ⟨c3,hc3⟩:∃ c,c=c2+c1:=⟨_,rfl⟩
 obtain ⟨c4,hc4⟩:∃ c,c=y+y:=⟨_,rfl⟩
 obtain ⟨c5,hc5⟩:∃ c,c=c4*z:=⟨_,rfl⟩
 obtain ⟨c6,hc6⟩:∃ c,c=c5*c5:=⟨_,rfl⟩
 obtain ⟨c7,hc7⟩:∃ c,c=c6*c5:=⟨_,rfl⟩
 obtain ⟨c8,hc8⟩:∃ c,c=c3*c3:=⟨_,rfl⟩
 obtain ⟨c9,hc9⟩:∃ c,c=c8*z:=⟨_,rfl⟩
 obtain ⟨c10,hc10⟩:∃ c,c=x+x:=⟨_,rfl⟩
 obtain ⟨c11,hc11⟩:∃ c,c=c10*c6:=⟨_,rfl⟩
 obtain ⟨c12,hc12⟩:∃ c,c=c9 - c11:=⟨_,rfl⟩
 obtain ⟨c13,hc13⟩:∃ c,c=c5*c12:=⟨_,rfl⟩
 obtain ⟨c14,hc14⟩:∃ c,c=x*c6:=⟨_,rfl⟩
 obtain ⟨c15,hc15⟩:∃ c,c=c14 - c12:=⟨_,rfl⟩
 obtain ⟨c16,hc16⟩:∃ c,c=c3*c15:=⟨_,rfl⟩
 obtain ⟨c17,hc17⟩:∃ c,c=y*c7:=⟨_,rfl⟩
 obtain ⟨c18,hc18⟩:∃ c,c=c16 - c17:=⟨_,rfl⟩
 obtain ⟨c19,hc19⟩:∃ c,c=c7*z:=⟨_,rfl⟩
 have hfin:((rv c13 c18 c19):Value)=(rv ((EC.fdE y z)*(EC.fdT x y z)) ((EC.fdD x)*(x*((EC.fdE y z)*(EC.fdE y z)) - (EC.fdT x y z)) - y*((EC.fdE y z)*(EC.fdE y z)*(EC.fdE y z))) ((EC.fdE y z)*(EC.fdE y z)*(EC.fdE y z)*z)):=by
  subst_vars;rfl
 rw [← hfin]
 go_enter Tryz.func141,Tryz.ntmps141
 refine RG.M.enter [(0,(.v (rv x y z)))] 91 (by kernel_rfl) ?_
 intro a0 M0
 repeat refine wp_seq ?_
 refine M0.tx F80_0 [(0,(ws x++(ws y++(ws z)))),(1,(RG.z 12))] [] [(ws x++(ws y++(ws z))),(RG.z 12)] [(1,(.p 0 0)),(2,(.p 1 0))] (by kernel_rfl) (by kernel_rfl) ⟨RG.mk 0 56 fun _ _=>by kernel_rfl,RG.mk 1 56 fun _ _=>by kernel_rfl,trivial⟩ ?_
 intro j1 i1 a1 w1 M1
 repeat refine wp_seq ?_
 refine M1.dr (by kernel_rfl) (F80_1 x c1) [(6,(RG.z 4))] [(2,7,(ws c1))] [(ws x++(ws y++(ws z))),(RG.z 12),(ws c1)] [(1,(.p 0 0)),(2,(.p 1 0)),(3,(.p 2 0))] (by kernel_rfl) (by kernel_rfl) ⟨RG.cl (F3_c) fun _ _=>by kernel_rfl,RG.st fun _ _=>by kernel_rfl,RG.ld u33 i33 (by kernel_rfl),RG.st fun _ _=>by kernel_rfl,RG.ld u33 i33 (by kernel_rfl),RG.cl ((rMul_c C x x).e hc1) fun _ _=>by kernel_rfl,RG.mk 2 54 fun _ _=>by kernel_rfl,RG.pt i33 (by kernel_rfl),trivial⟩ ?_
 intro j2 a2 w2 M2
 repeat refine wp_seq ?_
 refine M2.dr (by kernel_rfl) (F80_2 x c1 c2 c3) [(7,(RG.z 4))] [(3,8,(ws c3))] [(ws x++(ws y++(ws z))),(RG.z 12),(ws c1),(ws c3)] [(1,(.p 0 0)),(2,(.p 1 0)),(4,(.p 3 0))] (by kernel_rfl) (by kernel_rfl) ⟨RG.cl (F3_c) fun _ _=>by kernel_rfl,RG.cl (F3_c) fun _ _=>by kernel_rfl,RG.ld u33 i33 (by kernel_rfl),RG.ld u33 i33 (by kernel_rfl),RG.cl ((rAdd_c C c1 c1).e hc2) fun _ _=>by kernel_rfl,RG.ld u33 i33 (by kernel_rfl),RG.cl ((rAdd_c C c2 c1).e hc3) fun _ _=>by kernel_rfl,RG.mk 3 54 fun _ _=>by kernel_rfl,RG.pt i33 (by kernel_rfl),trivial⟩ ?_
 intro j3 a3 w3 M3
 repeat refine wp_seq ?_
 refine M3.dr (by kernel_rfl) (F80_3 x y z c4 c5) [(10,(RG.z 4))] [(4,11,(ws c5))] [(ws x++(ws y++(ws z))),(RG.z 12),(ws c1),(ws c3),(ws c5)] [(1,(.p 0 0)),(2,(.p 1 0)),(4,(.p 3 0)),(5,(.p 4 0))] (by kernel_rfl) (by kernel_rfl) ⟨RG.cl (F3_c) fun _ _=>by kernel_rfl,RG.cl (F3_c) fun _ _=>by kernel_rfl,RG.st fun _ _=>by kernel_rfl,RG.ld u33 i33 (by kernel_rfl),RG.st fun _ _=>by kernel_rfl,RG.ld u33 i33 (by kernel_rfl),RG.cl ((rAdd_c C y y).e hc4) fun _ _=>by kernel_rfl,RG.st fun _ _=>by kernel_rfl,RG.ld u33 i33 (by kernel_rfl),RG.cl ((rMul_c C c4 z).e hc5) fun _ _=>by kernel_rfl,RG.mk 4 54 fun _ _=>by kernel_rfl,RG.pt i33 (by kernel_rfl),trivial⟩ ?_
 intro j4 a4 w4 M4
 repeat refine wp_seq ?_
 refine M4.dr (by kernel_rfl) (F80_4 x c5 c6) [(4,(RG.z 4))] [(5,5,(ws c6))] [(ws x++(ws y++(ws z))),(RG.z 12),(ws c1),(ws c3),(ws c5),(ws c6)] [(1,(.p 0 0)),(2,(.p 1 0)),(4,(.p 3 0)),(5,(.p 4 0)),(6,(.p 5 0))] (by kernel_rfl) (by kernel_rfl) ⟨RG.cl (F3_c) fun _ _=>by kernel_rfl,RG.ld u33 i33 (by kernel_rfl),RG.ld u33 i33 (by kernel_rfl),RG.cl ((rMul_c C c5 c5).e hc6) fun _ _=>by kernel_rfl,RG.mk 5 54 fun _ _=>by kernel_rfl,RG.pt i33 (by kernel_rfl),trivial⟩ ?_
 intro j5 a5 w5 M5
 repeat refine wp_seq ?_
 refine M5.dr (by kernel_rfl) (F80_5 x c5 c6 c7) [(4,(RG.z 4))] [(6,5,(ws c7))] [(ws x++(ws y++(ws z))),(RG.z 12),(ws c1),(ws c3),(ws c5),(ws c6),(ws c7)] [(1,(.p 0 0)),(2,(.p 1 0)),(4,(.p 3 0)),(5,(.p 4 0)),(6,(.p 5 0)),(7,(.p 6 0))] (by kernel_rfl) (by kernel_rfl) ⟨RG.cl (F3_c) fun _ _=>by kernel_rfl,RG.ld u33 i33 (by kernel_rfl),RG.ld u33 i33 (by kernel_rfl),RG.cl ((rMul_c C c6 c5).e hc7) fun _ _=>by kernel_rfl,RG.mk 6 54 fun _ _=>by kernel_rfl,RG.pt i33 (by kernel_rfl),trivial⟩ ?_
 intro j6 a6 w6 M6
 repeat refine wp_seq ?_
 refine M6.dr (by kernel_rfl) (F80_6 x z c3 c6 c8 c9 c10 c11 c12) [(19,(RG.z 4))] [(7,20,(ws c12))] [(ws x++(ws y++(ws z))),(RG.z 12),(ws c1),(ws c3),(ws c5),(ws c6),(ws c7),(ws c12)] [(1,(.p 0 0)),(2,(.p 1 0)),(4,(.p 3 0)),(5,(.p 4 0)),(6,(.p 5 0)),(7,(.p 6 0)),(8,(.p 7 0))] (by kernel_rfl) (by kernel_rfl) ⟨RG.cl (F3_c) fun _ _=>by kernel_rfl,RG.cl (F3_c) fun _ _=>by kernel_rfl,RG.cl (F3_c) fun _ _=>by kernel_rfl,RG.ld u33 i33 (by kernel_rfl),RG.ld u33 i33 (by kernel_rfl),RG.cl ((rMul_c C c3 c3).e hc8) fun _ _=>by kernel_rfl,RG.st fun _ _=>by kernel_rfl,RG.ld u33 i33 (by kernel_rfl),RG.cl ((rMul_c C c8 z).e hc9) fun _ _=>by kernel_rfl,RG.cl (F3_c) fun _ _=>by kernel_rfl,RG.cl (F3_c) fun _ _=>by kernel_rfl,RG.st fun _ _=>by kernel_rfl,RG.ld u33 i33 (by kernel_rfl),RG.st fun _ _=>by kernel_rfl,RG.ld u33 i33 (by kernel_rfl),RG.cl ((rAdd_c C x x).e hc10) fun _ _=>by kernel_rfl,RG.ld u33 i33 (by kernel_rfl),RG.cl ((rMul_c C c10 c6).e hc11) fun _ _=>by kernel_rfl,RG.cl ((rSub_c C c9 c11).e hc12) fun _ _=>by kernel_rfl,RG.mk 7 54 fun _ _=>by kernel_rfl,RG.pt i33 (by kernel_rfl),trivial⟩ ?_
 intro j7 a7 w7 M7
 repeat refine wp_seq ?_
 refine M7.dr (by kernel_rfl) (F80_7 x c5 c12 c13) [(4,(RG.z 4))] [(8,5,(ws c13))] [(ws x++(ws y++(ws z))),(RG.z 12),(ws c1),(ws c3),(ws c5),(ws c6),(ws c7),(ws c12),(ws c13)] [(1,(.p 0 0)),(2,(.p 1 0)),(4,(.p 3 0)),(6,(.p 5 0)),(7,(.p 6 0)),(8,(.p 7 0)),(9,(.p 8 0))] (by kernel_rfl) (by kernel_rfl) ⟨RG.cl (F3_c) fun _ _=>by kernel_rfl,RG.ld u33 i33 (by kernel_rfl),RG.ld u33 i33 (by kernel_rfl),RG.cl ((rMul_c C c5 c12).e hc13) fun _ _=>by kernel_rfl,RG.mk 8 54 fun _ _=>by kernel_rfl,RG.pt i33 (by kernel_rfl),trivial⟩ ?_
 intro j8 a8 w8 M8
 repeat refine wp_seq ?_
 refine M8.dr (by kernel_rfl) (F80_8 x y c3 c6 c7 c12 c14 c15 c16 c17 c18) [(18,(RG.z 4))] [(9,19,(ws c18))] [(ws x++(ws y++(ws z))),(RG.z 12),(ws c1),(ws c3),(ws c5),(ws c6),(ws c7),(ws c12),(ws c13),(ws c18)] [(1,(.p 0 0)),(2,(.p 1 0)),(7,(.p 6 0)),(9,(.p 8 0)),(10,(.p 9 0))] (by kernel_rfl) (by kernel_rfl) ⟨RG.cl (F3_c) fun _ _=>by kernel_rfl,RG.cl (F3_c) fun _ _=>by kernel_rfl,RG.ld u33 i33 (by kernel_rfl),RG.cl (F3_c) fun _ _=>by kernel_rfl,RG.cl (F3_c) fun _ _=>by kernel_rfl,RG.st fun _ _=>by kernel_rfl,RG.ld u33 i33 (by kernel_rfl),RG.ld u33 i33 (by kernel_rfl),RG.cl ((rMul_c C x c6).e hc14) fun _ _=>by kernel_rfl,RG.ld u33 i33 (by kernel_rfl),RG.cl ((rSub_c C c14 c12).e hc15) fun _ _=>by kernel_rfl,RG.cl ((rMul_c C c3 c15).e hc16) fun _ _=>by kernel_rfl,RG.cl (F3_c) fun _ _=>by kernel_rfl,RG.st fun _ _=>by kernel_rfl,RG.ld u33 i33 (by kernel_rfl),RG.ld u33 i33 (by kernel_rfl),RG.cl ((rMul_c C y c7).e hc17) fun _ _=>by kernel_rfl,RG.cl ((rSub_c C c16 c17).e hc18) fun _ _=>by kernel_rfl,RG.mk 9 54 fun _ _=>by kernel_rfl,RG.pt i33 (by kernel_rfl),trivial⟩ ?_
 intro j9 a9 w9 M9
 repeat refine wp_seq ?_
 refine M9.dr (by kernel_rfl) (F80_9 x z c7 c13 c18 c19) [] [(1,8,(ws c13++(ws c18++(ws c19))))] [(ws x++(ws y++(ws z))),(ws c13++(ws c18++(ws c19))),(ws c1),(ws c3),(ws c5),(ws c6),(ws c7),(ws c12),(ws c13),(ws c18)] [(2,(.p 1 0))] (by kernel_rfl) (by kernel_rfl) ⟨RG.ld u33 i33 (by kernel_rfl),RG.ld u33 i33 (by kernel_rfl),RG.cl (F3_c) fun _ _=>by kernel_rfl,RG.ld u33 i33 (by kernel_rfl),RG.st fun _ _=>by kernel_rfl,RG.ld u33 i33 (by kernel_rfl),RG.cl ((rMul_c C c7 z).e hc19) fun _ _=>by kernel_rfl,RG.st fun _ _=>by kernel_rfl,RG.pt i56 (by kernel_rfl),trivial⟩ ?_
 intro a10 w10 M10
 refine wp_ret ?_
 refine bodyPost_ret (v:=(rv c13 c18 c19)) (RG.results_row M10.st 2 56 rfl 1 _ rfl (M10.at (s:=(.p 1 0)) (by kernel_rfl)) u56 i56) M10.sl.defers ?_
 exact ⟨_,rfl,M10.st.bel.below,rfl⟩
def F39a_0:List RG.It:=[.m 2 [] 0,.m 3 [] 1,.m 4 [] 2]
def F39a_1 (x1 y1 z1:Fin P):List RG.It:=[.x 16 [] (rv x1 y1 z1),.c 17 [(16,0)] (.bool true),.x 5 [(17,1)] (.bool true)]
def F39a_2:List RG.It:=[.x 18 [] (.bool true)]
def F39a_3 (x2 y2 z2:Fin P):List RG.It:=[.x 19 [] (rv x2 y2 z2),.u [(19,0)] 2]
set_option maxHeartbeats 2000000 in
set_option maxRecDepth 100000 in
theorem rPlus_a_c (C:Fl3 P) (x1 y1 z1 x2 y2 z2:Fin P)(hz1:z1=0) :Gives 54 #[(rv x1 y1 z1),(rv x2 y2 z2)] (rv x2 y2 z2):=by
 intro w
 go_enter Tryz.func54,Tryz.ntmps54
 refine RG.M.enter [(0,(.v (rv x1 y1 z1))),(1,(.v (rv x2 y2 z2)))] 127 (by kernel_rfl) ?_
 intro a0 M0
 repeat refine wp_seq ?_
 refine M0.tx F39a_0 [(0,(ws x1++(ws y1++(ws z1)))),(1,(ws x2++(ws y2++(ws z2)))),(2,(RG.z 12))] [] [(ws x1++(ws y1++(ws z1))),(ws x2++(ws y2++(ws z2))),(RG.z 12)] [(2,(.p 0 0)),(3,(.p 1 0)),(4,(.p 2 0))] (by kernel_rfl) (by kernel_rfl) ⟨RG.mk 0 56 fun _ _=>by kernel_rfl,RG.mk 1 56 fun _ _=>by kernel_rfl,RG.mk 2 56 fun _ _=>by kernel_rfl,trivial⟩ ?_
 intro j1 i1 m1 a1 w1 M1
 repeat refine wp_seq ?_
 refine M1.tx0 (F39a_1 x1 y1 z1) [(3,(.p 1 0)),(4,(.p 2 0)),(5,(.v (.bool true)))] (by kernel_rfl) ⟨RG.ld u56 i56 (by kernel_rfl),RG.cl (Is_t_c C x1 y1 z1 hz1) fun _ _=>by kernel_rfl,RG.st fun _ _=>by kernel_rfl,trivial⟩ ?_
 intro a2 w2 M2
 repeat refine wp_seq ?_
 refine M2.tx0 F39a_2 [(3,(.p 1 0)),(4,(.p 2 0)),(18,(.v (.bool true)))] (by kernel_rfl) ⟨RG.st fun _ _=>by kernel_rfl,trivial⟩ ?_
 intro a3 w3 M3
 repeat refine wp_seq ?_
 refine wp_cond_true (M3.ev (by kernel_rfl)) ?_
 repeat refine wp_seq ?_
 refine M3.tx (F39a_3 x2 y2 z2) [] [(2,1,(ws x2++(ws y2++(ws z2))))] [(ws x1++(ws y1++(ws z1))),(ws x2++(ws y2++(ws z2))),(ws x2++(ws y2++(ws z2)))] [(4,(.p 2 0))] (by kernel_rfl) (by kernel_rfl) ⟨RG.ld u56 i56 (by kernel_rfl),RG.pt i56 (by kernel_rfl),trivial⟩ ?_
 intro a4 w4 M4
 refine wp_ret ?_
 refine bodyPost_ret (v:=(rv x2 y2 z2)) (RG.results_row M4.st 4 56 rfl 2 _ rfl (M4.at (s:=(.p 2 0)) (by kernel_rfl)) u56 i56) M4.sl.defers ?_
 exact ⟨_,rfl,M4.st.bel.below,rfl⟩
def F39b_0:List RG.It:=[.m 2 [] 0,.m 3 [] 1,.m 4 [] 2]
def F39b_1 (x1 y1 z1:Fin P):List RG.It:=[.x 16 [] (rv x1 y1 z1),.c 17 [(16,0)] (.bool false),.x 5 [(17,1)] (.bool false)]
def F39b_2:List RG.It:=[.x 18 [] (.bool false)]
def F39b_4 (x2 y2 z2:Fin P):List RG.It:=[.x 20 [] (rv x2 y2 z2),.c 21 [(20,0)] (.bool true),.x 5 [(21,1)] (.bool true)]
def F39b_5:List RG.It:=[.x 22 [] (.bool true)]
def F39b_6 (x1 y1 z1:Fin P):List RG.It:=[.x 23 [] (rv x1 y1 z1),.u [(23,0)] 2]
set_option maxHeartbeats 2000000 in
set_option maxRecDepth 100000 in
theorem rPlus_b_c (C:Fl3 P) (x1 y1 z1 x2 y2 z2:Fin P)(hz1:¬ z1=0) (hz2:z2=0) :Gives 54 #[(rv x1 y1 z1),(rv x2 y2 z2)] (rv x1 y1 z1):=by
 intro w
 go_enter Tryz.func54,Tryz.ntmps54
 refine RG.M.enter [(0,(.v (rv x1 y1 z1))),(1,(.v (rv x2 y2 z2)))] 127 (by kernel_rfl) ?_
 intro a0 M0
 repeat refine wp_seq ?_
 refine M0.tx F39b_0 [(0,(ws x1++(ws y1++(ws z1)))),(1,(ws x2++(ws y2++(ws z2)))),(2,(RG.z 12))] [] [(ws x1++(ws y1++(ws z1))),(ws x2++(ws y2++(ws z2))),(RG.z 12)] [(2,(.p 0 0)),(3,(.p 1 0)),(4,(.p 2 0))] (by kernel_rfl) (by kernel_rfl) ⟨RG.mk 0 56 fun _ _=>by kernel_rfl,RG.mk 1 56 fun _ _=>by kernel_rfl,RG.mk 2 56 fun _ _=>by kernel_rfl,trivial⟩ ?_
 intro j1 i1 m1 a1 w1 M1
 repeat refine wp_seq ?_
 refine M1.tx0 (F39b_1 x1 y1 z1) [(2,(.p 0 0)),(3,(.p 1 0)),(4,(.p 2 0)),(5,(.v (.bool false)))] (by kernel_rfl) ⟨RG.ld u56 i56 (by kernel_rfl),RG.cl (Is_f_c C x1 y1 z1 hz1) fun _ _=>by kernel_rfl,RG.st fun _ _=>by kernel_rfl,trivial⟩ ?_
 intro a2 w2 M2
 repeat refine wp_seq ?_
 refine M2.tx0 F39b_2 [(2,(.p 0 0)),(3,(.p 1 0)),(4,(.p 2 0)),(5,(.v (.bool false))),(18,(.v (.bool false)))] (by kernel_rfl) ⟨RG.st fun _ _=>by kernel_rfl,trivial⟩ ?_
 intro a3 w3 M3
 repeat refine wp_seq ?_
 refine wp_cond_false (M3.ev (by kernel_rfl)) ?_
 refine wp_skip ?_
 repeat refine wp_seq ?_
 refine M3.tx0 (F39b_4 x2 y2 z2) [(2,(.p 0 0)),(4,(.p 2 0)),(5,(.v (.bool true)))] (by kernel_rfl) ⟨RG.ld u56 i56 (by kernel_rfl),RG.cl (Is_t_c C x2 y2 z2 hz2) fun _ _=>by kernel_rfl,RG.st fun _ _=>by kernel_rfl,trivial⟩ ?_
 intro a4 w4 M4
 repeat refine wp_seq ?_
 refine M4.tx0 F39b_5 [(2,(.p 0 0)),(4,(.p 2 0)),(22,(.v (.bool true)))] (by kernel_rfl) ⟨RG.st fun _ _=>by kernel_rfl,trivial⟩ ?_
 intro a5 w5 M5
 repeat refine wp_seq ?_
 refine wp_cond_true (M5.ev (by kernel_rfl)) ?_
 repeat refine wp_seq ?_
 refine M5.tx (F39b_6 x1 y1 z1) [] [(2,1,(ws x1++(ws y1++(ws z1))))] [(ws x1++(ws y1++(ws z1))),(ws x2++(ws y2++(ws z2))),(ws x1++(ws y1++(ws z1)))] [(4,(.p 2 0))] (by kernel_rfl) (by kernel_rfl) ⟨RG.ld u56 i56 (by kernel_rfl),RG.pt i56 (by kernel_rfl),trivial⟩ ?_
 intro a6 w6 M6
 refine wp_ret ?_
 refine bodyPost_ret (v:=(rv x1 y1 z1)) (RG.results_row M6.st 4 56 rfl 2 _ rfl (M6.at (s:=(.p 2 0)) (by kernel_rfl)) u56 i56) M6.sl.defers ?_
 exact ⟨_,rfl,M6.st.bel.below,rfl⟩
def F39c_0:List RG.It:=[.m 2 [] 0,.m 3 [] 1,.m 4 [] 2]
def F39c_1 (x1 y1 z1:Fin P):List RG.It:=[.x 16 [] (rv x1 y1 z1),.c 17 [(16,0)] (.bool false),.x 5 [(17,1)] (.bool false)]
def F39c_2:List RG.It:=[.x 18 [] (.bool false)]
def F39c_4 (x2 y2 z2:Fin P):List RG.It:=[.x 20 [] (rv x2 y2 z2),.c 21 [(20,0)] (.bool false),.x 5 [(21,1)] (.bool false)]
def F39c_5:List RG.It:=[.x 22 [] (.bool false)]
def F39c_7 (z1 y2 c1:Fin P):List RG.It:=[.c 24 [] rv0,.s 25 [] (.p 1 4),.x 26 [(25,1)] (fv y2),.s 27 [] (.p 0 8),.x 28 [(27,3)] (fv z1),.c 29 [(24,0),(26,2),(28,4)] (fv c1),.m 6 [] 3,.u [(6,6),(29,5)] 3]
def F39c_8 (z1 x2 c2:Fin P):List RG.It:=[.c 30 [] rv0,.s 31 [] (.p 1 0),.x 32 [(31,1)] (fv x2),.s 33 [] (.p 0 8),.x 34 [(33,3)] (fv z1),.c 35 [(30,0),(32,2),(34,4)] (fv c2),.m 7 [] 4,.u [(7,6),(35,5)] 4]
def F39c_9 (y1 z2 c3:Fin P):List RG.It:=[.c 36 [] rv0,.s 37 [] (.p 0 4),.x 38 [(37,1)] (fv y1),.s 39 [] (.p 1 8),.x 40 [(39,3)] (fv z2),.c 41 [(36,0),(38,2),(40,4)] (fv c3),.m 8 [] 5,.u [(8,6),(41,5)] 5]
def F39c_10 (x1 z2 c4:Fin P):List RG.It:=[.c 42 [] rv0,.s 43 [] (.p 0 0),.x 44 [(43,1)] (fv x1),.s 45 [] (.p 1 8),.x 46 [(45,3)] (fv z2),.c 47 [(42,0),(44,2),(46,4)] (fv c4),.m 9 [] 6,.u [(9,6),(47,5)] 6]
def F39c_11 (c2 c4:Fin P):List RG.It:=[.x 48 [] (fv c2),.x 49 [] (fv c4),.x 50 [(48,0),(49,1)] (.bool true)]
def F39c_12 (c1 c3:Fin P):List RG.It:=[.x 51 [] (fv c1),.x 52 [] (fv c3),.x 53 [(51,0),(52,1)] (.bool true),.x 54 [(53,2)] (.bool true),⟨some 55,[],(.v undef),.pass⟩,⟨some 56,[],(.v undef),.pass⟩,.x 57 [(54,3),(56,5)] (.bool true)]
def F39c_13:List RG.It:=[.c 58 [] (rv (0:Fin P) (1:Fin P) (0:Fin P)),.u [(58,0)] 2]
set_option maxHeartbeats 2000000 in
set_option maxRecDepth 100000 in
theorem rPlus_c_c (C:Fl3 P) (x1 y1 z1 x2 y2 z2:Fin P)(hz1:¬ z1=0) (hz2:¬ z2=0) (hv:x2*z1=x1*z2) (hu:¬ y2*z1=y1*z2) :Gives 54 #[(rv x1 y1 z1),(rv x2 y2 z2)] (rv (0:Fin P) 1 0):=by
 intro w
 obtain ⟨c1,hc1⟩:∃ c,c=y2*z1:=⟨_,rfl⟩
 obtain ⟨c2,hc2⟩:∃ c,c=x2*z1:=⟨_,rfl⟩
 obtain ⟨c3,hc3⟩:∃ c,c=y1*z2:=⟨_,rfl⟩
 obtain ⟨c4,hc4⟩:∃ c,c=x1*z2:=⟨_,rfl⟩
 have hfin:((rv (0:Fin P) (1:Fin P) (0:Fin P)):Value)=(rv (0:Fin P) 1 0):=by
  subst_vars;rfl
 rw [← hfin]
 go_enter Tryz.func54,Tryz.ntmps54
 refine RG.M.enter [(0,(.v (rv x1 y1 z1))),(1,(.v (rv x2 y2 z2)))] 127 (by kernel_rfl) ?_
 intro a0 M0
 repeat refine wp_seq ?_
 refine M0.tx F39c_0 [(0,(ws x1++(ws y1++(ws z1)))),(1,(ws x2++(ws y2++(ws z2)))),(2,(RG.z 12))] [] [(ws x1++(ws y1++(ws z1))),(ws x2++(ws y2++(ws z2))),(RG.z 12)] [(2,(.p 0 0)),(3,(.p 1 0)),(4,(.p 2 0))] (by kernel_rfl) (by kernel_rfl) ⟨RG.mk 0 56 fun _ _=>by kernel_rfl,RG.mk 1 56 fun _ _=>by kernel_rfl,RG.mk 2 56 fun _ _=>by kernel_rfl,trivial⟩ ?_
 intro j1 i1 m1 a1 w1 M1
 repeat refine wp_seq ?_
 refine M1.tx0 (F39c_1 x1 y1 z1) [(2,(.p 0 0)),(3,(.p 1 0)),(4,(.p 2 0)),(5,(.v (.bool false)))] (by kernel_rfl) ⟨RG.ld u56 i56 (by kernel_rfl),RG.cl (Is_f_c C x1 y1 z1 hz1) fun _ _=>by kernel_rfl,RG.st fun _ _=>by kernel_rfl,trivial⟩ ?_
 intro a2 w2 M2
 repeat refine wp_seq ?_
 refine M2.tx0 F39c_2 [(2,(.p 0 0)),(3,(.p 1 0)),(4,(.p 2 0)),(5,(.v (.bool false))),(18,(.v (.bool false)))] (by kernel_rfl) ⟨RG.st fun _ _=>by kernel_rfl,trivial⟩ ?_
 intro a3 w3 M3
 repeat refine wp_seq ?_
 refine wp_cond_false (M3.ev (by kernel_rfl)) ?_
 refine wp_skip ?_
 repeat refine wp_seq ?_
 refine M3.tx0 (F39c_4 x2 y2 z2) [(2,(.p 0 0)),(3,(.p 1 0)),(4,(.p 2 0)),(5,(.v (.bool false)))] (by kernel_rfl) ⟨RG.ld u56 i56 (by kernel_rfl),RG.cl (Is_f_c C x2 y2 z2 hz2) fun _ _=>by kernel_rfl,RG.st fun _ _=>by kernel_rfl,trivial⟩ ?_
 intro a4 w4 M4
 repeat refine wp_seq ?_
 refine M4.tx0 F39c_5 [(2,(.p 0 0)),(3,(.p 1 0)),(4,(.p 2 0)),(22,(.v (.bool false)))] (by kernel_rfl) ⟨RG.st fun _ _=>by kernel_rfl,trivial⟩ ?_
 intro a5 w5 M5
 repeat refine wp_seq ?_
 refine wp_cond_false (M5.ev (by kernel_rfl)) ?_
 refine wp_skip ?_
 repeat refine wp_seq ?_
 refine M5.dr (by kernel_rfl) (F39c_7 z1 y2 c1) [(6,(RG.z 4))] [(3,7,(ws c1))] [(ws x1++(ws y1++(ws z1))),(ws x2++(ws y2++(ws z2))),(RG.z 12),(ws c1)] [(2,(.p 0 0)),(3,(.p 1 0)),(4,(.p 2 0)),(6,(.p 3 0))] (by kernel_rfl) (by kernel_rfl) ⟨RG.cl (F3_c) fun _ _=>by kernel_rfl,RG.st fun _ _=>by kernel_rfl,RG.ld u33 i33 (by kernel_rfl),RG.st fun _ _=>by kernel_rfl,RG.ld u33 i33 (by kernel_rfl),RG.cl ((rMul_c C y2 z1).e hc1) fun _ _=>by kernel_rfl,RG.mk 3 54 fun _ _=>by kernel_rfl,RG.pt i33 (by kernel_rfl),trivial⟩ ?_
 intro j6 a6 w6 M6
 repeat refine wp_seq ?_
 refine M6.dr (by kernel_rfl) (F39c_8 z1 x2 c2) [(6,(RG.z 4))] [(4,7,(ws c2))] [(ws x1++(ws y1++(ws z1))),(ws x2++(ws y2++(ws z2))),(RG.z 12),(ws c1),(ws c2)] [(2,(.p 0 0)),(3,(.p 1 0)),(4,(.p 2 0)),(6,(.p 3 0)),(7,(.p 4 0))] (by kernel_rfl) (by kernel_rfl) ⟨RG.cl (F3_c) fun _ _=>by kernel_rfl,RG.st fun _ _=>by kernel_rfl,RG.ld u33 i33 (by kernel_rfl),RG.st fun _ _=>by kernel_rfl,RG.ld u33 i33 (by kernel_rfl),RG.cl ((rMul_c C x2 z1).e hc2) fun _ _=>by kernel_rfl,RG.mk 4 54 fun _ _=>by kernel_rfl,RG.pt i33 (by kernel_rfl),trivial⟩ ?_
 intro j7 a7 w7 M7
 repeat refine wp_seq ?_
 refine M7.dr (by kernel_rfl) (F39c_9 y1 z2 c3) [(6,(RG.z 4))] [(5,7,(ws c3))] [(ws x1++(ws y1++(ws z1))),(ws x2++(ws y2++(ws z2))),(RG.z 12),(ws c1),(ws c2),(ws c3)] [(2,(.p 0 0)),(3,(.p 1 0)),(4,(.p 2 0)),(6,(.p 3 0)),(7,(.p 4 0)),(8,(.p 5 0))] (by kernel_rfl) (by kernel_rfl) ⟨RG.cl (F3_c) fun _ _=>by kernel_rfl,RG.st fun _ _=>by kernel_rfl,RG.ld u33 i33 (by kernel_rfl),RG.st fun _ _=>by kernel_rfl,RG.ld u33 i33 (by kernel_rfl),RG.cl ((rMul_c C y1 z2).e hc3) fun _ _=>by kernel_rfl,RG.mk 5 54 fun _ _=>by kernel_rfl,RG.pt i33 (by kernel_rfl),trivial⟩ ?_
 intro j8 a8 w8 M8
 repeat refine wp_seq ?_
 refine M8.dr (by kernel_rfl) (F39c_10 x1 z2 c4) [(6,(RG.z 4))] [(6,7,(ws c4))] [(ws x1++(ws y1++(ws z1))),(ws x2++(ws y2++(ws z2))),(RG.z 12),(ws c1),(ws c2),(ws c3),(ws c4)] [(4,(.p 2 0)),(6,(.p 3 0)),(7,(.p 4 0)),(8,(.p 5 0)),(9,(.p 6 0))] (by kernel_rfl) (by kernel_rfl) ⟨RG.cl (F3_c) fun _ _=>by kernel_rfl,RG.st fun _ _=>by kernel_rfl,RG.ld u33 i33 (by kernel_rfl),RG.st fun _ _=>by kernel_rfl,RG.ld u33 i33 (by kernel_rfl),RG.cl ((rMul_c C x1 z2).e hc4) fun _ _=>by kernel_rfl,RG.mk 6 54 fun _ _=>by kernel_rfl,RG.pt i33 (by kernel_rfl),trivial⟩ ?_
 intro j9 a9 w9 M9
 repeat refine wp_seq ?_
 refine M9.tx0 (F39c_11 c2 c4) [(4,(.p 2 0)),(6,(.p 3 0)),(8,(.p 5 0)),(50,(.v (.bool true)))] (by kernel_rfl) ⟨RG.ld u33 i33 (by kernel_rfl),RG.ld u33 i33 (by kernel_rfl),RG.cert_bin rfl .eql 54 54 48 49 (fv c2) (fv c4) (.bool true) rfl rfl (RG.sx fun _=>by kernel_rfl) (RG.sx fun _=>by kernel_rfl) (fun w=>by kernel_rfl) (eqR_t C.toFld (by subst_vars;exact hv)),trivial⟩ ?_
 intro a10 w10 M10
 repeat refine wp_seq ?_
 refine wp_cond_true (M10.ev (by kernel_rfl)) ?_
 repeat refine wp_seq ?_
 refine M10.tx0 (F39c_12 c1 c3) [(4,(.p 2 0)),(57,(.v (.bool true)))] (by kernel_rfl) ⟨RG.ld u33 i33 (by kernel_rfl),RG.ld u33 i33 (by kernel_rfl),RG.cert_bin rfl .neq 54 54 51 52 (fv c1) (fv c3) (.bool true) rfl rfl (RG.sx fun _=>by kernel_rfl) (RG.sx fun _=>by kernel_rfl) (fun w=>by kernel_rfl) (neR_t C.toFld (by subst_vars;exact hu)),RG.st fun _ _=>by kernel_rfl,RG.cert_pass rfl rfl,RG.cert_pass rfl rfl,RG.st fun _ _=>by kernel_rfl,trivial⟩ ?_
 intro a11 w11 M11
 repeat refine wp_seq ?_
 refine wp_cond_true (M11.ev (by kernel_rfl)) ?_
 repeat refine wp_seq ?_
 refine M11.tx (F39c_13 (P:=P)) [] [(2,1,(ws (0:Fin P)++(ws (1:Fin P)++(ws (0:Fin P)))))] [(ws x1++(ws y1++(ws z1))),(ws x2++(ws y2++(ws z2))),(ws (0:Fin P)++(ws (1:Fin P)++(ws (0:Fin P)))),(ws c1),(ws c2),(ws c3),(ws c4)] [(4,(.p 2 0))] (by kernel_rfl) (by kernel_rfl) ⟨RG.cl (None_c C) fun _ _=>by kernel_rfl,RG.pt i56 (by kernel_rfl),trivial⟩ ?_
 intro a12 w12 M12
 refine wp_ret ?_
 refine bodyPost_ret (v:=(rv (0:Fin P) (1:Fin P) (0:Fin P))) (RG.results_row M12.st 4 56 rfl 2 _ rfl (M12.at (s:=(.p 2 0)) (by kernel_rfl)) u56 i56) M12.sl.defers ?_
 exact ⟨_,rfl,M12.st.bel.below,rfl⟩
def F39d_0:List RG.It:=[.m 2 [] 0,.m 3 [] 1,.m 4 [] 2]
def F39d_1 (x1 y1 z1:Fin P):List RG.It:=[.x 16 [] (rv x1 y1 z1),.c 17 [(16,0)] (.bool false),.x 5 [(17,1)] (.bool false)]
def F39d_2:List RG.It:=[.x 18 [] (.bool false)]
def F39d_4 (x2 y2 z2:Fin P):List RG.It:=[.x 20 [] (rv x2 y2 z2),.c 21 [(20,0)] (.bool false),.x 5 [(21,1)] (.bool false)]
def F39d_5:List RG.It:=[.x 22 [] (.bool false)]
def F39d_7 (z1 y2 c1:Fin P):List RG.It:=[.c 24 [] rv0,.s 25 [] (.p 1 4),.x 26 [(25,1)] (fv y2),.s 27 [] (.p 0 8),.x 28 [(27,3)] (fv z1),.c 29 [(24,0),(26,2),(28,4)] (fv c1),.m 6 [] 3,.u [(6,6),(29,5)] 3]
def F39d_8 (z1 x2 c2:Fin P):List RG.It:=[.c 30 [] rv0,.s 31 [] (.p 1 0),.x 32 [(31,1)] (fv x2),.s 33 [] (.p 0 8),.x 34 [(33,3)] (fv z1),.c 35 [(30,0),(32,2),(34,4)] (fv c2),.m 7 [] 4,.u [(7,6),(35,5)] 4]
def F39d_9 (y1 z2 c3:Fin P):List RG.It:=[.c 36 [] rv0,.s 37 [] (.p 0 4),.x 38 [(37,1)] (fv y1),.s 39 [] (.p 1 8),.x 40 [(39,3)] (fv z2),.c 41 [(36,0),(38,2),(40,4)] (fv c3),.m 8 [] 5,.u [(8,6),(41,5)] 5]
def F39d_10 (x1 z2 c4:Fin P):List RG.It:=[.c 42 [] rv0,.s 43 [] (.p 0 0),.x 44 [(43,1)] (fv x1),.s 45 [] (.p 1 8),.x 46 [(45,3)] (fv z2),.c 47 [(42,0),(44,2),(46,4)] (fv c4),.m 9 [] 6,.u [(9,6),(47,5)] 6]
def F39d_11 (c2 c4:Fin P):List RG.It:=[.x 48 [] (fv c2),.x 49 [] (fv c4),.x 50 [(48,0),(49,1)] (.bool true)]
def F39d_12 (c1 c3:Fin P):List RG.It:=[.x 51 [] (fv c1),.x 52 [] (fv c3),.x 53 [(51,0),(52,1)] (.bool false),.x 54 [(53,2)] (.bool false),.x 55 [] (fv c1),.c 56 [(55,4)] (.bool false),.x 57 [(54,3),(56,5)] (.bool false)]
def F39d_14 (x1 y1 z1 c5 c6 c7:Fin P):List RG.It:=[.x 59 [] (rv x1 y1 z1),.c 60 [(59,0)] (rv c5 c6 c7),.u [(60,1)] 2]
set_option maxHeartbeats 2000000 in
set_option maxRecDepth 100000 in
theorem rPlus_d_c (C:Fl3 P) (x1 y1 z1 x2 y2 z2:Fin P)(hz1:¬ z1=0) (hz2:¬ z2=0) (hv:x2*z1=x1*z2) (hu:y2*z1=y1*z2) (hn:¬ y2*z1=0) :Gives 54 #[(rv x1 y1 z1),(rv x2 y2 z2)] (rv ((EC.fdE y1 z1)*(EC.fdT x1 y1 z1)) ((EC.fdD x1)*(x1*((EC.fdE y1 z1)*(EC.fdE y1 z1)) - (EC.fdT x1 y1 z1)) - y1*((EC.fdE y1 z1)*(EC.fdE y1 z1)*(EC.fdE y1 z1))) ((EC.fdE y1 z1)*(EC.fdE y1 z1)*(EC.fdE y1 z1)*z1)):=by
 intro w
 obtain ⟨c1,hc1⟩:∃ c,c=y2*z1:=⟨_,rfl⟩
 obtain ⟨c2,hc2⟩:∃ c,c=x2*z1:=⟨_,rfl⟩
 obtain ⟨c3,hc3⟩:∃ c,c=y1*z2:=⟨_,rfl⟩
 obtain ⟨c4,hc4⟩:∃ c,c=x1*z2:=⟨_,rfl⟩
 obtain ⟨c5,hc5⟩:∃ c,c=(EC.fdE y1 z1)*(EC.fdT x1 y1 z1):=⟨_,rfl⟩
 obtain ⟨c6,hc6⟩:∃ c,c=(EC.fdD x1)*(x1*((EC.fdE y1 z1)*(EC.fdE y1 z1)) - (EC.fdT x1 y1 z1)) - y1*((EC.fdE y1 z1)*(EC.fdE y1 z1)*(EC.fdE y1 z1)):=⟨_,rfl⟩
 obtain ⟨c7,hc7⟩:∃ c,c=(EC.fdE y1 z1)*(EC.fdE y1 z1)*(EC.fdE y1 z1)*z1:=⟨_,rfl⟩
 have hfin:((rv c5 c6 c7):Value)=(rv ((EC.fdE y1 z1)*(EC.fdT x1 y1 z1)) ((EC.fdD x1)*(x1*((EC.fdE y1 z1)*(EC.fdE y1 z1)) - (EC.fdT x1 y1 z1)) - y1*((EC.fdE y1 z1)*(EC.fdE y1 z1)*(EC.fdE y1 z1))) ((EC.fdE y1 z1)*(EC.fdE y1 z1)*(EC.fdE y1 z1)*z1)):=by
  subst_vars;rfl
 rw [← hfin]
 go_enter Tryz.func54,Tryz.ntmps54
 refine RG.M.enter [(0,(.v (rv x1 y1 z1))),(1,(.v (rv x2 y2 z2)))] 127 (by kernel_rfl) ?_
 intro a0 M0
 repeat refine wp_seq ?_
 refine M0.tx F39d_0 [(0,(ws x1++(ws y1++(ws z1)))),(1,(ws x2++(ws y2++(ws z2)))),(2,(RG.z 12))] [] [(ws x1++(ws y1++(ws z1))),(ws x2++(ws y2++(ws z2))),(RG.z 12)] [(2,(.p 0 0)),(3,(.p 1 0)),(4,(.p 2 0))] (by kernel_rfl) (by kernel_rfl) ⟨RG.mk 0 56 fun _ _=>by kernel_rfl,RG.mk 1 56 fun _ _=>by kernel_rfl,RG.mk 2 56 fun _ _=>by kernel_rfl,trivial⟩ ?_
 intro j1 i1 m1 a1 w1 M1
 repeat refine wp_seq ?_
 refine M1.tx0 (F39d_1 x1 y1 z1) [(2,(.p 0 0)),(3,(.p 1 0)),(4,(.p 2 0)),(5,(.v (.bool false)))] (by kernel_rfl) ⟨RG.ld u56 i56 (by kernel_rfl),RG.cl (Is_f_c C x1 y1 z1 hz1) fun _ _=>by kernel_rfl,RG.st fun _ _=>by kernel_rfl,trivial⟩ ?_
 intro a2 w2 M2
 repeat refine wp_seq ?_
 refine M2.tx0 F39d_2 [(2,(.p 0 0)),(3,(.p 1 0)),(4,(.p 2 0)),(5,(.v (.bool false))),(18,(.v (.bool false)))] (by kernel_rfl) ⟨RG.st fun _ _=>by kernel_rfl,trivial⟩ ?_
 intro a3 w3 M3
 repeat refine wp_seq ?_
 refine wp_cond_false (M3.ev (by kernel_rfl)) ?_
 refine wp_skip ?_
 repeat refine wp_seq ?_
 refine M3.tx0 (F39d_4 x2 y2 z2) [(2,(.p 0 0)),(3,(.p 1 0)),(4,(.p 2 0)),(5,(.v (.bool false)))] (by kernel_rfl) ⟨RG.ld u56 i56 (by kernel_rfl),RG.cl (Is_f_c C x2 y2 z2 hz2) fun _ _=>by kernel_rfl,RG.st fun _ _=>by kernel_rfl,trivial⟩ ?_
 intro a4 w4 M4
 repeat refine wp_seq ?_
 refine M4.tx0 F39d_5 [(2,(.p 0 0)),(3,(.p 1 0)),(4,(.p 2 0)),(22,(.v (.bool false)))] (by kernel_rfl) ⟨RG.st fun _ _=>by kernel_rfl,trivial⟩ ?_
 intro a5 w5 M5
 repeat refine wp_seq ?_
 refine wp_cond_false (M5.ev (by kernel_rfl)) ?_
 refine wp_skip ?_
 repeat refine wp_seq ?_
 refine M5.dr (by kernel_rfl) (F39d_7 z1 y2 c1) [(6,(RG.z 4))] [(3,7,(ws c1))] [(ws x1++(ws y1++(ws z1))),(ws x2++(ws y2++(ws z2))),(RG.z 12),(ws c1)] [(2,(.p 0 0)),(3,(.p 1 0)),(4,(.p 2 0)),(6,(.p 3 0))] (by kernel_rfl) (by kernel_rfl) ⟨RG.cl (F3_c) fun _ _=>by kernel_rfl,RG.st fun _ _=>by kernel_rfl,RG.ld u33 i33 (by kernel_rfl),RG.st fun _ _=>by kernel_rfl,RG.ld u33 i33 (by kernel_rfl),RG.cl ((rMul_c C y2 z1).e hc1) fun _ _=>by kernel_rfl,RG.mk 3 54 fun _ _=>by kernel_rfl,RG.pt i33 (by kernel_rfl),trivial⟩ ?_
 intro j6 a6 w6 M6
 repeat refine wp_seq ?_
 refine M6.dr (by kernel_rfl) (F39d_8 z1 x2 c2) [(6,(RG.z 4))] [(4,7,(ws c2))] [(ws x1++(ws y1++(ws z1))),(ws x2++(ws y2++(ws z2))),(RG.z 12),(ws c1),(ws c2)] [(2,(.p 0 0)),(3,(.p 1 0)),(4,(.p 2 0)),(6,(.p 3 0)),(7,(.p 4 0))] (by kernel_rfl) (by kernel_rfl) ⟨RG.cl (F3_c) fun _ _=>by kernel_rfl,RG.st fun _ _=>by kernel_rfl,RG.ld u33 i33 (by kernel_rfl),RG.st fun _ _=>by kernel_rfl,RG.ld u33 i33 (by kernel_rfl),RG.cl ((rMul_c C x2 z1).e hc2) fun _ _=>by kernel_rfl,RG.mk 4 54 fun _ _=>by kernel_rfl,RG.pt i33 (by kernel_rfl),trivial⟩ ?_
 intro j7 a7 w7 M7
 repeat refine wp_seq ?_
 refine M7.dr (by kernel_rfl) (F39d_9 y1 z2 c3) [(6,(RG.z 4))] [(5,7,(ws c3))] [(ws x1++(ws y1++(ws z1))),(ws x2++(ws y2++(ws z2))),(RG.z 12),(ws c1),(ws c2),(ws c3)] [(2,(.p 0 0)),(3,(.p 1 0)),(4,(.p 2 0)),(6,(.p 3 0)),(7,(.p 4 0)),(8,(.p 5 0))] (by kernel_rfl) (by kernel_rfl) ⟨RG.cl (F3_c) fun _ _=>by kernel_rfl,RG.st fun _ _=>by kernel_rfl,RG.ld u33 i33 (by kernel_rfl),RG.st fun _ _=>by kernel_rfl,RG.ld u33 i33 (by kernel_rfl),RG.cl ((rMul_c C y1 z2).e hc3) fun _ _=>by kernel_rfl,RG.mk 5 54 fun _ _=>by kernel_rfl,RG.pt i33 (by kernel_rfl),trivial⟩ ?_
 intro j8 a8 w8 M8
 repeat refine wp_seq ?_
 refine M8.dr (by kernel_rfl) (F39d_10 x1 z2 c4) [(6,(RG.z 4))] [(6,7,(ws c4))] [(ws x1++(ws y1++(ws z1))),(ws x2++(ws y2++(ws z2))),(RG.z 12),(ws c1),(ws c2),(ws c3),(ws c4)] [(2,(.p 0 0)),(4,(.p 2 0)),(6,(.p 3 0)),(7,(.p 4 0)),(8,(.p 5 0)),(9,(.p 6 0))] (by kernel_rfl) (by kernel_rfl) ⟨RG.cl (F3_c) fun _ _=>by kernel_rfl,RG.st fun _ _=>by kernel_rfl,RG.ld u33 i33 (by kernel_rfl),RG.st fun _ _=>by kernel_rfl,RG.ld u33 i33 (by kernel_rfl),RG.cl ((rMul_c C x1 z2).e hc4) fun _ _=>by kernel_rfl,RG.mk 6 54 fun _ _=>by kernel_rfl,RG.pt i33 (by kernel_rfl),trivial⟩ ?_
 intro j9 a9 w9 M9
 repeat refine wp_seq ?_
 refine M9.tx0 (F39d_11 c2 c4) [(2,(.p 0 0)),(4,(.p 2 0)),(6,(.p 3 0)),(8,(.p 5 0)),(50,(.v (.bool true)))] (by kernel_rfl) ⟨RG.ld u33 i33 (by kernel_rfl),RG.ld u33 i33 (by kernel_rfl),RG.cert_bin rfl .eql 54 54 48 49 (fv c2) (fv c4) (.bool true) rfl rfl (RG.sx fun _=>by kernel_rfl) (RG.sx fun _=>by kernel_rfl) (fun w=>by kernel_rfl) (eqR_t C.toFld (by subst_vars;exact hv)),trivial⟩ ?_
 intro a10 w10 M10
 repeat refine wp_seq ?_
 refine wp_cond_true (M10.ev (by kernel_rfl)) ?_
 repeat refine wp_seq ?_
 refine M10.tx0 (F39d_12 c1 c3) [(2,(.p 0 0)),(4,(.p 2 0)),(57,(.v (.bool false)))] (by kernel_rfl) ⟨RG.ld u33 i33 (by kernel_rfl),RG.ld u33 i33 (by kernel_rfl),RG.cert_bin rfl .neq 54 54 51 52 (fv c1) (fv c3) (.bool false) rfl rfl (RG.sx fun _=>by kernel_rfl) (RG.sx fun _=>by kernel_rfl) (fun w=>by kernel_rfl) (neR_f C.toFld (by subst_vars;exact hu)),RG.st fun _ _=>by kernel_rfl,RG.ld u33 i33 (by kernel_rfl),RG.cl (f:=140) (args:=#[(fv c1)]) (v:=(.bool false)) (rZero_f C (by subst_vars;exact hn)) fun _ _=>by kernel_rfl,RG.st fun _ _=>by kernel_rfl,trivial⟩ ?_
 intro a11 w11 M11
 repeat refine wp_seq ?_
 refine wp_cond_false (M11.ev (by kernel_rfl)) ?_
 refine wp_skip ?_
 repeat refine wp_seq ?_
 refine M11.tx (F39d_14 x1 y1 z1 c5 c6 c7) [] [(2,2,(ws c5++(ws c6++(ws c7))))] [(ws x1++(ws y1++(ws z1))),(ws x2++(ws y2++(ws z2))),(ws c5++(ws c6++(ws c7))),(ws c1),(ws c2),(ws c3),(ws c4)] [(4,(.p 2 0))] (by kernel_rfl) (by kernel_rfl) ⟨RG.ld u56 i56 (by kernel_rfl),RG.cl ((rdouble_c C x1 y1 z1).e3 hc5 hc6 hc7) fun _ _=>by kernel_rfl,RG.pt i56 (by kernel_rfl),trivial⟩ ?_
 intro a12 w12 M12
 refine wp_ret ?_
 refine bodyPost_ret (v:=(rv c5 c6 c7)) (RG.results_row M12.st 4 56 rfl 2 _ rfl (M12.at (s:=(.p 2 0)) (by kernel_rfl)) u56 i56) M12.sl.defers ?_
 exact ⟨_,rfl,M12.st.bel.below,rfl⟩
def F39e_0:List RG.It:=[.m 2 [] 0,.m 3 [] 1,.m 4 [] 2]
def F39e_1 (x1 y1 z1:Fin P):List RG.It:=[.x 16 [] (rv x1 y1 z1),.c 17 [(16,0)] (.bool false),.x 5 [(17,1)] (.bool false)]
def F39e_2:List RG.It:=[.x 18 [] (.bool false)]
def F39e_4 (x2 y2 z2:Fin P):List RG.It:=[.x 20 [] (rv x2 y2 z2),.c 21 [(20,0)] (.bool false),.x 5 [(21,1)] (.bool false)]
def F39e_5:List RG.It:=[.x 22 [] (.bool false)]
def F39e_7 (z1 y2 c1:Fin P):List RG.It:=[.c 24 [] rv0,.s 25 [] (.p 1 4),.x 26 [(25,1)] (fv y2),.s 27 [] (.p 0 8),.x 28 [(27,3)] (fv z1),.c 29 [(24,0),(26,2),(28,4)] (fv c1),.m 6 [] 3,.u [(6,6),(29,5)] 3]
def F39e_8 (z1 x2 c2:Fin P):List RG.It:=[.c 30 [] rv0,.s 31 [] (.p 1 0),.x 32 [(31,1)] (fv x2),.s 33 [] (.p 0 8),.x 34 [(33,3)] (fv z1),.c 35 [(30,0),(32,2),(34,4)] (fv c2),.m 7 [] 4,.u [(7,6),(35,5)] 4]
def F39e_9 (y1 z2 c3:Fin P):List RG.It:=[.c 36 [] rv0,.s 37 [] (.p 0 4),.x 38 [(37,1)] (fv y1),.s 39 [] (.p 1 8),.x 40 [(39,3)] (fv z2),.c 41 [(36,0),(38,2),(40,4)] (fv c3),.m 8 [] 5,.u [(8,6),(41,5)] 5]
def F39e_10 (x1 z2 c4:Fin P):List RG.It:=[.c 42 [] rv0,.s 43 [] (.p 0 0),.x 44 [(43,1)] (fv x1),.s 45 [] (.p 1 8),.x 46 [(45,3)] (fv z2),.c 47 [(42,0),(44,2),(46,4)] (fv c4),.m 9 [] 6,.u [(9,6),(47,5)] 6]
def F39e_11 (c2 c4:Fin P):List RG.It:=[.x 48 [] (fv c2),.x 49 [] (fv c4),.x 50 [(48,0),(49,1)] (.bool false)]
def F39e_15 (c1 c3 c5:Fin P):List RG.It:=[.c 61 [] rv0,.x 62 [] (fv c1),.x 63 [] (fv c3),.c 64 [(61,0),(62,1),(63,2)] (fv c5),.m 10 [] 7,.u [(10,4),(64,3)] 7]
def F39e_16 (c2 c4 c6:Fin P):List RG.It:=[.c 65 [] rv0,.x 66 [] (fv c2),.x 67 [] (fv c4),.c 68 [(65,0),(66,1),(67,2)] (fv c6),.m 11 [] 8,.u [(11,4),(68,3)] 8]
def F39e_17 (z1 z2 c7:Fin P):List RG.It:=[.c 69 [] rv0,.s 70 [] (.p 0 8),.x 71 [(70,1)] (fv z1),.s 72 [] (.p 1 8),.x 73 [(72,3)] (fv z2),.c 74 [(69,0),(71,2),(73,4)] (fv c7),.m 12 [] 9,.u [(12,6),(74,5)] 9]
def F39e_18 (c6 c8:Fin P):List RG.It:=[.c 75 [] rv0,.x 76 [] (fv c6),.x 77 [] (fv c6),.c 78 [(75,0),(76,1),(77,2)] (fv c8),.m 13 [] 10,.u [(13,4),(78,3)] 10]
def F39e_19 (c6 c8 c9:Fin P):List RG.It:=[.c 79 [] rv0,.x 80 [] (fv c8),.x 81 [] (fv c6),.c 82 [(79,0),(80,1),(81,2)] (fv c9),.m 14 [] 11,.u [(14,4),(82,3)] 11]
def F39e_20 (c4 c5 c7 c8 c9 c10 c11 c12 c13 c14 c15:Fin P):List RG.It:=[.c 83 [] rv0,.c 84 [] rv0,.c 85 [] rv0,.c 86 [] rv0,.x 87 [] (fv c5),.x 88 [] (fv c5),.c 89 [(86,3),(87,4),(88,5)] (fv c10),.x 90 [] (fv c7),.c 91 [(85,2),(89,6),(90,7)] (fv c11),.x 92 [] (fv c9),.c 93 [(84,1),(91,8),(92,9)] (fv c12),.c 94 [] rv0,.c 95 [] rv0,.x 96 [] (fv c4),.x 97 [] (fv c4),.c 98 [(95,12),(96,13),(97,14)] (fv c13),.x 99 [] (fv c8),.c 100 [(94,11),(98,15),(99,16)] (fv c14),.c 101 [(83,0),(93,10),(100,17)] (fv c15),.m 15 [] 12,.u [(15,19),(101,18)] 12]
def F39e_21 (c3 c4 c5 c6 c7 c8 c9 c15 c16 c17 c18 c19 c20 c21 c22:Fin P):List RG.It:=[.c 102 [] rv0,.x 103 [] (fv c6),.x 104 [] (fv c15),.c 105 [(102,0),(103,1),(104,2)] (fv c16),.c 106 [] rv0,.c 107 [] rv0,.x 108 [] (fv c5),.c 109 [] rv0,.c 110 [] rv0,.x 111 [] (fv c4),.x 112 [] (fv c8),.c 113 [(110,8),(111,9),(112,10)] (fv c17),.x 114 [] (fv c15),.c 115 [(109,7),(113,11),(114,12)] (fv c18),.c 116 [(107,5),(108,6),(115,13)] (fv c19),.c 117 [] rv0,.x 118 [] (fv c3),.x 119 [] (fv c9),.c 120 [(117,15),(118,16),(119,17)] (fv c20),.c 121 [(106,4),(116,14),(120,18)] (fv c21),.c 122 [] rv0,.x 123 [] (fv c9),.x 124 [] (fv c7),.c 125 [(122,20),(123,21),(124,22)] (fv c22),.x 126 [(105,3),(121,19),(125,23)] (rv c16 c21 c22),.u [(126,24)] 2]
set_option maxHeartbeats 2000000 in
set_option maxRecDepth 100000 in
theorem rPlus_e_c (C:Fl3 P) (x1 y1 z1 x2 y2 z2:Fin P)(hz1:¬ z1=0) (hz2:¬ z2=0) (hv:¬ x2*z1=x1*z2) :Gives 54 #[(rv x1 y1 z1),(rv x2 y2 z2)] (rv ((x2*z1 - x1*z2)*EC.frT (y2*z1 - y1*z2) (x2*z1 - x1*z2) (z1*z2) (x1*z2)) ((y2*z1 - y1*z2)*(x1*z2*((x2*z1 - x1*z2)*(x2*z1 - x1*z2)) - EC.frT (y2*z1 - y1*z2) (x2*z1 - x1*z2) (z1*z2) (x1*z2)) - y1*z2*((x2*z1 - x1*z2)*(x2*z1 - x1*z2)*(x2*z1 - x1*z2))) ((x2*z1 - x1*z2)*(x2*z1 - x1*z2)*(x2*z1 - x1*z2)*(z1*z2))):=by
 intro w
 obtain ⟨c1,hc1⟩:∃ c,c=y2*z1:=⟨_,rfl⟩
 obtain ⟨c2,hc2⟩:∃ c,c=x2*z1:=⟨_,rfl⟩
 obtain ⟨c3,hc3⟩:∃ c,c=y1*z2:=⟨_,rfl⟩
 obtain ⟨c4,hc4⟩:∃ c,c=x1*z2:=⟨_,rfl⟩
 obtain ⟨c5,hc5⟩:∃ c,c=c1 - c3:=⟨_,rfl⟩
 obtain ⟨c6,hc6⟩:∃ c,c=c2 - c4:=⟨_,rfl⟩
 obtain ⟨c7,hc7⟩:∃ c,c=z1*z2:=⟨_,rfl⟩
 obtain ⟨c8,hc8⟩:∃ c,c=c6*c6:=⟨_,rfl⟩
 obtain ⟨c9,hc9⟩:∃ c,c=c8*c6:=⟨_,rfl⟩
 obtain ⟨c10,hc10⟩:∃ c,c=c5*c5:=⟨_,rfl⟩
 obtain ⟨c11,hc11⟩:∃ c,c=c10*c7:=⟨_,rfl⟩
 obtain ⟨c12,hc12⟩:∃ c,c=c11 - c9:=⟨_,rfl⟩
 obtain ⟨c13,hc13⟩:∃ c,c=c4+c4:=⟨_,rfl⟩
 obtain ⟨c14,hc14⟩:∃ c,c=c13*c8:=⟨_,rfl⟩
 obtain ⟨c15,hc15⟩:∃ c,c=c12 - c14:=⟨_,rfl⟩
 obtain ⟨c16,hc16⟩:∃ c,c=c6*c15:=⟨_,rfl⟩
 obtain ⟨c17,hc17⟩:∃ c,c=c4*c8:=⟨_,rfl⟩
 obtain ⟨c18,hc18⟩:∃ c,c=c17 - c15:=⟨_,rfl⟩
 obtain ⟨c19,hc19⟩:∃ c,c=c5*c18:=⟨_,rfl⟩
 obtain ⟨c20,hc20⟩:∃ c,c=c3*c9:=⟨_,rfl⟩
 obtain ⟨c21,hc21⟩:∃ c,c=c19 - c20:=⟨_,rfl⟩
 obtain ⟨c22,hc22⟩:∃ c,c=c9*c7:=⟨_,rfl⟩
 have hfin:((rv c16 c21 c22):Value)=(rv ((x2*z1 - x1*z2)*EC.frT (y2*z1 - y1*z2) (x2*z1 - x1*z2) (z1*z2) (x1*z2)) ((y2*z1 - y1*z2)*(x1*z2*((x2*z1 - x1*z2)*(x2*z1 - x1*z2)) - EC.frT (y2*z1 - y1*z2) (x2*z1 - x1*z2) (z1*z2) (x1*z2)) - y1*z2*((x2*z1 - x1*z2)*(x2*z1 - x1*z2)*(x2*z1 - x1*z2))) ((x2*z1 - x1*z2)*(x2*z1 - x1*z2)*(x2*z1 - x1*z2)*(z1*z2))):=by
  subst_vars;rfl
 rw [← hfin]
 go_enter Tryz.func54,Tryz.ntmps54
 refine RG.M.enter [(0,(.v (rv x1 y1 z1))),(1,(.v (rv x2 y2 z2)))] 127 (by kernel_rfl) ?_
 intro a0 M0
 repeat refine wp_seq ?_
 refine M0.tx F39e_0 [(0,(ws x1++(ws y1++(ws z1)))),(1,(ws x2++(ws y2++(ws z2)))),(2,(RG.z 12))] [] [(ws x1++(ws y1++(ws z1))),(ws x2++(ws y2++(ws z2))),(RG.z 12)] [(2,(.p 0 0)),(3,(.p 1 0)),(4,(.p 2 0))] (by kernel_rfl) (by kernel_rfl) ⟨RG.mk 0 56 fun _ _=>by kernel_rfl,RG.mk 1 56 fun _ _=>by kernel_rfl,RG.mk 2 56 fun _ _=>by kernel_rfl,trivial⟩ ?_
 intro j1 i1 m1 a1 w1 M1
 repeat refine wp_seq ?_
 refine M1.tx0 (F39e_1 x1 y1 z1) [(2,(.p 0 0)),(3,(.p 1 0)),(4,(.p 2 0)),(5,(.v (.bool false)))] (by kernel_rfl) ⟨RG.ld u56 i56 (by kernel_rfl),RG.cl (Is_f_c C x1 y1 z1 hz1) fun _ _=>by kernel_rfl,RG.st fun _ _=>by kernel_rfl,trivial⟩ ?_
 intro a2 w2 M2
 repeat refine wp_seq ?_
 refine M2.tx0 F39e_2 [(2,(.p 0 0)),(3,(.p 1 0)),(4,(.p 2 0)),(5,(.v (.bool false))),(18,(.v (.bool false)))] (by kernel_rfl) ⟨RG.st fun _ _=>by kernel_rfl,trivial⟩ ?_
 intro a3 w3 M3
 repeat refine wp_seq ?_
 refine wp_cond_false (M3.ev (by kernel_rfl)) ?_
 refine wp_skip ?_
 repeat refine wp_seq ?_
 refine M3.tx0 (F39e_4 x2 y2 z2) [(2,(.p 0 0)),(3,(.p 1 0)),(4,(.p 2 0)),(5,(.v (.bool false)))] (by kernel_rfl) ⟨RG.ld u56 i56 (by kernel_rfl),RG.cl (Is_f_c C x2 y2 z2 hz2) fun _ _=>by kernel_rfl,RG.st fun _ _=>by kernel_rfl,trivial⟩ ?_
 intro a4 w4 M4
 repeat refine wp_seq ?_
 refine M4.tx0 F39e_5 [(2,(.p 0 0)),(3,(.p 1 0)),(4,(.p 2 0)),(22,(.v (.bool false)))] (by kernel_rfl) ⟨RG.st fun _ _=>by kernel_rfl,trivial⟩ ?_
 intro a5 w5 M5
 repeat refine wp_seq ?_
 refine wp_cond_false (M5.ev (by kernel_rfl)) ?_
 refine wp_skip ?_
 repeat refine wp_seq ?_
 refine M5.dr (by kernel_rfl) (F39e_7 z1 y2 c1) [(6,(RG.z 4))] [(3,7,(ws c1))] [(ws x1++(ws y1++(ws z1))),(ws x2++(ws y2++(ws z2))),(RG.z 12),(ws c1)] [(2,(.p 0 0)),(3,(.p 1 0)),(4,(.p 2 0)),(6,(.p 3 0))] (by kernel_rfl) (by kernel_rfl) ⟨RG.cl (F3_c) fun _ _=>by kernel_rfl,RG.st fun _ _=>by kernel_rfl,RG.ld u33 i33 (by kernel_rfl),RG.st fun _ _=>by kernel_rfl,RG.ld u33 i33 (by kernel_rfl),RG.cl ((rMul_c C y2 z1).e hc1) fun _ _=>by kernel_rfl,RG.mk 3 54 fun _ _=>by kernel_rfl,RG.pt i33 (by kernel_rfl),trivial⟩ ?_
 intro j6 a6 w6 M6
 repeat refine wp_seq ?_
 refine M6.dr (by kernel_rfl) (F39e_8 z1 x2 c2) [(6,(RG.z 4))] [(4,7,(ws c2))] [(ws x1++(ws y1++(ws z1))),(ws x2++(ws y2++(ws z2))),(RG.z 12),(ws c1),(ws c2)] [(2,(.p 0 0)),(3,(.p 1 0)),(4,(.p 2 0)),(6,(.p 3 0)),(7,(.p 4 0))] (by kernel_rfl) (by kernel_rfl) ⟨RG.cl (F3_c) fun _ _=>by kernel_rfl,RG.st fun _ _=>by kernel_rfl,RG.ld u33 i33 (by kernel_rfl),RG.st fun _ _=>by kernel_rfl,RG.ld u33 i33 (by kernel_rfl),RG.cl ((rMul_c C x2 z1).e hc2) fun _ _=>by kernel_rfl,RG.mk 4 54 fun _ _=>by kernel_rfl,RG.pt i33 (by kernel_rfl),trivial⟩ ?_
 intro j7 a7 w7 M7
 repeat refine wp_seq ?_
 refine M7.dr (by kernel_rfl) (F39e_9 y1 z2 c3) [(6,(RG.z 4))] [(5,7,(ws c3))] [(ws x1++(ws y1++(ws z1))),(ws x2++(ws y2++(ws z2))),(RG.z 12),(ws c1),(ws c2),(ws c3)] [(2,(.p 0 0)),(3,(.p 1 0)),(4,(.p 2 0)),(6,(.p 3 0)),(7,(.p 4 0)),(8,(.p 5 0))] (by kernel_rfl) (by kernel_rfl) ⟨RG.cl (F3_c) fun _ _=>by kernel_rfl,RG.st fun _ _=>by kernel_rfl,RG.ld u33 i33 (by kernel_rfl),RG.st fun _ _=>by kernel_rfl,RG.ld u33 i33 (by kernel_rfl),RG.cl ((rMul_c C y1 z2).e hc3) fun _ _=>by kernel_rfl,RG.mk 5 54 fun _ _=>by kernel_rfl,RG.pt i33 (by kernel_rfl),trivial⟩ ?_
 intro j8 a8 w8 M8
 repeat refine wp_seq ?_
 refine M8.dr (by kernel_rfl) (F39e_10 x1 z2 c4) [(6,(RG.z 4))] [(6,7,(ws c4))] [(ws x1++(ws y1++(ws z1))),(ws x2++(ws y2++(ws z2))),(RG.z 12),(ws c1),(ws c2),(ws c3),(ws c4)] [(2,(.p 0 0)),(3,(.p 1 0)),(4,(.p 2 0)),(6,(.p 3 0)),(7,(.p 4 0)),(8,(.p 5 0)),(9,(.p 6 0))] (by kernel_rfl) (by kernel_rfl) ⟨RG.cl (F3_c) fun _ _=>by kernel_rfl,RG.st fun _ _=>by kernel_rfl,RG.ld u33 i33 (by kernel_rfl),RG.st fun _ _=>by kernel_rfl,RG.ld u33 i33 (by kernel_rfl),RG.cl ((rMul_c C x1 z2).e hc4) fun _ _=>by kernel_rfl,RG.mk 6 54 fun _ _=>by kernel_rfl,RG.pt i33 (by kernel_rfl),trivial⟩ ?_
 intro j9 a9 w9 M9
 repeat refine wp_seq ?_
 refine M9.tx0 (F39e_11 c2 c4) [(2,(.p 0 0)),(3,(.p 1 0)),(4,(.p 2 0)),(6,(.p 3 0)),(7,(.p 4 0)),(8,(.p 5 0)),(9,(.p 6 0)),(50,(.v (.bool false)))] (by kernel_rfl) ⟨RG.ld u33 i33 (by kernel_rfl),RG.ld u33 i33 (by kernel_rfl),RG.cert_bin rfl .eql 54 54 48 49 (fv c2) (fv c4) (.bool false) rfl rfl (RG.sx fun _=>by kernel_rfl) (RG.sx fun _=>by kernel_rfl) (fun w=>by kernel_rfl) (eqR_f C.toFld (by subst_vars;exact hv)),trivial⟩ ?_
 intro a10 w10 M10
 repeat refine wp_seq ?_
 refine wp_cond_false (M10.ev (by kernel_rfl)) ?_
 refine wp_skip ?_
 repeat refine wp_seq ?_
 refine M10.dr (by kernel_rfl) (F39e_15 c1 c3 c5) [(4,(RG.z 4))] [(7,5,(ws c5))] [(ws x1++(ws y1++(ws z1))),(ws x2++(ws y2++(ws z2))),(RG.z 12),(ws c1),(ws c2),(ws c3),(ws c4),(ws c5)] [(2,(.p 0 0)),(3,(.p 1 0)),(4,(.p 2 0)),(7,(.p 4 0)),(8,(.p 5 0)),(9,(.p 6 0)),(10,(.p 7 0))] (by kernel_rfl) (by kernel_rfl) ⟨RG.cl (F3_c) fun _ _=>by kernel_rfl,RG.ld u33 i33 (by kernel_rfl),RG.ld u33 i33 (by kernel_rfl),RG.cl ((rSub_c C c1 c3).e hc5) fun _ _=>by kernel_rfl,RG.mk 7 54 fun _ _=>by kernel_rfl,RG.pt i33 (by kernel_rfl),trivial⟩ ?_
 intro j11 a11 w11 M11
 repeat refine wp_seq ?_
 refine M11.dr (by kernel_rfl) (F39e_16 c2 c4 c6) [(4,(RG.z 4))] [(8,5,(ws c6))] [(ws x1++(ws y1++(ws z1))),(ws x2++(ws y2++(ws z2))),(RG.z 12),(ws c1),(ws c2),(ws c3),(ws c4),(ws c5),(ws c6)] [(2,(.p 0 0)),(3,(.p 1 0)),(4,(.p 2 0)),(8,(.p 5 0)),(9,(.p 6 0)),(10,(.p 7 0)),(11,(.p 8 0))] (by kernel_rfl) (by kernel_rfl) ⟨RG.cl (F3_c) fun _ _=>by kernel_rfl,RG.ld u33 i33 (by kernel_rfl),RG.ld u33 i33 (by kernel_rfl),RG.cl ((rSub_c C c2 c4).e hc6) fun _ _=>by kernel_rfl,RG.mk 8 54 fun _ _=>by kernel_rfl,RG.pt i33 (by kernel_rfl),trivial⟩ ?_
 intro j12 a12 w12 M12
 repeat refine wp_seq ?_
 refine M12.dr (by kernel_rfl) (F39e_17 z1 z2 c7) [(6,(RG.z 4))] [(9,7,(ws c7))] [(ws x1++(ws y1++(ws z1))),(ws x2++(ws y2++(ws z2))),(RG.z 12),(ws c1),(ws c2),(ws c3),(ws c4),(ws c5),(ws c6),(ws c7)] [(4,(.p 2 0)),(8,(.p 5 0)),(9,(.p 6 0)),(10,(.p 7 0)),(11,(.p 8 0)),(12,(.p 9 0))] (by kernel_rfl) (by kernel_rfl) ⟨RG.cl (F3_c) fun _ _=>by kernel_rfl,RG.st fun _ _=>by kernel_rfl,RG.ld u33 i33 (by kernel_rfl),RG.st fun _ _=>by kernel_rfl,RG.ld u33 i33 (by kernel_rfl),RG.cl ((rMul_c C z1 z2).e hc7) fun _ _=>by kernel_rfl,RG.mk 9 54 fun _ _=>by kernel_rfl,RG.pt i33 (by kernel_rfl),trivial⟩ ?_
 intro j13 a13 w13 M13
 repeat refine wp_seq ?_
 refine M13.dr (by kernel_rfl) (F39e_18 c6 c8) [(4,(RG.z 4))] [(10,5,(ws c8))] [(ws x1++(ws y1++(ws z1))),(ws x2++(ws y2++(ws z2))),(RG.z 12),(ws c1),(ws c2),(ws c3),(ws c4),(ws c5),(ws c6),(ws c7),(ws c8)] [(4,(.p 2 0)),(8,(.p 5 0)),(9,(.p 6 0)),(10,(.p 7 0)),(11,(.p 8 0)),(12,(.p 9 0)),(13,(.p 10 0))] (by kernel_rfl) (by kernel_rfl) ⟨RG.cl (F3_c) fun _ _=>by kernel_rfl,RG.ld u33 i33 (by kernel_rfl),RG.ld u33 i33 (by kernel_rfl),RG.cl ((rMul_c C c6 c6).e hc8) fun _ _=>by kernel_rfl,RG.mk 10 54 fun _ _=>by kernel_rfl,RG.pt i33 (by kernel_rfl),trivial⟩ ?_
 intro j14 a14 w14 M14
 repeat refine wp_seq ?_
 refine M14.dr (by kernel_rfl) (F39e_19 c6 c8 c9) [(4,(RG.z 4))] [(11,5,(ws c9))] [(ws x1++(ws y1++(ws z1))),(ws x2++(ws y2++(ws z2))),(RG.z 12),(ws c1),(ws c2),(ws c3),(ws c4),(ws c5),(ws c6),(ws c7),(ws c8),(ws c9)] [(4,(.p 2 0)),(8,(.p 5 0)),(9,(.p 6 0)),(10,(.p 7 0)),(11,(.p 8 0)),(12,(.p 9 0)),(13,(.p 10 0)),(14,(.p 11 0))] (by kernel_rfl) (by kernel_rfl) ⟨RG.cl (F3_c) fun _ _=>by kernel_rfl,RG.ld u33 i33 (by kernel_rfl),RG.ld u33 i33 (by kernel_rfl),RG.cl ((rMul_c C c8 c6).e hc9) fun _ _=>by kernel_rfl,RG.mk 11 54 fun _ _=>by kernel_rfl,RG.pt i33 (by kernel_rfl),trivial⟩ ?_
 intro j15 a15 w15 M15
 repeat refine wp_seq ?_
 refine M15.dr (by kernel_rfl) (F39e_20 c4 c5 c7 c8 c9 c10 c11 c12 c13 c14 c15) [(19,(RG.z 4))] [(12,20,(ws c15))] [(ws x1++(ws y1++(ws z1))),(ws x2++(ws y2++(ws z2))),(RG.z 12),(ws c1),(ws c2),(ws c3),(ws c4),(ws c5),(ws c6),(ws c7),(ws c8),(ws c9),(ws c15)] [(4,(.p 2 0)),(8,(.p 5 0)),(9,(.p 6 0)),(10,(.p 7 0)),(11,(.p 8 0)),(12,(.p 9 0)),(13,(.p 10 0)),(14,(.p 11 0)),(15,(.p 12 0))] (by kernel_rfl) (by kernel_rfl) ⟨RG.cl (F3_c) fun _ _=>by kernel_rfl,RG.cl (F3_c) fun _ _=>by kernel_rfl,RG.cl (F3_c) fun _ _=>by kernel_rfl,RG.cl (F3_c) fun _ _=>by kernel_rfl,RG.ld u33 i33 (by kernel_rfl),RG.ld u33 i33 (by kernel_rfl),RG.cl ((rMul_c C c5 c5).e hc10) fun _ _=>by kernel_rfl,RG.ld u33 i33 (by kernel_rfl),RG.cl ((rMul_c C c10 c7).e hc11) fun _ _=>by kernel_rfl,RG.ld u33 i33 (by kernel_rfl),RG.cl ((rSub_c C c11 c9).e hc12) fun _ _=>by kernel_rfl,RG.cl (F3_c) fun _ _=>by kernel_rfl,RG.cl (F3_c) fun _ _=>by kernel_rfl,RG.ld u33 i33 (by kernel_rfl),RG.ld u33 i33 (by kernel_rfl),RG.cl ((rAdd_c C c4 c4).e hc13) fun _ _=>by kernel_rfl,RG.ld u33 i33 (by kernel_rfl),RG.cl ((rMul_c C c13 c8).e hc14) fun _ _=>by kernel_rfl,RG.cl ((rSub_c C c12 c14).e hc15) fun _ _=>by kernel_rfl,RG.mk 12 54 fun _ _=>by kernel_rfl,RG.pt i33 (by kernel_rfl),trivial⟩ ?_
 intro j16 a16 w16 M16
 repeat refine wp_seq ?_
 refine M16.dr (by kernel_rfl) (F39e_21 c3 c4 c5 c6 c7 c8 c9 c15 c16 c17 c18 c19 c20 c21 c22) [] [(2,25,(ws c16++(ws c21++(ws c22))))] [(ws x1++(ws y1++(ws z1))),(ws x2++(ws y2++(ws z2))),(ws c16++(ws c21++(ws c22))),(ws c1),(ws c2),(ws c3),(ws c4),(ws c5),(ws c6),(ws c7),(ws c8),(ws c9),(ws c15)] [(4,(.p 2 0))] (by kernel_rfl) (by kernel_rfl) ⟨RG.cl (F3_c) fun _ _=>by kernel_rfl,RG.ld u33 i33 (by kernel_rfl),RG.ld u33 i33 (by kernel_rfl),RG.cl ((rMul_c C c6 c15).e hc16) fun _ _=>by kernel_rfl,RG.cl (F3_c) fun _ _=>by kernel_rfl,RG.cl (F3_c) fun _ _=>by kernel_rfl,RG.ld u33 i33 (by kernel_rfl),RG.cl (F3_c) fun _ _=>by kernel_rfl,RG.cl (F3_c) fun _ _=>by kernel_rfl,RG.ld u33 i33 (by kernel_rfl),RG.ld u33 i33 (by kernel_rfl),RG.cl ((rMul_c C c4 c8).e hc17) fun _ _=>by kernel_rfl,RG.ld u33 i33 (by kernel_rfl),RG.cl ((rSub_c C c17 c15).e hc18) fun _ _=>by kernel_rfl,RG.cl ((rMul_c C c5 c18).e hc19) fun _ _=>by kernel_rfl,RG.cl (F3_c) fun _ _=>by kernel_rfl,RG.ld u33 i33 (by kernel_rfl),RG.ld u33 i33 (by kernel_rfl),RG.cl ((rMul_c C c3 c9).e hc20) fun _ _=>by kernel_rfl,RG.cl ((rSub_c C c19 c20).e hc21) fun _ _=>by kernel_rfl,RG.cl (F3_c) fun _ _=>by kernel_rfl,RG.ld u33 i33 (by kernel_rfl),RG.ld u33 i33 (by kernel_rfl),RG.cl ((rMul_c C c9 c7).e hc22) fun _ _=>by kernel_rfl,RG.st fun _ _=>by kernel_rfl,RG.pt i56 (by kernel_rfl),trivial⟩ ?_
 intro a17 w17 M17
 refine wp_ret ?_
 refine bodyPost_ret (v:=(rv c16 c21 c22)) (RG.results_row M17.st 4 56 rfl 2 _ rfl (M17.at (s:=(.p 2 0)) (by kernel_rfl)) u56 i56) M17.sl.defers ?_
 exact ⟨_,rfl,M17.st.bel.below,rfl⟩
def F70y_0 (x:Fin P):List RG.It:=[.m 1 [] 0,.m 2 [] 1,.x 3 [] (.bool false)]
def F70y_1 (x y c1 c2 c3:Fin P):List RG.It:=[.c 7 [] rv0,.c 8 [] rv0,.c 9 [] rv0,.c 10 [] rv0,.x 11 [] (fv x),.x 12 [] (fv x),.c 13 [(10,3),(11,4),(12,5)] (fv c1),.x 14 [] (fv x),.c 15 [(9,2),(13,6),(14,7)] (fv c2),.c 16 [] (fv (7:Fin P)),.c 17 [(8,1),(15,8),(16,9)] (fv c3),.c 18 [(7,0),(17,10)] (.tuple #[(fv y),(.bool true)]),.x 6 [(18,11)] (.tuple #[(fv y),(.bool true)]),.x 19 [(6,12)] (fv y),.x 20 [(6,12)] (.bool true),.m 4 [] 2,.u [(4,15),(19,13)] 2,.x 5 [(20,14)] (.bool true)]
def F70y_2 (x y:Fin P):List RG.It:=[.x 21 [] (fv x),.x 22 [] (fv y),.c 23 [] (fv (1:Fin P)),.x 24 [(21,0),(22,1),(23,2)] (rv x y (1:Fin P)),.x 25 [] (.bool true),.u [(24,3)] 1,.x 3 [(25,4)] (.bool true)]
set_option maxHeartbeats 2000000 in
set_option maxRecDepth 100000 in
theorem rat_y_c (C:Fl3 P) (x y:Fin P)(hr:rt (x*x*x+7)=some y) :Gives 113 #[(fv x)] (.tuple #[rv x y 1,.bool true]):=by
 intro w
 obtain ⟨c1,hc1⟩:∃ c,c=x*x:=⟨_,rfl⟩
 obtain ⟨c2,hc2⟩:∃ c,c=c1*x:=⟨_,rfl⟩
 obtain ⟨c3,hc3⟩:∃ c,c=c2+(7:Fin P):=⟨_,rfl⟩
 have hfin:((.tuple #[(rv x y (1:Fin P)),(.bool true)]):Value)=(.tuple #[rv x y 1,.bool true]):=by
  subst_vars;rfl
 rw [← hfin]
 go_enter Tryz.func113,Tryz.ntmps113
 refine RG.M.enter [(0,(.v (fv x)))] 26 (by kernel_rfl) ?_
 intro a0 M0
 repeat refine wp_seq ?_
 refine M0.tx (F70y_0 x) [(0,(ws x)),(1,(RG.z 12))] [] [(ws x),(RG.z 12)] [(1,(.p 0 0)),(2,(.p 1 0)),(3,(.v (.bool false)))] (by kernel_rfl) (by kernel_rfl) ⟨RG.mk 0 54 fun _ _=>by kernel_rfl,RG.mk 1 56 fun _ _=>by kernel_rfl,RG.st fun _ _=>by kernel_rfl,trivial⟩ ?_
 intro j1 i1 a1 w1 M1
 repeat refine wp_seq ?_
 refine M1.dr (by kernel_rfl) (F70y_1 x y c1 c2 c3) [(15,(RG.z 4))] [(2,16,(ws y))] [(ws x),(RG.z 12),(ws y)] [(1,(.p 0 0)),(2,(.p 1 0)),(3,(.v (.bool false))),(4,(.p 2 0)),(5,(.v (.bool true)))] (by kernel_rfl) (by kernel_rfl) ⟨RG.cl (F3_c) fun _ _=>by kernel_rfl,RG.cl (F3_c) fun _ _=>by kernel_rfl,RG.cl (F3_c) fun _ _=>by kernel_rfl,RG.cl (F3_c) fun _ _=>by kernel_rfl,RG.ld u33 i33 (by kernel_rfl),RG.ld u33 i33 (by kernel_rfl),RG.cl ((rMul_c C x x).e hc1) fun _ _=>by kernel_rfl,RG.ld u33 i33 (by kernel_rfl),RG.cl ((rMul_c C c1 x).e hc2) fun _ _=>by kernel_rfl,RG.cl (rSmall7_c C) fun _ _=>by kernel_rfl,RG.cl ((rAdd_c C c2 (7:Fin P)).e hc3) fun _ _=>by kernel_rfl,RG.cl (f:=183) (args:=#[rv0,(fv c3)]) (v:=(.tuple #[(fv y),(.bool true)])) (rSqrt_y C (by subst_vars;exact hr)) fun _ _=>by kernel_rfl,RG.st fun _ _=>by kernel_rfl,RG.st fun _ _=>by kernel_rfl,RG.st fun _ _=>by kernel_rfl,RG.mk 2 54 fun _ _=>by kernel_rfl,RG.pt i33 (by kernel_rfl),RG.st fun _ _=>by kernel_rfl,trivial⟩ ?_
 intro j2 a2 w2 M2
 repeat refine wp_seq ?_
 refine M2.dr (by kernel_rfl) (F70y_2 x y) [] [(1,5,(ws x++(ws y++(ws (1:Fin P)))))] [(ws x),(ws x++(ws y++(ws (1:Fin P)))),(ws y)] [(2,(.p 1 0)),(3,(.v (.bool true)))] (by kernel_rfl) (by kernel_rfl) ⟨RG.ld u33 i33 (by kernel_rfl),RG.ld u33 i33 (by kernel_rfl),RG.cl (rSmall1_c C) fun _ _=>by kernel_rfl,RG.st fun _ _=>by kernel_rfl,RG.st fun _ _=>by kernel_rfl,RG.pt i56 (by kernel_rfl),RG.st fun _ _=>by kernel_rfl,trivial⟩ ?_
 intro a3 w3 M3
 refine wp_ret ?_
 refine bodyPost_ret (v:=(.tuple #[(rv x y (1:Fin P)),(.bool true)])) (RG.results_rt M3.st 2 3 56 rfl 1 _ rfl (M3.at (s:=(.p 1 0)) (by kernel_rfl)) _ (M3.at (s:=(.v (.bool true))) (by kernel_rfl)) u56 i56) M3.sl.defers ?_
 exact ⟨_,rfl,M3.st.bel.below,rfl⟩
def F70n_0 (x:Fin P):List RG.It:=[.m 1 [] 0,.m 2 [] 1,.x 3 [] (.bool false)]
def F70n_1 (x c1 c2 c3:Fin P):List RG.It:=[.c 7 [] rv0,.c 8 [] rv0,.c 9 [] rv0,.c 10 [] rv0,.x 11 [] (fv x),.x 12 [] (fv x),.c 13 [(10,3),(11,4),(12,5)] (fv c1),.x 14 [] (fv x),.c 15 [(9,2),(13,6),(14,7)] (fv c2),.c 16 [] (fv (7:Fin P)),.c 17 [(8,1),(15,8),(16,9)] (fv c3),.c 18 [(7,0),(17,10)] (.tuple #[(fv (0:Fin P)),(.bool false)]),.x 6 [(18,11)] (.tuple #[(fv (0:Fin P)),(.bool false)]),.x 19 [(6,12)] (fv (0:Fin P)),.x 20 [(6,12)] (.bool false),.m 4 [] 2,.u [(4,15),(19,13)] 2,.x 5 [(20,14)] (.bool false)]
def F70n_2 (x:Fin P):List RG.It:=[.x 21 [] (fv x),.x 22 [] (fv (0:Fin P)),.c 23 [] (fv (1:Fin P)),.x 24 [(21,0),(22,1),(23,2)] (rv x (0:Fin P) (1:Fin P)),.x 25 [] (.bool false),.u [(24,3)] 1,.x 3 [(25,4)] (.bool false)]
set_option maxHeartbeats 2000000 in
set_option maxRecDepth 100000 in
theorem rat_n_c (C:Fl3 P) (x:Fin P)(hr:rt (x*x*x+7)=none) :Gives 113 #[(fv x)] (.tuple #[rv x 0 1,.bool false]):=by
 intro w
 obtain ⟨c1,hc1⟩:∃ c,c=x*x:=⟨_,rfl⟩
 obtain ⟨c2,hc2⟩:∃ c,c=c1*x:=⟨_,rfl⟩
 obtain ⟨c3,hc3⟩:∃ c,c=c2+(7:Fin P):=⟨_,rfl⟩
 have hfin:((.tuple #[(rv x (0:Fin P) (1:Fin P)),(.bool false)]):Value)=(.tuple #[rv x 0 1,.bool false]):=by
  subst_vars;rfl
 rw [← hfin]
 go_enter Tryz.func113,Tryz.ntmps113
 refine RG.M.enter [(0,(.v (fv x)))] 26 (by kernel_rfl) ?_
 intro a0 M0
 repeat refine wp_seq ?_
 refine M0.tx (F70n_0 x) [(0,(ws x)),(1,(RG.z 12))] [] [(ws x),(RG.z 12)] [(1,(.p 0 0)),(2,(.p 1 0)),(3,(.v (.bool false)))] (by kernel_rfl) (by kernel_rfl) ⟨RG.mk 0 54 fun _ _=>by kernel_rfl,RG.mk 1 56 fun _ _=>by kernel_rfl,RG.st fun _ _=>by kernel_rfl,trivial⟩ ?_
 intro j1 i1 a1 w1 M1
 repeat refine wp_seq ?_
 refine M1.dr (by kernel_rfl) (F70n_1 x c1 c2 c3) [(15,(RG.z 4))] [(2,16,(ws (0:Fin P)))] [(ws x),(RG.z 12),(ws (0:Fin P))] [(1,(.p 0 0)),(2,(.p 1 0)),(3,(.v (.bool false))),(4,(.p 2 0)),(5,(.v (.bool false)))] (by kernel_rfl) (by kernel_rfl) ⟨RG.cl (F3_c) fun _ _=>by kernel_rfl,RG.cl (F3_c) fun _ _=>by kernel_rfl,RG.cl (F3_c) fun _ _=>by kernel_rfl,RG.cl (F3_c) fun _ _=>by kernel_rfl,RG.ld u33 i33 (by kernel_rfl),RG.ld u33 i33 (by kernel_rfl),RG.cl ((rMul_c C x x).e hc1) fun _ _=>by kernel_rfl,RG.ld u33 i33 (by kernel_rfl),RG.cl ((rMul_c C c1 x).e hc2) fun _ _=>by kernel_rfl,RG.cl (rSmall7_c C) fun _ _=>by kernel_rfl,RG.cl ((rAdd_c C c2 (7:Fin P)).e hc3) fun _ _=>by kernel_rfl,RG.cl (f:=183) (args:=#[rv0,(fv c3)]) (v:=(.tuple #[(fv (0:Fin P)),(.bool false)])) (rSqrt_n C (by subst_vars;exact hr)) fun _ _=>by kernel_rfl,RG.st fun _ _=>by kernel_rfl,RG.st fun _ _=>by kernel_rfl,RG.st fun _ _=>by kernel_rfl,RG.mk 2 54 fun _ _=>by kernel_rfl,RG.pt i33 (by kernel_rfl),RG.st fun _ _=>by kernel_rfl,trivial⟩ ?_
 intro j2 a2 w2 M2
 repeat refine wp_seq ?_
 refine M2.dr (by kernel_rfl) (F70n_2 x) [] [(1,5,(ws x++(ws (0:Fin P)++(ws (1:Fin P)))))] [(ws x),(ws x++(ws (0:Fin P)++(ws (1:Fin P)))),(ws (0:Fin P))] [(2,(.p 1 0)),(3,(.v (.bool false)))] (by kernel_rfl) (by kernel_rfl) ⟨RG.ld u33 i33 (by kernel_rfl),RG.ld u33 i33 (by kernel_rfl),RG.cl (rSmall1_c C) fun _ _=>by kernel_rfl,RG.st fun _ _=>by kernel_rfl,RG.st fun _ _=>by kernel_rfl,RG.pt i56 (by kernel_rfl),RG.st fun _ _=>by kernel_rfl,trivial⟩ ?_
 intro a3 w3 M3
 refine wp_ret ?_
 refine bodyPost_ret (v:=(.tuple #[(rv x (0:Fin P) (1:Fin P)),(.bool false)])) (RG.results_rt M3.st 2 3 56 rfl 1 _ rfl (M3.at (s:=(.p 1 0)) (by kernel_rfl)) _ (M3.at (s:=(.v (.bool false))) (by kernel_rfl)) u56 i56) M3.sl.defers ?_
 exact ⟨_,rfl,M3.st.bel.below,rfl⟩
end Go.Proofs.YtmkllfekhehagafGreat
namespace Go.Proofs.YtmkllfekhehagafGreat
open Go.RowKit Go.Sort Go.Deep
variable {N:Nat}
end Go.Proofs.YtmkllfekhehagafGreat
namespace Go.Proofs.YtmkllfekhehagafGreat
open Go.RowKit Go.Sort Go.Deep
variable {N:Nat}
end Go.Proofs.YtmkllfekhehagafGreat
set_option linter.unusedVariables false
set_option linter.unusedSimpArgs false
namespace Go.Proofs.YtmkllfekhehagafGreat
open Go.RowKit Go.Sort Go.Deep
variable {P:Nat} [NeZero P]
def z12:Array Value:=#[.int .u64 0,.int .u64 0,.int .u64 0,.int .u64 0,.int .u64 0,.int .u64 0,.int .u64 0,.int .u64 0,.int .u64 0,.int .u64 0,.int .u64 0,.int .u64 0]
def W5 (w:World):World:=(w.alloc (.cells z12 56)).alloc (.cells (madeCells #[.int .u8 0] 33) 5)
theorem rNumber_y (C:Fl3 P) (bs:Bs) (hs:bs.size=32) {x:Fin P} (hx:beV bs.toList=x.val):Gives 112 #[rv0,.string ⟨bs⟩] (.tuple #[fv x,.bool true]):=fun w =>
 (rNumber_any _ _ _ _ _ _ _ _ P ⟨bs⟩ C.ref w).mono (by
  rintro e w' ⟨v,rfl,hb,a,b,c,d,ok,rfl,h1,h2,h3,-⟩
  cases ok with
  | false=>exact absurd ⟨hs,by rw [hx];exact x.isLt⟩ (h2 rfl)
  | true =>
   have h4:=(h1 rfl).2
   rw [hx] at h4
   refine ⟨_,rfl,hb,?_⟩
   rw [C.toFld.four x |>.inj h4])
theorem rNumber_n (C:Fl3 P) (bs:Bs) (hs:bs.size=32) (hx:¬ beV bs.toList < P):Gives 112 #[rv0,.string ⟨bs⟩] (.tuple #[nv (beV bs.toList),.bool false]):=fun w =>
 (rNumber_any _ _ _ _ _ _ _ _ P ⟨bs⟩ C.ref w).mono (by
  rintro e w' ⟨v,rfl,hb,a,b,c,d,ok,rfl,h1,h2,h3,-⟩
  cases ok with
  | true=>exact absurd (h1 rfl).1.2 hx
  | false =>
   have h4:=h3 hs
   refine ⟨_,rfl,hb,?_⟩
   rw [h4.nv])
def n12 (P:Nat) [NeZero P]:List Value:=ws (0:Fin P)++(ws (1:Fin P)++ws (0:Fin P))
end Go.Proofs.YtmkllfekhehagafGreat
namespace Go.Proofs.YtmkllfekhehagafGreat
open Go.RowKit Go.Sort Go.Deep
variable {P:Nat} [NeZero P]
end Go.Proofs.YtmkllfekhehagafGreat
namespace Go.Proofs.YtmkllfekhehagafGreat
open Go.RowKit Go.Sort
variable {P:Nat} [NeZero P]
def FracT (t:T3 P) (p:EC.Pt P):Prop:=EC.Frac t.1 t.2.1 t.2.2 p∧EC.On p
def dbF (t:T3 P):T3 P:=(EC.fdE t.2.1 t.2.2*EC.fdT t.1 t.2.1 t.2.2,EC.fdD t.1*(t.1*(EC.fdE t.2.1 t.2.2*EC.fdE t.2.1 t.2.2) - EC.fdT t.1 t.2.1 t.2.2) - t.2.1*(EC.fdE t.2.1 t.2.2*EC.fdE t.2.1 t.2.2*EC.fdE t.2.1 t.2.2),EC.fdE t.2.1 t.2.2*EC.fdE t.2.1 t.2.2*EC.fdE t.2.1 t.2.2*t.2.2)
def plF (a b : T3 P) : T3 P :=
  if a.2.2 = 0 then b else if b.2.2 = 0 then a else
  if b.1 * a.2.2 = a.1 * b.2.2 then (if b.2.1 * a.2.2 = a.2.1 * b.2.2 then dbF a else (0, 1, 0)) else
  ((b.1 * a.2.2 - a.1 * b.2.2) * EC.frT (b.2.1 * a.2.2 - a.2.1 * b.2.2) (b.1 * a.2.2 - a.1 * b.2.2) (a.2.2 * b.2.2) (a.1 * b.2.2),
   (b.2.1 * a.2.2 - a.2.1 * b.2.2) * (a.1 * b.2.2 * ((b.1 * a.2.2 - a.1 * b.2.2) * (b.1 * a.2.2 - a.1 * b.2.2)) - EC.frT (b.2.1 * a.2.2 - a.2.1 * b.2.2) (b.1 * a.2.2 - a.1 * b.2.2) (a.2.2 * b.2.2) (a.1 * b.2.2)) - a.2.1 * b.2.2 * ((b.1 * a.2.2 - a.1 * b.2.2) * (b.1 * a.2.2 - a.1 * b.2.2) * (b.1 * a.2.2 - a.1 * b.2.2)),
   (b.1 * a.2.2 - a.1 * b.2.2) * (b.1 * a.2.2 - a.1 * b.2.2) * (b.1 * a.2.2 - a.1 * b.2.2) * (a.2.2 * b.2.2))
theorem FracT.plus (C:Fl3 P) {a b:T3 P} {p q:EC.Pt P} (h:FracT a p) (h':FracT b q):Gives 54 #[tv a,tv b] (tv (plF a b))∧FracT (plF a b) (EC.add p q):=by
 have ho:=C.cur.on h.2 h'.2
 obtain ⟨x1,y1,z1⟩:=a
 obtain ⟨x2,y2,z2⟩:=b
 unfold plF
 by_cases n1:z1=0
 · rw [if_pos n1]
   obtain rfl:=h.1.zero n1
   exact ⟨rPlus_a_c C x1 y1 z1 x2 y2 z2 n1,h'⟩
 · rw [if_neg n1]
   by_cases n2:z2=0
   · rw [if_pos n2]
     obtain rfl:=h'.1.zero n2
     refine ⟨rPlus_b_c C x1 y1 z1 x2 y2 z2 n1 n2,?_⟩
     rw [EC.add_none]
     exact h
   · rw [if_neg n2]
     rcases h.1.plus C.cur h.2 h'.1 h'.2 n1 n2 with ⟨e1,e2,e3⟩ | ⟨e1,e2,e3,e4⟩ | ⟨e1,e2⟩
     · rw [if_pos e1,if_neg e2]
       refine ⟨rPlus_c_c C x1 y1 z1 x2 y2 z2 n1 n2 e1 e2,?_,ho⟩
       rw [e3]
       exact rfl
     · rw [if_pos e1,if_pos e2]
       refine ⟨rPlus_d_c C x1 y1 z1 x2 y2 z2 n1 n2 e1 e2 e3,?_,ho⟩
       rw [e4]
       exact h.1.double C.cur h.2 n1
     · rw [if_neg e1]
       exact ⟨rPlus_e_c C x1 y1 z1 x2 y2 z2 n1 n2 e1,e2,ho⟩
theorem FracT.none:FracT ((0,1,0):T3 P) .none:=⟨rfl,EC.none_on⟩
def tmF (n:Nat) (t:T3 P):Nat→T3 P
 | 0=>(0,1,0)
 | m+1=>if n / 2 ^ (255 - m) % 2=1 then plF (plF (tmF n t m) (tmF n t m)) t else plF (tmF n t m) (tmF n t m)
theorem tmF_F (C:Fl3 P) {n:Nat} {t:T3 P} {p:EC.Pt P} (hn:n < 2 ^ 256) (h:FracT t p):∀ m,m≤256→FracT (tmF n t m) (EC.mul (n / 2 ^ (256 - m)) p)
 | 0,_=>by
  rw [Nat.sub_zero,Nat.div_eq_of_lt hn]
  exact FracT.none
 | m+1,hm=>by
  have ih:=tmF_F C hn h m (by omega)
  have e1:256 - m=255 - m+1:=by omega
  rw [show 256 - (m+1)=255 - m by omega,div_bit n (255 - m),← e1]
  unfold tmF
  have h2:=(ih.plus C ih).2
  rw [← EC.mul_add C.cur h.2,← Nat.two_mul] at h2
  by_cases hb:n / 2 ^ (255 - m) % 2=1
  · rw [if_pos hb,hb]
    exact (h2.plus C h).2
  · rw [if_neg hb,show n / 2 ^ (255 - m) % 2=0 by omega]
    exact h2
end Go.Proofs.YtmkllfekhehagafGreat
namespace Go.Proofs.YtmkllfekhehagafGreat
open Go.RowKit Go.Sort
variable {P:Nat} [NeZero P]
theorem frac_one (C:Fld P) (x y:Fin P):EC.Frac x y 1 (.some (x,y):EC.Pt P):=⟨fun h=>C.cur.two (by grobner),by grobner,by grobner⟩
end Go.Proofs.YtmkllfekhehagafGreat
set_option linter.unusedVariables false
namespace Go.Proofs.YtmkllfekhehagafGreat
open Go.RowKit Go.Sort Go.Deep
variable {P:Nat} [NeZero P]
def gxB:Bs:=#[121,190,102,126,249,220,187,172,85,160,98,149,206,135,11,7,2,155,252,219,45,206,40,217,89,242,129,91,22,248,23,152]
theorem of_g (C:Fld P):Gives 181 #[.string ⟨gxB⟩] (fv (gX P)):=fun w=>(rOf_any ⟨gxB⟩ rfl w).mono (by
 rintro e w' ⟨v,rfl,hb,hF⟩
 refine ⟨_,rfl,hb,?_⟩
 have h:=hF.nv
 rw [h]
 show nv _=nv _
 rw [gX_val C]
 exact congrArg nv (by decide +kernel:beV gxB.toList=55066263022277343669578718895168534326250603453777594175500187360389116729240))
theorem g_root (C:Fld P):rt (gX P*gX P*gX P+7)=some (gY P):=by
 have h:=gG_on C
 have h1:gY P ^ 2=gX P ^ 3+7:=h
 have h2:gY P*gY P=gX P*gX P*gX P+7:=by
  generalize gX P=x at *
  generalize gY P=y at *
  clear h C
  grobner
 rw [rt_of C h2,if_neg]
 rw [gY_val C]
 decide
def gT (P:Nat) [NeZero P]:T3 P:=(gX P,gY P,1)
theorem gT_frac (C:Fld P):FracT (gT P) (gG P):=⟨frac_one C _ _,gG_on C⟩
def FG_0:List RG.It:=[.m 0 [] 0]
def FG_1:List RG.It:=[.c 4 [] (fv (gX P)),.m 1 [] 1,.u [(1,1),(4,0)] 1]
def FG_2:List RG.It:=[.x 6 [] (fv (gX P)),.c 7 [(6,0)] (.tuple #[(rv (gX P) (gY P) (1:Fin P)),(.bool true)]),.x 5 [(7,1)] (.tuple #[(rv (gX P) (gY P) (1:Fin P)),(.bool true)]),.x 8 [(5,2)] (rv (gX P) (gY P) (1:Fin P)),.x 9 [(5,2)] (.bool true),.m 2 [] 2,.u [(2,5),(8,3)] 2,.x 3 [(9,4)] (.bool true)]
def FG_3:List RG.It:=[.x 10 [] (rv (gX P) (gY P) (1:Fin P)),.u [(10,0)] 0]
set_option maxHeartbeats 4000000 in
set_option maxRecDepth 100000 in
theorem rG_c (C:Fl3 P):Gives 142 #[] (tv (gT P)):=by
 intro w
 go_enter Tryz.func142,Tryz.ntmps142
 refine RG.M.enter [] 11 (by kernel_rfl) ?_
 intro a0 M0
 repeat refine wp_seq ?_
 refine M0.tx FG_0 [(0,(RG.z 12))] [] [(RG.z 12)] [(0,(.p 0 0))] (by kernel_rfl) (by kernel_rfl) ⟨RG.mk 0 56 fun _ _=>by kernel_rfl,trivial⟩ ?_
 intro j1 a1 w1 M1
 repeat refine wp_seq ?_
 refine M1.tx (FG_1 (P:=P)) [(1,(RG.z 4))] [(1,2,(ws (gX P)))] [(RG.z 12),(ws (gX P))] [(0,(.p 0 0)),(1,(.p 1 0))] (by kernel_rfl) (by kernel_rfl) ⟨RG.cl (of_g C.toFld) fun _ _=>by kernel_rfl,RG.mk 1 54 fun _ _=>by kernel_rfl,RG.pt i33 (by kernel_rfl),trivial⟩ ?_
 intro j2 a2 w2 M2
 repeat refine wp_seq ?_
 refine M2.tx (FG_2 (P:=P)) [(5,(RG.z 12))] [(2,6,(ws (gX P)++(ws (gY P)++(ws (1:Fin P)))))] [(RG.z 12),(ws (gX P)),(ws (gX P)++(ws (gY P)++(ws (1:Fin P))))] [(0,(.p 0 0)),(2,(.p 2 0))] (by kernel_rfl) (by kernel_rfl) ⟨RG.ld u33 i33 (by kernel_rfl),RG.cl (rat_y_c C (gX P) (gY P) (g_root C.toFld)) fun _ _=>by kernel_rfl,RG.st fun _ _=>by kernel_rfl,RG.st fun _ _=>by kernel_rfl,RG.st fun _ _=>by kernel_rfl,RG.mk 2 56 fun _ _=>by kernel_rfl,RG.pt i56 (by kernel_rfl),RG.st fun _ _=>by kernel_rfl,trivial⟩ ?_
 intro j3 a3 w3 M3
 repeat refine wp_seq ?_
 refine M3.tx (FG_3 (P:=P)) [] [(0,1,(ws (gX P)++(ws (gY P)++(ws (1:Fin P)))))] [(ws (gX P)++(ws (gY P)++(ws (1:Fin P)))),(ws (gX P)),(ws (gX P)++(ws (gY P)++(ws (1:Fin P))))] [(0,(.p 0 0))] (by kernel_rfl) (by kernel_rfl) ⟨RG.ld u56 i56 (by kernel_rfl),RG.pt i56 (by kernel_rfl),trivial⟩ ?_
 intro a4 w4 M4
 refine wp_ret ?_
 refine bodyPost_ret (v:=tv (gT P)) (RG.results_row M4.st 0 56 rfl 0 _ rfl (M4.at (s:=.p 0 0) (by kernel_rfl)) u56 i56) M4.sl.defers ?_
 exact ⟨_,rfl,M4.st.bel.below,rfl⟩
end Go.Proofs.YtmkllfekhehagafGreat
namespace Go.Proofs.YtmkllfekhehagafGreat
open Go.RowKit Go.Sort
variable {P:Nat} [NeZero P]
theorem geq0 (i:Nat) (w:World):(binOp .geq 3 (.int .i64 (i:Int)) (.int .i64 0)).run Tryz.prog w=.ok (.bool true) w:=by
 go_simp
theorem sub1 (i:Nat) (hi:i < 1000) (w:World):(binOp .sub 3 (.int .i64 (i:Int)) (.int .i64 1)).run Tryz.prog w=.ok (.int .i64 ((i:Int) - 1)) w:=by
 have h:=IntWalk.i64_in ((i:Int) - 1) (by omega)
 go_simp
theorem rBit_1 {n i:Nat} (hn:n < top) (hi:i < 256) (h:n / 2 ^ i % 2=1):Gives 147 #[nv n,.int .i64 (i:Int)] (.int .u64 1):=fun w =>
 (rBit_any _ n i (four_nv hn) hi w).mono (by rintro e w' ⟨v,rfl,hb,t,rfl,ht⟩;exact ⟨_,rfl,hb,by rw [ht,h];rfl⟩)
theorem rBit_0 {n i:Nat} (hn:n < top) (hi:i < 256) (h:¬ n / 2 ^ i % 2=1):Gives 147 #[nv n,.int .i64 (i:Int)] (.int .u64 0):=fun w =>
 (rBit_any _ n i (four_nv hn) hi w).mono (by rintro e w' ⟨v,rfl,hb,t,rfl,ht⟩;exact ⟨_,rfl,hb,by rw [ht,show n / 2 ^ i % 2=0 by omega];rfl⟩)
def F40_0:List RG.It:=[.m 2 [] 0,.m 3 [] 1,.m 4 [] 2]
def F40_1:List RG.It:=[.c 7 [] (tv ((0,1,0):T3 P)),.m 5 [] 3,.u [(5,1),(7,0)] 3]
def F40_2:List RG.It:=[.x 6 [] (.int .i64 255)]
def F40a_3 (i:Nat):List RG.It:=[.x 8 [] (.int .i64 (i:Int)),.x 9 [(8,0)] (.bool true)]
def F40a_5 (s s2:T3 P):List RG.It:=[.x 12 [] (tv s),.x 13 [] (tv s),.c 14 [(12,0),(13,1)] (tv s2),.u [(14,2)] 3]
def F40a_6 (n i:Nat):List RG.It:=[.x 15 [] (nv n),.x 16 [] (.int .i64 (i:Int)),.c 17 [(15,0),(16,1)] (.int .u64 1),.x 18 [(17,2)] (.bool true)]
def F40a_7 (t s2 s3:T3 P):List RG.It:=[.x 19 [] (tv s2),.x 20 [] (tv t),.c 21 [(19,0),(20,1)] (tv s3),.u [(21,2)] 3]
def F40a_4 (i:Nat):List RG.It:=[.x 10 [] (.int .i64 (i:Int)),.x 11 [(10,0)] (.int .i64 ((i:Int) - 1)),.x 6 [(11,1)] (.int .i64 ((i:Int) - 1))]
def F40b_3 (i:Nat):List RG.It:=[.x 8 [] (.int .i64 (i:Int)),.x 9 [(8,0)] (.bool true)]
def F40b_5 (s s2:T3 P):List RG.It:=[.x 12 [] (tv s),.x 13 [] (tv s),.c 14 [(12,0),(13,1)] (tv s2),.u [(14,2)] 3]
def F40b_6 (n i:Nat):List RG.It:=[.x 15 [] (nv n),.x 16 [] (.int .i64 (i:Int)),.c 17 [(15,0),(16,1)] (.int .u64 0),.x 18 [(17,2)] (.bool false)]
def F40b_4 (i:Nat):List RG.It:=[.x 10 [] (.int .i64 (i:Int)),.x 11 [(10,0)] (.int .i64 ((i:Int) - 1)),.x 6 [(11,1)] (.int .i64 ((i:Int) - 1))]
def F40c_3:List RG.It:=[.x 8 [] (.int .i64 (-1)),.x 9 [(8,0)] (.bool false)]
def F40c_8 (s:T3 P):List RG.It:=[.x 22 [] (tv s),.u [(22,0)] 2]
set_option maxHeartbeats 2000000 in
set_option maxRecDepth 100000 in
theorem rTimes_c (C:Fl3 P) (n:Nat) (hn:n < top) (t:T3 P) {p:EC.Pt P} (h:FracT t p):Gives 69 #[nv n,tv t] (tv (tmF n t 256)):=by
 intro w
 go_enter Tryz.func69,Tryz.ntmps69
 refine RG.var2 (v0:=nv n) (v1:=tv t) (n:=23) (by kernel_rfl) (by kernel_rfl) (by kernel_rfl) (by kernel_rfl) ?_
 intro a0 sl0 f0 f1
 have hS0:=RG.St.begin w
 have M0:RG.M w w.heap.size [] 23 [] [] [(0,(.v (nv n))),(1,(.v (tv t)))] a0 _:=⟨hS0,sl0,⟨f0,f1,trivial⟩⟩
 repeat refine wp_seq ?_
 refine M0.tx F40_0 [(0,(wn n)),(1,(tw t)),(2,(RG.z 12))] [] [(wn n),(tw t),(RG.z 12)] [(2,(.p 0 0)),(3,(.p 1 0)),(4,(.p 2 0))] (by kernel_rfl) (by kernel_rfl) ⟨RG.mk 0 54 fun _ _=>by kernel_rfl,RG.mk 1 56 fun _ _=>by kernel_rfl,RG.mk 2 56 fun _ _=>by kernel_rfl,trivial⟩ ?_
 intro j1 i1 m1 a1 w1 M1
 repeat refine wp_seq ?_
 refine M1.tx (F40_1 (P:=P)) [(1,(RG.z 12))] [(3,2,(tw ((0,1,0):T3 P)))] [(wn n),(tw t),(RG.z 12),(tw ((0,1,0):T3 P))] [(2,(.p 0 0)),(3,(.p 1 0)),(4,(.p 2 0)),(5,(.p 3 0))] (by kernel_rfl) (by kernel_rfl) ⟨RG.cl (None_c C) fun _ _=>by kernel_rfl,RG.mk 3 56 fun _ _=>by kernel_rfl,RG.pt i56 (by kernel_rfl),trivial⟩ ?_
 intro j2 a2 w2 M2
 repeat refine wp_seq ?_
 refine M2.tx0 F40_2 [(2,(.p 0 0)),(3,(.p 1 0)),(4,(.p 2 0)),(5,(.p 3 0)),(6,(.v (.int .i64 255)))] (by kernel_rfl) ⟨RG.st fun _ _=>by kernel_rfl,trivial⟩ ?_
 intro a3 w3 M3
 have hS3:RG.St w w.heap.size [] [(wn n),(tw t),(RG.z 12),(tw ((0,1,0):T3 P))] [j1,i1,m1,j2] _:=M3.st
 have sl3:=M3.sl
 have f2_3:a3.tmps[2]? = some (.pointer (some ⟨j1,0,none⟩)):=M3.at (s:=(.p 0 0)) (by kernel_rfl)
 have f3_3:a3.tmps[3]? = some (.pointer (some ⟨i1,0,none⟩)):=M3.at (s:=(.p 1 0)) (by kernel_rfl)
 have f4_3:a3.tmps[4]? = some (.pointer (some ⟨m1,0,none⟩)):=M3.at (s:=(.p 2 0)) (by kernel_rfl)
 have f5_3:a3.tmps[5]? = some (.pointer (some ⟨j2,0,none⟩)):=M3.at (s:=(.p 3 0)) (by kernel_rfl)
 have f6_3:a3.tmps[6]? = some (.int .i64 255):=M3.at (s:=(.v (.int .i64 255))) (by kernel_rfl)
 repeat refine wp_seq ?_
 refine wp_block ?_
 refine wp_loop_ghost (fun m a wr=>m≤256∧RG.Sl a 23∧a.tmps[2]? = some (.pointer (some ⟨j1,0,none⟩))∧a.tmps[3]? = some (.pointer (some ⟨i1,0,none⟩))∧a.tmps[4]? = some (.pointer (some ⟨m1,0,none⟩))∧a.tmps[5]? = some (.pointer (some ⟨j2,0,none⟩))∧a.tmps[6]? = some (.int .i64 ((m:Int) - 1))∧RG.St w w.heap.size [] [wn n,tw t,[.int .u64 0,.int .u64 0,.int .u64 0,.int .u64 0,.int .u64 0,.int .u64 0,.int .u64 0,.int .u64 0,.int .u64 0,.int .u64 0,.int .u64 0,.int .u64 0],tw (tmF n t (256 - m))] [j1,i1,m1,j2] wr) 256 ⟨Nat.le_refl _,sl3,f2_3,f3_3,f4_3,f5_3,f6_3,?_⟩ ?_
 · rw [Nat.sub_self,tmF]
   exact hS3
 intro m a wr
 rintro ⟨hm,sl,f2,f3,f4,f5,f6,hS⟩
 have hn2:n < 2 ^ 256:=hn
 generalize j1=k2 at f2 f3 f4 f5 hS
 generalize i1=k3 at f2 f3 f4 f5 hS
 generalize m1=k4 at f2 f3 f4 f5 hS
 generalize j2=k5 at f2 f3 f4 f5 hS
 by_cases hz:m=0
 · subst hz
   have e256:tmF n t (256 - 0)=tmF n t 256:=rfl
   rw [e256] at hS
   obtain ⟨s,hs⟩:∃ s,tmF n t 256=s:=⟨_,rfl⟩
   rw [hs] at hS ⊢
   have M0:RG.M w w.heap.size [] 23 [(wn n),(tw t),(RG.z 12),(tw s)] [k2,k3,k4,k5] [(2,(.p 0 0)),(3,(.p 1 0)),(4,(.p 2 0)),(5,(.p 3 0)),(6,(.v (.int .i64 (-1))))] a _:=⟨hS,sl,⟨f2,f3,f4,f5,f6,trivial⟩⟩
   repeat refine wp_seq ?_
   refine M0.tx0 F40c_3 [(4,(.p 2 0)),(5,(.p 3 0)),(9,(.v (.bool false)))] (by kernel_rfl) ⟨RG.st fun _ _=>by kernel_rfl,RG.st fun _ _=>by kernel_rfl,trivial⟩ ?_
   intro a1 w1 M1
   repeat refine wp_seq ?_
   refine wp_cond_false (M1.ev (by kernel_rfl)) ?_
   refine wp_exit ?_
   dsimp only [Exit.then,Exit.inBlock]
   rw [if_pos rfl]
   repeat refine wp_seq ?_
   refine M1.tx (F40c_8 s) [] [(2,1,(tw s))] [(wn n),(tw t),(tw s),(tw s)] [(4,(.p 2 0))] (by kernel_rfl) (by kernel_rfl) ⟨RG.ld u56 i56 (by kernel_rfl),RG.pt i56 (by kernel_rfl),trivial⟩ ?_
   intro a2 w2 M2
   have hS2:RG.St w w.heap.size [] [(wn n),(tw t),(tw s),(tw s)] [k2,k3,k4,k5] _:=M2.st
   have sl2:=M2.sl
   have f4_2:a2.tmps[4]? = some (.pointer (some ⟨k4,0,none⟩)):=M2.at (s:=(.p 2 0)) (by kernel_rfl)
   refine wp_ret ?_
   refine bodyPost_ret (v:=tv s) (RG.results_row hS2 4 56 rfl 2 _ rfl f4_2 u56 i56) sl2.defers ?_
   exact ⟨_,rfl,hS2.bel.below,rfl⟩
 · obtain ⟨i,rfl⟩:∃ i,m=i+1:=⟨m - 1,by omega⟩
   have hi:i < 256:=by omega
   replace f6:a.tmps[6]? = some (.int .i64 (i:Int)):=by rw [f6];congr 2;omega
   have ih:=tmF_F C hn2 h (256 - (i+1)) (by omega)
   obtain ⟨s,hs⟩:∃ s,tmF n t (256 - (i+1))=s:=⟨_,rfl⟩
   rw [hs] at hS ih
   obtain ⟨s2,hs2⟩:∃ s2,s2=plF s s:=⟨_,rfl⟩
   have hp1:=(ih.plus C ih).1
   have ih2:=(ih.plus C ih).2
   rw [← hs2] at hp1 ih2
   obtain ⟨s3,hs3⟩:∃ s3,s3=plF s2 t:=⟨_,rfl⟩
   have hp2:=(ih2.plus C h).1
   rw [← hs3] at hp2
   have hstep:tmF n t (256 - i)=if n / 2 ^ i % 2=1 then s3 else s2:=by
    rw [show 256 - i=256 - (i+1)+1 by omega]
    show (if n / 2 ^ (255 - (256 - (i+1))) % 2=1 then plF (plF (tmF n t (256 - (i+1))) (tmF n t (256 - (i+1)))) t else plF (tmF n t (256 - (i+1))) (tmF n t (256 - (i+1))))=_
    rw [show 255 - (256 - (i+1))=i by omega,hs,← hs2,← hs3]
   by_cases hb:n / 2 ^ i % 2=1
   · rw [if_pos hb] at hstep
     have M0:RG.M w w.heap.size [] 23 [(wn n),(tw t),(RG.z 12),(tw s)] [k2,k3,k4,k5] [(2,(.p 0 0)),(3,(.p 1 0)),(4,(.p 2 0)),(5,(.p 3 0)),(6,(.v (.int .i64 (i:Int))))] a _:=⟨hS,sl,⟨f2,f3,f4,f5,f6,trivial⟩⟩
     repeat refine wp_seq ?_
     refine M0.tx0 (F40a_3 i) [(2,(.p 0 0)),(3,(.p 1 0)),(4,(.p 2 0)),(5,(.p 3 0)),(6,(.v (.int .i64 (i:Int)))),(9,(.v (.bool true)))] (by kernel_rfl) ⟨RG.st fun _ _=>by kernel_rfl,RG.cert_binc rfl .geq 3 3 8 (.int .i64 (i:Int)) (.int .i64 0) (.bool true) rfl rfl (RG.sx fun _=>by kernel_rfl) (fun w=>by kernel_rfl) (geq0 i),trivial⟩ ?_
     intro a1 w1 M1
     repeat refine wp_seq ?_
     refine wp_cond_true (M1.ev (by kernel_rfl)) ?_
     refine wp_skip ?_
     refine wp_seq ?_
     refine wp_block ?_
     repeat refine wp_seq ?_
     refine M1.tx (F40a_5 s s2) [] [(3,3,(tw s2))] [(wn n),(tw t),(RG.z 12),(tw s2)] [(2,(.p 0 0)),(3,(.p 1 0)),(4,(.p 2 0)),(5,(.p 3 0)),(6,(.v (.int .i64 (i:Int))))] (by kernel_rfl) (by kernel_rfl) ⟨RG.ld u56 i56 (by kernel_rfl),RG.ld u56 i56 (by kernel_rfl),RG.cl (hp1) fun _ _=>by kernel_rfl,RG.pt i56 (by kernel_rfl),trivial⟩ ?_
     intro a2 w2 M2
     repeat refine wp_seq ?_
     refine M2.tx0 (F40a_6 n i) [(2,(.p 0 0)),(3,(.p 1 0)),(4,(.p 2 0)),(5,(.p 3 0)),(6,(.v (.int .i64 (i:Int)))),(18,(.v (.bool true)))] (by kernel_rfl) ⟨RG.ld u33 i33 (by kernel_rfl),RG.st fun _ _=>by kernel_rfl,RG.cl (rBit_1 hn hi hb) fun _ _=>by kernel_rfl,RG.st fun _ _=>by kernel_rfl,trivial⟩ ?_
     intro a3 w3 M3
     repeat refine wp_seq ?_
     refine wp_cond_true (M3.ev (by kernel_rfl)) ?_
     repeat refine wp_seq ?_
     refine M3.tx (F40a_7 t s2 s3) [] [(3,3,(tw s3))] [(wn n),(tw t),(RG.z 12),(tw s3)] [(2,(.p 0 0)),(3,(.p 1 0)),(4,(.p 2 0)),(5,(.p 3 0)),(6,(.v (.int .i64 (i:Int))))] (by kernel_rfl) (by kernel_rfl) ⟨RG.ld u56 i56 (by kernel_rfl),RG.ld u56 i56 (by kernel_rfl),RG.cl (hp2) fun _ _=>by kernel_rfl,RG.pt i56 (by kernel_rfl),trivial⟩ ?_
     intro a4 w4 M4
     repeat refine wp_seq ?_
     refine M4.tx0 (F40a_4 i) [(2,(.p 0 0)),(3,(.p 1 0)),(4,(.p 2 0)),(5,(.p 3 0)),(6,(.v (.int .i64 ((i:Int) - 1))))] (by kernel_rfl) ⟨RG.st fun _ _=>by kernel_rfl,RG.cert_binc rfl .sub 3 3 10 (.int .i64 (i:Int)) (.int .i64 1) (.int .i64 ((i:Int) - 1)) rfl rfl (RG.sx fun _=>by kernel_rfl) (fun w=>by kernel_rfl) (sub1 i (by omega)),RG.st fun _ _=>by kernel_rfl,trivial⟩ ?_
     intro a5 w5 M5
     have hS5:RG.St w w.heap.size [] [(wn n),(tw t),(RG.z 12),(tw s3)] [k2,k3,k4,k5] _:=M5.st
     have sl5:=M5.sl
     have f2_5:a5.tmps[2]? = some (.pointer (some ⟨k2,0,none⟩)):=M5.at (s:=(.p 0 0)) (by kernel_rfl)
     have f3_5:a5.tmps[3]? = some (.pointer (some ⟨k3,0,none⟩)):=M5.at (s:=(.p 1 0)) (by kernel_rfl)
     have f4_5:a5.tmps[4]? = some (.pointer (some ⟨k4,0,none⟩)):=M5.at (s:=(.p 2 0)) (by kernel_rfl)
     have f5_5:a5.tmps[5]? = some (.pointer (some ⟨k5,0,none⟩)):=M5.at (s:=(.p 3 0)) (by kernel_rfl)
     have f6_5:a5.tmps[6]? = some (.int .i64 ((i:Int) - 1)):=M5.at (s:=(.v (.int .i64 ((i:Int) - 1)))) (by kernel_rfl)
     show ∃ n',_
     exact ⟨i,Nat.lt_succ_self i,by omega,sl5,f2_5,f3_5,f4_5,f5_5,f6_5,by rw [hstep];exact hS5⟩
   · rw [if_neg hb] at hstep
     have M0:RG.M w w.heap.size [] 23 [(wn n),(tw t),(RG.z 12),(tw s)] [k2,k3,k4,k5] [(2,(.p 0 0)),(3,(.p 1 0)),(4,(.p 2 0)),(5,(.p 3 0)),(6,(.v (.int .i64 (i:Int))))] a _:=⟨hS,sl,⟨f2,f3,f4,f5,f6,trivial⟩⟩
     repeat refine wp_seq ?_
     refine M0.tx0 (F40b_3 i) [(2,(.p 0 0)),(3,(.p 1 0)),(4,(.p 2 0)),(5,(.p 3 0)),(6,(.v (.int .i64 (i:Int)))),(9,(.v (.bool true)))] (by kernel_rfl) ⟨RG.st fun _ _=>by kernel_rfl,RG.cert_binc rfl .geq 3 3 8 (.int .i64 (i:Int)) (.int .i64 0) (.bool true) rfl rfl (RG.sx fun _=>by kernel_rfl) (fun w=>by kernel_rfl) (geq0 i),trivial⟩ ?_
     intro a1 w1 M1
     repeat refine wp_seq ?_
     refine wp_cond_true (M1.ev (by kernel_rfl)) ?_
     refine wp_skip ?_
     refine wp_seq ?_
     refine wp_block ?_
     repeat refine wp_seq ?_
     refine M1.tx (F40b_5 s s2) [] [(3,3,(tw s2))] [(wn n),(tw t),(RG.z 12),(tw s2)] [(2,(.p 0 0)),(3,(.p 1 0)),(4,(.p 2 0)),(5,(.p 3 0)),(6,(.v (.int .i64 (i:Int))))] (by kernel_rfl) (by kernel_rfl) ⟨RG.ld u56 i56 (by kernel_rfl),RG.ld u56 i56 (by kernel_rfl),RG.cl (hp1) fun _ _=>by kernel_rfl,RG.pt i56 (by kernel_rfl),trivial⟩ ?_
     intro a2 w2 M2
     repeat refine wp_seq ?_
     refine M2.tx0 (F40b_6 n i) [(2,(.p 0 0)),(3,(.p 1 0)),(4,(.p 2 0)),(5,(.p 3 0)),(6,(.v (.int .i64 (i:Int)))),(18,(.v (.bool false)))] (by kernel_rfl) ⟨RG.ld u33 i33 (by kernel_rfl),RG.st fun _ _=>by kernel_rfl,RG.cl (rBit_0 hn hi hb) fun _ _=>by kernel_rfl,RG.st fun _ _=>by kernel_rfl,trivial⟩ ?_
     intro a3 w3 M3
     repeat refine wp_seq ?_
     refine wp_cond_false (M3.ev (by kernel_rfl)) ?_
     refine wp_skip ?_
     repeat refine wp_seq ?_
     refine M3.tx0 (F40b_4 i) [(2,(.p 0 0)),(3,(.p 1 0)),(4,(.p 2 0)),(5,(.p 3 0)),(6,(.v (.int .i64 ((i:Int) - 1))))] (by kernel_rfl) ⟨RG.st fun _ _=>by kernel_rfl,RG.cert_binc rfl .sub 3 3 10 (.int .i64 (i:Int)) (.int .i64 1) (.int .i64 ((i:Int) - 1)) rfl rfl (RG.sx fun _=>by kernel_rfl) (fun w=>by kernel_rfl) (sub1 i (by omega)),RG.st fun _ _=>by kernel_rfl,trivial⟩ ?_
     intro a4 w4 M4
     have hS4:RG.St w w.heap.size [] [(wn n),(tw t),(RG.z 12),(tw s2)] [k2,k3,k4,k5] _:=M4.st
     have sl4:=M4.sl
     have f2_4:a4.tmps[2]? = some (.pointer (some ⟨k2,0,none⟩)):=M4.at (s:=(.p 0 0)) (by kernel_rfl)
     have f3_4:a4.tmps[3]? = some (.pointer (some ⟨k3,0,none⟩)):=M4.at (s:=(.p 1 0)) (by kernel_rfl)
     have f4_4:a4.tmps[4]? = some (.pointer (some ⟨k4,0,none⟩)):=M4.at (s:=(.p 2 0)) (by kernel_rfl)
     have f5_4:a4.tmps[5]? = some (.pointer (some ⟨k5,0,none⟩)):=M4.at (s:=(.p 3 0)) (by kernel_rfl)
     have f6_4:a4.tmps[6]? = some (.int .i64 ((i:Int) - 1)):=M4.at (s:=(.v (.int .i64 ((i:Int) - 1)))) (by kernel_rfl)
     show ∃ n',_
     exact ⟨i,Nat.lt_succ_self i,by omega,sl4,f2_4,f3_4,f4_4,f5_4,f6_4,by rw [hstep];exact hS4⟩
end Go.Proofs.YtmkllfekhehagafGreat
set_option linter.unusedVariables false
namespace Go.Proofs.YtmkllfekhehagafGreat
open Go.RowKit Go.Sort Go.Deep
variable {P:Nat} [NeZero P]
def FB_0:List RG.It:=[.m 1 [] 0,.m 2 [] 1]
def FB_1 (n:Nat):List RG.It:=[.x 3 [] (nv n),.c 4 [] (tv (gT P)),.c 5 [(3,0),(4,1)] (tv (tmF n (gT P) 256)),.u [(5,2)] 1]
set_option maxHeartbeats 4000000 in
set_option maxRecDepth 100000 in
theorem qBase_c (C:Fl3 P) (n:Nat) (hn:n < top):Gives 55 #[nv n] (tv (tmF n (gT P) 256)):=by
 intro w
 go_enter Tryz.func55,Tryz.ntmps55
 refine RG.M.enter [(0,.v (nv n))] 6 (by kernel_rfl) ?_
 intro a0 M0
 repeat refine wp_seq ?_
 refine M0.tx FB_0 [(0,(wn n)),(1,(RG.z 12))] [] [(wn n),(RG.z 12)] [(1,(.p 0 0)),(2,(.p 1 0))] (by kernel_rfl) (by kernel_rfl) ⟨RG.mk 0 54 fun _ _=>by kernel_rfl,RG.mk 1 56 fun _ _=>by kernel_rfl,trivial⟩ ?_
 intro j1 i1 a1 w1 M1
 repeat refine wp_seq ?_
 refine M1.dr (by kernel_rfl) (FB_1 (P:=P) n) [] [(1,3,(tw (tmF n (gT P) 256)))] [(wn n),(tw (tmF n (gT P) 256))] [(2,(.p 1 0))] (by kernel_rfl) (by kernel_rfl) ⟨RG.ld u33 i33 (by kernel_rfl),RG.cl (rG_c C) fun _ _=>by kernel_rfl,RG.cl (rTimes_c C n hn (gT P) (gT_frac C.toFld)) fun _ _=>by kernel_rfl,RG.pt i56 (by kernel_rfl),trivial⟩ ?_
 intro a2 w2 M2
 refine wp_ret ?_
 refine bodyPost_ret (v:=tv (tmF n (gT P) 256)) (RG.results_row M2.st 2 56 rfl 1 _ rfl (M2.at (s:=.p 1 0) (by kernel_rfl)) u56 i56) M2.sl.defers ?_
 exact ⟨_,rfl,M2.st.bel.below,rfl⟩
end Go.Proofs.YtmkllfekhehagafGreat
namespace Go.Proofs.YtmkllfekhehagafGreat
open Go.RowKit Go.Sort Go.Deep
variable {P:Nat} [NeZero P]
theorem rBytes_c (C:Fld P) (x:Fin P):Gives 66 #[fv x] (.string ⟨bx x.val⟩):=fun w =>
 (rBytes_any _ _ w (C.four x)).mono (by
  rintro e w' ⟨v,rfl,hb,a,b,c,d,he,rfl⟩
  refine ⟨_,rfl,hb,?_⟩
  have h2:fv x=.agg #[.int .u64 ((x.val % 18446744073709551616:Nat):Int),.int .u64 ((x.val / 18446744073709551616 % 18446744073709551616:Nat):Int),.int .u64 ((x.val / 340282366920938463463374607431768211456 % 18446744073709551616:Nat):Int),.int .u64 ((x.val / 6277101735386680763835789423207666416102355444464034512896 % 18446744073709551616:Nat):Int)]:=rfl
  rw [h2] at he
  simp only [Value.agg.injEq,Array.mk.injEq,List.cons.injEq,Value.int.injEq,true_and,and_true,Int.ofNat_inj] at he
  obtain ⟨rfl,rfl,rfl,rfl⟩:=he
  rfl)
theorem u31:(Tryz.prog.underlying 31).map (·.isRow)=some false:=by kernel_rfl
theorem and1 (n r:Nat) (hr:n % 2=r) (w:World):(binOp .and 31 (.int .u64 ((n % 18446744073709551616:Nat):Int)) (.int .u64 1)).run Tryz.prog w=.ok (.int .u64 (r:Int)) w:=by
 have h:=and_one (n % 18446744073709551616) (Nat.mod_lt _ (by decide))
 rw [show n % 18446744073709551616 % 2=r by omega] at h
 generalize n % 18446744073709551616=k at h ⊢
 go_simp
theorem cat (m:UInt8) (n:Nat) (w:World):(binOp .add 9 (.string ⟨#[m]⟩) (.string ⟨bx n⟩)).run Tryz.prog w=.ok (.string ⟨#[m]++bx n⟩) w:=by
 have h:=bx_size n
 generalize bx n=b at h ⊢
 have h2:(⟨#[m]⟩:ByteArray)++⟨b⟩=⟨#[m]++b⟩:=by
  have h3:((⟨#[m]⟩:ByteArray)++⟨b⟩).data=#[m]++b:=ByteArray.data_append
  rw [← h3]
 go_simp
set_option maxRecDepth 100000 in
theorem bs1 (m:Int) (w:World):(Instr.buildSlice 23 1 #[(0,.int .u8 m)]).run Tryz.prog w=.ok (.slice (some ⟨w.heap.size,0,none⟩) 1 1) (w.alloc (.cells #[.int .u8 m] 5)):=by
 obtain ⟨ie,hie,he⟩:=Option.map_eq_some_iff.1 info5b
 simp only [Prod.mk.injEq] at he
 obtain ⟨h1,h2,-⟩:=he
 exact run_buildSlice w 23 5 1 _ #[.int .u8 m] ie (.int .u8 0) und23 hie h1 (by rw [h2];omega) (by rw [h2];omega) (by rw [h2];kernel_rfl)
set_option maxRecDepth 100000 in
theorem str1 (m:UInt8) (w:World) (k:Nat) (h:w.rangeAt k 0 [.int .u8 (ub m)]):(convert 23 9 (.slice (some ⟨k,0,none⟩) 1 1)).run Tryz.prog w=.ok (.string ⟨#[m]⟩) w:=by
 have h2:=run_convert_bytes_back (P:=Tryz.prog) w 23 9 5 ⟨k,0,none⟩ 1 [m] slice22 int5 str9 (fun j hj=>by
  obtain rfl:j=0:=by simpa using hj
  have h3:=h 0 _ rfl
  have e1:(⟨k,0,none⟩:Addr).add 0=⟨k,0,none⟩:=rfl
  rw [e1,h3]
  simp [ub])
 simpa using h2
omit [NeZero P] in
theorem words3 (x y z:Fin P):∃ a1 b1 c1 d1 a2 b2 c2 d2 a3 b3 c3 d3:Nat,rv x y z=.agg #[.int .u64 (a1:Int),.int .u64 (b1:Int),.int .u64 (c1:Int),.int .u64 (d1:Int),.int .u64 (a2:Int),.int .u64 (b2:Int),.int .u64 (c2:Int),.int .u64 (d2:Int),.int .u64 (a3:Int),.int .u64 (b3:Int),.int .u64 (c3:Int),.int .u64 (d3:Int)] :=
 ⟨_,_,_,_,_,_,_,_,_,_,_,_,rfl⟩
set_option maxHeartbeats 2000000 in
set_option maxRecDepth 100000 in
theorem rWr_z (C:Fl3 P) (x y z:Fin P) (hz:z=0):Gives 29 #[rv x y z] (.string ⟨zs33⟩):=by
 intro w
 have hI:=Is_t_c C x y z hz
 obtain ⟨a1,b1,c1,d1,a2,b2,c2,d2,a3,b3,c3,d3,e⟩:=words3 x y z
 rw [e] at hI ⊢
 have hmk:=mk33
 go_enter Tryz.func29,Tryz.ntmps29
 go_wp2_with fail
 refine (hI _).mono ?_
 rintro e w1 ⟨v,rfl,hb1,rfl⟩
 have HB:Hid (Below w.heap.size w w1):=(below1 w _).trans (hb1.mono (by simp))
 have hcv:(convert 23 9 (.slice (some ⟨w1.heap.size,0,none⟩) 33 33)).run Tryz.prog (w1.alloc (.cells (madeCells #[.int .u8 0] 33) 5))=.ok (.string ⟨zs33⟩) (w1.alloc (.cells (madeCells #[.int .u8 0] 33) 5)) :=
  conv_str Tryz.prog 23 9 5 slice22 int5 str9 _ _ 0 33 33 _ (Holds.made (enc:=encB) w1 5 33 (0:UInt8)) (by decide)
 clear hb1 hI
 go_wp2
 go_ret
 exact ⟨_,rfl,HB.out.trans ((below1 w1 _).mono HB.out.size),rfl⟩
end Go.Proofs.YtmkllfekhehagafGreat
namespace Go.Proofs.YtmkllfekhehagafGreat
open Go.RowKit Go.Sort Go.Deep
variable {P:Nat} [NeZero P]
def F380_0 (x:Fin P):List RG.It:=[.m 1 [] 0,.x 2 [] (.string ⟨#[]⟩)]
def F380_1 (x y z:Fin P):List RG.It:=[.x 7 [] (rv x y z),.c 8 [(7,0)] (.bool false),.x 3 [(8,1)] (.bool false)]
def F380_2 (x:Fin P):List RG.It:=[.x 9 [] (.bool false)]
def F380_4 (x z c1:Fin P):List RG.It:=[.c 12 [] rv0,.s 13 [] (.p 0 8),.x 14 [(13,1)] (fv z),.c 15 [(12,0),(14,2)] (fv c1),.m 4 [] 1,.u [(4,4),(15,3)] 1]
def F380_5 (x c1 c2:Fin P):List RG.It:=[.c 16 [] rv0,.s 17 [] (.p 0 0),.x 18 [(17,1)] (fv x),.x 19 [] (fv c1),.c 20 [(16,0),(18,2),(19,3)] (fv c2),.m 5 [] 2,.u [(5,5),(20,4)] 2]
def F380_6 (x y c1 c3:Fin P):List RG.It:=[.c 21 [] rv0,.s 22 [] (.p 0 4),.x 23 [(22,1)] (fv y),.x 24 [] (fv c1),.c 25 [(21,0),(23,2),(24,3)] (fv c3),.m 6 [] 3,.u [(6,5),(25,4)] 3]
def F380_7 (x c2 c3:Fin P):List RG.It:=[.s 26 [] (.p 3 0),.x 27 [(26,0)] (.int .u64 ((c3.val % 18446744073709551616:Nat):Int)),.x 28 [(27,1)] (.int .u64 0),.x 29 [(28,2)] (.int .u8 0),.x 30 [(29,3)] (.int .u8 2),⟨some 31,[(30,4)],(.s 4 1 1),.make 4⟩,.x 32 [(31,5)] (.string ⟨#[2]⟩),.x 33 [] (fv c2),.c 34 [(33,7)] (.string ⟨bx c2.val⟩),.x 35 [(32,6),(34,8)] (.string ⟨#[2]++bx c2.val⟩),.x 2 [(35,9)] (.string ⟨#[2]++bx c2.val⟩)]
set_option maxHeartbeats 2000000 in
set_option maxRecDepth 100000 in
theorem rWr_0_c (C:Fl3 P) (x y z:Fin P)(hz:¬ z=0) (hpar:(y*EC.inv z).val % 2=0) :Gives 29 #[(rv x y z)] (.string ⟨#[2]++bx (x*EC.inv z).val⟩):=by
 intro w
 obtain ⟨c1,hc1⟩:∃ c,c=EC.inv z:=⟨_,rfl⟩
 obtain ⟨c2,hc2⟩:∃ c,c=x*c1:=⟨_,rfl⟩
 obtain ⟨c3,hc3⟩:∃ c,c=y*c1:=⟨_,rfl⟩
 have hfin:((.string ⟨#[2]++bx c2.val⟩):Value)=(.string ⟨#[2]++bx (x*EC.inv z).val⟩):=by
  subst_vars;rfl
 rw [← hfin]
 go_enter Tryz.func29,Tryz.ntmps29
 refine RG.M.enter [(0,(.v (rv x y z)))] 36 (by kernel_rfl) ?_
 intro a0 M0
 repeat refine wp_seq ?_
 refine M0.tx (F380_0 x) [(0,(ws x++(ws y++(ws z))))] [] [(ws x++(ws y++(ws z)))] [(1,(.p 0 0)),(2,(.v (.string ⟨#[]⟩)))] (by kernel_rfl) (by kernel_rfl) ⟨RG.mk 0 56 fun _ _=>by kernel_rfl,RG.st fun _ _=>by kernel_rfl,trivial⟩ ?_
 intro j1 a1 w1 M1
 repeat refine wp_seq ?_
 refine M1.tx0 (F380_1 x y z) [(1,(.p 0 0)),(2,(.v (.string ⟨#[]⟩))),(3,(.v (.bool false)))] (by kernel_rfl) ⟨RG.ld u56 i56 (by kernel_rfl),RG.cl (Is_f_c C x y z hz) fun _ _=>by kernel_rfl,RG.st fun _ _=>by kernel_rfl,trivial⟩ ?_
 intro a2 w2 M2
 repeat refine wp_seq ?_
 refine M2.tx0 (F380_2 x) [(1,(.p 0 0)),(2,(.v (.string ⟨#[]⟩))),(9,(.v (.bool false)))] (by kernel_rfl) ⟨RG.st fun _ _=>by kernel_rfl,trivial⟩ ?_
 intro a3 w3 M3
 repeat refine wp_seq ?_
 refine wp_cond_false (M3.ev (by kernel_rfl)) ?_
 refine wp_skip ?_
 repeat refine wp_seq ?_
 refine M3.dr (by kernel_rfl) (F380_4 x z c1) [(4,(RG.z 4))] [(1,5,(ws c1))] [(ws x++(ws y++(ws z))),(ws c1)] [(1,(.p 0 0)),(2,(.v (.string ⟨#[]⟩))),(4,(.p 1 0))] (by kernel_rfl) (by kernel_rfl) ⟨RG.cl (F3_c) fun _ _=>by kernel_rfl,RG.st fun _ _=>by kernel_rfl,RG.ld u33 i33 (by kernel_rfl),RG.cl ((rInv_c C z).e hc1) fun _ _=>by kernel_rfl,RG.mk 1 54 fun _ _=>by kernel_rfl,RG.pt i33 (by kernel_rfl),trivial⟩ ?_
 intro j4 a4 w4 M4
 repeat refine wp_seq ?_
 refine M4.dr (by kernel_rfl) (F380_5 x c1 c2) [(5,(RG.z 4))] [(2,6,(ws c2))] [(ws x++(ws y++(ws z))),(ws c1),(ws c2)] [(1,(.p 0 0)),(2,(.v (.string ⟨#[]⟩))),(4,(.p 1 0)),(5,(.p 2 0))] (by kernel_rfl) (by kernel_rfl) ⟨RG.cl (F3_c) fun _ _=>by kernel_rfl,RG.st fun _ _=>by kernel_rfl,RG.ld u33 i33 (by kernel_rfl),RG.ld u33 i33 (by kernel_rfl),RG.cl ((rMul_c C x c1).e hc2) fun _ _=>by kernel_rfl,RG.mk 2 54 fun _ _=>by kernel_rfl,RG.pt i33 (by kernel_rfl),trivial⟩ ?_
 intro j5 a5 w5 M5
 repeat refine wp_seq ?_
 refine M5.dr (by kernel_rfl) (F380_6 x y c1 c3) [(5,(RG.z 4))] [(3,6,(ws c3))] [(ws x++(ws y++(ws z))),(ws c1),(ws c2),(ws c3)] [(2,(.v (.string ⟨#[]⟩))),(5,(.p 2 0)),(6,(.p 3 0))] (by kernel_rfl) (by kernel_rfl) ⟨RG.cl (F3_c) fun _ _=>by kernel_rfl,RG.st fun _ _=>by kernel_rfl,RG.ld u33 i33 (by kernel_rfl),RG.ld u33 i33 (by kernel_rfl),RG.cl ((rMul_c C y c1).e hc3) fun _ _=>by kernel_rfl,RG.mk 3 54 fun _ _=>by kernel_rfl,RG.pt i33 (by kernel_rfl),trivial⟩ ?_
 intro j6 a6 w6 M6
 repeat refine wp_seq ?_
 refine M6.dr (by kernel_rfl) (F380_7 x c2 c3) [(5,[(.int .u8 2)])] [] [(ws x++(ws y++(ws z))),(ws c1),(ws c2),(ws c3),[(.int .u8 2)]] [(2,(.v (.string ⟨#[2]++bx c2.val⟩)))] (by kernel_rfl) (by kernel_rfl) ⟨RG.cert_idxc rfl 54 6 (.int .i64 0) rfl (.p 3 0) (RG.sx fun _=>by kernel_rfl) (fun μ w=>by kernel_rfl),RG.cert_load1 rfl 3 0 _ rfl rfl (by kernel_rfl) 31 26 rfl (.int .u64 ((c3.val % 18446744073709551616:Nat):Int)) rfl (RG.sx fun _=>by kernel_rfl) rfl u31,RG.cert_binc rfl .and 31 31 27 (.int .u64 ((c3.val % 18446744073709551616:Nat):Int)) (.int .u64 1) (.int .u64 0) rfl rfl (RG.sx fun _=>by kernel_rfl) (fun w=>by kernel_rfl) (and1 c3.val 0 (by subst_vars;exact hpar)),RG.cert_conv rfl 31 5 28 (.int .u64 0) (.int .u8 0) rfl rfl (RG.sx fun _=>by kernel_rfl) (fun w=>by kernel_rfl),RG.st fun _ _=>by kernel_rfl,RG.cert_bs1 4 rfl _ rfl 23 5 30 (.int .u8 2) rfl rfl (RG.sx fun _=>by kernel_rfl) (bs1 2),RG.cert_str rfl 4 5 _ rfl _ rfl rfl (by kernel_rfl) (by kernel_rfl) 23 9 31 1 (.string ⟨#[2]⟩) rfl rfl (RG.sx fun _=>by kernel_rfl) (fun w k h=>str1 2 w k h),RG.ld u33 i33 (by kernel_rfl),RG.cl (rBytes_c C.toFld c2) fun _ _=>by kernel_rfl,RG.cert_bin rfl .add 9 9 32 34 (.string ⟨#[2]⟩) (.string ⟨bx c2.val⟩) (.string ⟨#[2]++bx c2.val⟩) rfl rfl (RG.sx fun _=>by kernel_rfl) (RG.sx fun _=>by kernel_rfl) (fun w=>by kernel_rfl) (cat 2 _),RG.st fun _ _=>by kernel_rfl,trivial⟩ ?_
 intro j7 a7 w7 M7
 refine wp_ret ?_
 refine bodyPost_ret (v:=(.string ⟨#[2]++bx c2.val⟩)) (RG.results_t 2 rfl _ (M7.at (s:=(.v (.string ⟨#[2]++bx c2.val⟩))) (by kernel_rfl))) M7.sl.defers ?_
 exact ⟨_,rfl,M7.st.bel.below,rfl⟩
def F381_0 (x:Fin P):List RG.It:=[.m 1 [] 0,.x 2 [] (.string ⟨#[]⟩)]
def F381_1 (x y z:Fin P):List RG.It:=[.x 7 [] (rv x y z),.c 8 [(7,0)] (.bool false),.x 3 [(8,1)] (.bool false)]
def F381_2 (x:Fin P):List RG.It:=[.x 9 [] (.bool false)]
def F381_4 (x z c1:Fin P):List RG.It:=[.c 12 [] rv0,.s 13 [] (.p 0 8),.x 14 [(13,1)] (fv z),.c 15 [(12,0),(14,2)] (fv c1),.m 4 [] 1,.u [(4,4),(15,3)] 1]
def F381_5 (x c1 c2:Fin P):List RG.It:=[.c 16 [] rv0,.s 17 [] (.p 0 0),.x 18 [(17,1)] (fv x),.x 19 [] (fv c1),.c 20 [(16,0),(18,2),(19,3)] (fv c2),.m 5 [] 2,.u [(5,5),(20,4)] 2]
def F381_6 (x y c1 c3:Fin P):List RG.It:=[.c 21 [] rv0,.s 22 [] (.p 0 4),.x 23 [(22,1)] (fv y),.x 24 [] (fv c1),.c 25 [(21,0),(23,2),(24,3)] (fv c3),.m 6 [] 3,.u [(6,5),(25,4)] 3]
def F381_7 (x c2 c3:Fin P):List RG.It:=[.s 26 [] (.p 3 0),.x 27 [(26,0)] (.int .u64 ((c3.val % 18446744073709551616:Nat):Int)),.x 28 [(27,1)] (.int .u64 1),.x 29 [(28,2)] (.int .u8 1),.x 30 [(29,3)] (.int .u8 3),⟨some 31,[(30,4)],(.s 4 1 1),.make 4⟩,.x 32 [(31,5)] (.string ⟨#[3]⟩),.x 33 [] (fv c2),.c 34 [(33,7)] (.string ⟨bx c2.val⟩),.x 35 [(32,6),(34,8)] (.string ⟨#[3]++bx c2.val⟩),.x 2 [(35,9)] (.string ⟨#[3]++bx c2.val⟩)]
set_option maxHeartbeats 2000000 in
set_option maxRecDepth 100000 in
theorem rWr_1_c (C:Fl3 P) (x y z:Fin P)(hz:¬ z=0) (hpar:(y*EC.inv z).val % 2=1) :Gives 29 #[(rv x y z)] (.string ⟨#[3]++bx (x*EC.inv z).val⟩):=by
 intro w
 obtain ⟨c1,hc1⟩:∃ c,c=EC.inv z:=⟨_,rfl⟩
 obtain ⟨c2,hc2⟩:∃ c,c=x*c1:=⟨_,rfl⟩
 obtain ⟨c3,hc3⟩:∃ c,c=y*c1:=⟨_,rfl⟩
 have hfin:((.string ⟨#[3]++bx c2.val⟩):Value)=(.string ⟨#[3]++bx (x*EC.inv z).val⟩):=by
  subst_vars;rfl
 rw [← hfin]
 go_enter Tryz.func29,Tryz.ntmps29
 refine RG.M.enter [(0,(.v (rv x y z)))] 36 (by kernel_rfl) ?_
 intro a0 M0
 repeat refine wp_seq ?_
 refine M0.tx (F381_0 x) [(0,(ws x++(ws y++(ws z))))] [] [(ws x++(ws y++(ws z)))] [(1,(.p 0 0)),(2,(.v (.string ⟨#[]⟩)))] (by kernel_rfl) (by kernel_rfl) ⟨RG.mk 0 56 fun _ _=>by kernel_rfl,RG.st fun _ _=>by kernel_rfl,trivial⟩ ?_
 intro j1 a1 w1 M1
 repeat refine wp_seq ?_
 refine M1.tx0 (F381_1 x y z) [(1,(.p 0 0)),(2,(.v (.string ⟨#[]⟩))),(3,(.v (.bool false)))] (by kernel_rfl) ⟨RG.ld u56 i56 (by kernel_rfl),RG.cl (Is_f_c C x y z hz) fun _ _=>by kernel_rfl,RG.st fun _ _=>by kernel_rfl,trivial⟩ ?_
 intro a2 w2 M2
 repeat refine wp_seq ?_
 refine M2.tx0 (F381_2 x) [(1,(.p 0 0)),(2,(.v (.string ⟨#[]⟩))),(9,(.v (.bool false)))] (by kernel_rfl) ⟨RG.st fun _ _=>by kernel_rfl,trivial⟩ ?_
 intro a3 w3 M3
 repeat refine wp_seq ?_
 refine wp_cond_false (M3.ev (by kernel_rfl)) ?_
 refine wp_skip ?_
 repeat refine wp_seq ?_
 refine M3.dr (by kernel_rfl) (F381_4 x z c1) [(4,(RG.z 4))] [(1,5,(ws c1))] [(ws x++(ws y++(ws z))),(ws c1)] [(1,(.p 0 0)),(2,(.v (.string ⟨#[]⟩))),(4,(.p 1 0))] (by kernel_rfl) (by kernel_rfl) ⟨RG.cl (F3_c) fun _ _=>by kernel_rfl,RG.st fun _ _=>by kernel_rfl,RG.ld u33 i33 (by kernel_rfl),RG.cl ((rInv_c C z).e hc1) fun _ _=>by kernel_rfl,RG.mk 1 54 fun _ _=>by kernel_rfl,RG.pt i33 (by kernel_rfl),trivial⟩ ?_
 intro j4 a4 w4 M4
 repeat refine wp_seq ?_
 refine M4.dr (by kernel_rfl) (F381_5 x c1 c2) [(5,(RG.z 4))] [(2,6,(ws c2))] [(ws x++(ws y++(ws z))),(ws c1),(ws c2)] [(1,(.p 0 0)),(2,(.v (.string ⟨#[]⟩))),(4,(.p 1 0)),(5,(.p 2 0))] (by kernel_rfl) (by kernel_rfl) ⟨RG.cl (F3_c) fun _ _=>by kernel_rfl,RG.st fun _ _=>by kernel_rfl,RG.ld u33 i33 (by kernel_rfl),RG.ld u33 i33 (by kernel_rfl),RG.cl ((rMul_c C x c1).e hc2) fun _ _=>by kernel_rfl,RG.mk 2 54 fun _ _=>by kernel_rfl,RG.pt i33 (by kernel_rfl),trivial⟩ ?_
 intro j5 a5 w5 M5
 repeat refine wp_seq ?_
 refine M5.dr (by kernel_rfl) (F381_6 x y c1 c3) [(5,(RG.z 4))] [(3,6,(ws c3))] [(ws x++(ws y++(ws z))),(ws c1),(ws c2),(ws c3)] [(2,(.v (.string ⟨#[]⟩))),(5,(.p 2 0)),(6,(.p 3 0))] (by kernel_rfl) (by kernel_rfl) ⟨RG.cl (F3_c) fun _ _=>by kernel_rfl,RG.st fun _ _=>by kernel_rfl,RG.ld u33 i33 (by kernel_rfl),RG.ld u33 i33 (by kernel_rfl),RG.cl ((rMul_c C y c1).e hc3) fun _ _=>by kernel_rfl,RG.mk 3 54 fun _ _=>by kernel_rfl,RG.pt i33 (by kernel_rfl),trivial⟩ ?_
 intro j6 a6 w6 M6
 repeat refine wp_seq ?_
 refine M6.dr (by kernel_rfl) (F381_7 x c2 c3) [(5,[(.int .u8 3)])] [] [(ws x++(ws y++(ws z))),(ws c1),(ws c2),(ws c3),[(.int .u8 3)]] [(2,(.v (.string ⟨#[3]++bx c2.val⟩)))] (by kernel_rfl) (by kernel_rfl) ⟨RG.cert_idxc rfl 54 6 (.int .i64 0) rfl (.p 3 0) (RG.sx fun _=>by kernel_rfl) (fun μ w=>by kernel_rfl),RG.cert_load1 rfl 3 0 _ rfl rfl (by kernel_rfl) 31 26 rfl (.int .u64 ((c3.val % 18446744073709551616:Nat):Int)) rfl (RG.sx fun _=>by kernel_rfl) rfl u31,RG.cert_binc rfl .and 31 31 27 (.int .u64 ((c3.val % 18446744073709551616:Nat):Int)) (.int .u64 1) (.int .u64 1) rfl rfl (RG.sx fun _=>by kernel_rfl) (fun w=>by kernel_rfl) (and1 c3.val 1 (by subst_vars;exact hpar)),RG.cert_conv rfl 31 5 28 (.int .u64 1) (.int .u8 1) rfl rfl (RG.sx fun _=>by kernel_rfl) (fun w=>by kernel_rfl),RG.st fun _ _=>by kernel_rfl,RG.cert_bs1 4 rfl _ rfl 23 5 30 (.int .u8 3) rfl rfl (RG.sx fun _=>by kernel_rfl) (bs1 3),RG.cert_str rfl 4 5 _ rfl _ rfl rfl (by kernel_rfl) (by kernel_rfl) 23 9 31 1 (.string ⟨#[3]⟩) rfl rfl (RG.sx fun _=>by kernel_rfl) (fun w k h=>str1 3 w k h),RG.ld u33 i33 (by kernel_rfl),RG.cl (rBytes_c C.toFld c2) fun _ _=>by kernel_rfl,RG.cert_bin rfl .add 9 9 32 34 (.string ⟨#[3]⟩) (.string ⟨bx c2.val⟩) (.string ⟨#[3]++bx c2.val⟩) rfl rfl (RG.sx fun _=>by kernel_rfl) (RG.sx fun _=>by kernel_rfl) (fun w=>by kernel_rfl) (cat 3 _),RG.st fun _ _=>by kernel_rfl,trivial⟩ ?_
 intro j7 a7 w7 M7
 refine wp_ret ?_
 refine bodyPost_ret (v:=(.string ⟨#[3]++bx c2.val⟩)) (RG.results_t 2 rfl _ (M7.at (s:=(.v (.string ⟨#[3]++bx c2.val⟩))) (by kernel_rfl))) M7.sl.defers ?_
 exact ⟨_,rfl,M7.st.bel.below,rfl⟩
end Go.Proofs.YtmkllfekhehagafGreat
namespace Go.Proofs.YtmkllfekhehagafGreat
open Go.RowKit Go.Sort
variable {P:Nat} [NeZero P]
theorem rWritten_c (C:Fl3 P) {t:T3 P} {p:EC.Pt P} (h:FracT t p):Gives 29 #[tv t] (.string ⟨wr p⟩):=by
 obtain ⟨x,y,z⟩:=t
 match p,h with
 | none,h=>exact rWr_z C x y z h.1
 | some (a,b),h =>
  obtain ⟨⟨hz,hx,hy⟩,ho⟩:=h
  have hi:=EC.inv_mul C.toFld.cur.pr hz
  have e1:x*EC.inv z=a:=by
   have hx:x=a*z:=hx
   rw [hx]
   grobner
  have e2:y*EC.inv z=b:=by
   have hy:y=b*z:=hy
   rw [hy]
   grobner
  show Gives _ #[rv x y z] (.string ⟨#[mark b.val]++bx a.val⟩)
  rw [← e1,← e2]
  unfold mark
  by_cases hp:(y*EC.inv z).val % 2=1
  · rw [if_pos hp]
    exact rWr_1_c C x y z hz hp
  · rw [if_neg hp]
    exact rWr_0_c C x y z hz (by omega)
end Go.Proofs.YtmkllfekhehagafGreat
namespace Go.Proofs.YtmkllfekhehagafGreat
open Go.RowKit Go.Sort Go.Deep
end Go.Proofs.YtmkllfekhehagafGreat
namespace Go.Proofs.YtmkllfekhehagafGreat
open Go.RowKit Go.Sort Go.Deep
variable {N:Nat}
variable {P:Nat} [NeZero P]
end Go.Proofs.YtmkllfekhehagafGreat
namespace Go.Proofs.YtmkllfekhehagafGreat
open Go.RowKit Go.Sort Go.Deep
theorem undCP:Tryz.prog.underlying 66=some (.array 33 5):=by kernel_rfl
theorem bl33_lit {b:Bs} (h:b.size=33):bl33 b=[.int .u8 (ub b[0]!),.int .u8 (ub b[1]!),.int .u8 (ub b[2]!),.int .u8 (ub b[3]!),.int .u8 (ub b[4]!),.int .u8 (ub b[5]!),.int .u8 (ub b[6]!),.int .u8 (ub b[7]!),.int .u8 (ub b[8]!),.int .u8 (ub b[9]!),.int .u8 (ub b[10]!),.int .u8 (ub b[11]!),.int .u8 (ub b[12]!),.int .u8 (ub b[13]!),.int .u8 (ub b[14]!),.int .u8 (ub b[15]!),.int .u8 (ub b[16]!),.int .u8 (ub b[17]!),.int .u8 (ub b[18]!),.int .u8 (ub b[19]!),.int .u8 (ub b[20]!),.int .u8 (ub b[21]!),.int .u8 (ub b[22]!),.int .u8 (ub b[23]!),.int .u8 (ub b[24]!),.int .u8 (ub b[25]!),.int .u8 (ub b[26]!),.int .u8 (ub b[27]!),.int .u8 (ub b[28]!),.int .u8 (ub b[29]!),.int .u8 (ub b[30]!),.int .u8 (ub b[31]!),.int .u8 (ub b[32]!)]:=by
 apply List.ext_getElem?
 intro i
 by_cases hi:i < 33
 · rw [bl33_at b i (by omega)]
   match i,hi with
   | 0,_=>rfl
   | 1,_=>rfl
   | 2,_=>rfl
   | 3,_=>rfl
   | 4,_=>rfl
   | 5,_=>rfl
   | 6,_=>rfl
   | 7,_=>rfl
   | 8,_=>rfl
   | 9,_=>rfl
   | 10,_=>rfl
   | 11,_=>rfl
   | 12,_=>rfl
   | 13,_=>rfl
   | 14,_=>rfl
   | 15,_=>rfl
   | 16,_=>rfl
   | 17,_=>rfl
   | 18,_=>rfl
   | 19,_=>rfl
   | 20,_=>rfl
   | 21,_=>rfl
   | 22,_=>rfl
   | 23,_=>rfl
   | 24,_=>rfl
   | 25,_=>rfl
   | 26,_=>rfl
   | 27,_=>rfl
   | 28,_=>rfl
   | 29,_=>rfl
   | 30,_=>rfl
   | 31,_=>rfl
   | 32,_=>rfl
   | n+33,h=>exact absurd h (by omega)
 · rw [List.getElem?_eq_none (by rw [bl33_length h];omega),List.getElem?_eq_none (by show 33≤i;omega)]
theorem bytes_eq {a b:Bs} (ha:a.size=33) (hb:b.size=33):(∀ i∈List.range 33,ub a[i]! = ub b[i]!)↔a=b:=by
 constructor
 · intro h
   apply Array.ext (by rw [ha,hb])
   intro i h1 h2
   have h3:=h i (List.mem_range.2 (by omega))
   rw [getElem!_pos a i h1,getElem!_pos b i h2] at h3
   have h4:a[i].toNat=b[i].toNat:=by unfold ub at h3;omega
   exact UInt8.toNat_inj.1 h4
 · rintro rfl i _
   rfl
theorem eqCP {a b:Bs} (ha:a.size=33) (hb:b.size=33) (w:World):(Op.equal 66 (.agg (bl33 a).toArray) (.agg (bl33 b).toArray)).run Tryz.prog w=.ok (decide (a=b)) w:=by
 have hi:(Tryz.prog.info? 5).isSome=true:=by kernel_rfl
 obtain ⟨inf,hinf⟩:=Option.isSome_iff_exists.1 hi
 show (Op.equalIn 10000 66 _ _).run Tryz.prog w=_
 rw [run_equalIn_array w 9999 _ _ undCP hinf,cells5,
  eqI _ _ (fun i=>ub a[i]!) (fun i=>ub b[i]!) 9998 w (List.range 33) (fun i hi=>by
   rw [List.getElem?_toArray]
   exact bl33_at a i (by rw [ha];exact List.mem_range.1 hi)) (fun i hi=>by
   rw [List.getElem?_toArray]
   exact bl33_at b i (by rw [hb];exact List.mem_range.1 hi))]
 rw [decide_eq_decide.2 (bytes_eq ha hb)]
set_option maxRecDepth 100000 in
theorem checkCP {b:Bs} (hb:b.size=33) (e:Bool) (w:World):(Instr.checkKey e 10000 66 (.agg (bl33 b).toArray)).run Tryz.prog w=.ok () w:=by
 rw [bl33_lit hb]
 kernel_rfl
def at? (b:Bs):List Bs→Nat→Option Nat
 | [],_=>none
 | k :: r,i=>if b=k then some i else at? b r (i+1)
def ents:List Bs→Nat→List MapEntry
 | [],_=>[]
 | k :: r,i=>{ key:=.agg (bl33 k).toArray,val:=.int .i64 (i:Int),born:=i } :: ents r (i+1)
theorem find_run {b:Bs} (hb:b.size=33) (w:World):∀ (D:List Bs) (i:Nat),(∀ k∈D,k.size=33)→(Instr.findAsking 66 (.agg (bl33 b).toArray) (ents D i) i).run Tryz.prog w=.ok ((at? b D i).map fun j=>(j,.int .i64 (j:Int))) w
 | [],i,_=>rfl
 | k :: r,i,h=>by
  have ih:=find_run hb w r (i+1) (fun x hx=>h x (List.mem_cons_of_mem _ hx))
  have he:=eqCP hb (h k List.mem_cons_self) w
  unfold ents Instr.findAsking at?
  simp only [Sem.run_bind,he,Result.andThen_ok]
  by_cases hk:b=k
  · simp only [hk,decide_true,if_true,Sem.run_pure,Option.map_some]
  · simp only [hk,decide_false,Bool.false_eq_true,if_false,ih]
theorem key_run {b:Bs} (hb:b.size=33) (D:List Bs) (h:∀ k∈D,k.size=33) (w:World):(Instr.findKey 66 (.agg (bl33 b).toArray) (ents D 0)).run Tryz.prog w=.ok ((at? b D 0).map fun j=>(j,.int .i64 (j:Int))) w:=by
 have hu:(underlying 66).run Tryz.prog w=.ok (.array 33 5) w:=run_underlying undCP w
 unfold Instr.findKey
 rw [Sem.run_bind,hu,Result.andThen_ok]
 cases D with
 | nil=>rfl
 | cons k r =>
  have h1:Instr.findNow (.array 33 5) (.agg (bl33 b).toArray) (ents (k :: r) 0) 0=none:=rfl
  simp only [h1]
  exact find_run hb w (k :: r) 0 h
theorem at?_none {b:Bs}:∀ {D:List Bs} {i:Nat},at? b D i=none↔b ∉ D
 | [],i=>by simp [at?]
 | k :: r,i=>by
  unfold at?
  by_cases h:b=k
  · simp [h]
  · simp [h,at?_none (D:=r) (i:=i+1)]
end Go.Proofs.YtmkllfekhehagafGreat
namespace Go.Proofs.YtmkllfekhehagafGreat
open Go.RowKit Go.Sort Go.Deep
section
variable {P:Program} {ops:Array Oper} {rest:List Oper} {op:Oper} {a:Act} {w w':World} {v u:Value} {Q:Exit→Act→World→Prop}
theorem wpList_box (hgd:op.guard=none) (T:TypeId) (x:Operand) (ho:op.op=.box T x) (hx:a.eval x=u) (hr:(Instr.box T u).run P w=.ok v w') (h:wpList P ops Q rest (a.put op.dst v) w'):wpList P ops Q (op :: rest) a w :=
 wpList_plain hgd fun K hK=>by
  unfold Oper.wp execOp
  simp only [ho,hx,Sem.run_bind,hr,Result.andThen_ok,Sem.run_pure]
  exact hK _ _ h
end
variable {N:Nat}
theorem infoCP:(Tryz.prog.info? 66).map (·.size)=some 33:=by kernel_rfl
theorem uCP:(Tryz.prog.underlying 66).map (·.isRow)=some true:=by kernel_rfl
set_option maxRecDepth 100000 in
theorem boxCP {a:Bs} (ha:a.size=33) (w:World):(Instr.box 66 (.agg (bl33 a).toArray)).run Tryz.prog w=.ok (.pointer (some ⟨w.heap.size,0,none⟩)) (w.alloc (.cells (bl33 a).toArray 66)):=by
 rw [bl33_lit ha]
 kernel_rfl
theorem slCP (k:Nat) (w:World):(Instr.sliceAt 66 (.pointer (some ⟨k,0,none⟩)) none none none).run Tryz.prog w=.ok (.slice (some ⟨k,0,none⟩) 33 33) w:=by kernel_rfl
theorem row_holds {W:World} {k:Nat} {a:Bs} (h:Row W k (bl33 a)):Holds encB W k 0 a:=cb_holds h.2.1 h.2.2
end Go.Proofs.YtmkllfekhehagafGreat
namespace Go.Proofs.YtmkllfekhehagafGreat
open Go.RowKit Go.Sort Go.Deep
variable {N:Nat}
end Go.Proofs.YtmkllfekhehagafGreat
namespace Go.Proofs.YtmkllfekhehagafGreat
open Go.RowKit Go.Sort Go.Deep
variable {P:Nat} [NeZero P]
theorem arrCP (g cg:Nat) (w:World):(Instr.arrayAt 66 (.slice (some ⟨g,0,none⟩) 33 cg)).run Tryz.prog w=.ok (.pointer (some ⟨g,0,none⟩)) w:=by kernel_rfl
theorem row_cp {W:World} {k:Nat} {a:Bs} (ha:Holds encB W k 0 a) (hk:k < W.heap.size):Row W k (bl33 a):=⟨hk,(cb_range ha).1,(cb_range ha).2⟩
theorem bl33_one (a:Bs):(bl33 a).toArray.all (·.oneCell')=true:=by
 rw [Array.all_eq_true']
 intro v hv
 obtain ⟨x,-,rfl⟩:=List.mem_map.1 (List.mem_toArray.1 hv)
 rfl
def pvl (a:Bs):Value:=.agg (bl33 a).toArray
set_option maxHeartbeats 1000000 in
set_option maxRecDepth 100000 in
theorem gen_c (C:Fld P):Gives 90 #[] (pvl (wr (gG P))):=by
 intro w
 obtain ⟨T,hT⟩:∃ T,Hid (wr (gG P)=T):=⟨_,rfl⟩
 have hTs:T.size=33:=by rw [← hT.out];exact wr_size _
 rw [hT.out]
 obtain ⟨w1,hw1⟩:∃ w1,Hid (w.alloc (.cells z33.toArray 66)=w1):=⟨_,rfl⟩
 have K1:Hid (Row w1 w.heap.size z33∧Below w.heap.size w w1):=by rw [← hw1.out];exact ⟨row_new w _ _,below1 w _⟩
 obtain ⟨d,hd1,hd2⟩:=Option.map_eq_some_iff.1 uCP
 have HD:Hid (Tryz.prog.underlying 66=some d∧d.isRow=true):=⟨hd1,hd2⟩
 clear hd1 hd2
 go_enter Tryz.func90,Tryz.ntmps90
 go_wp2_with (refine wpList_op (v:=.pointer (some ⟨w.heap.size,0,none⟩)) (w':=w1) rfl (.alloc 66) rfl ?_ ?_;(rw [← hw1.out];kernel_rfl))
 refine (Base_c C w1).mono ?_
 rintro e w2 ⟨vv,rfl,hb2,g,cg,rfl,-,k2,k3,k4⟩
 rw [hT.out] at k4
 have K2:Hid (Row w2 w.heap.size z33∧Below w.heap.size w w2∧Row w2 g (bl33 T)):=⟨K1.out.1.below hb2,K1.out.2.trans (hb2.mono K1.out.2.size),row_cp k4 k3⟩
 clear hb2 k2 k3 k4 K1 hw1
 have harr:=arrCP g cg
 obtain ⟨w3,hw3⟩:∃ w3,Hid (w2.setCells w.heap.size 0 (bl33 T)=w3):=⟨_,rfl⟩
 have hlen:(bl33 T).length=33:=bl33_length hTs
 have K3:Hid (Row w3 w.heap.size (bl33 T)∧Below w.heap.size w w3):=by rw [← hw3.out];exact ⟨K2.out.1.put (by rw [hlen];rfl),RG.below_setCells (Nat.le_refl _) _ _ _ K2.out.2.1⟩
 obtain ⟨vt,hvt⟩:∃ vt,Hid (Value.agg (bl33 T).toArray=vt):=⟨_,rfl⟩
 have HI:Hid ((Tryz.prog.info? 66).map (·.size)=some (bl33 T).length∧w2.there w.heap.size 0 (bl33 T).toArray.size∧(Tryz.prog.info? 66).map (·.size)=some (bl33 T).toArray.size):=by
  have e:(bl33 T).toArray.size=33:=by rw [List.size_toArray];exact hlen
  refine ⟨by rw [hlen];exact infoCP,by rw [e];exact K2.out.1.2.2,by rw [e];exact infoCP⟩
 clear hlen
 go_wp2_with (first | (refine wpList_load_mid rfl 66 _ rfl g 0 ?_ (bl33 T) d ?_ ?_ ?_ ?_ ?_;rfl;exact K2.out.2.2.2.1;exact HD.out.1;exact HD.out.2;exact HI.out.1;rw [hvt.out]) | (refine wpList_store_mid rfl 66 _ _ rfl w.heap.size 0 (bl33 T).toArray ?_ ?_ ?_ ?_ ?_ ?_;rfl;exact hvt.out.symm;exact HI.out.2.1;exact HI.out.2.2;exact bl33_one T;rw [show (bl33 T).toArray.toList=bl33 T from rfl,hw3.out]))
 refine bodyPost_ret (results_cell 0 66 rfl K3.out.1 rfl uCP HI.out.1) rfl ?_
 exact ⟨_,rfl,K3.out.2,rfl⟩
end Go.Proofs.YtmkllfekhehagafGreat
namespace Go.Proofs.YtmkllfekhehagafGreat
open Go.RowKit Go.Sort Go.Deep
section
variable {P:Program} {ops:Array Oper} {rest:List Oper} {op:Oper} {a:Act} {w w':World} {v:Value} {Q:Exit→Act→World→Prop}
theorem wpList_bld (hgd:op.guard=none) (T:TypeId) (parts:Array (Nat × Operand)) (ho:op.op=.build T parts) (vs:Array (Nat × Value)) (hx:(parts.map fun (i,x)=>(i,a.eval x))=vs) (hr:(Instr.build T vs).run P w=.ok v w') (h:wpList P ops Q rest (a.put op.dst v) w'):wpList P ops Q (op :: rest) a w :=
 wpList_plain hgd fun K hK=>by
  unfold Oper.wp execOp
  simp only [ho,hx,Sem.run_bind,hr,Result.andThen_ok,Sem.run_pure]
  exact hK _ _ h
theorem wpList_bsl (hgd:op.guard=none) (T:TypeId) (n:Nat) (parts:Array (Nat × Operand)) (ho:op.op=.buildSlice T n parts) (vs:Array (Nat × Value)) (hx:(parts.map fun (i,x)=>(i,a.eval x))=vs) (hr:(Instr.buildSlice T n vs).run P w=.ok v w') (h:wpList P ops Q rest (a.put op.dst v) w'):wpList P ops Q (op :: rest) a w :=
 wpList_plain hgd fun K hK=>by
  unfold Oper.wp execOp
  simp only [ho,hx,Sem.run_bind,hr,Result.andThen_ok,Sem.run_pure]
  exact hK _ _ h
end
set_option maxRecDepth 100000 in
theorem bldT {a:Bs} (ha:a.size=33) (n:Nat) (w:World):(Instr.build 246 #[(0,nv n),(1,pvl a)]).run Tryz.prog w=.ok (.agg (wn n++bl33 a).toArray) w:=by
 unfold pvl
 rw [bl33_lit ha]
 kernel_rfl
set_option maxRecDepth 100000 in
theorem bslT {a:Bs} (ha:a.size=33) (n:Nat) (w:World):(Instr.buildSlice 86 1 #[(0,.agg (wn n++bl33 a).toArray)]).run Tryz.prog w=.ok (.slice (some ⟨w.heap.size,0,none⟩) 1 1) (w.alloc (.cells (wn n++bl33 a).toArray 246)):=by
 rw [bl33_lit ha]
 kernel_rfl
theorem boxS (n:Nat) (w:World):(Instr.box 72 (nv n)).run Tryz.prog w=.ok (.pointer (some ⟨w.heap.size,0,none⟩)) (w.alloc (.cells (wn n).toArray 72)):=by kernel_rfl
set_option maxHeartbeats 1000000 in
set_option maxRecDepth 100000 in
theorem ptTimes_c (a:Bs) (ha:a.size=33) (n:Nat) (w:World):Calls Tryz.prog 91 #[pvl a,nv n] w (Ret fun e w'=>Below w.heap.size w w'∧∃ k,e=.slice (some ⟨k,0,none⟩) 1 1∧w.heap.size≤k∧Row w' k (wn n++bl33 a)):=by
 have B1:=Hid.mk' (boxCP ha w)
 obtain ⟨w1,hw1⟩:∃ w1,Hid (w.alloc (.cells (bl33 a).toArray 66)=w1):=⟨_,rfl⟩
 rw [hw1.out] at B1
 have e1:w1.heap.size=w.heap.size+1:=by rw [← hw1.out,World.size_alloc]
 have B2:=Hid.mk' (boxS n w1)
 obtain ⟨w2,hw2⟩:∃ w2,Hid (w1.alloc (.cells (wn n).toArray 72)=w2):=⟨_,rfl⟩
 rw [hw2.out,e1] at B2
 have e2:w2.heap.size=w.heap.size+2:=by rw [← hw2.out,World.size_alloc,e1]
 have B3:=Hid.mk' (bldT ha n w2)
 have B4:=Hid.mk' (bslT ha n w2)
 obtain ⟨w3,hw3⟩:∃ w3,Hid (w2.alloc (.cells (wn n++bl33 a).toArray 246)=w3):=⟨_,rfl⟩
 rw [hw3.out,e2] at B4
 have K:Hid (Row w2 w.heap.size (bl33 a)∧Row w2 (w.heap.size+1) (wn n)∧Below w.heap.size w w3∧Row w3 (w.heap.size+2) (wn n++bl33 a)):=by
  have q1:Row w1 w.heap.size (bl33 a):=by rw [← hw1.out];exact row_new w _ _
  have q2:Row w2 (w.heap.size+1) (wn n):=by rw [← hw2.out,← e1];exact row_new w1 _ _
  have q3:Row w3 (w.heap.size+2) (wn n++bl33 a):=by rw [← hw3.out,← e2];exact row_new w2 _ _
  have b1:Below w.heap.size w w1:=by rw [← hw1.out];exact below1 w _
  have b2:Below w1.heap.size w1 w2:=by rw [← hw2.out];exact below1 w1 _
  have b3:Below w2.heap.size w2 w3:=by rw [← hw3.out];exact below1 w2 _
  exact ⟨q1.below b2,q2,(b1.trans (b2.mono (by omega))).trans (b3.mono (by omega)),q3⟩
 have HL:Hid ((Tryz.prog.info? 66).map (·.size)=some (bl33 a).length):=by show _=_;rw [bl33_length ha];exact infoCP
 obtain ⟨d,hd1,hd2⟩:=Option.map_eq_some_iff.1 uCP
 obtain ⟨d',hd3,hd4⟩:=Option.map_eq_some_iff.1 u40
 have HD:Hid ((Tryz.prog.underlying 66=some d∧d.isRow=true)∧Tryz.prog.underlying 72=some d'∧d'.isRow=true):=⟨⟨hd1,hd2⟩,hd3,hd4⟩
 clear hd1 hd2 hd3 hd4 hw1 hw2 hw3 e1 e2
 obtain ⟨va,hva⟩:∃ v,Hid (pvl a=v):=⟨_,rfl⟩
 obtain ⟨vn,hvn⟩:∃ v,Hid (nv n=v):=⟨_,rfl⟩
 obtain ⟨vt,hvt⟩:∃ v,Hid (Value.agg (wn n++bl33 a).toArray=v):=⟨_,rfl⟩
 have B1':Hid ((Instr.box 66 va).run Tryz.prog w=.ok (.pointer (some ⟨w.heap.size,0,none⟩)) w1):=by rw [← hva.out];exact B1
 rw [hvn.out] at B2
 rw [hva.out,hvn.out,hvt.out] at B3
 rw [hvt.out] at B4
 rw [hva.out,hvn.out]
 clear B1
 go_enter Tryz.func91,Tryz.ntmps91
 go_wp2_with (first | (refine wpList_box (u:=va) (v:=.pointer (some ⟨w.heap.size,0,none⟩)) (w':=w1) rfl 66 (.tmp 0) rfl ?_ ?_ ?_;rfl;exact B1'.out) | (refine wpList_box (u:=vn) (v:=.pointer (some ⟨w.heap.size+1,0,none⟩)) (w':=w2) rfl 72 (.tmp 1) rfl ?_ ?_ ?_;rfl;exact B2.out) | (refine wpList_load_mid rfl 72 _ rfl (w.heap.size+1) 0 ?_ (wn n) d' ?_ ?_ ?_ ?_ ?_;rfl;exact K.out.2.1.2.1;exact HD.out.2.1;exact HD.out.2.2;exact i40;rw [show Value.agg (wn n).toArray=vn from hvn.out]) | (refine wpList_load_mid rfl 66 _ rfl w.heap.size 0 ?_ (bl33 a) d ?_ ?_ ?_ ?_ ?_;rfl;exact K.out.1.2.1;exact HD.out.1.1;exact HD.out.1.2;exact HL.out;rw [show Value.agg (bl33 a).toArray=va from hva.out]) | (refine wpList_bld (v:=vt) (w':=w2) rfl 246 _ rfl #[(0,vn),(1,va)] ?_ ?_ ?_;kernel_rfl;exact B3.out) | (refine wpList_bsl (v:=.slice (some ⟨w.heap.size+2,0,none⟩) 1 1) (w':=w3) rfl 86 1 _ rfl #[(0,vt)] ?_ ?_ ?_;kernel_rfl;exact B4.out))
 go_ret
 exact ⟨_,rfl,K.out.2.2.1,w.heap.size+2,rfl,by omega,K.out.2.2.2⟩
end Go.Proofs.YtmkllfekhehagafGreat
namespace Go.Proofs.YtmkllfekhehagafGreat
open Go.RowKit Go.Sort Go.Deep
set_option maxRecDepth 100000 in
theorem boxT {a:Bs} (ha:a.size=33) (n:Nat) (w:World):(Instr.box 246 (.agg (wn n++bl33 a).toArray)).run Tryz.prog w=.ok (.pointer (some ⟨w.heap.size,0,none⟩)) (w.alloc (.cells (wn n++bl33 a).toArray 246)):=by
 rw [bl33_lit ha]
 kernel_rfl
theorem bldS (w:World):(Instr.build 72 #[]).run Tryz.prog w=.ok (nv 0) w:=by kernel_rfl
def tvl (n:Nat) (a:Bs):Value:=.agg (wn n++bl33 a).toArray
theorem range_front {W:World} {k:Nat} {xs ys:List Value} (h:W.rangeAt k 0 (xs++ys)):W.rangeAt k 0 xs:=fun j v hj=>h j v (by rw [List.getElem?_append_left (List.getElem?_eq_some_iff.1 hj).1];exact hj)
theorem range_back {W:World} {k:Nat} {xs ys:List Value} (h:W.rangeAt k 0 (xs++ys)):W.rangeAt k xs.length ys:=fun j v hj=>by
 have:=h (xs.length+j) v (by rw [List.getElem?_append_right (Nat.le_add_right _ _),Nat.add_sub_cancel_left];exact hj)
 rwa [Nat.zero_add] at this
set_option maxHeartbeats 1000000 in
set_option maxRecDepth 100000 in
theorem none_c {n:Nat} (hn:n < top) {a:Bs} (ha:a.size=33):Gives 229 #[tvl n a] (.bool (decide (n=0))):=by
 intro w
 have B1:=Hid.mk' (boxT ha n w)
 obtain ⟨w1,hw1⟩:∃ w1,Hid (w.alloc (.cells (wn n++bl33 a).toArray 246)=w1):=⟨_,rfl⟩
 rw [hw1.out] at B1
 have K:Hid (Row w1 w.heap.size (wn n++bl33 a)∧Below w.heap.size w w1):=by rw [← hw1.out];exact ⟨row_new w _ _,below1 w _⟩
 obtain ⟨d',hd3,hd4⟩:=Option.map_eq_some_iff.1 u40
 have HD:Hid (Tryz.prog.underlying 72=some d'∧d'.isRow=true):=⟨hd3,hd4⟩
 clear hd3 hd4 hw1
 obtain ⟨va,hva⟩:∃ v,Hid (tvl n a=v):=⟨_,rfl⟩
 obtain ⟨vn,hvn⟩:∃ v,Hid (nv n=v):=⟨_,rfl⟩
 obtain ⟨v0,hv0⟩:∃ v,Hid (nv 0=v):=⟨_,rfl⟩
 have B1':Hid ((Instr.box 246 va).run Tryz.prog w=.ok (.pointer (some ⟨w.heap.size,0,none⟩)) w1):=by rw [← hva.out];exact B1
 have B2:Hid ((Instr.build 72 #[]).run Tryz.prog w1=.ok v0 w1):=by rw [← hv0.out];exact bldS w1
 have B3:=Hid.mk' (eqS hn (show 0 < top by unfold top;omega) w1)
 rw [hvn.out,hv0.out] at B3
 have hq:=B3.out
 obtain ⟨z,hz⟩:∃ z,Hid (decide (n=0)=z):=⟨_,rfl⟩
 rw [hz.out] at hq
 have hg:(eqGuard .eql 72 (.tmp 4) (.tmp 5) vn v0).run Tryz.prog w1=.ok () w1:=by rw [← hvn.out,← hv0.out];kernel_rfl
 rw [hva.out,hz.out]
 clear B1 B3
 go_enter Tryz.func229,Tryz.ntmps229
 go_wp2_with (first | (refine wpList_box (u:=va) (v:=.pointer (some ⟨w.heap.size,0,none⟩)) (w':=w1) rfl 246 (.tmp 0) rfl ?_ ?_ ?_;rfl;exact B1'.out) | (refine wpList_load_mid rfl 72 _ rfl w.heap.size 0 ?_ (wn n) d' ?_ ?_ ?_ ?_ ?_;rfl;exact range_front K.out.1.2.1;exact HD.out.1;exact HD.out.2;exact i40;rw [show Value.agg (wn n).toArray=vn from hvn.out]) | (refine wpList_bld (v:=v0) (w':=w1) rfl 72 _ rfl #[] ?_ ?_ ?_;kernel_rfl;exact B2.out))
 go_wp2
 go_ret
 exact ⟨_,rfl,K.out.2,rfl⟩
end Go.Proofs.YtmkllfekhehagafGreat
namespace Go.Proofs.YtmkllfekhehagafGreat
open Go.RowKit Go.Sort Go.Deep
theorem uT:(Tryz.prog.underlying 246).map (·.isRow)=some true:=by kernel_rfl
theorem iT:(Tryz.prog.info? 246).map (·.size)=some 37:=by kernel_rfl
theorem atT (k o n c i:Nat) (hi:i < n) (w:World):(Instr.indexAt 86 (.slice (some ⟨k,o,none⟩) n c) (.int .i64 (i:Int))).run Tryz.prog w=.ok (.pointer (some ⟨k,o+37*i,none⟩)) w:=by
 have h1:¬ (i:Int) < 0:=by omega
 have h2:(i:Int) < n:=by omega
 go_simp
def firstZ (ns:Nat→Nat):Nat→Nat→Int
 | _,0=>-1
 | i,m+1=>if ns i=0 then (i:Int) else firstZ ns (i+1) m
def FIx_0:List RG.It:=[.x 4 [] (.int .i64 0)]
def FIx_1 (g k c:Nat):List RG.It:=[.x 6 [] (.slice (some ⟨g,0,none⟩) k c),.x 7 [(6,0)] (.int .i64 (k:Int)),.x 8 [] (.int .i64 0)]
def FIx_2 (b:Bool):List RG.It:=[.x 9 [] (.bool b)]
def FIx_3 (i:Nat):List RG.It:=[.x 10 [] (.int .i64 (i:Int)),.x 5 [(10,0)] (.int .i64 (i:Int))]
def FIx_4 (g k c i n:Nat) (a:Bs) (z:Bool):List RG.It:=[.x 11 [] (.func (.func 229) #[] #[]),.x 12 [] (.slice (some ⟨g,0,none⟩) k c),.x 13 [] (.int .i64 (i:Int)),.x 14 [(12,1),(13,2)] (.pointer (some ⟨g,(0+37*i),none⟩)),.x 15 [(14,3)] (tvl n a),.c 16 [(11,0),(15,4)] (.bool z)]
def FIx_5 (i:Nat):List RG.It:=[.x 17 [] (.int .i64 (i:Int)),.x 4 [(17,0)] (.int .i64 (i:Int))]
def FIx_6 (i:Nat):List RG.It:=[.x 18 [] (.int .i64 ((i+1:Nat):Int)),.x 8 [(18,0)] (.int .i64 ((i+1:Nat):Int))]
def FIx_7:List RG.It:=[.x 4 [] (.int .i64 (-1))]
set_option maxHeartbeats 2000000 in
set_option maxRecDepth 100000 in
theorem index_c (g k c:Nat) (hk:k≤1000000) (ns:Nat→Nat) (az:Nat→Bs) (hn:∀ j,j < k→ns j < top) (ha:∀ j,j < k→(az j).size=33) (w:World) (hg:g < w.heap.size) (hr:∀ j,j < k→w.rangeAt g (37*j) (wn (ns j)++bl33 (az j))) :
 Calls Tryz.prog 254 #[(.slice (some ⟨g,0,none⟩) k c),(.func (.func 229) #[] #[])] w (Ret fun e w'=>Below w.heap.size w w'∧e=.int .i64 (firstZ ns 0 k)):=by
 obtain ⟨R,hR⟩:∃ R,firstZ ns 0 k=R:=⟨_,rfl⟩
 rw [hR]
 go_enter Tryz.func254,Tryz.ntmps254
 refine RG.M.enter [(0,.v (.slice (some ⟨g,0,none⟩) k c)),(1,.v (.func (.func 229) #[] #[]))] 19 (by kernel_rfl) ?_
 intro a0 M0
 repeat refine wp_seq ?_
 refine M0.tx0 FIx_0 [(0,.v (.slice (some ⟨g,0,none⟩) k c)),(1,.v (.func (.func 229) #[] #[]))] (by kernel_rfl) ⟨RG.st fun _ _=>by kernel_rfl,trivial⟩ ?_
 intro a1 w1 M1
 repeat refine wp_seq ?_
 refine M1.tx0 (FIx_1 g k c) [(0,.v (.slice (some ⟨g,0,none⟩) k c)),(1,.v (.func (.func 229) #[] #[])),(7,.v (.int .i64 (k:Int))),(8,.v (.int .i64 0))] (by kernel_rfl) ⟨RG.st fun _ _=>by kernel_rfl,RG.st fun _ _=>by kernel_rfl,RG.st fun _ _=>by kernel_rfl,trivial⟩ ?_
 intro a2 w2 M2
 repeat refine wp_seq ?_
 refine wp_block ?_
 refine wp_loop_ghost (fun m a wr=>∃ i:Nat,i+m=k∧firstZ ns i m=R∧RG.M w w.heap.size [] 19 [] [] [(0,.v (.slice (some ⟨g,0,none⟩) k c)),(1,.v (.func (.func 229) #[] #[])),(7,.v (.int .i64 (k:Int))),(8,.v (.int .i64 (i:Int)))] a wr) k ⟨0,by omega,hR,M2⟩ ?_
 intro m' a wr
 rintro ⟨i,him,hf,M20⟩
 by_cases hi:i < k
 · obtain ⟨n,hne⟩:∃ n,ns i=n:=⟨_,rfl⟩
   obtain ⟨b,hbe⟩:∃ b,az i=b:=⟨_,rfl⟩
   have hnt:=hn i hi
   have hbs:=ha i hi
   have hri:=hr i hi
   rw [hne] at hnt hri
   rw [hbe] at hbs hri
   have hri':w.rangeAt g (0+37*i) (wn n++bl33 b):=by rw [Nat.zero_add];exact hri
   have hlen:(Tryz.prog.info? 246).map (·.size)=some (wn n++bl33 b).length:=by rw [List.length_append,bl33_length hbs];exact iT
   have hz:=none_c hnt hbs
   obtain ⟨m2,rfl⟩:∃ m2,m'=m2+1:=⟨m' - 1,by omega⟩
   unfold firstZ at hf
   rw [hne] at hf
   repeat refine wp_seq ?_
   refine M20.tx0 (FIx_2 true) [(0,.v (.slice (some ⟨g,0,none⟩) k c)),(1,.v (.func (.func 229) #[] #[])),(7,.v (.int .i64 (k:Int))),(8,.v (.int .i64 (i:Int))),(9,.v (.bool true))] (by kernel_rfl) ⟨RG.cert_bin rfl .lss 3 3 8 7 (.int .i64 (i:Int)) (.int .i64 (k:Int)) (.bool true) rfl rfl (RG.sx fun _=>by kernel_rfl) (RG.sx fun _=>by kernel_rfl) (fun w=>by kernel_rfl) (lssn_t hi),trivial⟩ ?_
   intro a21 w21 M21
   repeat refine wp_seq ?_
   refine wp_cond_true (M21.ev (by kernel_rfl)) ?_
   refine wp_skip ?_
   refine wp_seq ?_
   refine wp_block ?_
   repeat refine wp_seq ?_
   refine M21.tx0 (FIx_3 i) [(0,.v (.slice (some ⟨g,0,none⟩) k c)),(1,.v (.func (.func 229) #[] #[])),(7,.v (.int .i64 (k:Int))),(8,.v (.int .i64 (i:Int))),(5,.v (.int .i64 (i:Int)))] (by kernel_rfl) ⟨RG.st fun _ _=>by kernel_rfl,RG.st fun _ _=>by kernel_rfl,trivial⟩ ?_
   intro a22 w22 M22
   repeat refine wp_seq ?_
   by_cases h0:n=0
   · rw [decide_eq_true h0] at hz
     rw [if_pos h0] at hf
     refine M22.tx0 (FIx_4 g k c i n b true) [(0,.v (.slice (some ⟨g,0,none⟩) k c)),(1,.v (.func (.func 229) #[] #[])),(7,.v (.int .i64 (k:Int))),(8,.v (.int .i64 (i:Int))),(5,.v (.int .i64 (i:Int))),(16,.v (.bool true))] (by kernel_rfl) ⟨RG.st fun _ _=>by kernel_rfl,RG.st fun _ _=>by kernel_rfl,RG.st fun _ _=>by kernel_rfl,RG.cert_idx rfl 86 12 13 rfl (.v (.slice (some ⟨g,0,none⟩) k c)) (.int .i64 (i:Int)) (RG.sx fun _=>by kernel_rfl) (RG.sx fun _=>by kernel_rfl) (fun μ w=>atT _ 0 _ _ i hi w),RG.cert_loadB rfl g (0+37*i) hg List.not_mem_nil 246 14 rfl (wn n++bl33 b) rfl (RG.sx fun _=>by kernel_rfl) hri' uT hlen,RG.clB (fun _ _=>by kernel_rfl) (fun w' _=>hz w'),trivial⟩ ?_
     intro a23 w23 M23
     repeat refine wp_seq ?_
     refine wp_cond_true (M23.ev (by kernel_rfl)) ?_
     repeat refine wp_seq ?_
     refine M23.tx0 (FIx_5 i) [(4,.v (.int .i64 (i:Int)))] (by kernel_rfl) ⟨RG.st fun _ _=>by kernel_rfl,RG.st fun _ _=>by kernel_rfl,trivial⟩ ?_
     intro a24 w24 M24
     refine wp_ret ?_
     refine bodyPost_ret (v:=.int .i64 (i:Int)) (RG.results_t 4 rfl (.int .i64 (i:Int)) (M24.av (by kernel_rfl))) M24.sl.defers ?_
     exact ⟨_,rfl,M24.st.bel.below,by rw [hf]⟩
   · rw [decide_eq_false h0] at hz
     rw [if_neg h0] at hf
     refine M22.tx0 (FIx_4 g k c i n b false) [(0,.v (.slice (some ⟨g,0,none⟩) k c)),(1,.v (.func (.func 229) #[] #[])),(7,.v (.int .i64 (k:Int))),(8,.v (.int .i64 (i:Int))),(16,.v (.bool false))] (by kernel_rfl) ⟨RG.st fun _ _=>by kernel_rfl,RG.st fun _ _=>by kernel_rfl,RG.st fun _ _=>by kernel_rfl,RG.cert_idx rfl 86 12 13 rfl (.v (.slice (some ⟨g,0,none⟩) k c)) (.int .i64 (i:Int)) (RG.sx fun _=>by kernel_rfl) (RG.sx fun _=>by kernel_rfl) (fun μ w=>atT _ 0 _ _ i hi w),RG.cert_loadB rfl g (0+37*i) hg List.not_mem_nil 246 14 rfl (wn n++bl33 b) rfl (RG.sx fun _=>by kernel_rfl) hri' uT hlen,RG.clB (fun _ _=>by kernel_rfl) (fun w' _=>hz w'),trivial⟩ ?_
     intro a23 w23 M23
     repeat refine wp_seq ?_
     refine wp_cond_false (M23.ev (by kernel_rfl)) ?_
     refine wp_skip ?_
     repeat refine wp_seq ?_
     refine M23.tx0 (FIx_6 i) [(0,.v (.slice (some ⟨g,0,none⟩) k c)),(1,.v (.func (.func 229) #[] #[])),(7,.v (.int .i64 (k:Int))),(8,.v (.int .i64 ((i+1:Nat):Int)))] (by kernel_rfl) ⟨RG.cert_binc rfl .add 3 3 8 (.int .i64 (i:Int)) (.int .i64 1) (.int .i64 ((i+1:Nat):Int)) rfl rfl (RG.sx fun _=>by kernel_rfl) (fun w=>by kernel_rfl) (addn i 1 (by omega) (by omega)),RG.st fun _ _=>by kernel_rfl,trivial⟩ ?_
     intro a24 w24 M24
     show ∃ n',_
     exact ⟨m2,by omega,i+1,by omega,hf,M24⟩
 · have hik:m'=0:=by omega
   rw [hik] at hf
   unfold firstZ at hf
   repeat refine wp_seq ?_
   refine M20.tx0 (FIx_2 false) [(9,.v (.bool false))] (by kernel_rfl) ⟨RG.cert_bin rfl .lss 3 3 8 7 (.int .i64 (i:Int)) (.int .i64 (k:Int)) (.bool false) rfl rfl (RG.sx fun _=>by kernel_rfl) (RG.sx fun _=>by kernel_rfl) (fun w=>by kernel_rfl) (lssn_f hi),trivial⟩ ?_
   intro a21 w21 M21
   repeat refine wp_seq ?_
   refine wp_cond_false (M21.ev (by kernel_rfl)) ?_
   refine wp_exit ?_
   dsimp only [Exit.then,Exit.inBlock]
   rw [if_pos rfl]
   repeat refine wp_seq ?_
   refine M21.tx0 FIx_7 [(4,.v (.int .i64 (-1)))] (by kernel_rfl) ⟨RG.st fun _ _=>by kernel_rfl,trivial⟩ ?_
   intro a22 w22 M22
   refine wp_ret ?_
   refine bodyPost_ret (v:=.int .i64 (-1)) (RG.results_t 4 rfl (.int .i64 (-1)) (M22.av (by kernel_rfl))) M22.sl.defers ?_
   exact ⟨_,rfl,M22.st.bel.below,by rw [← hf]⟩
end Go.Proofs.YtmkllfekhehagafGreat
namespace Go.Proofs.YtmkllfekhehagafGreat
open Go.RowKit Go.Sort Go.Deep
def FDe_0:List RG.It:=[.x 4 [] (.slice none 0 0)]
def FDe_1 (g k c:Nat):List RG.It:=[.x 8 [] (.slice (some ⟨g,0,none⟩) k c),.x 9 [] (.func (.func 229) #[] #[]),.c 10 [(8,0),(9,1)] (.int .i64 (-1)),.x 5 [(10,2)] (.int .i64 (-1))]
def FDe_2:List RG.It:=[.x 11 [] (.int .i64 (-1)),.x 12 [(11,0)] (.bool true)]
def FDe_3 (g k c:Nat):List RG.It:=[.x 13 [] (.slice (some ⟨g,0,none⟩) k c),.x 4 [(13,0)] (.slice (some ⟨g,0,none⟩) k c)]
theorem firstZ_none {ns:Nat→Nat}:∀ (m i:Nat),(∀ j,i≤j→j < i+m→ns j≠0)→firstZ ns i m = -1
 | 0,_,_=>rfl
 | m+1,i,h=>by
  unfold firstZ
  rw [if_neg (h i (Nat.le_refl _) (by omega))]
  exact firstZ_none m (i+1) (fun j h1 h2=>h j (by omega) (by omega))
set_option maxHeartbeats 2000000 in
set_option maxRecDepth 100000 in
theorem delete_none (g k c:Nat) (hk:k≤1000000) (ns:Nat→Nat) (az:Nat→Bs) (hn:∀ j,j < k→ns j < top) (hn0:∀ j,j < k→ns j≠0) (ha:∀ j,j < k→(az j).size=33) (w:World) (hg:g < w.heap.size) (hr:∀ j,j < k→w.rangeAt g (37*j) (wn (ns j)++bl33 (az j))) :
 Calls Tryz.prog 228 #[(.slice (some ⟨g,0,none⟩) k c),(.func (.func 229) #[] #[])] w (Ret fun e w'=>Below w.heap.size w w'∧e=(.slice (some ⟨g,0,none⟩) k c)):=by
 have hI:∀ w',RG.BelX w.heap.size [] w w'→Calls Tryz.prog 254 #[(.slice (some ⟨g,0,none⟩) k c),(.func (.func 229) #[] #[])] w' (Ret fun e w''=>Below w'.heap.size w' w''∧e=.int .i64 (-1)):=fun w' hb=>by
  have h:=index_c g k c hk ns az hn ha w' (Nat.lt_of_lt_of_le hg hb.below.size) (fun j hj=>RG.range_below (hr j hj) hb.below hg)
  rw [firstZ_none k 0 (fun j _ h2=>hn0 j (by omega))] at h
  exact h
 go_enter Tryz.func228,Tryz.ntmps228
 refine RG.M.enter [(0,.v (.slice (some ⟨g,0,none⟩) k c)),(1,.v (.func (.func 229) #[] #[]))] 42 (by kernel_rfl) ?_
 intro a0 M0
 repeat refine wp_seq ?_
 refine M0.tx0 FDe_0 [(0,.v (.slice (some ⟨g,0,none⟩) k c)),(1,.v (.func (.func 229) #[] #[]))] (by kernel_rfl) ⟨RG.st fun _ _=>by kernel_rfl,trivial⟩ ?_
 intro a1 w1 M1
 repeat refine wp_seq ?_
 refine M1.tx0 (FDe_1 g k c) [(0,.v (.slice (some ⟨g,0,none⟩) k c)),(5,.v (.int .i64 (-1)))] (by kernel_rfl) ⟨RG.st fun _ _=>by kernel_rfl,RG.st fun _ _=>by kernel_rfl,RG.clB (fun _ _=>by kernel_rfl) hI,RG.st fun _ _=>by kernel_rfl,trivial⟩ ?_
 intro a2 w2 M2
 repeat refine wp_seq ?_
 refine M2.tx0 FDe_2 [(0,.v (.slice (some ⟨g,0,none⟩) k c)),(12,.v (.bool true))] (by kernel_rfl) ⟨RG.st fun _ _=>by kernel_rfl,RG.st fun _ _=>by kernel_rfl,trivial⟩ ?_
 intro a3 w3 M3
 repeat refine wp_seq ?_
 refine wp_cond_true (M3.ev (by kernel_rfl)) ?_
 repeat refine wp_seq ?_
 refine M3.tx0 (FDe_3 g k c) [(4,.v (.slice (some ⟨g,0,none⟩) k c))] (by kernel_rfl) ⟨RG.st fun _ _=>by kernel_rfl,RG.st fun _ _=>by kernel_rfl,trivial⟩ ?_
 intro a4 w4 M4
 refine wp_ret ?_
 refine bodyPost_ret (v:=(.slice (some ⟨g,0,none⟩) k c)) (RG.results_t 4 rfl _ (M4.av (by kernel_rfl))) M4.sl.defers ?_
 exact ⟨_,rfl,M4.st.bel.below,rfl⟩
end Go.Proofs.YtmkllfekhehagafGreat
namespace Go.Proofs.YtmkllfekhehagafGreat
open Go.RowKit Go.Sort Go.Deep
theorem undM:Tryz.prog.underlying 301=some (.map 66 3):=by kernel_rfl
theorem zero3 (w:World):(zeroValue 3).run Tryz.prog w=.ok (.int .i64 0) w:=by kernel_rfl
theorem ents_snoc (b:Bs):∀ (D:List Bs) (i:Nat),ents (D++[b]) i=ents D i++[{ key:=.agg (bl33 b).toArray,val:=.int .i64 ((i+D.length:Nat):Int),born:=i+D.length }]
 | [],i=>rfl
 | k :: r,i=>by
  rw [List.cons_append]
  unfold ents
  rw [ents_snoc b r (i+1),List.length_cons,show i+1+r.length=i+(r.length+1) by omega]
  rfl
theorem look_run {b:Bs} (hb:b.size=33) (D:List Bs) (hD:∀ k∈D,k.size=33) (m clock:Nat) (w:World) (hm:w.heap[m]? = some (.map (ents D 0).toArray clock)) :
 (Instr.lookup 301 (.map (some m)) (.agg (bl33 b).toArray) true).run Tryz.prog w=.ok (.tuple #[.int .i64 (((at? b D 0).getD 0:Nat):Int),.bool (at? b D 0).isSome]) w:=by
 have h1:=run_underlying undM w
 have h2:=fun e=>checkCP hb e w
 have h3:=key_run hb D hD w
 have h4:(getObj m).run Tryz.prog w=.ok (.map (ents D 0).toArray clock) w:=by
  simp [getObj,Sem.run,hm]
 unfold Instr.lookup
 simp only [Sem.run_bind,h1,Result.andThen_ok,h4,Sem.run_pure,h2,h3]
 cases h:at? b D 0 with
 | none=>simp [Sem.run_bind,zero3]
 | some j=>simp
theorem upd_run {b:Bs} (hb:b.size=33) (D:List Bs) (hD:∀ k∈D,k.size=33) (m:Nat) (w:World) (hm:w.heap[m]? = some (.map (ents D 0).toArray D.length)) (hn:at? b D 0=none) :
 (Instr.mapUpdate 301 (.map (some m)) (.agg (bl33 b).toArray) (.int .i64 (D.length:Int))).run Tryz.prog w=.ok () (w.putObj m (.map (ents (D++[b]) 0).toArray (D.length+1))):=by
 have h1:=run_underlying undM w
 have h2:=fun e=>checkCP hb e w
 have h3:=key_run hb D hD w
 rw [hn] at h3
 have h4:(getObj m).run Tryz.prog w=.ok (.map (ents D 0).toArray D.length) w:=by
  simp [getObj,Sem.run,hm]
 unfold Instr.mapUpdate
 simp only [Sem.run_bind,h1,Result.andThen_ok,h4,Sem.run_pure,h2,h3]
 rw [ents_snoc,Nat.zero_add]
 simp [setObj,Sem.run,hm,World.putObj]
end Go.Proofs.YtmkllfekhehagafGreat
namespace Go.Proofs.YtmkllfekhehagafGreat
open Go.RowKit Go.Sort Go.Deep
theorem undS:Tryz.prog.underlying 86=some (.slice 246):=by kernel_rfl
theorem infoT:(Tryz.prog.info? 246).map (fun i=>(i.size,i.bytes,i.zero.map fun z=>z.cells.size))=some (37,72,some 37):=by kernel_rfl
theorem cells_one (n:Nat) (a:Bs):∀ u∈wn n++bl33 a,u.oneCell'=true:=by
 intro u hu
 rcases List.mem_append.1 hu with h | h
 · unfold wn at h
   simp only [List.mem_cons,List.not_mem_nil,or_false] at h
   rcases h with rfl | rfl | rfl | rfl <;> rfl
 · obtain ⟨x,-,rfl⟩:=List.mem_map.1 h
   rfl
theorem app_term {base k g n:Nat} {v:Value} {xs:List Value} {a:Bs} (ha:a.size=33) {W:World} (hown:W.ownsRow base 246 37 v k xs) (hR:Row W g (wn n++bl33 a)) (hk:k≤1000000) (hb:base≤W.heap.size) :
 ∃ v' W',(Builtin.append_ #[86,86] 86 #[v,.slice (some ⟨g,0,none⟩) 1 1]).run Tryz.prog W=.ok v' W'∧W'.ownsRow base 246 37 v' (k+1) (xs++(wn n++bl33 a))∧W.grownBy W' v.ownBlock:=by
 obtain ⟨i,hi,he⟩:=Option.map_eq_some_iff.1 infoT
 simp only [Prod.mk.injEq] at he
 obtain ⟨h1,h2,h3⟩:=he
 obtain ⟨z,hz,hz2⟩:=Option.map_eq_some_iff.1 h3
 obtain ⟨v',W',r1,r2,r3,-⟩:=run_append_own (P:=Tryz.prog) W base 86 86 246 i z 37 72 undS hi hz h1 h2 hz2 (by decide) v k xs hown ⟨g,0,none⟩ 1 1 (wn n++bl33 a) (by rw [List.length_append,bl33_length ha];rfl)
  (fun j u hj=>by
   have:=hR.2.1 j u hj
   rw [Nat.zero_add] at this
   rw [show (⟨g,0,none⟩:Addr).add j=⟨g,j,none⟩ by unfold Addr.add;split <;> simp_all]
   exact this) (cells_one n a) (by unfold maxLen;omega) (by omega) hb
 exact ⟨v',W',r1,r2,r3⟩
def addT (N:Nat):List (Nat × Bs)→Nat→Bs→List (Nat × Bs)
 | [],n,p=>[(n,p)]
 | (s,q) :: r,n,p=>if p=q then (sPl N s n,q) :: r else (s,q) :: addT N r n p
def mrg (N:Nat) (ns:Nat→Nat) (az:Nat→Bs):Nat→List (Nat × Bs)
 | 0=>[]
 | i+1=>addT N (mrg N ns az i) (ns i) (az i)
def cellsT (l:List (Nat × Bs)):List Value:=l.flatMap fun x=>wn x.1++bl33 x.2
theorem addT_new {N n:Nat} {p:Bs}:∀ {l:List (Nat × Bs)},at? p (l.map (·.2)) 0=none→addT N l n p=l++[(n,p)]
 | [],_=>rfl
 | (s,q) :: r,h=>by
  have h2:=at?_none.1 h
  rw [List.map_cons,List.mem_cons,not_or] at h2
  unfold addT
  rw [if_neg h2.1,addT_new (l:=r) (at?_none.2 h2.2)]
  rfl
theorem cellsT_snoc (l:List (Nat × Bs)) (n:Nat) (p:Bs):cellsT (l++[(n,p)])=cellsT l++(wn n++bl33 p):=by
 unfold cellsT
 rw [List.flatMap_append]
 simp
end Go.Proofs.YtmkllfekhehagafGreat
namespace Go.Proofs.YtmkllfekhehagafGreat
open Go.RowKit Go.Sort Go.Deep
variable {N:Nat}
structure Mx (w W:World) (m:Nat) (l:List (Nat × Bs)) (v:Value):Prop where
 bl:Below w.heap.size w W
 mp:W.heap[m]? = some (.map (ents (l.map (·.2)) 0).toArray l.length)
 lm:w.heap.size≤m
 ow:W.ownsRow w.heap.size 246 37 v l.length (cellsT l)
theorem Mx.own_ne {w W:World} {m:Nat} {l:List (Nat × Bs)} {v:Value} (h:Mx w W m l v) {g:Nat} (hg:v.ownBlock=some g):g≠m∧w.heap.size≤g∧g < W.heap.size:=by
 rcases h.ow.2 with ⟨rfl,-⟩ | ⟨g',cap,cur,rfl,h1,h2,-⟩
 · cases hg
 · obtain rfl:g'=g:=by simpa [Value.ownBlock] using hg
   refine ⟨fun e=>?_,h1,(Array.getElem?_eq_some_iff.1 h2).1⟩
   have:=h.mp
   rw [← e,h2] at this
   cases this
theorem owns_kept {W W':World} {base k:Nat} {e:TypeId} {s:Nat} {v:Value} {xs:List Value} (h:W.ownsRow base e s v k xs) (hk:∀ g,v.ownBlock=some g→W'.heap[g]? = W.heap[g]?):W'.ownsRow base e s v k xs:=by
 refine ⟨h.1,?_⟩
 rcases h.2 with h2 | ⟨g,cap,cur,rfl,h1,h2,h3⟩
 · exact Or.inl h2
 · exact Or.inr ⟨g,cap,cur,rfl,h1,by rw [hk g rfl];exact h2,h3⟩
theorem Mx.kept {w W W':World} {m:Nat} {l:List (Nat × Bs)} {v:Value} (h:Mx w W m l v) (hb:Below W.heap.size W W'):Mx w W' m l v :=
 ⟨h.bl.trans (hb.mono h.bl.size),by rw [hb.block m (Array.getElem?_eq_some_iff.1 h.mp).1];exact h.mp,h.lm,owns_kept h.ow fun g hg=>hb.block g (h.own_ne hg).2.2⟩
theorem ents_map (l:List (Nat × Bs)) (n:Nat) (p:Bs):(l++[(n,p)]).map (·.2)=l.map (·.2)++[p]:=by simp
theorem Mx.push {w W:World} {m:Nat} {l:List (Nat × Bs)} {v:Value} (h:Mx w W m l v) {p:Bs} (hp:p.size=33) (hk:l.length≤1000000) (n:Nat) :
 ∃ v' W5,(Builtin.append_ #[86,86] 86 #[v,.slice (some ⟨W.heap.size,0,none⟩) 1 1]).run Tryz.prog ((W.putObj m (.map (ents (l.map (·.2)++[p]) 0).toArray (l.length+1))).alloc (.cells (wn n++bl33 p).toArray 246))=.ok v' W5∧Mx w W5 m (l++[(n,p)]) v'∧W.heap.size < W5.heap.size∧∀ j,j < W.heap.size→w.heap.size≤j→j≠m→some j≠v.ownBlock→W5.heap[j]? = W.heap[j]?:=by
 obtain ⟨W3,h3⟩:∃ W3,W.putObj m (.map (ents (l.map (·.2)++[p]) 0).toArray (l.length+1))=W3:=⟨_,rfl⟩
 have s3:W3.heap.size=W.heap.size:=by rw [← h3];simp [World.putObj]
 have hmW:m < W.heap.size:=(Array.getElem?_eq_some_iff.1 h.mp).1
 have o3:∀ j,j≠m→W3.heap[j]? = W.heap[j]?:=fun j hj=>by rw [← h3];exact World.putObj_heap_other hj
 have b3:Below w.heap.size w W3:=h.bl.trans ⟨by rw [← h3];rfl,by rw [← h3];rfl,by rw [← h3];rfl,by omega,fun j hj=>o3 j (by have:=h.lm;omega)⟩
 have w3:W3.ownsRow w.heap.size 246 37 v l.length (cellsT l):=owns_kept h.ow fun g hg=>o3 g (h.own_ne hg).1
 have m3:W3.heap[m]? = some (.map (ents (l.map (·.2)++[p]) 0).toArray (l.length+1)):=by rw [← h3];exact World.putObj_heap_same hmW
 rw [h3]
 have R4:=row_new W3 (wn n++bl33 p) 246
 have b4:=below1 W3 (.cells (wn n++bl33 p).toArray 246)
 have s4:(W3.alloc (.cells (wn n++bl33 p).toArray 246)).heap.size=W.heap.size+1:=by rw [World.size_alloc,s3]
 generalize W3.alloc (.cells (wn n++bl33 p).toArray 246)=W4 at R4 b4 s4 ⊢
 have w4:W4.ownsRow w.heap.size 246 37 v l.length (cellsT l):=owns_kept w3 fun g hg=>b4.block g (by have:=(h.own_ne hg).2.2;omega)
 rw [s3] at R4
 obtain ⟨v',W5,r1,r2,r3⟩:=app_term hp w4 R4 hk (by have:=b3.size;omega)
 have hm5:some m≠v.ownBlock:=fun e=>(h.own_ne e.symm).1 rfl
 refine ⟨v',W5,r1,⟨?_,?_,h.lm,?_⟩,by have:=r3.size;omega,fun j hj _ hjm hjo=>?_⟩
 · exact (b3.trans (b4.mono b3.size)).grown r3 (by have:=b3.size;omega) (fun k e=>(h.own_ne e).2.1)
 · rw [r3.block m (by omega) hm5,b4.block m (by omega),m3,ents_map,List.length_append]
   rfl
 · rw [cellsT_snoc,List.length_append]
   exact r2
 · rw [r3.block j (by omega) hjo,b4.block j (by omega),o3 j hjm]
end Go.Proofs.YtmkllfekhehagafGreat
namespace Go.Proofs.YtmkllfekhehagafGreat
open Go.RowKit Go.Sort Go.Deep
variable {N:Nat}
section
variable {P:Program} {ops:Array Oper} {rest:List Oper} {op:Oper} {a:Act} {w w':World} {v x y z:Value} {Q:Exit→Act→World→Prop}
theorem wpList_lk (hgd:op.guard=none) (T:TypeId) (m k:Operand) (ok:Bool) (ho:op.op=.lookup T m k ok) (hm:a.eval m=x) (hk:a.eval k=y) (hr:(Instr.lookup T x y ok).run P w=.ok v w') (h:wpList P ops Q rest (a.put op.dst v) w'):wpList P ops Q (op :: rest) a w :=
 wpList_plain hgd fun K hK=>by
  unfold Oper.wp execOp
  simp only [ho,hm,hk,Sem.run_bind,hr,Result.andThen_ok,Sem.run_pure]
  exact hK _ _ h
theorem wpList_mu (hgd:op.guard=none) (T:TypeId) (m k u:Operand) (ho:op.op=.mapUpdate T m k u) (hm:a.eval m=x) (hk:a.eval k=y) (hu:a.eval u=z) (hr:(Instr.mapUpdate T x y z).run P w=.ok () w') (h:wpList P ops Q rest (a.put op.dst undef) w'):wpList P ops Q (op :: rest) a w :=
 wpList_plain hgd fun K hK=>by
  unfold Oper.wp execOp
  simp only [ho,hm,hk,hu,Sem.run_bind,hr,Result.andThen_ok,Sem.run_pure]
  exact hK _ _ h
theorem wpList_app (hgd:op.guard=none) (s u:Operand) (t:TypeId) (ho:op.op=.call { callee:=.builtin .append,args:=#[s,u],argTypes:=#[t,t] }) (hs:a.eval s=x) (hu:a.eval u=y) (hr:(Builtin.append_ #[t,t] op.type #[x,y]).run P w=.ok v w') (h:wpList P ops Q rest (a.put op.dst v) w'):wpList P ops Q (op :: rest) a w :=
 wpList_plain hgd fun K hK=>by
  unfold Oper.wp execOp
  simp only [ho,resolve,invoke,builtin,Sem.run_bind,Sem.run_pure,Result.andThen_ok,List.map_toArray,List.map_cons,List.map_nil,hs,hu,hr]
  exact hK _ _ h
end
def zT:List Value:=[.int .u64 0,.int .u64 0,.int .u64 0,.int .u64 0]++z33
theorem owns_form {W:World} {base k:Nat} {e:TypeId} {s:Nat} {v:Value} {xs:List Value} (h:W.ownsRow base e s v k xs):∃ q cap,v=.slice q k cap:=by
 rcases h.2 with ⟨rfl,rfl⟩ | ⟨g,cap,cur,rfl,-⟩
 · exact ⟨none,0,rfl⟩
 · exact ⟨some ⟨g,0,none⟩,cap,rfl⟩
theorem mrg_len (ns:Nat→Nat) (az:Nat→Bs):∀ i,(mrg N ns az i).length≤i
 | 0=>Nat.le_refl _
 | i+1=>by
  have ih:=mrg_len ns az i
  have h:∀ (l:List (Nat × Bs)) n p,(addT N l n p).length≤l.length+1:=by
   intro l n p
   induction l with
   | nil=>exact Nat.le_refl _
   | cons x r ihr =>
    unfold addT
    split
    · simp
    · simp only [List.length_cons];omega
  exact Nat.le_trans (h _ _ _) (by omega)
theorem mrg_size (ns:Nat→Nat) (az:Nat→Bs) {k:Nat} (ha:∀ j,j < k→(az j).size=33):∀ i,i≤k→∀ x∈(mrg N ns az i).map (·.2),x.size=33
 | 0,_=>fun x hx=>by cases hx
 | i+1,hi=>by
  have ih:=mrg_size ns az ha i (by omega)
  have h:∀ (l:List (Nat × Bs)) n p,p.size=33→(∀ x∈l.map (·.2),x.size=33)→∀ x∈(addT N l n p).map (·.2),x.size=33:=by
   intro l n p hp
   induction l with
   | nil=>intro _ x hx;simp [addT] at hx;rw [hx];exact hp
   | cons y r ihr =>
    intro hl x hx
    unfold addT at hx
    split at hx
    · exact hl x (by simpa using hx)
    · rw [List.map_cons,List.mem_cons] at hx
      rcases hx with hx | hx
      · exact hl x (by rw [hx];simp)
      · exact ihr (fun z hz=>hl z (List.mem_cons_of_mem _ hz)) x hx
  exact h _ _ _ (ha i (by omega)) ih
theorem cellsT_at:∀ (l:List (Nat × Bs)),(∀ x∈l.map (·.2),x.size=33)→∀ (j:Nat) (hj:j < l.length) (t:Nat),t < 37→(cellsT l)[37*j+t]? = (wn (l[j]).1++bl33 (l[j]).2)[t]?
 | [],_,j,hj,_,_=>by cases hj
 | x :: r,hs,j,hj,t,ht=>by
  have hx:(wn x.1++bl33 x.2).length=37:=by rw [List.length_append,bl33_length (hs x.2 (by simp))];rfl
  have e:cellsT (x :: r)=(wn x.1++bl33 x.2)++cellsT r:=by unfold cellsT;rw [List.flatMap_cons]
  rw [e]
  cases j with
  | zero =>
   rw [Nat.mul_zero,Nat.zero_add,List.getElem?_append_left (by omega)]
   rfl
  | succ j =>
   rw [List.getElem?_append_right (by omega),hx,show 37*(j+1)+t - 37=37*j+t by omega,cellsT_at r (fun y hy=>hs y (List.mem_cons_of_mem _ hy)) j (by simpa using hj) t ht]
   rfl
theorem owns_rows {W:World} {base:Nat} {v:Value} {l:List (Nat × Bs)} (h:W.ownsRow base 246 37 v l.length (cellsT l)) (hs:∀ x∈l.map (·.2),x.size=33) (hl:0 < l.length) :
 ∃ g cap,v=.slice (some ⟨g,0,none⟩) l.length cap∧base≤g∧g < W.heap.size∧∀ j (hj:j < l.length),W.rangeAt g (37*j) (wn (l[j]).1++bl33 (l[j]).2):=by
 have h0:=h
 rcases h.2 with ⟨-,h2⟩ | ⟨g,cap,cur,rfl,h1,h2,h3⟩
 · omega
 · refine ⟨g,cap,rfl,h1,(Array.getElem?_eq_some_iff.1 h2).1,fun j hj t u hu=>?_⟩
   have ht:t < 37:=by
    have:=(List.getElem?_eq_some_iff.1 hu).1
    rw [List.length_append,bl33_length (hs _ (List.mem_map.2 ⟨_,List.getElem_mem hj,rfl⟩))] at this
    exact this
   have hc:=h0.cells (g:=g) rfl (37*j+t) u (by rw [cellsT_at l hs j hj t ht];exact hu)
   have e:(⟨g,0,none⟩:Addr).add (37*j+t)=⟨g,37*j+t,none⟩:=by
    unfold Addr.add
    split
    · rename_i h;rw [h]
    · simp
   rw [e] at hc
   exact hc
end Go.Proofs.YtmkllfekhehagafGreat
namespace Go.Proofs.YtmkllfekhehagafGreat
open Go.RowKit Go.Sort Go.Deep
theorem zeroTm (w:World):(zeroValue 246).run Tryz.prog w=.ok (.agg zT.toArray) w:=by kernel_rfl
theorem zT_one:∀ v∈zT,v.oneCell'=true:=by
 intro v hv
 unfold zT z33 at hv
 rcases List.mem_append.1 hv with h | h
 · simp only [List.mem_cons,List.not_mem_nil,or_false] at h
   rcases h with rfl | rfl | rfl | rfl <;> rfl
 · rw [(List.mem_replicate.1 h).2];rfl
end Go.Proofs.YtmkllfekhehagafGreat
set_option linter.unusedVariables false
set_option linter.unusedSimpArgs false
namespace Go.Proofs.YtmkllfekhehagafGreat.RG
open Go Go.RowKit
variable {P:Program} {ops:Array Oper} {Q:Exit→Act→World→Prop} {w:World} {a0:Act} {L:Array Bool}
structure Flow where
 R:Nat→Value→World→Prop
 B:Nat→World→Prop
 E:Nat→World→World→Prop
 kill:Nat→List Nat
 killB:Nat→List Nat
def dstOf (ops:Array Oper) (i:Nat):Option Tmp:=(ops[i]?).bind (·.dst)
def depOn (ops:Array Oper) (x k:Nat):Bool:=match ops[x]? with | some o=>depB o k | none=>true
def okK (ops:Array Oper) (k:Nat) (l:List Nat):Bool:=l.all (fun x=>x == k || depOn ops x k)
def freeF (ops:Array Oper) (k:Nat) (t:Tmp):Bool:=(List.range ops.size).all (fun i=>dstOf ops i != some t || i == k || depOn ops i k)
structure InvF (F:Flow) (ops:Array Oper) (a0:Act) (L:Array Bool) (a:Act) (w:World):Prop where
 size:L.size=ops.size
 cl:∀ (i:Nat) (o:Oper),ops[i]? = some o→on L i=true→∀ e∈o.after,Region.binds .any e=true→on L e.on=true
 def':a.defers=a0.defers
 sz:a.tmps.size=a0.tmps.size
 rest:∀ t:Tmp,(∀ i,on L i=true→dstOf ops i≠some t)→a.tmps[t]? = a0.tmps[t]?
 all:∃ V:Nat→Value,(∀ i d,on L i=true→dstOf ops i=some d→a.tmps[d]? = some (V i))∧(∀ i,on L i=true→(∀ x∈F.kill i,on L x=false)→F.R i (V i) w)
 base:∀ b,(∀ x∈F.killB b,on L x=false)→F.B b w
def CertF (P:Program) (Q:Exit→Act→World→Prop) (F:Flow) (ops:Array Oper) (a0:Act) (k:Nat) (o:Oper):Prop :=
 ∀ (a:Act) (w:World) (K:Act→World→Prop),
  (∀ j d,depB o j=true→okK ops k (F.kill j)=true→dstOf ops j=some d→F.R j (a.eval (.tmp d)) w) →
  (∀ t,freeF ops k t=true→a.eval (.tmp t)=a0.eval (.tmp t)) →
  (∀ b,okK ops k (F.killB b)=true→F.B b w) →
  (∀ v w',F.E k w w'→F.R k v w'→K (a.put o.dst v) w')→o.wp P a w K Q
def chkF (ops:Array Oper) (n:Nat):Bool :=
 (List.range ops.size).all (fun i=>match ops[i]? with
  | some o=>o.guard.isNone && o.after.all (fun e=>!Region.binds .any e || e.on < i) && (match o.dst with | none=>true | some d=>decide (d < n) && (List.range ops.size).all (fun j=>j == i || dstOf ops j != some d))
  | none=>false)
structure RegF (P:Program) (Q:Exit→Act→World→Prop) (F:Flow) (ops:Array Oper) (a0:Act) (m:Nat):Prop where
 chk:chkF ops a0.tmps.size=true
 cert:∀ k o,k < m→ops[k]? = some o→CertF P Q F ops a0 k o
 stab:∀ i j,i < m→j < m→i≠j→(F.kill j).contains i=false→depOn ops j i=false→∀ v w w',F.E i w w'→F.R j v w→F.R j v w'
 stabB:∀ i b,i < m→(F.killB b).contains i=false→∀ w w',F.E i w w'→F.B b w→F.B b w'
variable {F:Flow} {m:Nat}
theorem RegF.of {k:Nat} {o:Oper} (h:RegF P Q F ops a0 m) (ho:ops[k]? = some o):o.guard=none∧(∀ e∈o.after,Region.binds .any e=true→e.on < k)∧∀ d,o.dst=some d→d < a0.tmps.size∧∀ j,dstOf ops j=some d→j=k:=by
 have hk:k < ops.size:=(Array.getElem?_eq_some_iff.1 ho).1
 have h1:=List.all_eq_true.1 h.chk k (List.mem_range.2 hk)
 rw [ho] at h1
 simp only [Bool.and_eq_true] at h1
 obtain ⟨⟨h1,h2⟩,h3⟩:=h1
 refine ⟨by simpa using h1,fun e he hb=>?_,fun d hd=>?_⟩
 · have:=Array.all_eq_true'.1 h2 e he
   simpa [hb] using this
 · rw [hd] at h3
   simp only [Bool.and_eq_true,decide_eq_true_eq] at h3
   refine ⟨h3.1,fun j hj=>?_⟩
   have hjs:j < ops.size:=by
    unfold dstOf at hj
    cases hx:ops[j]? with
    | none=>rw [hx] at hj;cases hj
    | some x=>exact (Array.getElem?_eq_some_iff.1 hx).1
   have:=List.all_eq_true.1 h3.2 j (List.mem_range.2 hjs)
   simpa [hj] using this
theorem dstOf_some {i:Nat} {o:Oper} (ho:ops[i]? = some o):dstOf ops i=o.dst:=by unfold dstOf;rw [ho];rfl
theorem dep_on {a:Act} {x k:Nat} {o:Oper} (h:InvF F ops a0 L a w) {ho:ops[x]? = some o} (hd:depB o k=true) (hx:on L x=true):on L k=true:=by
 obtain ⟨e,he,hb⟩:=Array.any_eq_true'.1 hd
 simp only [Bool.and_eq_true,beq_iff_eq] at hb
 rw [← hb.2]
 exact h.cl x o ho hx e he hb.1
theorem on_lt {L:Array Bool} {x:Nat} (h:on L x=true):x < L.size:=by
 rcases Nat.lt_or_ge x L.size with h1 | h1
 · exact h1
 · unfold on at h
   rw [Array.getD_eq_getD_getElem?,Array.getElem?_eq_none h1] at h
   cases h
theorem stepF {k:Nat} {o:Oper} {a:Act} (R:RegF P Q F ops a0 m) (hkm:k < m) (hlt:∀ i,on L i=true→i < m) (ho:ops[k]? = some o) (hun:on L k=false) (hdep:∀ e∈o.after,Region.binds .any e=true→on L e.on=true) (h:InvF F ops a0 L a w) :
 wpOp P ops Q k (InvF F ops a0 (L.setIfInBounds k true)) a w:=by
 obtain ⟨hg,hback,hdst⟩:=R.of ho
 have hks:k < ops.size:=(Array.getElem?_eq_some_iff.1 ho).1
 have hkL:k < L.size:=by rw [h.size];exact hks
 have hdo:dstOf ops k=o.dst:=dstOf_some ho
 have hnot:∀ x,(x == k || depOn ops x k)=true→on L x=false:=fun x hx=>by
  cases hon:on L x with
  | false=>rfl
  | true =>
   rcases Bool.or_eq_true _ _ ▸ hx with h1 | h1
   · rw [show x=k by simpa using h1,hun] at hon;cases hon
   · unfold depOn at h1
     have hxs:x < ops.size:=by rw [← h.size];exact on_lt hon
     have hox:ops[x]? = some ops[x]:=Array.getElem?_eq_getElem hxs
     rw [hox] at h1
     have:=dep_on (ho:=hox) h h1 hon
     rw [hun] at this;cases this
 unfold wpOp
 rw [ho]
 dsimp only
 rw [wanted_none hg,if_pos rfl]
 left
 obtain ⟨V,hV1,hV2⟩:=h.all
 refine R.cert k o hkm ho a w _ (fun j d hj hok hd=>?_) (fun t hf=>?_) (fun b hb=>?_) (fun v w' hE hR=>?_)
 · obtain ⟨e,he,hb⟩:=Array.any_eq_true'.1 hj
   simp only [Bool.and_eq_true,beq_iff_eq] at hb
   have hjon:on L j=true:=by rw [← hb.2];exact hdep e he hb.1
   have h1:=hV1 j d hjon hd
   rw [eval_of h1]
   exact hV2 j hjon fun x hx=>hnot x (List.all_eq_true.1 hok x hx)
 · have h1:=h.rest t fun i hi hd=>by
    have his:i < ops.size:=by rw [← h.size];exact on_lt hi
    have h2:=List.all_eq_true.1 hf i (List.mem_range.2 his)
    rw [hd] at h2
    have h3:(i == k || depOn ops i k)=true:=by simpa using h2
    rw [hnot i h3] at hi;cases hi
   show a.tmps.getD t undef=a0.tmps.getD t undef
   rw [Array.getD_eq_getD_getElem?,Array.getD_eq_getD_getElem?,h1]
 · exact h.base b fun x hx=>hnot x (List.all_eq_true.1 hb x hx)
 · have hon:∀ x,on (L.setIfInBounds k true) x=(on L x || k == x):=fun x=>on_set hkL
   refine ⟨by rw [Array.size_setIfInBounds];exact h.size,fun i oi hoi hi e he hb=>?_,?_,?_,fun t ht=>?_,⟨fun x=>if x=k then v else V x,fun i d hi hd=>?_,fun i hi hkl=>?_⟩,fun b hb=>?_⟩
   · rw [hon] at hi ⊢
     by_cases hik:k=i
     · subst hik
       rw [ho] at hoi
       obtain rfl:=Option.some.inj hoi
       rw [hdep e he hb,Bool.true_or]
     · rw [h.cl i oi hoi (by simpa [hik] using hi) e he hb,Bool.true_or]
   · rw [← h.def'];cases o.dst <;> rfl
   · rw [put_size];exact h.sz
   · have h1:o.dst≠some t:=fun hd=>ht k (by rw [hon];simp) (by rw [hdo];exact hd)
     rw [put_other a v h1]
     exact h.rest t fun i hi=>ht i (by rw [hon,hi,Bool.true_or])
   · rw [hon] at hi
     by_cases hik:i=k
     · subst hik
       rw [hdo] at hd
       rw [hd]
       show (a.tmps.setIfInBounds d v)[d]? = some (if i=i then v else V i)
       rw [if_pos (rfl:i=i)]
       rw [Array.getElem?_setIfInBounds,if_pos rfl,if_pos (by rw [h.sz];exact (hdst d hd).1)]
     · have hne:o.dst≠some d:=fun hd2=>hik ((hdst d hd2).2 i hd)
       rw [put_other a v hne]
       show _=some (if i=k then v else V i)
       rw [if_neg hik]
       have hik':¬ k=i:=fun e=>hik e.symm
       exact hV1 i d (by simpa [hik'] using hi) hd
   · rw [hon] at hi
     by_cases hik:i=k
     · subst hik
       show F.R i (if i=i then v else V i) w'
       rw [if_pos rfl];exact hR
     · show F.R i (if i=k then v else V i) w'
       rw [if_neg hik]
       have hik':¬ k=i:=fun e=>hik e.symm
       have hi':on L i=true:=by simpa [hik'] using hi
       have h1:∀ x∈F.kill i,on L x=false:=fun x hx=>by
        have:=hkl x hx
        rw [hon,Bool.or_eq_false_iff] at this
        exact this.1
       have h2:(F.kill i).contains k=false:=by
        cases hc:(F.kill i).contains k with
        | false=>rfl
        | true =>
         have:=hkl k (by simpa using hc)
         rw [hon] at this
         simp at this
       have his:i < ops.size:=by rw [← h.size];exact on_lt hi'
       have h3:depOn ops i k=false:=by
        cases hc:depOn ops i k with
        | false=>rfl
        | true=>rw [hnot i (by rw [hc,Bool.or_true])] at hi';cases hi'
       exact R.stab k i hkm (hlt i hi') (Ne.symm hik) h2 h3 _ _ _ hE (hV2 i hi' h1)
   · have h1:∀ x∈F.killB b,on L x=false:=fun x hx=>by
      have:=hb x hx
      rw [hon,Bool.or_eq_false_iff] at this
      exact this.1
     have h2:(F.killB b).contains k=false:=by
      cases hc:(F.killB b).contains k with
      | false=>rfl
      | true =>
       have:=hb k (by simpa using hc)
       rw [hon] at this
       simp at this
     exact R.stabB k b hkm h2 _ _ hE (h.base b h1)
def putV (V:Nat→Value):List Oper→Nat→Act→Act
 | [],_,a=>a
 | o :: r,i,a=>putV V r (i+1) (a.put o.dst (V i))
theorem putV_defers (V:Nat→Value):∀ (l:List Oper) (i:Nat) (a:Act),(putV V l i a).defers=a.defers
 | [],_,_=>rfl
 | o :: r,i,a=>by
  rw [putV,putV_defers V r]
  cases o.dst <;> rfl
theorem putV_other (V:Nat→Value):∀ (l:List Oper) (i:Nat) (a:Act) (t:Tmp),(∀ o∈l,o.dst≠some t)→(putV V l i a).tmps[t]? = a.tmps[t]?
 | [],_,_,_,_=>rfl
 | o :: r,i,a,t,h=>by
  rw [putV,putV_other V r _ _ t (fun x hx=>h x (List.mem_cons_of_mem _ hx)),put_other a _ (h o List.mem_cons_self)]
theorem putV_same (V:Nat→Value):∀ (l:List Oper) (i:Nat) (a:Act) (j:Nat) (o:Oper) (d:Tmp),l[j]? = some o→o.dst=some d→(∀ j' o',l[j']? = some o'→o'.dst=some d→j'=j)→d < a.tmps.size→(putV V l i a).tmps[d]? = some (V (i+j))
 | [],_,_,_,_,_,h,_,_,_=>by simp at h
 | x :: r,i,a,0,o,d,h,hd,hu,hs=>by
  obtain rfl:x=o:=by simpa using h
  rw [putV,putV_other V r _ _ d (fun y hy hyd=>by
   obtain ⟨j',hj'⟩:=List.getElem?_of_mem hy
   have:=hu (j'+1) y (by simpa using hj') hyd
   omega),hd]
  show (a.tmps.setIfInBounds d _)[d]? = _
  rw [Array.getElem?_setIfInBounds,if_pos rfl,if_pos hs]
  rfl
 | x :: r,i,a,j+1,o,d,h,hd,hu,hs=>by
  rw [putV,putV_same V r (i+1) _ j o d (by simpa using h) hd (fun j' o' h' hd'=>by
   have:=hu (j'+1) o' (by simpa using h') hd'
   omega) (by rw [put_size];exact hs)]
  congr 2
  omega
theorem InvF.done {a:Act} (R:RegF P Q F ops a0 m) (h:InvF F ops a0 L a w) (hall:∀ i,i < ops.size→on L i=true)
 (hp:∀ (V:Nat→Value),(∀ i,i < ops.size→F.kill i=[]→F.R i (V i) w)→(∀ b,F.killB b=[]→F.B b w)→Q .normal (putV V ops.toList 0 a0) w):Q .normal a w:=by
 obtain ⟨V,hV1,hV2⟩:=h.all
 have e:a=putV V ops.toList 0 a0:=by
  refine Act.ext' ?_ (by rw [putV_defers];exact h.def')
  apply Array.ext_getElem?
  intro t
  by_cases ht:∃ (i:Nat) (o:Oper),ops[i]? = some o∧o.dst=some t
  · obtain ⟨i,o,ho,hd⟩:=ht
    rw [hV1 i t (hall i (Array.getElem?_eq_some_iff.1 ho).1) (by rw [dstOf_some ho];exact hd)]
    rw [putV_same V ops.toList 0 a0 i o t (by rw [Array.getElem?_toList];exact ho) hd (fun j' o' hj' hd'=>((R.of ho).2.2 t hd).2 j' (by rw [Array.getElem?_toList] at hj';rw [dstOf_some hj'];exact hd')) ((R.of ho).2.2 t hd).1,Nat.zero_add]
  · rw [h.rest t (fun i hi hd=>?_),putV_other V ops.toList 0 a0 t (fun o hm hd=>?_)]
    · obtain ⟨i,hi⟩:=List.getElem?_of_mem hm
      rw [Array.getElem?_toList] at hi
      exact ht ⟨i,o,hi,hd⟩
    · unfold dstOf at hd
      cases hx:ops[i]? with
      | none=>rw [hx] at hd;cases hd
      | some x=>rw [hx] at hd;exact ht ⟨i,x,hx,hd⟩
 rw [e]
 exact hp V (fun i hi hk=>hV2 i (hall i hi) (by rw [hk];simp)) (fun b hb=>h.base b (by rw [hb];simp))
theorem InvF.full {a:Act} (R:RegF P Q F ops a0 m) (h:InvF F ops a0 L a w) (hr:Region.ready .any ops L=[]):∀ i,i < ops.size→on L i=true:=by
 intro i
 induction i using Nat.strongRecOn with
 | ind i ih =>
  intro hi
  have ho:ops[i]? = some ops[i]:=Array.getElem?_eq_getElem _
  cases hon:on L i with
  | true=>rfl
  | false =>
   have:i∈Region.ready .any ops L:=mem_ready.2 ⟨?_,_,ho,fun e he hb=>?_⟩
   · rw [hr] at this;cases this
   · unfold on at hon
     rw [Array.getD_eq_getD_getElem?,Array.getElem?_eq_getElem (by rw [h.size];exact hi)] at hon ⊢
     exact hon
   · have hlt:=(R.of ho).2.1 e he hb
     exact ih e.on hlt (Nat.lt_trans hlt hi)
theorem flow_draws {id:Nat} (F:Flow) (hm:P.follows .mixedOrders=true) (R:RegF P Q F ops a0 ops.size) (hB:∀ b,F.B b w.drew)
 (hp:∀ (V:Nat→Value) (w':World),(∀ i,i < ops.size→F.kill i=[]→F.R i (V i) w')→(∀ b,F.killB b=[]→F.B b w')→Q .normal (putV V ops.toList 0 a0) w'):(Code.region id ops true).wp P Q a0 w:=by
 have key:∀ (fuel:Nat) (L:Array Bool) (a:Act) (w:World),unl L=fuel→InvF F ops a0 L a w→wpAny P .any ops Q fuel L a w:=by
  intro fuel
  induction fuel with
  | zero =>
   intro L a w hu hI
   have hall:∀ i,i < ops.size→on L i=true:=fun i hi=>unl_zero hu i (by rw [hI.size];exact hi)
   refine ⟨?_,hI.done R hall (fun V=>hp V w)⟩
   apply List.eq_nil_iff_forall_not_mem.2
   intro i hi
   obtain ⟨h1,o,ho,-⟩:=mem_ready.1 hi
   have h2:=hall i (Array.getElem?_eq_some_iff.1 ho).1
   unfold on at h2
   rw [Array.getD_eq_getD_getElem?] at h1 h2
   cases hh:L[i]? with
   | none=>rw [hh] at h1;cases h1
   | some b=>rw [hh] at h1 h2;rw [show b=false from h1] at h2;cases h2
  | succ fuel ih =>
   intro L a w hu hI
   refine ⟨fun hr=>hI.done R (hI.full R hr) (fun V=>hp V w),fun i hi=>?_⟩
   obtain ⟨h1,o,ho,hdep⟩:=mem_ready.1 hi
   have hoff:on L i=false:=by
    unfold on
    rw [Array.getD_eq_getD_getElem?] at h1 ⊢
    cases hh:L[i]? with
    | none=>rfl
    | some b=>rw [hh] at h1;exact h1
   exact wpOp_mono (fun a' w' hI'=>ih _ a' w' (by have:=unl_set h1;omega) hI') (stepF R (Array.getElem?_eq_some_iff.1 ho).1 (fun i hi=>by rw [← hI.size];exact on_lt hi) ho hoff hdep hI)
 have hoff:∀ i,on (Array.replicate ops.size false) i=false:=fun i=>by
  unfold on
  rw [Array.getD_eq_getD_getElem?,Array.getElem?_replicate]
  by_cases h:i < ops.size
  · rw [if_pos h];rfl
  · rw [if_neg h];rfl
 refine wp_region_any hm (key _ _ a0 _ ?_ ⟨Array.size_replicate,(fun i o _ h=>by rw [hoff] at h;cases h),rfl,rfl,fun _ _=>rfl,⟨fun _=>undef,fun i d h=>(by rw [hoff] at h;cases h),fun i h=>(by rw [hoff] at h;cases h)⟩,fun b _=>hB b⟩)
 unfold unl
 rw [Array.toList_replicate,List.countP_replicate]
 simp
structure PreF (F:Flow) (ops:Array Oper) (a0:Act) (k:Nat) (o:Oper) (a:Act) (w:World):Prop where
 n:∀ j d,depB o j=true→okK ops k (F.kill j)=true→dstOf ops j=some d→F.R j (a.eval (.tmp d)) w
 o:∀ t,freeF ops k t=true→a.eval (.tmp t)=a0.eval (.tmp t)
 b:∀ b,okK ops k (F.killB b)=true→F.B b w
def CertsF (P:Program) (Q:Exit→Act→World→Prop) (F:Flow) (ops:Array Oper) (a0:Act):Nat→List Oper→Prop
 | _,[]=>True
 | k,o :: r=>CertF P Q F ops a0 k o∧CertsF P Q F ops a0 (k+1) r
theorem certs_go:∀ (l:List Oper) (i:Nat),CertsF P Q F ops a0 i l→∀ k o,l[k]? = some o→CertF P Q F ops a0 (i+k) o
 | [],_,_,k,o,h=>by simp at h
 | x :: r,i,hc,0,o,h=>by
  obtain rfl:x=o:=by simpa using h
  exact hc.1
 | x :: r,i,hc,k+1,o,h=>by
  have:=certs_go r (i+1) hc.2 k o (by simpa using h)
  rwa [show i+1+k=i+(k+1) by omega] at this
theorem certs_of (h:CertsF P Q F ops a0 0 ops.toList):∀ k o,k < ops.size→ops[k]? = some o→CertF P Q F ops a0 k o:=fun k o _ ho=>by
 have:=certs_go ops.toList 0 h k o (by rw [Array.getElem?_toList];exact ho)
 rwa [Nat.zero_add] at this
def evo (ev:Tmp→Value):Operand→Value
 | .tmp t=>ev t
 | .const v=>v
 | .global g=>.pointer (some ⟨g,0,none⟩)
 | .func f=>.func (.func f) #[] #[]
def seenT (T:List Tmp) (o:Oper):Bool :=
 (match o.op with | .select _ _=>false | _=>true) && o.op.operands.all (fun x=>match x with | .tmp t=>T.contains t | _=>true)
theorem exec_ev {a:Act} {o:Oper} (ev:Tmp→Value) (T:List Tmp) (h:seenT T o=true) (he:∀ t∈T,a.eval (.tmp t)=ev t):execOp a.eval o=execOp (evo ev) o:=by
 simp only [seenT,Bool.and_eq_true] at h
 refine execOp_congr o (fun cs b he=>?_) (fun x hx=>?_)
 · rw [he] at h;exact absurd h.1 (by simp)
 · have h1:=Array.all_eq_true'.1 h.2 x hx
   cases x with
   | tmp t=>exact he t (by simpa using h1)
   | const v=>rfl
   | global g=>rfl
   | func f=>rfl
theorem cf_val {k:Nat} {o:Oper} (h:∀ (a:Act) (w:World),PreF F ops a0 k o a w→∃ v w',(execOp a.eval o).run P w=.ok (.value v) w'∧F.E k w w'∧F.R k v w'):CertF P Q F ops a0 k o:=by
 intro a w K h1 h2 h3 hK
 obtain ⟨v,w',hr,hE,hR⟩:=h a w ⟨h1,h2,h3⟩
 unfold Oper.wp
 rw [hr]
 exact hK v w' hE hR
theorem cf_one {k:Nat} {o:Oper} (t:Tmp) (h:∀ (a:Act) (w:World),PreF F ops a0 k o a w→∃ v w',(seenT [t] o=true)∧(execOp (evo fun _=>a.eval (.tmp t)) o).run P w=.ok (.value v) w'∧F.E k w w'∧F.R k v w'):CertF P Q F ops a0 k o:=by
 refine cf_val fun a w hp=>?_
 obtain ⟨v,w',hs,hr,hE⟩:=h a w hp
 refine ⟨v,w',?_,hE⟩
 rw [exec_ev (fun _=>a.eval (.tmp t)) [t] hs (fun x hx=>by rw [show x=t by simpa using hx])]
 exact hr
theorem cf_call {k:Nat} {o:Oper} (t:Tmp) (h:∀ (a:Act) (w:World),PreF F ops a0 k o a w→∃ f args,(seenT [t] o=true)∧(execOp (evo fun _=>a.eval (.tmp t)) o).run P w=.ok (.enter f args) w∧Calls P f args w (Ret fun e w'=>F.E k w w'∧F.R k e w')):CertF P Q F ops a0 k o:=by
 intro a w K h1 h2 h3 hK
 obtain ⟨f,args,hs,hr,hc⟩:=h a w ⟨h1,h2,h3⟩
 unfold Oper.wp
 rw [exec_ev (fun _=>a.eval (.tmp t)) [t] hs (fun x hx=>by rw [show x=t by simpa using hx]),hr,Oper.upon_enter]
 refine hc.mono ?_
 rintro e w' ⟨v,rfl,hE,hR⟩
 exact hK _ _ hE hR
theorem cf_load {k:Nat} {o:Oper} (T:TypeId) (t:Tmp) (ho:o.op=.load T (.tmp t)) (hu:(P.underlying T).map (·.isRow)=some true)
 (h:∀ (a:Act) (w:World),PreF F ops a0 k o a w→∃ g off cs,a.eval (.tmp t)=.pointer (some ⟨g,off,none⟩)∧w.rangeAt g off cs∧(P.info? T).map (·.size)=some cs.length∧F.E k w w∧F.R k (.agg cs.toArray) w):CertF P Q F ops a0 k o:=by
 intro a w K h1 h2 h3 hK
 obtain ⟨g,off,cs,he,hr,hi,hE,hR⟩:=h a w ⟨h1,h2,h3⟩
 obtain ⟨d,hu,hd⟩:=Option.map_eq_some_iff.1 hu
 exact wp_load_mid T (.tmp t) ho g off he cs d hr hu hd hi (hK _ _ hE hR)
theorem cf_app {k:Nat} {o:Oper} (s u:Tmp) (t:TypeId) (ho:o.op=.call { callee:=.builtin .append,args:=#[.tmp s,.tmp u],argTypes:=#[t,t] })
 (h:∀ (a:Act) (w:World),PreF F ops a0 k o a w→∃ v w',(Builtin.append_ #[t,t] o.type #[a.eval (.tmp s),a.eval (.tmp u)]).run P w=.ok v w'∧F.E k w w'∧F.R k v w'):CertF P Q F ops a0 k o:=by
 intro a w K h1 h2 h3 hK
 obtain ⟨v,w',hr,hE,hR⟩:=h a w ⟨h1,h2,h3⟩
 unfold Oper.wp execOp
 simp only [ho,resolve,invoke,builtin,Sem.run_bind,Sem.run_pure,Result.andThen_ok,List.map_toArray,List.map_cons,List.map_nil,hr]
 exact hK _ _ hE hR
theorem certs_but (h:CertsF P Q F ops a0 0 (ops.toList.take m)):∀ k o,k < m→ops[k]? = some o→CertF P Q F ops a0 k o:=fun k o hk ho=>by
 have:=certs_go (ops.toList.take m) 0 h k o (by rw [List.getElem?_take,if_pos hk,Array.getElem?_toList];exact ho)
 rwa [Nat.zero_add] at this
theorem InvF.act {a:Act} (R:RegF P Q F ops a0 m) (h:InvF F ops a0 L a w) (hm:m≤ops.size) (hall:∀ i,on L i=true↔i < m) {V:Nat→Value} (hV1:∀ i d,on L i=true→dstOf ops i=some d→a.tmps[d]? = some (V i)):a=putV V (ops.toList.take m) 0 a0:=by
 refine Act.ext' ?_ (by rw [putV_defers];exact h.def')
 apply Array.ext_getElem?
 intro t
 by_cases ht:∃ (i:Nat) (o:Oper),i < m∧ops[i]? = some o∧o.dst=some t
 · obtain ⟨i,o,him,ho,hd⟩:=ht
   rw [hV1 i t ((hall i).2 him) (by rw [dstOf_some ho];exact hd)]
   rw [putV_same V (ops.toList.take m) 0 a0 i o t (by rw [List.getElem?_take,if_pos him,Array.getElem?_toList];exact ho) hd (fun j' o' hj' hd'=>((R.of ho).2.2 t hd).2 j' (by
    rw [List.getElem?_take] at hj'
    split at hj'
    · rw [Array.getElem?_toList] at hj';rw [dstOf_some hj'];exact hd'
    · cases hj')) ((R.of ho).2.2 t hd).1,Nat.zero_add]
 · rw [h.rest t (fun i hi hd=>?_),putV_other V (ops.toList.take m) 0 a0 t (fun o hm' hd=>?_)]
   · obtain ⟨i,hi⟩:=List.getElem?_of_mem hm'
     rw [List.getElem?_take] at hi
     split at hi
     · rename_i him
       rw [Array.getElem?_toList] at hi
       exact ht ⟨i,o,him,hi,hd⟩
     · cases hi
   · unfold dstOf at hd
     cases hx:ops[i]? with
     | none=>rw [hx] at hd;cases hd
     | some x=>rw [hx] at hd;exact ht ⟨i,x,(hall i).1 hi,hx,hd⟩
theorem flow_last {id:Nat} (F:Flow) (n:Nat) (hn:ops.size=n+1) (hd:(List.range n).all (fun j=>depOn ops n j || (List.range n).any (fun i=>depOn ops n i && depOn ops i j))=true) (hm:P.follows .mixedOrders=true) (R:RegF P Q F ops a0 n) (hB:∀ b,F.B b w.drew)
 (hp:∀ (V:Nat→Value) (w':World),(∀ i,i < n→F.kill i=[]→F.R i (V i) w')→(∀ b,F.killB b=[]→F.B b w')→wpList P ops Q (ops.toList.drop n) (putV V (ops.toList.take n) 0 a0) w'):(Code.region id ops true).wp P Q a0 w:=by
 have hon':ops[n]? = some (ops[n]'(by omega)):=Array.getElem?_eq_getElem _
 have key:∀ (fuel:Nat) (L:Array Bool) (a:Act) (w:World),unl L=fuel→on L n=false→InvF F ops a0 L a w→wpAny P .any ops Q fuel L a w:=by
  intro fuel
  induction fuel with
  | zero =>
   intro L a w hu hoff hI
   have:=unl_zero hu n (by rw [hI.size];omega)
   rw [hoff] at this;cases this
  | succ fuel ih =>
   intro L a w hu hoff hI
   refine ⟨fun hr=>?_,fun i hi=>?_⟩
   · have:=hI.full R hr n (by omega)
     rw [hoff] at this;cases this
   · obtain ⟨h1,o,ho,hdep⟩:=mem_ready.1 hi
     have his:i < ops.size:=(Array.getElem?_eq_some_iff.1 ho).1
     have hoi:on L i=false:=by
      unfold on
      rw [Array.getD_eq_getD_getElem?] at h1 ⊢
      cases hh:L[i]? with
      | none=>rfl
      | some b=>rw [hh] at h1;exact h1
     by_cases hin:i=n
     · subst hin
       have hall:∀ j,on L j=true↔j < i:=fun j=>by
        constructor
        · intro hj
          have h2:j < ops.size:=by rw [← hI.size];exact on_lt hj
          rcases Nat.lt_or_ge j i with h | h
          · exact h
          · obtain rfl:j=i:=by omega
            rw [hoff] at hj;cases hj
        · intro hj
          have hdir:∀ j,depOn ops i j=true→on L j=true:=fun j h2=>by
           unfold depOn at h2
           rw [ho] at h2
           obtain ⟨e,he,hb⟩:=Array.any_eq_true'.1 h2
           simp only [Bool.and_eq_true,beq_iff_eq] at hb
           have:=hdep e he hb.1
           rw [hb.2] at this
           exact this
          have h2:=List.all_eq_true.1 hd j (List.mem_range.2 hj)
          rw [Bool.or_eq_true] at h2
          rcases h2 with h2 | h2
          · exact hdir j h2
          · obtain ⟨x,hx,h3⟩:=List.any_eq_true.1 h2
            rw [Bool.and_eq_true] at h3
            have hxo:=hdir x h3.1
            have hxs:x < ops.size:=by have:=List.mem_range.1 hx;omega
            have hox:ops[x]? = some ops[x]:=Array.getElem?_eq_getElem hxs
            have h4:=h3.2
            unfold depOn at h4
            rw [hox] at h4
            exact dep_on (ho:=hox) hI h4 hxo
       obtain ⟨V,hV1,hV2⟩:=hI.all
       have ha:=hI.act R (by omega) hall hV1
       have hkl:∀ l:List Nat,l=[]→∀ x∈l,on L x=false:=fun l hl x hx=>by rw [hl] at hx;cases hx
       have hfin:=hp V w (fun j hj hk=>hV2 j ((hall j).2 hj) (hkl _ hk)) (fun b hb=>hI.base b (hkl _ hb))
       have hdrop:ops.toList.drop i=[o]:=by
        have hlen:ops.toList.length=i+1:=by rw [Array.length_toList];exact hn
        rw [List.drop_eq_getElem_cons (by omega),List.drop_of_length_le (by omega)]
        have:ops.toList[i]? = some o:=by rw [Array.getElem?_toList];exact ho
        rw [List.getElem?_eq_getElem (by omega)] at this
        rw [Option.some.inj this]
       rw [hdrop,← ha] at hfin
       have hop:wpOp P ops Q i (fun a' w'=>Q .normal a' w') a w:=by
        unfold wpOp
        rw [ho]
        exact hfin
       refine wpOp_mono (fun a' w' hq=>?_) hop
       have hon2:∀ j,j < ops.size→on (L.setIfInBounds i true) j=true:=fun j hj=>by
        rw [on_set (by rw [hI.size];omega)]
        by_cases h:j < i
        · rw [(hall j).2 h,Bool.true_or]
        · rw [show j=i by omega];simp
       have hr:Region.ready .any ops (L.setIfInBounds i true)=[]:=by
        apply List.eq_nil_iff_forall_not_mem.2
        intro j hj
        obtain ⟨h1,o',ho',-⟩:=mem_ready.1 hj
        have h2:=hon2 j (Array.getElem?_eq_some_iff.1 ho').1
        unfold on at h2
        rw [Array.getD_eq_getD_getElem?] at h1 h2
        cases hh:(L.setIfInBounds i true)[j]? with
        | none=>rw [hh] at h1;cases h1
        | some b=>rw [hh] at h1 h2;rw [show b=false from h1] at h2;cases h2
       cases fuel with
       | zero=>exact ⟨hr,hq⟩
       | succ f=>exact ⟨fun _=>hq,fun j hj=>by rw [hr] at hj;cases hj⟩
     · refine wpOp_mono (fun a' w' hI'=>ih _ a' w' (by have:=unl_set h1;omega) ?_ hI') (stepF R (by omega) (fun j hj=>?_) ho hoi hdep hI)
       · rw [on_set (by rw [hI.size];exact his),hoff]
         simpa using hin
       · have h2:j < ops.size:=by rw [← hI.size];exact on_lt hj
         rcases Nat.lt_or_ge j n with h | h
         · exact h
         · obtain rfl:j=n:=by omega
           rw [hoff] at hj;cases hj
 have hoff:∀ i,on (Array.replicate ops.size false) i=false:=fun i=>by
  unfold on
  rw [Array.getD_eq_getD_getElem?,Array.getElem?_replicate]
  by_cases h:i < ops.size
  · rw [if_pos h];rfl
  · rw [if_neg h];rfl
 refine wp_region_any hm (key _ _ a0 _ ?_ (hoff n) ⟨Array.size_replicate,(fun i o _ h=>by rw [hoff] at h;cases h),rfl,rfl,fun _ _=>rfl,⟨fun _=>undef,fun i d h=>(by rw [hoff] at h;cases h),fun i h=>(by rw [hoff] at h;cases h)⟩,fun b _=>hB b⟩)
 unfold unl
 rw [Array.toList_replicate,List.countP_replicate]
 simp
end Go.Proofs.YtmkllfekhehagafGreat.RG
set_option linter.unusedVariables false
set_option linter.unusedSimpArgs false
namespace Go.Proofs.YtmkllfekhehagafGreat.RG
open Go Go.RowKit
variable {P:Program} {ops:Array Oper} {Q:Exit→Act→World→Prop} {w:World} {a0:Act}
def AllE (a:Act):List (Tmp × Value)→Prop
 | []=>True
 | x :: r=>a.eval (.tmp x.1)=x.2∧AllE a r
def evl (ps:List (Tmp × Value)) (t:Tmp):Value:=match ps.find? (fun x=>x.1 == t) with | some x=>x.2 | none=>undef
theorem AllE.mem {a:Act}:∀ {ps:List (Tmp × Value)},AllE a ps→∀ x∈ps,a.eval (.tmp x.1)=x.2
 | [],_,x,hx=>by cases hx
 | y :: r,h,x,hx=>by
  rcases List.mem_cons.1 hx with rfl | hx
  · exact h.1
  · exact AllE.mem h.2 x hx
theorem AllE.ev {a:Act} {ps:List (Tmp × Value)} (h:AllE a ps):∀ t∈ps.map (·.1),a.eval (.tmp t)=evl ps t:=fun t ht=>by
 obtain ⟨x,hx,rfl⟩:=List.mem_map.1 ht
 unfold evl
 cases hf:ps.find? (fun y=>y.1 == x.1) with
 | none =>
  have:=List.find?_eq_none.1 hf x hx
  simp at this
 | some y =>
  have h1:=List.mem_of_find?_eq_some hf
  have h2:y.1=x.1:=by simpa using List.find?_some hf
  have:=h.mem y h1
  rw [h2] at this
  exact this
structure Gw where
 R:Nat→Value→World→Prop
 B:World→Prop
 sR:∀ i v w w',Below w.heap.size w w'→R i v w→R i v w'
 sB:∀ w w',Below w.heap.size w w'→B w→B w'
def Gw.flow (G:Gw):Flow:=⟨G.R,fun _=>G.B,fun _ w w'=>Below w.heap.size w w',fun _=>[],fun _=>[]⟩
structure PreG (G:Gw) (ops:Array Oper) (a0:Act) (k:Nat) (o:Oper) (a:Act) (w:World):Prop where
 n:∀ j d,depB o j=true→dstOf ops j=some d→G.R j (a.eval (.tmp d)) w
 o:∀ t,freeF ops k t=true→a.eval (.tmp t)=a0.eval (.tmp t)
 b:G.B w
variable {G:Gw}
theorem pre_of {k:Nat} {o:Oper} {a:Act} (h:PreF G.flow ops a0 k o a w):PreG G ops a0 k o a w:=⟨fun j d hj hd=>h.n j d hj rfl hd,h.o,h.b 0 rfl⟩
theorem gw_val {k:Nat} {o:Oper} (h:∀ (a:Act) (w:World),PreG G ops a0 k o a w→∃ (ps:List (Tmp × Value)) (v:Value) (w':World),AllE a ps∧(seenT (ps.map (·.1)) o,(execOp (evo (evl ps)) o).run P w)=(true,.ok (.value v) w')∧Below w.heap.size w w'∧G.R k v w'):CertF P Q G.flow ops a0 k o :=
 cf_val fun a w hp=>by
  obtain ⟨ps,v,w',he,hs,hE⟩:=h a w (pre_of hp)
  simp only [Prod.mk.injEq] at hs
  refine ⟨v,w',?_,hE⟩
  rw [exec_ev (evl ps) (ps.map (·.1)) hs.1 he.ev]
  exact hs.2
theorem gw_call {k:Nat} {o:Oper} (h:∀ (a:Act) (w:World),PreG G ops a0 k o a w→∃ (ps:List (Tmp × Value)) (f:FuncId) (args:Array Value),AllE a ps∧(seenT (ps.map (·.1)) o,(execOp (evo (evl ps)) o).run P w)=(true,.ok (.enter f args) w)∧Calls P f args w (Ret fun e w'=>Below w.heap.size w w'∧G.R k e w')):CertF P Q G.flow ops a0 k o:=by
 intro a w K h1 h2 h3 hK
 obtain ⟨ps,f,args,he,hs,hc⟩:=h a w (pre_of ⟨h1,h2,h3⟩)
 simp only [Prod.mk.injEq] at hs
 unfold Oper.wp
 rw [exec_ev (evl ps) (ps.map (·.1)) hs.1 he.ev,hs.2,Oper.upon_enter]
 refine hc.mono ?_
 rintro e w' ⟨v,rfl,hE,hR⟩
 exact hK _ _ hE hR
theorem gw_load {k:Nat} {o:Oper} (T:TypeId) (t:Tmp) (ho:o.op=.load T (.tmp t)) (hu:(P.underlying T).map (·.isRow)=some true)
 (h:∀ (a:Act) (w:World),PreG G ops a0 k o a w→∃ g off cs,a.eval (.tmp t)=.pointer (some ⟨g,off,none⟩)∧w.rangeAt g off cs∧(P.info? T).map (·.size)=some cs.length∧G.R k (.agg cs.toArray) w):CertF P Q G.flow ops a0 k o :=
 cf_load T t ho hu fun a w hp=>by
  obtain ⟨g,off,cs,h1,h2,h3,h4⟩:=h a w (pre_of hp)
  exact ⟨g,off,cs,h1,h2,h3,Below.refl _ _,h4⟩
theorem Gw.reg {m:Nat} (hc:chkF ops a0.tmps.size=true) (h:CertsF P Q G.flow ops a0 0 (ops.toList.take m)):RegF P Q G.flow ops a0 m :=
 ⟨hc,certs_but h,fun i j _ _ _ _ _ v w w' hE hR=>G.sR j v w w' hE hR,fun i b _ _ w w' hE hB=>G.sB w w' hE hB⟩
theorem Gw.draws {id:Nat} (G:Gw) (hm:P.follows .mixedOrders=true) (hc:chkF ops a0.tmps.size=true) (h:CertsF P Q G.flow ops a0 0 (ops.toList.take ops.size)) (hB:G.B w.drew)
 (hp:∀ (V:Nat→Value) (w':World),(∀ i,i < ops.size→G.R i (V i) w')→G.B w'→Q .normal (putV V ops.toList 0 a0) w'):(Code.region id ops true).wp P Q a0 w :=
 flow_draws G.flow hm (Gw.reg hc h) (fun _=>hB) fun V w' h1 h2=>hp V w' (fun i hi=>h1 i hi rfl) (h2 0 rfl)
theorem Gw.last {id:Nat} (G:Gw) (n:Nat) (hn:((ops.size == n+1) && (List.range n).all (fun j=>depOn ops n j || (List.range n).any (fun i=>depOn ops n i && depOn ops i j)))=true) (hm:P.follows .mixedOrders=true) (hc:chkF ops a0.tmps.size=true) (h:CertsF P Q G.flow ops a0 0 (ops.toList.take n)) (hB:G.B w.drew)
 (hp:∀ (V:Nat→Value) (w':World),(∀ i,i < n→G.R i (V i) w')→G.B w'→wpList P ops Q (ops.toList.drop n) (putV V (ops.toList.take n) 0 a0) w'):(Code.region id ops true).wp P Q a0 w:=by
 rw [Bool.and_eq_true,beq_iff_eq] at hn
 exact flow_last G.flow n hn.1 hn.2 hm (Gw.reg hc h) (fun _=>hB) fun V w' h1 h2=>hp V w' (fun i hi=>h1 i hi rfl) (h2 0 rfl)
end Go.Proofs.YtmkllfekhehagafGreat.RG
namespace Go.Proofs.YtmkllfekhehagafGreat
open Go.RowKit Go.Sort Go.Deep
variable {N:Nat}
theorem setCell_row {w:World} {g o:Nat} {v:Value} {cur:Array Value} {e:TypeId} {z:Nat × Nat} (h:w.heap[g]? = some (.cells cur e z)):∃ cur2:Array Value,(w.setCell ⟨g,o,none⟩ v).heap[g]? = some (.cells cur2 e z)∧cur2.size=cur.size:=by
 have hlt:g < w.heap.size:=(Array.getElem?_eq_some_iff.1 h).1
 refine ⟨cur.setIfInBounds o v,?_,Array.size_setIfInBounds ..⟩
 have h2:w.heap[g]=.cells cur e z:=by rw [Array.getElem?_eq_getElem hlt] at h;exact Option.some.inj h
 simp [World.setCell,Array.getElem_modify,hlt,h2]
theorem setCells_row {g:Nat} {e:TypeId} {z:Nat × Nat}:∀ (vs:List Value) (o:Nat) (w:World) (cur:Array Value),w.heap[g]? = some (.cells cur e z)→∃ cur2:Array Value,(w.setCells g o vs).heap[g]? = some (.cells cur2 e z)∧cur2.size=cur.size
 | [],_,_,cur,h=>⟨cur,h,rfl⟩
 | v :: r,o,w,cur,h=>by
  obtain ⟨c1,h1,h2⟩:=setCell_row (o:=o) (v:=v) h
  obtain ⟨c2,h3,h4⟩:=setCells_row r (o+1) _ c1 h1
  exact ⟨c2,h3,h4.trans h2⟩
theorem owns_set {W:World} {base n s g o cap:Nat} {e:TypeId} {xs vs:List Value} (h:W.ownsRow base e s (.slice (some ⟨g,0,none⟩) n cap) n xs) (hl:o+vs.length≤n*s):(W.setCells g o vs).ownsRow base e s (.slice (some ⟨g,0,none⟩) n cap) n (RG.rep xs o vs):=by
 have hx:o+vs.length≤xs.length:=by rw [h.1];exact hl
 refine ⟨by rw [RG.rep_length hx];exact h.1,?_⟩
 rcases h.2 with ⟨h1,-⟩ | ⟨g',cap',cur,h1,h2,h3,h4,h5,h6,h7⟩
 · cases h1
 · injection h1 with e1 e2 e3
   injection e1 with e1
   injection e1 with e1
   subst e1
   subst e3
   obtain ⟨c2,k1,k2⟩:=setCells_row vs o W cur h3
   refine Or.inr ⟨g,cap,c2,rfl,h2,k1,h4,h5,by rw [k2];exact h6,?_⟩
   have hcs:n*s≤cur.size:=by rw [h6];exact Nat.mul_le_mul_right s h4
   apply List.ext_getElem?
   intro i
   rw [RG.rep_at hx,List.getElem?_take,← h7]
   have c1:∀ i,W.cell? ⟨g,i,none⟩=cur[i]?:=fun i=>cell_of_row W g i cur e (0,0) h3
   have c3:(W.setCells g o vs).cell? ⟨g,i,none⟩=c2[i]?:=cell_of_row _ g i c2 e (0,0) k1
   by_cases hi:i < n*s
   · rw [if_pos hi]
     by_cases hin:o≤i∧i < o+vs.length
     · rw [if_pos hin]
       have hj:i - o < vs.length:=by omega
       have:=World.cell?_setCells_in g vs o W (fun j hj=>by rw [c1 (o+j),Array.getElem?_eq_getElem (by omega)];rfl) (i - o) hj
       rw [show o+(i - o)=i by omega,c3] at this
       rw [Array.getElem?_toList,this,List.getElem?_eq_getElem hj]
     · rw [if_neg hin,List.getElem?_take,if_pos hi,Array.getElem?_toList,Array.getElem?_toList,← c3,← c1 i]
       exact World.cell?_setCells_out g vs o W ⟨g,i,none⟩ (fun _ _=>by show i < o∨o+vs.length≤i;omega)
   · rw [if_neg hi,if_neg (by omega),List.getElem?_take,if_neg hi]
theorem rep_app {xs ys vs:List Value} {o:Nat}:RG.rep (xs++ys) (xs.length+o) vs=xs++RG.rep ys o vs:=by
 unfold RG.rep
 rw [List.take_length_add_append,Nat.add_assoc,List.drop_length_add_append,List.append_assoc]
theorem row_len {n:Nat} {p:Bs} (hp:p.size=33):(wn n++bl33 p).length=37:=by rw [List.length_append,bl33_length hp];rfl
theorem cellsT_cons (x:Nat × Bs) (r:List (Nat × Bs)):cellsT (x :: r)=(wn x.1++bl33 x.2)++cellsT r:=by unfold cellsT;rw [List.flatMap_cons]
theorem cellsT_set (s:Nat):∀ (l:List (Nat × Bs)) (j:Nat) (hj:j < l.length),(∀ x∈l.map (·.2),x.size=33)→cellsT (l.set j (s,(l[j]).2))=RG.rep (cellsT l) (37*j) (wn s)
 | [],j,hj,_=>by cases hj
 | x :: r,0,_,_=>by
  show cellsT ((s,x.2) :: r)=_
  rw [cellsT_cons,cellsT_cons]
  rfl
 | x :: r,j+1,hj,hs=>by
  have hx:=row_len (n:=x.1) (hs x.2 (by simp))
  show cellsT (x :: r.set j (s,(r[j]'(by simpa using hj)).2))=_
  rw [cellsT_cons,cellsT_cons,cellsT_set s r j (by simpa using hj) (fun y hy=>hs y (List.mem_cons_of_mem _ hy)),show 37*(j+1)=(wn x.1++bl33 x.2).length+37*j by rw [hx];omega,rep_app]
theorem at?_some {p:Bs}:∀ {l:List (Nat × Bs)} {i j:Nat},at? p (l.map (·.2)) i=some j→i≤j∧∃ h:j - i < l.length,(l[j - i]).2=p∧∀ n,addT N l n p=l.set (j - i) (sPl N (l[j - i]).1 n,p)
 | [],i,j,h=>by cases h
 | (s,q) :: r,i,j,h=>by
  rw [List.map_cons] at h
  unfold at? at h
  by_cases hq:p=q
  · rw [if_pos hq] at h
    obtain rfl:=Option.some.inj h
    refine ⟨Nat.le_refl _,by simp,?_,fun n=>?_⟩
    · simp [hq]
    · unfold addT
      rw [if_pos hq]
      simp [hq]
  · rw [if_neg hq] at h
    obtain ⟨h1,h2,h3,h4⟩:=at?_some h
    have e:j - i=(j - (i+1))+1:=by omega
    refine ⟨by omega,by simp;omega,?_,fun n=>?_⟩
    · simp only [e,List.getElem_cons_succ];exact h3
    · unfold addT
      rw [if_neg hq,h4 n]
      simp only [e,List.getElem_cons_succ,List.set_cons_succ]
theorem addT_pts {n:Nat} {p:Bs} {l:List (Nat × Bs)} {j:Nat} (h:at? p (l.map (·.2)) 0=some j):(addT N l n p).map (·.2)=l.map (·.2)∧(addT N l n p).length=l.length:=by
 obtain ⟨-,h2,h3,h4⟩:=at?_some (N:=N) h
 rw [h4 n]
 refine ⟨?_,List.length_set ..⟩
 rw [List.map_set]
 apply List.ext_getElem?
 intro i
 rw [List.getElem?_set]
 by_cases hi:j - 0=i
 · subst hi
   rw [if_pos rfl,if_pos (by rw [List.length_map];exact h2),List.getElem?_map,List.getElem?_eq_getElem h2]
   exact congrArg some h3.symm
 · rw [if_neg hi]
theorem Mx.again {w W:World} {m g cap:Nat} {l:List (Nat × Bs)} {p:Bs} {j:Nat} (h:Mx w W m l (.slice (some ⟨g,0,none⟩) l.length cap)) (hs:∀ x∈l.map (·.2),x.size=33) (hj:at? p (l.map (·.2)) 0=some j) (hl:j < l.length) (n:Nat) :
 Mx w (W.setCells g (37*j) (wn (sPl N (l[j]).1 n))) m (addT N l n p) (.slice (some ⟨g,0,none⟩) l.length cap):=by
 have hne:=h.own_ne (g:=g) rfl
 obtain ⟨e1,e2⟩:=addT_pts (N:=N) (n:=n) hj
 refine ⟨RG.below_setCells hne.2.1 _ _ _ h.bl,?_,h.lm,?_⟩
 · rw [RG.setCells_other _ _ _ _ _ (Ne.symm hne.1),e1,e2]
   exact h.mp
 · obtain ⟨-,h2,h3,h4⟩:=at?_some (N:=N) hj
   have e3:addT N l n p=l.set j (sPl N (l[j]).1 n,(l[j]).2):=by rw [h4 n];simp only [Nat.sub_zero] at h3 ⊢;rw [h3]
   rw [e2,e3,cellsT_set _ l j hl hs]
   exact owns_set h.ow (by show 37*j+4≤_;omega)
theorem mrg_lt (O:Ord N) (ns:Nat→Nat) (az:Nat→Bs) {k:Nat} (hn:∀ j,j < k→ns j < N):∀ i,i≤k→∀ x∈mrg N ns az i,x.1 < N
 | 0,_=>fun x hx=>by cases hx
 | i+1,hi=>by
  have ih:=mrg_lt O ns az hn i (by omega)
  have h:∀ (l:List (Nat × Bs)) n p,n < N→(∀ x∈l,x.1 < N)→∀ x∈addT N l n p,x.1 < N:=by
   intro l n p hp
   induction l with
   | nil=>intro _ x hx;simp [addT] at hx;rw [hx];exact hp
   | cons y r ihr =>
    intro hl x hx
    unfold addT at hx
    split at hx
    · rcases List.mem_cons.1 hx with rfl | hx
      · exact Nat.mod_lt _ O.pos
      · exact hl x (List.mem_cons_of_mem _ hx)
    · rcases List.mem_cons.1 hx with rfl | hx
      · exact hl _ List.mem_cons_self
      · exact ihr (fun z hz=>hl z (List.mem_cons_of_mem _ hz)) x hx
  exact h _ _ _ (hn i (by omega)) ih
end Go.Proofs.YtmkllfekhehagafGreat
