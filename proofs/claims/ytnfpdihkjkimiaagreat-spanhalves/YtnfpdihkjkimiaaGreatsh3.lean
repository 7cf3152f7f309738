import Derived.Deep.LoopGhost
import Derived.Deep.RegionHeld3
import Derived.Deep.CutRange
import Derived.Deep.DeepCutAuto
import Derived.Laws.MakeOwn
import Derived.ChangeKeysEq
import Derived.Deep.AppendSrc
import Derived.Lib.AppendZeros
import Derived.LoopN
import Derived.Deep.RegionWith
import Derived.WalkKit
import Derived.Sort.Row
import Derived.Deep.Draws
import Derived.Below
import Derived.Deep.OwnRows
import Derived.Test.YtnfpdihkjkimiaaGreatRows
import Derived.Deep.QuietTactic
import Derived.StillTailTactics
import Derived.BigRegion
import Derived.BigQuiet
import Derived.WalkSpells
import Derived.WalkLawsBesides
import Derived.KernelRfl
import Derived.Lib.LazyBuf
import Derived.Test.YtnfpdihkjkimiaaGreatsh2
set_option linter.unusedVariables false
set_option linter.constructorNameAsVariable false
set_option linter.unusedSimpArgs false
set_option maxRecDepth 1000000
set_option maxHeartbeats 4000000
namespace Go.Proofs.YtnfpdihkjkimiaaGreat
section
open Go.RowKit Go.Sort
variable {P:Nat} [NeZero P] {N:Nat}
theorem u138:(Tryz.prog.underlying 142).map (·.isRow)=some true:=by kernel_rfl
theorem i138:(Tryz.prog.info? 142).map (·.size)=some 257:=by kernel_rfl
theorem i137:(Tryz.prog.info? 141).map (·.size)=some 1:=by kernel_rfl
theorem u137:(Tryz.prog.underlying 141).map (·.isRow)=some false:=by kernel_rfl
theorem al138 (w:World):(Instr.alloc 142 true (.tuple #[])).run Tryz.prog w=.ok (.pointer (some ⟨w.heap.size,0,none⟩)) (w.alloc (.cells (dg (fun _=>0)).toArray 142)):=by kernel_rfl
theorem digits_c {n:Nat} (hn:n<top):Gives 115 #[nv n] (dv (digs n)):=by
 intro w
 go_enter Tryz.func115,Tryz.ntmps115
 refine RG.var1 (v0:=nv n) (n:=33) (by kernel_rfl) (by kernel_rfl) (by kernel_rfl) ?_
 intro a0 sl0 f0
 have hS0:=RG.St.begin w
 have M0:RG.M w w.heap.size [] 33 [] [] [(0,(.v (nv n)))] a0 _:=⟨hS0,sl0,⟨f0,trivial⟩⟩
 repeat refine wp_seq ?_
 refine M0.t [.m 1 [] 0,.m 2 [] 1] [(0,(wn n)),(1,(dg (fun _=>0)))] [] [(wn n),(dg (fun _=>0))] [(1,(.p 0 0)),(2,(.p 1 0))] ⟨RG.mk 0 50,RG.cert_alloc 1 rfl rfl _ rfl 142 rfl (al138),trivial⟩ ?_
 intro j1 i1 a1 w1 M1
 repeat refine wp_seq ?_
 refine M1.t [.m 3 [] 2] [(0,(dg (fun _=>0)))] [] [(wn n),(dg (fun _=>0)),(dg (fun _=>0))] [(1,(.p 0 0)),(2,(.p 1 0)),(3,(.p 2 0))] ⟨RG.cert_alloc 2 rfl rfl _ rfl 142 rfl (al138),trivial⟩ ?_
 intro j2 a2 w2 M2
 repeat refine wp_seq ?_
 refine M2.u [.x 4 [] (.int .i64 0)] [(1,(.p 0 0)),(2,(.p 1 0)),(3,(.p 2 0)),(4,(.v (.int .i64 0)))] ⟨RG.st,trivial⟩ ?_
 intro a3 w3 M3
 repeat refine wp_seq ?_
 refine M3.u [.x 5 [] (.int .i64 0)] [(1,(.p 0 0)),(2,(.p 1 0)),(3,(.p 2 0)),(4,(.v (.int .i64 0))),(5,(.v (.int .i64 0)))] ⟨RG.st,trivial⟩ ?_
 intro a4 w4 M4
 have f1_4:a4.tmps[1]? = some (.pointer (some ⟨j1,0,none⟩)):=M4.at (s:=(.p 0 0))
 have f2_4:a4.tmps[2]? = some (.pointer (some ⟨i1,0,none⟩)):=M4.at (s:=(.p 1 0))
 have f3_4:a4.tmps[3]? = some (.pointer (some ⟨j2,0,none⟩)):=M4.at (s:=(.p 2 0))
 have f4_4:a4.tmps[4]? = some (.int .i64 0):=M4.at (s:=(.v (.int .i64 0)))
 have f5_4:a4.tmps[5]? = some (.int .i64 0):=M4.at (s:=(.v (.int .i64 0)))
 repeat refine wp_seq ?_
 refine wp_block ?_
 refine wp_loop_ghost (fun m a wr=>∃ (d:Nat→Int) (i c:Nat),c≤1∧i≤261∧257≤i+m∧dgo n m d i c=digs n∧RG.Sl a 33∧a.tmps[1]? = some (.pointer (some ⟨j1,0,none⟩))∧a.tmps[2]? = some (.pointer (some ⟨i1,0,none⟩))∧a.tmps[3]? = some (.pointer (some ⟨j2,0,none⟩))∧a.tmps[4]? = some (.int .i64 c)∧a.tmps[5]? = some (.int .i64 i)∧RG.St w w.heap.size [] [wn n,dg (fun _=>0),dg d] [j1,i1,j2] wr) 257 ⟨fun _=>0,0,0,by omega,by omega,by omega,rfl,M4.sl,f1_4,f2_4,f3_4,f4_4,f5_4,M4.st⟩ ?_
 intro m a wr
 rintro ⟨d,i,c,hc,hi2,hm,hd,sl,f1,f2,f3,f4,f5,hS⟩
 obtain ⟨b,hbv⟩:∃ b,n/2^i%2=b:=⟨_,rfl⟩
 obtain ⟨e,hev⟩:∃ e,n/2^i%32=e:=⟨_,rfl⟩
 obtain ⟨g,hgv⟩:∃ g,e+c=g:=⟨_,rfl⟩
 obtain ⟨v,hvv⟩:∃ v:Int,(g:Int)-32*((g/16:Nat):Int)=v:=⟨_,rfl⟩
 generalize j1=k1 at f1 f2 f3 hS
 generalize i1=k2 at f1 f2 f3 hS
 generalize j2=k3 at f1 f2 f3 hS
 by_cases hi:i<257
 ·have hB1:Gives 157 #[nv n,.int .i64 i,.int .i64 1] (.int .i64 b):=by rw[← hbv];exact Bits_c (c:=1) hn (by omega) (by omega)
  have hB5:Gives 157 #[nv n,.int .i64 i,.int .i64 5] (.int .i64 e):=by rw[← hev];exact Bits_c (c:=5) hn (by omega) (by omega)
  have hm0:∃ m',m=m'+1:=by
   cases m with
   | zero=>exact absurd hm (by omega)
   | succ m'=>exact ⟨m',rfl⟩
  obtain ⟨m',rfl⟩:=hm0
  rw[dgo,if_pos hi,hbv,hev,hgv,hvv] at hd
  by_cases hb:b=c
  ·rw[if_pos hb] at hd
   have M0:RG.M w w.heap.size [] 33 [(wn n),(dg (fun _=>0)),(dg d)] [k1,k2,k3] [(1,(.p 0 0)),(2,(.p 1 0)),(3,(.p 2 0)),(4,(.v (.int .i64 c))),(5,(.v (.int .i64 i)))] a _:=⟨hS,sl,⟨f1,f2,f3,f4,f5,trivial⟩⟩
   repeat refine wp_seq ?_
   refine M0.u [.x 7 [] (.int .i64 i),.x 8 [(7,0)] (.bool true)] [(1,(.p 0 0)),(2,(.p 1 0)),(3,(.p 2 0)),(4,(.v (.int .i64 c))),(5,(.v (.int .i64 i))),(8,(.v (.bool true)))] ⟨RG.st,RG.cert_binc rfl .lss 3 3 7 (.int .i64 i) (.int .i64 257) (.bool true) rfl rfl RG.sx (fun w=>by kernel_rfl) (lssn_t (n:=257) hi),trivial⟩ ?_
   intro a1 w1 M1
   repeat refine wp_seq ?_
   refine wp_cond_true M1.ev ?_
   refine wp_skip ?_
   refine wp_seq ?_
   refine wp_block ?_
   repeat refine wp_seq ?_
   refine M1.u [.x 11 [] (nv n),.x 12 [] (.int .i64 i),.c 13 [(11,0),(12,1)] (.int .i64 b),.x 14 [] (.int .i64 c),.x 15 [(13,2),(14,3)] (.bool true)] [(1,(.p 0 0)),(2,(.p 1 0)),(3,(.p 2 0)),(4,(.v (.int .i64 c))),(5,(.v (.int .i64 i))),(15,(.v (.bool true)))] ⟨RG.ld u85 i85,RG.st,RG.cl (hB1),RG.st,RG.cert_bin rfl .eql 3 3 13 14 (.int .i64 b) (.int .i64 c) (.bool true) rfl rfl RG.sx RG.sx (fun w=>by kernel_rfl) (cmp_t hb),trivial⟩ ?_
   intro a2 w2 M2
   repeat refine wp_seq ?_
   refine wp_cond_true M2.ev ?_
   refine wp_exit ?_
   dsimp only[Exit.then,Exit.inBlock]
   rw[if_pos rfl]
   repeat refine wp_seq ?_
   refine M2.u [.x 9 [] (.int .i64 i),.x 10 [(9,0)] (.int .i64 ((i+1:Nat):Int)),.x 5 [(10,1)] (.int .i64 ((i+1:Nat):Int))] [(1,(.p 0 0)),(2,(.p 1 0)),(3,(.p 2 0)),(4,(.v (.int .i64 c))),(5,(.v (.int .i64 ((i+1:Nat):Int))))] ⟨RG.st,RG.cert_binc rfl .add 3 3 9 (.int .i64 i) (.int .i64 1) (.int .i64 ((i+1:Nat):Int)) rfl rfl RG.sx (fun w=>by kernel_rfl) (addn i 1 (by omega) (by omega)),RG.st,trivial⟩ ?_
   intro a3 w3 M3
   have f1_3:a3.tmps[1]? = some (.pointer (some ⟨k1,0,none⟩)):=M3.at (s:=(.p 0 0))
   have f2_3:a3.tmps[2]? = some (.pointer (some ⟨k2,0,none⟩)):=M3.at (s:=(.p 1 0))
   have f3_3:a3.tmps[3]? = some (.pointer (some ⟨k3,0,none⟩)):=M3.at (s:=(.p 2 0))
   have f4_3:a3.tmps[4]? = some (.int .i64 c):=M3.at (s:=(.v (.int .i64 c)))
   have f5_3:a3.tmps[5]? = some (.int .i64 ((i+1:Nat):Int)):=M3.at (s:=(.v (.int .i64 ((i+1:Nat):Int))))
   show ∃ n',_
   exact ⟨m',Nat.lt_succ_self m',d,i+1,c,hc,by omega,by omega,hd,M3.sl,f1_3,f2_3,f3_3,f4_3,f5_3,M3.st⟩
  ·rw[if_neg hb] at hd
   have he:e<32:=by omega
   have hpar:g%2=1:=by omega
   have hg:g<32:=by omega
   have hv:-15≤v∧v≤15:=by omega
   have hadd:∀ w,(binOp .add 3 (.int .i64 e) (.int .i64 c)).run Tryz.prog w=.ok (.int .i64 g) w:=fun w=>by rw[addn e c (by omega) (by omega),hgv]
   have hsub:∀ w,(binOp .sub 3 (.int .i64 g) (.int .i64 (32*((g/16:Nat):Int)))).run Tryz.prog w=.ok (.int .i64 v) w:=fun w=>by rw[sub64i _ _ (by omega) (by omega),hvv]
   have M0:RG.M w w.heap.size [] 33 [(wn n),(dg (fun _=>0)),(dg d)] [k1,k2,k3] [(1,(.p 0 0)),(2,(.p 1 0)),(3,(.p 2 0)),(4,(.v (.int .i64 c))),(5,(.v (.int .i64 i)))] a _:=⟨hS,sl,⟨f1,f2,f3,f4,f5,trivial⟩⟩
   repeat refine wp_seq ?_
   refine M0.u [.x 7 [] (.int .i64 i),.x 8 [(7,0)] (.bool true)] [(1,(.p 0 0)),(2,(.p 1 0)),(3,(.p 2 0)),(4,(.v (.int .i64 c))),(5,(.v (.int .i64 i))),(8,(.v (.bool true)))] ⟨RG.st,RG.cert_binc rfl .lss 3 3 7 (.int .i64 i) (.int .i64 257) (.bool true) rfl rfl RG.sx (fun w=>by kernel_rfl) (lssn_t (n:=257) hi),trivial⟩ ?_
   intro a1 w1 M1
   repeat refine wp_seq ?_
   refine wp_cond_true M1.ev ?_
   refine wp_skip ?_
   refine wp_seq ?_
   refine wp_block ?_
   repeat refine wp_seq ?_
   refine M1.u [.x 11 [] (nv n),.x 12 [] (.int .i64 i),.c 13 [(11,0),(12,1)] (.int .i64 b),.x 14 [] (.int .i64 c),.x 15 [(13,2),(14,3)] (.bool false)] [(1,(.p 0 0)),(2,(.p 1 0)),(3,(.p 2 0)),(4,(.v (.int .i64 c))),(5,(.v (.int .i64 i))),(15,(.v (.bool false)))] ⟨RG.ld u85 i85,RG.st,RG.cl (hB1),RG.st,RG.cert_bin rfl .eql 3 3 13 14 (.int .i64 b) (.int .i64 c) (.bool false) rfl rfl RG.sx RG.sx (fun w=>by kernel_rfl) (cmp_f hb),trivial⟩ ?_
   intro a2 w2 M2
   repeat refine wp_seq ?_
   refine wp_cond_false M2.ev ?_
   refine wp_skip ?_
   repeat refine wp_seq ?_
   refine M2.u [.x 16 [] (nv n),.x 17 [] (.int .i64 i),.c 18 [(16,0),(17,1)] (.int .i64 e),.x 19 [] (.int .i64 c),.x 20 [(18,2),(19,3)] (.int .i64 g),.x 6 [(20,4)] (.int .i64 g)] [(1,(.p 0 0)),(2,(.p 1 0)),(3,(.p 2 0)),(4,(.v (.int .i64 c))),(5,(.v (.int .i64 i))),(6,(.v (.int .i64 g)))] ⟨RG.ld u85 i85,RG.st,RG.cl (hB5),RG.st,RG.cert_bin rfl .add 3 3 18 19 (.int .i64 e) (.int .i64 c) (.int .i64 g) rfl rfl RG.sx RG.sx (fun w=>by kernel_rfl) (hadd),RG.st,trivial⟩ ?_
   intro a3 w3 M3
   repeat refine wp_seq ?_
   refine M3.u [.x 21 [] (.int .i64 g),.x 22 [(21,0)] (.int .i64 ((g/16:Nat):Int)),.x 4 [(22,1)] (.int .i64 ((g/16:Nat):Int))] [(1,(.p 0 0)),(2,(.p 1 0)),(3,(.p 2 0)),(4,(.v (.int .i64 ((g/16:Nat):Int)))),(5,(.v (.int .i64 i))),(6,(.v (.int .i64 g)))] ⟨RG.st,RG.cert_binc rfl .shr 3 228 21 (.int .i64 g) (.int .u64 4) (.int .i64 ((g/16:Nat):Int)) rfl rfl RG.sx (fun w=>by kernel_rfl) (shr4 g hg),RG.st,trivial⟩ ?_
   intro a4 w4 M4
   repeat refine wp_seq ?_
   refine M4.t [.x 23 [] (.int .i64 i),.x 24 [] (.int .i64 g),.x 25 [] (.int .i64 ((g/16:Nat):Int)),.x 26 [(25,2)] (.int .i64 (32*((g/16:Nat):Int))),.x 27 [(24,1),(26,3)] (.int .i64 v),.x 28 [(27,4)] (.int .i8 v),.s 29 [(23,0)] (.p 2 i),.u [(29,6),(28,5)] 2] [] [(2,7,(dg (DG.upd d i v)))] [(wn n),(dg (fun _=>0)),(dg (DG.upd d i v))] [(1,(.p 0 0)),(2,(.p 1 0)),(3,(.p 2 0)),(4,(.v (.int .i64 ((g/16:Nat):Int)))),(5,(.v (.int .i64 i)))] ⟨RG.st,RG.st,RG.st,RG.cert_binc rfl .shl 3 228 25 (.int .i64 ((g/16:Nat):Int)) (.int .u64 5) (.int .i64 (32*((g/16:Nat):Int))) rfl rfl RG.sx (fun w=>by kernel_rfl) (shl5 (g/16) (by omega)),RG.cert_bin rfl .sub 3 3 24 26 (.int .i64 g) (.int .i64 (32*((g/16:Nat):Int))) (.int .i64 v) rfl rfl RG.sx RG.sx (fun w=>by kernel_rfl) (hsub),RG.cert_conv rfl 3 141 27 (.int .i64 v) (.int .i8 v) rfl rfl RG.sx (cv8 v hv),RG.cert_idx rfl 142 3 23 rfl (.p 2 0) (.int .i64 i) RG.sx RG.sx (fun μ w=>at138z _ i hi w),RG.cert_put1 2 i rfl _ rfl 141 (.tmp 29) (.tmp 28) (.int .i8 v) rfl rfl RG.sx RG.sx (by show i<(dg _).length;rw[dg_length];exact hi) (dg_set d i v) i137 rfl rfl,trivial⟩ ?_
   intro a5 w5 M5
   repeat refine wp_seq ?_
   refine M5.u [.x 30 [] (.int .i64 i),.x 31 [(30,0)] (.int .i64 ((i+4:Nat):Int)),.x 5 [(31,1)] (.int .i64 ((i+4:Nat):Int))] [(1,(.p 0 0)),(2,(.p 1 0)),(3,(.p 2 0)),(4,(.v (.int .i64 ((g/16:Nat):Int)))),(5,(.v (.int .i64 ((i+4:Nat):Int))))] ⟨RG.st,RG.cert_binc rfl .add 3 3 30 (.int .i64 i) (.int .i64 4) (.int .i64 ((i+4:Nat):Int)) rfl rfl RG.sx (fun w=>by kernel_rfl) (addn i 4 (by omega) (by omega)),RG.st,trivial⟩ ?_
   intro a6 w6 M6
   repeat refine wp_seq ?_
   refine M6.u [.x 9 [] (.int .i64 ((i+4:Nat):Int)),.x 10 [(9,0)] (.int .i64 ((i+4+1:Nat):Int)),.x 5 [(10,1)] (.int .i64 ((i+4+1:Nat):Int))] [(1,(.p 0 0)),(2,(.p 1 0)),(3,(.p 2 0)),(4,(.v (.int .i64 ((g/16:Nat):Int)))),(5,(.v (.int .i64 ((i+4+1:Nat):Int))))] ⟨RG.st,RG.cert_binc rfl .add 3 3 9 (.int .i64 ((i+4:Nat):Int)) (.int .i64 1) (.int .i64 ((i+4+1:Nat):Int)) rfl rfl RG.sx (fun w=>by kernel_rfl) (addn (i+4) 1 (by omega) (by omega)),RG.st,trivial⟩ ?_
   intro a7 w7 M7
   have f1_7:a7.tmps[1]? = some (.pointer (some ⟨k1,0,none⟩)):=M7.at (s:=(.p 0 0))
   have f2_7:a7.tmps[2]? = some (.pointer (some ⟨k2,0,none⟩)):=M7.at (s:=(.p 1 0))
   have f3_7:a7.tmps[3]? = some (.pointer (some ⟨k3,0,none⟩)):=M7.at (s:=(.p 2 0))
   have f4_7:a7.tmps[4]? = some (.int .i64 ((g/16:Nat):Int)):=M7.at (s:=(.v (.int .i64 ((g/16:Nat):Int))))
   have f5_7:a7.tmps[5]? = some (.int .i64 ((i+4+1:Nat):Int)):=M7.at (s:=(.v (.int .i64 ((i+4+1:Nat):Int))))
   show ∃ n',_
   exact ⟨m',Nat.lt_succ_self m',DG.upd d i v,i+5,g/16,by omega,by omega,by omega,hd,M7.sl,f1_7,f2_7,f3_7,f4_7,f5_7,M7.st⟩
 ·have hD:d=digs n:=by rw[← hd,dgo_end n m d i c hi]
  have M0:RG.M w w.heap.size [] 33 [(wn n),(dg (fun _=>0)),(dg d)] [k1,k2,k3] [(1,(.p 0 0)),(2,(.p 1 0)),(3,(.p 2 0)),(4,(.v (.int .i64 c))),(5,(.v (.int .i64 i)))] a _:=⟨hS,sl,⟨f1,f2,f3,f4,f5,trivial⟩⟩
  repeat refine wp_seq ?_
  refine M0.u [.x 7 [] (.int .i64 i),.x 8 [(7,0)] (.bool false)] [(2,(.p 1 0)),(3,(.p 2 0)),(8,(.v (.bool false)))] ⟨RG.st,RG.cert_binc rfl .lss 3 3 7 (.int .i64 i) (.int .i64 257) (.bool false) rfl rfl RG.sx (fun w=>by kernel_rfl) (lssn_f (n:=257) hi),trivial⟩ ?_
  intro a1 w1 M1
  repeat refine wp_seq ?_
  refine wp_cond_false M1.ev ?_
  refine wp_exit ?_
  dsimp only[Exit.then,Exit.inBlock]
  rw[if_pos rfl]
  repeat refine wp_seq ?_
  refine M1.t [.x 32 [] (dv d),.u [(32,0)] 1] [] [(1,1,(dg d))] [(wn n),(dg d),(dg d)] [(2,(.p 1 0))] ⟨RG.cert_load rfl 2 0 _ rfl rfl (by kernel_rfl) 142 3 rfl (dg d) rfl RG.sx (dg_sub _) u138 (by rw[dg_length];exact i138),RG.cert_put 1 rfl _ rfl 142 (.tmp 2) (.tmp 32) rfl rfl (by show (dg _).length=(dg _).length;rw[dg_length,dg_length]) RG.sx RG.sx (by show _=some (dg _).length;rw[dg_length];exact i138) (dg_one _),trivial⟩ ?_
  intro a2 w2 M2
  refine wp_ret ?_
  refine bodyPost_ret (v:=dv d) (RG.results_row M2.st 2 142 rfl 1 _ rfl (M2.at (s:=(.p 1 0))) u138 (by rw[dg_length];exact i138)) M2.sl.defers ?_
  exact ⟨_,rfl,M2.st.bel.below,by rw[hD]⟩
omit [NeZero P] in
theorem tw_length (t:T3 P):(tw t).length=12:=rfl
omit [NeZero P] in
theorem tw_one (t:T3 P):(tw t).all (·.oneCell')=true:=rfl
def od (x y:Fin P):Nat→T3 P
 | 0=>raJ x y
 | q+1=>plJ (od x y q) (twJ (raJ x y))
theorem od_J (C:Fld P) {x y:Fin P} {p:EC.Pt P} (h:EC.Pair x y p) (hp:EC.On p):∀ q,JacT (od x y q) (EC.zmul ((2*q+1:Nat):Int) p)
 | 0=>by
  show JacT (raJ x y) (EC.zmul 1 p)
  rw[EC.zmul_one]
  exact raJ_J C h hp
 | q+1=>by
  have h1:=od_J C h hp q
  have h2:=(raJ_J C h hp).twice C
  have h3:=h1.plus C h2
  have e:EC.zmul ((2*(q+1)+1:Nat):Int) p=EC.add (EC.zmul ((2*q+1:Nat):Int) p) (EC.add p p):=by
   have:EC.add p p=EC.zmul 2 p:=by
    rw[show (2:Int)=1+1 by rfl,EC.zmul_add C.cur hp,EC.zmul_one]
   rw[this,← EC.zmul_add C.cur hp]
   congr 1
  rw[e]
  exact h3
structure Fi (x y:Fin P) (D:Nat→Int) (C0:List Value) (off m:Nat) (C:List Value):Prop where
 len:C.length=C0.length
 out:∀ j,j<off∨off+353≤j→C[j]? = C0[j]?
 dig:∀ j,j<257→C[off+96+j]? = some (.int .i8 (D j))
 odd:∀ q j,q<m→j<12→C[off+12*q+j]? = (tw (od x y q))[j]?
theorem Fi.first {x y:Fin P} {D:Nat→Int} {C0:List Value} {off:Nat} (h:off+353≤C0.length):Fi x y D C0 off 0 (RG.rep C0 (off+96) (dg D)):=by
 have hl:off+96+(dg D).length≤C0.length:=by rw[dg_length];omega
 refine ⟨RG.rep_length hl,fun j hj=>?_,fun j hj=>?_,fun q j hq _=>by omega⟩
 ·rw[RG.rep_at hl,if_neg (by rw[dg_length];omega)]
 ·rw[RG.rep_at hl,if_pos (by rw[dg_length];omega),show off+96+j-(off+96)=j by omega,dg_at D j hj]
theorem Fi.next {x y:Fin P} {D:Nat→Int} {C0 C:List Value} {off m:Nat} (h:off+353≤C0.length) (hF:Fi x y D C0 off m C) (hm:m<8):Fi x y D C0 off (m+1) (RG.rep C (off+12*m) (tw (od x y m))):=by
 have hlen:=hF.len
 have hl:off+12*m+(tw (od x y m)).length≤C.length:=by rw[tw_length];omega
 refine ⟨by rw[RG.rep_length hl];exact hlen,fun j hj=>?_,fun j hj=>?_,fun q j hq hj=>?_⟩
 ·rw[RG.rep_at hl,if_neg (by rw[tw_length];omega)]
  exact hF.out j hj
 ·rw[RG.rep_at hl,if_neg (by rw[tw_length];omega)]
  exact hF.dig j hj
 ·rw[RG.rep_at hl]
  by_cases hqm:q=m
  ·subst hqm
   rw[if_pos (by rw[tw_length];omega),show off+12*q+j-(off+12*q)=j by omega]
  ·rw[if_neg (by rw[tw_length];omega)]
   exact hF.odd q j (by omega) hj
theorem Fi.sub {x y:Fin P} {D:Nat→Int} {C0 C:List Value} {off m q:Nat} (h:off+353≤C0.length) (hF:Fi x y D C0 off m C) (hq:q<m) (hm:m≤8):(C.drop (off+12*q)).take (tw (od x y q)).length=tw (od x y q):=
 RG.sub_of (fun j hj=>hF.odd q j hq (by rw[tw_length] at hj;exact hj)) (by rw[tw_length];have:=hF.len;omega)
def fc (x y:Fin P) (D:Nat→Int) (C0:List Value) (off:Nat):Nat→List Value
 | 0=>RG.rep C0 (off+96) (dg D)
 | m+1=>RG.rep (fc x y D C0 off m) (off+12*m) (tw (od x y m))
theorem fc_Fi {x y:Fin P} {D:Nat→Int} {C0:List Value} {off:Nat} (h:off+353≤C0.length):∀ m,m≤8→Fi x y D C0 off m (fc x y D C0 off m)
 | 0,_=>Fi.first h
 | m+1,hm=>(fc_Fi h m (by omega)).next h (by omega)
theorem Fi.uniq {x y:Fin P} {D:Nat→Int} {C0 C C':List Value} {off:Nat} (h:Fi x y D C0 off 8 C) (h':Fi x y D C0 off 8 C'):C=C':=by
 apply List.ext_getElem?
 intro j
 by_cases h1:j<off∨off+353≤j
 ·rw[h.out j h1,h'.out j h1]
 ·by_cases h2:j<off+96
  ·have e:j=off+12*((j-off)/12)+(j-off)%12:=by omega
   rw[e,h.odd _ _ (by omega) (by omega),h'.odd _ _ (by omega) (by omega)]
  ·have e:j=off+96+(j-off-96):=by omega
   rw[e,h.dig _ (by omega),h'.dig _ (by omega)]
theorem fill_c (F:Fld P) {n:Nat} (hn:n<top) (x y:Fin P) (C0:List Value) (kt off:Nat) (hoff:off+353≤C0.length) (w:World) (hk:kt<w.heap.size) (ht:w.there kt 0 C0.length) (hr:w.rangeAt kt 0 C0) :
 Calls Tryz.prog 65 #[.pointer (some ⟨kt,off,none⟩),nv n,pv x y] w (Ret fun r w'=>(∃ C,Fi x y (digs n) C0 off 8 C∧RG.PutTo kt C0.length C w w')∧r=.tuple #[]):=by
 obtain ⟨D,hDe⟩:∃ D,digs n=D:=⟨_,rfl⟩
 have hD:Gives 115 #[nv n] (dv D):=hDe ▸ digits_c hn
 obtain ⟨s0,hs0e⟩:∃ s,raJ x y=s:=⟨_,rfl⟩
 have hs0:Gives 116 #[pv x y] (tv s0):=hs0e ▸ raJ_c F x y
 obtain ⟨s2,hs2e⟩:∃ s,twJ s0=s:=⟨_,rfl⟩
 have hs2:Gives 66 #[tv s0] (tv s2):=hs2e ▸ twJ_c F s0
 obtain ⟨C1,hC1e⟩:∃ c,RG.rep C0 (off+96) (dg D)=c:=⟨_,rfl⟩
 have hlD:off+96+(dg D).length≤C0.length:=by rw[dg_length];omega
 have hC1:=hC1e ▸ RG.rep_at hlD
 have hL1:C1.length=C0.length:=hC1e ▸ RG.rep_length hlD
 have F1:Fi x y D C0 off 0 C1:=hC1e ▸ Fi.first hoff
 obtain ⟨C2,hC2e⟩:∃ c,RG.rep C1 (off+0+12*0) (tw s0)=c:=⟨_,rfl⟩
 have hlS:off+0+12*0+(tw s0).length≤C1.length:=by rw[tw_length];omega
 have hC2:=hC2e ▸ RG.rep_at hlS
 have hL2:C2.length=C1.length:=hC2e ▸ RG.rep_length hlS
 have F2:Fi x y D C0 off 1 C2:=by
  have:=F1.next hoff (by decide)
  rw[← hC2e,← hs0e]
  exact this
 have hsub0:(C2.drop (off+0+12*0)).take (tw s0).length=tw s0:=by
  have:=F2.sub hoff (q:=0) (by decide) (by decide)
  rw[← hs0e]
  exact this
 obtain ⟨i,hi0⟩:∃ i:Nat,i=0:=⟨_,rfl⟩
 obtain ⟨s3,-⟩:∃ s:T3 P,s=s0:=⟨_,rfl⟩
 obtain ⟨sp,-⟩:∃ s:T3 P,s=s0:=⟨_,rfl⟩
 go_enter Tryz.func65,Tryz.ntmps65
 refine RG.var3 (v0:=.pointer (some ⟨kt,off,none⟩)) (v1:=nv n) (v2:=pv x y) (n:=43) (by kernel_rfl) (by kernel_rfl) (by kernel_rfl) (by kernel_rfl) (by kernel_rfl) ?_
 intro a0 sl0 f0 f1 f2
 have hS0:=RG.St.lent hk hr ht
 have M0:RG.M w w.heap.size [kt] 43 [C0] [kt] [(0,(.p 0 off)),(1,(.v (nv n))),(2,(.v (pv x y)))] a0 _:=⟨hS0,sl0,⟨f0,f1,f2,trivial⟩⟩
 repeat refine wp_seq ?_
 refine M0.t [.m 4 [] 1,.m 5 [] 2] [(0,(wn n)),(1,(ws x++(ws y)))] [] [C0,(wn n),(ws x++(ws y))] [(0,(.p 0 off)),(4,(.p 1 0)),(5,(.p 2 0))] ⟨RG.mk 1 50,RG.mk 2 85,trivial⟩ ?_
 intro j1 i1 a1 w1 M1
 have f0_1:a1.tmps[0]? = some (.pointer (some ⟨kt,off,none⟩)):=M1.at (s:=(.p 0 off))
 have f4_1:a1.tmps[4]? = some (.pointer (some ⟨j1,0,none⟩)):=M1.at (s:=(.p 1 0))
 have f5_1:a1.tmps[5]? = some (.pointer (some ⟨i1,0,none⟩)):=M1.at (s:=(.p 2 0))
 have M1:RG.M w w.heap.size [kt] 43 [C0,(wn n),(ws x++(ws y))] [kt,j1,i1] [(0,(.p 0 off)),(4,(.p 1 0)),(5,(.p 2 0))] a1 _:=⟨M1.st,M1.sl,⟨f0_1,f4_1,f5_1,trivial⟩⟩
 repeat refine wp_seq ?_
 refine M1.tx [.s 8 [] (.p 0 off),.x 9 [] (nv n),.c 10 [(9,1)] (dv D),.s 11 [(8,0)] (.p 0 off),.s 12 [(11,3)] (.p 0 (off+96)),.u [(12,4),(10,2)] 0] [] [(0,5,C1)] [C1,(wn n),(ws x++(ws y))] [(0,(.p 0 off)),(5,(.p 2 0))] (by kernel_rfl) (congrArg (fun n=>[n]) hL1) ⟨RG.st,RG.ld u85 i85,RG.cl (hD),RG.st,RG.st,RG.cert_putAt 0 (off+96) rfl _ rfl 142 (.tmp 12) (.tmp 10) (dg D) rfl rfl RG.sx RG.sx (by show off+96+(dg D).length≤C0.length;rw[dg_length];omega) (hC1) (by show _=some (dg _).length;rw[dg_length];exact i138) (dg_one _),trivial⟩ ?_
 intro a2 w2 M2
 have f0_2:a2.tmps[0]? = some (.pointer (some ⟨kt,off,none⟩)):=M2.at (s:=(.p 0 off))
 have f5_2:a2.tmps[5]? = some (.pointer (some ⟨i1,0,none⟩)):=M2.at (s:=(.p 2 0))
 have M2:RG.M w w.heap.size [kt] 43 [C1,(wn n),(ws x++(ws y))] [kt,j1,i1] [(0,(.p 0 off)),(5,(.p 2 0))] a2 _:=⟨M2.st,M2.sl,⟨f0_2,f5_2,trivial⟩⟩
 repeat refine wp_seq ?_
 refine M2.dr (by kernel_rfl) [.s 13 [] (.p 0 off),.x 14 [] (pv x y),.c 15 [(14,1)] (tv s0),.s 16 [(13,0)] (.p 0 off),.s 17 [(16,3)] (.p 0 (off+0)),.s 18 [(17,4)] (.p 0 ((off+0)+12*0)),.u [(18,5),(15,2)] 0] [] [(0,6,C2)] [C2,(wn n),(ws x++(ws y))] [(0,(.p 0 off))] (by kernel_rfl) (congrArg (fun n=>[n]) hL2) ⟨RG.st,RG.ld u109 i109,RG.cl (hs0),RG.st,RG.st,RG.cert_idxc rfl 140 17 (.int .i64 0) rfl (.p 0 (off+0)) RG.sx (fun μ w=>at136 _ _ 0 (by decide) w),RG.cert_putAt 0 ((off+0)+12*0) rfl _ rfl 139 (.tmp 18) (.tmp 15) (tw s0) rfl rfl RG.sx RG.sx (by show off+0+12*0+(tw s0).length≤C1.length;rw[tw_length];omega) (hC2) i117 (tw_one _),trivial⟩ ?_
 intro a3 w3 M3
 have f0_3:a3.tmps[0]? = some (.pointer (some ⟨kt,off,none⟩)):=M3.at (s:=(.p 0 off))
 have M3:RG.M w w.heap.size [kt] 43 [C2,(wn n),(ws x++(ws y))] [kt,j1,i1] [(0,(.p 0 off))] a3 _:=⟨M3.st,M3.sl,⟨f0_3,trivial⟩⟩
 repeat refine wp_seq ?_
 refine M3.t [.s 19 [] (.p 0 off),.s 20 [(19,0)] (.p 0 off),.s 21 [(20,1)] (.p 0 (off+0)),.s 22 [(21,2)] (.p 0 ((off+0)+12*0)),.x 23 [(22,3)] (tv s0),.c 24 [(23,4)] (tv s2),.m 6 [] 3,.u [(6,6),(24,5)] 3] [(6,(RG.z 12))] [(3,7,(tw s2))] [C2,(wn n),(ws x++(ws y)),(tw s2)] [(0,(.p 0 off)),(6,(.p 3 0))] ⟨RG.st,RG.st,RG.st,RG.cert_idxc rfl 140 21 (.int .i64 0) rfl (.p 0 (off+0)) RG.sx (fun μ w=>at136 _ _ 0 (by decide) w),RG.cert_load rfl 0 ((off+0)+12*0) _ rfl rfl (by kernel_rfl) 139 22 rfl (tw s0) rfl RG.sx (hsub0) u117 i117,RG.cl (hs2),RG.mk 3 139,RG.pt i117,trivial⟩ ?_
 intro j4 a4 w4 M4
 repeat refine wp_seq ?_
 refine M4.u [.x 7 [] (.int .i64 1)] [(0,(.p 0 off)),(6,(.p 3 0)),(7,(.v (.int .i64 1)))] ⟨RG.st,trivial⟩ ?_
 intro a5 w5 M5
 have f0_5:a5.tmps[0]? = some (.pointer (some ⟨kt,off,none⟩)):=M5.at (s:=(.p 0 off))
 have f6_5:a5.tmps[6]? = some (.pointer (some ⟨j4,0,none⟩)):=M5.at (s:=(.p 3 0))
 have f7_5:a5.tmps[7]? = some (.int .i64 1):=M5.at (s:=(.v (.int .i64 1)))
 subst hDe
 subst hs0e
 subst hs2e
 clear hC1 hC2 hsub0 hL1 hL2 hlD hlS
 repeat refine wp_seq ?_
 refine wp_block ?_
 refine wp_loop_ghost (fun m a wr=>∃ (i:Nat) (C:List Value),1≤i∧i≤8∧i+m=8∧Fi x y (digs n) C0 off i C∧RG.Sl a 43∧a.tmps[0]? = some (.pointer (some ⟨kt,off,none⟩))∧a.tmps[6]? = some (.pointer (some ⟨j4,0,none⟩))∧a.tmps[7]? = some (.int .i64 i)∧RG.St w w.heap.size [kt] [C,wn n,ws x++ws y,tw (twJ (raJ x y))] [kt,j1,i1,j4] wr) 7 ⟨1,C2,by omega,by omega,by omega,F2,M5.sl,f0_5,f6_5,f7_5,M5.st⟩ ?_
 intro m a wr
 rintro ⟨i,C1,hi1,hi8,hm,hF,sl,g0,g6,g7,hS⟩
 generalize j1=k1 at g6 hS
 generalize i1=k2 at g6 hS
 generalize j4=k3 at g6 hS
 obtain ⟨D,hDe⟩:∃ D,digs n=D:=⟨_,rfl⟩
 rw[hDe] at hF
 obtain ⟨s0,hs0e⟩:∃ s,raJ x y=s:=⟨_,rfl⟩
 obtain ⟨s2,hs2e⟩:∃ s,twJ (raJ x y)=s:=⟨_,rfl⟩
 rw[hs2e] at hS
 obtain ⟨sp,hspe⟩:∃ s,od x y (i-1)=s:=⟨_,rfl⟩
 obtain ⟨s3,hs3e⟩:∃ s,plJ sp s2=s:=⟨_,rfl⟩
 have hs3:Gives 67 #[tv sp,tv s2] (tv s3):=hs3e ▸ plJ_c F sp s2
 have hlen:=hF.len
 by_cases hi:i<8
 ·have hod:od x y i=s3:=by
   obtain ⟨q,rfl⟩:∃ q,i=q+1:=⟨i-1,by omega⟩
   rw[← hs3e,← hspe,← hs2e]
   rfl
  have hsubp:(C1.drop (off+0+12*(i-1))).take (tw sp).length=tw sp:=by
   have:=hF.sub hoff (q:=i-1) (by omega) (by omega)
   rw[hspe] at this
   exact this
  obtain ⟨C2,hC2e⟩:∃ c,RG.rep C1 (off+0+12*i) (tw s3)=c:=⟨_,rfl⟩
  have hlS:off+0+12*i+(tw s3).length≤C1.length:=by rw[tw_length];omega
  have hC2:=hC2e ▸ RG.rep_at hlS
  have hL2:C2.length=C1.length:=hC2e ▸ RG.rep_length hlS
  have hF2:Fi x y D C0 off (i+1) C2:=by
   have:=hF.next hoff hi
   rw[hod] at this
   rw[← hC2e]
   exact this
  have hsb:∀ w,(binOp .sub 3 (.int .i64 i) (.int .i64 1)).run Tryz.prog w=.ok (.int .i64 ((i-1:Nat):Int)) w:=fun w=>by
   rw[sub64i _ _ (by omega) (by omega),show (i:Int)-1=((i-1:Nat):Int) by omega]
  clear hs0e hC2e
  have M0:RG.M w w.heap.size [kt] 43 [C1,(wn n),(ws x++(ws y)),(tw s2)] [kt,k1,k2,k3] [(0,(.p 0 off)),(6,(.p 3 0)),(7,(.v (.int .i64 i)))] a _:=⟨hS,sl,⟨g0,g6,g7,trivial⟩⟩
  repeat refine wp_seq ?_
  refine M0.u [.x 25 [] (.int .i64 i),.x 26 [(25,0)] (.bool true)] [(0,(.p 0 off)),(6,(.p 3 0)),(7,(.v (.int .i64 i))),(26,(.v (.bool true)))] ⟨RG.st,RG.cert_binc rfl .lss 3 3 25 (.int .i64 i) (.int .i64 8) (.bool true) rfl rfl RG.sx (fun w=>by kernel_rfl) (lssn_t (n:=8) hi),trivial⟩ ?_
  intro a1 w1 M1
  repeat refine wp_seq ?_
  refine wp_cond_true M1.ev ?_
  refine wp_skip ?_
  refine wp_seq ?_
  refine wp_block ?_
  repeat refine wp_seq ?_
  refine M1.dr (by kernel_rfl) [.s 29 [] (.p 0 off),.x 30 [] (.int .i64 i),.s 31 [] (.p 0 off),.x 32 [] (.int .i64 i),.x 33 [(32,3)] (.int .i64 ((i-1:Nat):Int)),.s 34 [(31,2)] (.p 0 off),.s 35 [(34,5)] (.p 0 (off+0)),.s 36 [(35,6),(33,4)] (.p 0 ((off+0)+12*(i-1))),.x 37 [(36,7)] (tv sp),.x 38 [] (tv s2),.c 39 [(37,8),(38,9)] (tv s3),.s 40 [(29,0)] (.p 0 off),.s 41 [(40,11)] (.p 0 (off+0)),.s 42 [(41,12),(30,1)] (.p 0 ((off+0)+12*i)),.u [(42,13),(39,10)] 0] [] [(0,14,C2)] [C2,(wn n),(ws x++(ws y)),(tw s2)] [(0,(.p 0 off)),(6,(.p 3 0)),(7,(.v (.int .i64 i)))] (by kernel_rfl) (congrArg (fun n=>[n]) hL2) ⟨RG.st,RG.st,RG.st,RG.st,RG.cert_binc rfl .sub 3 3 32 (.int .i64 i) (.int .i64 1) (.int .i64 ((i-1:Nat):Int)) rfl rfl RG.sx (fun w=>by kernel_rfl) (hsb),RG.st,RG.st,RG.cert_idx rfl 140 35 33 rfl (.p 0 (off+0)) (.int .i64 ((i-1:Nat):Int)) RG.sx RG.sx (fun μ w=>at136 _ _ (i-1) (by omega) w),RG.cert_load rfl 0 ((off+0)+12*(i-1)) _ rfl rfl (by kernel_rfl) 139 36 rfl (tw sp) rfl RG.sx (hsubp) u117 i117,RG.ld u117 i117,RG.cl (hs3),RG.st,RG.st,RG.cert_idx rfl 140 41 30 rfl (.p 0 (off+0)) (.int .i64 i) RG.sx RG.sx (fun μ w=>at136 _ _ i (by omega) w),RG.cert_putAt 0 ((off+0)+12*i) rfl _ rfl 139 (.tmp 42) (.tmp 39) (tw s3) rfl rfl RG.sx RG.sx (by show off+0+12*i+(tw s3).length≤C1.length;rw[tw_length];omega) (hC2) i117 (tw_one _),trivial⟩ ?_
  intro a2 w2 M2
  repeat refine wp_seq ?_
  refine M2.u [.x 27 [] (.int .i64 i),.x 28 [(27,0)] (.int .i64 ((i+1:Nat):Int)),.x 7 [(28,1)] (.int .i64 ((i+1:Nat):Int))] [(0,(.p 0 off)),(6,(.p 3 0)),(7,(.v (.int .i64 ((i+1:Nat):Int))))] ⟨RG.st,RG.cert_binc rfl .add 3 3 27 (.int .i64 i) (.int .i64 1) (.int .i64 ((i+1:Nat):Int)) rfl rfl RG.sx (fun w=>by kernel_rfl) (addn i 1 (by omega) (by omega)),RG.st,trivial⟩ ?_
  intro a3 w3 M3
  have f0_3:a3.tmps[0]? = some (.pointer (some ⟨kt,off,none⟩)):=M3.at (s:=(.p 0 off))
  have f6_3:a3.tmps[6]? = some (.pointer (some ⟨k3,0,none⟩)):=M3.at (s:=(.p 3 0))
  have f7_3:a3.tmps[7]? = some (.int .i64 ((i+1:Nat):Int)):=M3.at (s:=(.v (.int .i64 ((i+1:Nat):Int))))
  show ∃ n',_
  exact ⟨m-1,by omega,i+1,C2,by omega,by omega,by omega,hDe.symm ▸ hF2,M3.sl,f0_3,f6_3,f7_3,by rw[hs2e];exact M3.st⟩
 ·have hi9:i=8:=by omega
  obtain ⟨C2,-⟩:∃ c:List Value,c=C1:=⟨_,rfl⟩
  have M0:RG.M w w.heap.size [kt] 43 [C1,(wn n),(ws x++(ws y)),(tw s2)] [kt,k1,k2,k3] [(0,(.p 0 off)),(6,(.p 3 0)),(7,(.v (.int .i64 i)))] a _:=⟨hS,sl,⟨g0,g6,g7,trivial⟩⟩
  repeat refine wp_seq ?_
  refine M0.u [.x 25 [] (.int .i64 i),.x 26 [(25,0)] (.bool false)] [(0,(.p 0 off)),(6,(.p 3 0)),(7,(.v (.int .i64 i))),(26,(.v (.bool false)))] ⟨RG.st,RG.cert_binc rfl .lss 3 3 25 (.int .i64 i) (.int .i64 8) (.bool false) rfl rfl RG.sx (fun w=>by kernel_rfl) (lssn_f (n:=8) hi),trivial⟩ ?_
  intro a1 w1 M1
  repeat refine wp_seq ?_
  refine wp_cond_false M1.ev ?_
  refine wp_exit ?_
  dsimp only[Exit.then,Exit.inBlock]
  rw[if_pos rfl]
  have f0_1:a1.tmps[0]? = some (.pointer (some ⟨kt,off,none⟩)):=M1.at (s:=(.p 0 off))
  have f6_1:a1.tmps[6]? = some (.pointer (some ⟨k3,0,none⟩)):=M1.at (s:=(.p 3 0))
  have f7_1:a1.tmps[7]? = some (.int .i64 i):=M1.at (s:=(.v (.int .i64 i)))
  exact ⟨M1.sl.defers,.tuple #[],RG.results_none rfl,_,rfl,⟨C1,hDe.symm ▸ hi9 ▸ hF,M1.st.putTo hF.len⟩,rfl⟩
theorem times_n (F:Fld P) (kt o k:Nat) (hq:k<8) (s:T3 P) (w:World) (hk:kt<w.heap.size) (hr:w.rangeAt kt (o+0+12*k) (tw s)):Calls Tryz.prog 68 #[(.pointer (some ⟨kt,o,none⟩)),(.int .i8 (-(2*(k:Int)+1)))] w (Ret fun e w'=>Below w.heap.size w w'∧e=tv (opJ s)):=by
 obtain ⟨s2,hs2e⟩:∃ s2,opJ s=s2:=⟨_,rfl⟩
 have hs2:Gives 122 #[tv s] (tv s2):=hs2e ▸ opJ_c F s
 have hlss:∀ w,(binOp .lss 141 (.int .i8 (-(2*(k:Int)+1))) (.int .i8 0)).run Tryz.prog w=.ok (.bool true) w:=fun w=>by
  have h1:-(2*(k:Int)+1)<0:=by omega
  go_simp
  try omega
 have hneg:∀ w,(Op.unary .neg (.int .i8 (-(2*(k:Int)+1)))).run Tryz.prog w=.ok (.int .i8 (2*(k:Int)+1)) w:=fun w=>by
  rw[i8neg _ (by omega),Int.neg_neg]
 go_enter Tryz.func68,Tryz.ntmps68
 refine RG.var2 (v0:=(.pointer (some ⟨kt,o,none⟩))) (v1:=(.int .i8 (-(2*(k:Int)+1)))) (n:=23) (by kernel_rfl) (by kernel_rfl) (by kernel_rfl) (by kernel_rfl) ?_
 intro a0 sl0 f0 f1
 have hS0:=RG.St.begin w
 have M0:RG.M w w.heap.size [] 23 [] [] [(0,(.v (.pointer (some ⟨kt,o,none⟩)))),(1,(.v (.int .i8 (-(2*(k:Int)+1)))))] a0 _:=⟨hS0,sl0,⟨f0,f1,trivial⟩⟩
 repeat refine wp_seq ?_
 refine M0.t [.m 4 [] 0] [(0,(RG.z 12))] [] [(RG.z 12)] [(0,(.v (.pointer (some ⟨kt,o,none⟩)))),(1,(.v (.int .i8 (-(2*(k:Int)+1))))),(4,(.p 0 0))] ⟨RG.mk 0 139,trivial⟩ ?_
 intro j1 a1 w1 M1
 repeat refine wp_seq ?_
 refine M1.u [.x 5 [] (.int .i8 (-(2*(k:Int)+1))),.x 6 [(5,0)] (.bool true)] [(0,(.v (.pointer (some ⟨kt,o,none⟩)))),(1,(.v (.int .i8 (-(2*(k:Int)+1))))),(4,(.p 0 0)),(6,(.v (.bool true)))] ⟨RG.st,RG.cert_binc rfl .lss 141 141 5 (.int .i8 (-(2*(k:Int)+1))) (.int .i8 0) (.bool true) rfl rfl RG.sx (fun w=>by kernel_rfl) (hlss),trivial⟩ ?_
 intro a2 w2 M2
 repeat refine wp_seq ?_
 refine wp_cond_true M2.ev ?_
 repeat refine wp_seq ?_
 refine M2.t [.x 7 [] (.pointer (some ⟨kt,o,none⟩)),.x 8 [] (.int .i8 (-(2*(k:Int)+1))),.x 9 [(8,1)] (.int .i8 (2*(k:Int)+1)),.x 10 [(9,2)] (.int .i8 k),.x 11 [(7,0)] (.pointer (some ⟨kt,o,none⟩)),.x 12 [(11,4)] (.pointer (some ⟨kt,(o+0),none⟩)),.x 13 [(12,5),(10,3)] (.pointer (some ⟨kt,((o+0)+12*k),none⟩)),.x 14 [(13,6)] (tv s),.c 15 [(14,7)] (tv s2),.u [(15,8)] 0] [] [(0,9,(tw s2))] [(tw s2)] [(4,(.p 0 0))] ⟨RG.st,RG.st,RG.cert_un rfl .neg 141 8 (.int .i8 (-(2*(k:Int)+1))) (.int .i8 (2*(k:Int)+1)) rfl rfl RG.sx (hneg),RG.cert_binc rfl .quo 141 141 9 (.int .i8 (2*(k:Int)+1)) (.int .i8 2) (.int .i8 k) rfl rfl RG.sx (fun w=>by kernel_rfl) (i8quo k hq),RG.st,RG.st,RG.cert_idx rfl 140 12 10 rfl (.v (.pointer (some ⟨kt,(o+0),none⟩))) (.int .i8 k) RG.sx RG.sx (fun μ w=>at136b _ _ k hq w),RG.cert_loadB rfl kt ((o+0)+12*k) hk List.not_mem_nil 139 13 rfl (tw s) rfl RG.sx hr u117 i117,RG.cl (hs2),RG.pt i117,trivial⟩ ?_
 intro a3 w3 M3
 refine wp_ret ?_
 refine bodyPost_ret (v:=tv s2) (RG.results_row M3.st 4 139 rfl 0 _ rfl (M3.at (s:=(.p 0 0))) u117 i117) M3.sl.defers ?_
 exact ⟨_,rfl,M3.st.bel.below,by rw[hs2e]⟩
theorem times_p (F:Fld P) (kt o k:Nat) (hq:k<8) (s:T3 P) (w:World) (hk:kt<w.heap.size) (hr:w.rangeAt kt (o+0+12*k) (tw s)):Calls Tryz.prog 68 #[(.pointer (some ⟨kt,o,none⟩)),(.int .i8 (2*(k:Int)+1))] w (Ret fun e w'=>Below w.heap.size w w'∧e=tv s):=by
 obtain ⟨s2,hs2e⟩:∃ s2,opJ s=s2:=⟨_,rfl⟩
 have hs2:Gives 122 #[tv s] (tv s2):=hs2e ▸ opJ_c F s
 have hlss:∀ w,(binOp .lss 141 (.int .i8 (2*(k:Int)+1)) (.int .i8 0)).run Tryz.prog w=.ok (.bool false) w:=fun w=>by
  have h1:¬ 2*(k:Int)+1<0:=by omega
  go_simp
  try omega
 have hneg:∀ w,(Op.unary .neg (.int .i8 (-(2*(k:Int)+1)))).run Tryz.prog w=.ok (.int .i8 (2*(k:Int)+1)) w:=fun w=>by
  rw[i8neg _ (by omega),Int.neg_neg]
 go_enter Tryz.func68,Tryz.ntmps68
 refine RG.var2 (v0:=(.pointer (some ⟨kt,o,none⟩))) (v1:=(.int .i8 (2*(k:Int)+1))) (n:=23) (by kernel_rfl) (by kernel_rfl) (by kernel_rfl) (by kernel_rfl) ?_
 intro a0 sl0 f0 f1
 have hS0:=RG.St.begin w
 have M0:RG.M w w.heap.size [] 23 [] [] [(0,(.v (.pointer (some ⟨kt,o,none⟩)))),(1,(.v (.int .i8 (2*(k:Int)+1))))] a0 _:=⟨hS0,sl0,⟨f0,f1,trivial⟩⟩
 repeat refine wp_seq ?_
 refine M0.t [.m 4 [] 0] [(0,(RG.z 12))] [] [(RG.z 12)] [(0,(.v (.pointer (some ⟨kt,o,none⟩)))),(1,(.v (.int .i8 (2*(k:Int)+1)))),(4,(.p 0 0))] ⟨RG.mk 0 139,trivial⟩ ?_
 intro j1 a1 w1 M1
 repeat refine wp_seq ?_
 refine M1.u [.x 5 [] (.int .i8 (2*(k:Int)+1)),.x 6 [(5,0)] (.bool false)] [(0,(.v (.pointer (some ⟨kt,o,none⟩)))),(1,(.v (.int .i8 (2*(k:Int)+1)))),(4,(.p 0 0)),(6,(.v (.bool false)))] ⟨RG.st,RG.cert_binc rfl .lss 141 141 5 (.int .i8 (2*(k:Int)+1)) (.int .i8 0) (.bool false) rfl rfl RG.sx (fun w=>by kernel_rfl) (hlss),trivial⟩ ?_
 intro a2 w2 M2
 repeat refine wp_seq ?_
 refine wp_cond_false M2.ev ?_
 refine wp_skip ?_
 repeat refine wp_seq ?_
 refine M2.t [.x 16 [] (.pointer (some ⟨kt,o,none⟩)),.x 17 [] (.int .i8 (2*(k:Int)+1)),.x 18 [(17,1)] (.int .i8 k),.x 19 [(16,0)] (.pointer (some ⟨kt,o,none⟩)),.x 20 [(19,3)] (.pointer (some ⟨kt,(o+0),none⟩)),.x 21 [(20,4),(18,2)] (.pointer (some ⟨kt,((o+0)+12*k),none⟩)),.x 22 [(21,5)] (tv s),.u [(22,6)] 0] [] [(0,7,(tw s))] [(tw s)] [(4,(.p 0 0))] ⟨RG.st,RG.st,RG.cert_binc rfl .quo 141 141 17 (.int .i8 (2*(k:Int)+1)) (.int .i8 2) (.int .i8 k) rfl rfl RG.sx (fun w=>by kernel_rfl) (i8quo k hq),RG.st,RG.st,RG.cert_idx rfl 140 20 18 rfl (.v (.pointer (some ⟨kt,(o+0),none⟩))) (.int .i8 k) RG.sx RG.sx (fun μ w=>at136b _ _ k hq w),RG.cert_loadB rfl kt ((o+0)+12*k) hk List.not_mem_nil 139 21 rfl (tw s) rfl RG.sx hr u117 i117,RG.pt i117,trivial⟩ ?_
 intro a3 w3 M3
 refine wp_ret ?_
 refine bodyPost_ret (v:=tv s) (RG.results_row M3.st 4 139 rfl 0 _ rfl (M3.at (s:=(.p 0 0))) u117 i117) M3.sl.defers ?_
 exact ⟨_,rfl,M3.st.bel.below,rfl⟩
def tmJ (x y:Fin P) (d:Int):T3 P:=if d<0 then opJ (od x y ((-d).toNat/2)) else od x y (d.toNat/2)
theorem tmJ_J (C:Fld P) {x y:Fin P} {p:EC.Pt P} (h:EC.Pair x y p) (hp:EC.On p) {d:Int} (hd:d%2=1):JacT (tmJ x y d) (EC.zmul d p):=by
 unfold tmJ
 by_cases hn:d<0
 ·rw[if_pos hn]
  have h1:=(od_J C h hp ((-d).toNat/2)).neg
  rw[← EC.zmul_neg C.cur hp] at h1
  rw[show -((2*((-d).toNat/2)+1:Nat):Int)=d by omega] at h1
  exact h1
 ·rw[if_neg hn]
  have h1:=od_J C h hp (d.toNat/2)
  rw[show ((2*(d.toNat/2)+1:Nat):Int)=d by omega] at h1
  exact h1
def inn (ns:Nat→Nat) (xs ys:Nat→Fin P) (st:T3 P) (place:Nat):Nat→T3 P
 | 0=>st
 | i+1=>if digs (ns i) place=0 then inn ns xs ys st place i else plJ (inn ns xs ys st place i) (tmJ (xs i) (ys i) (digs (ns i) place))
def sumJ (ns:Nat→Nat) (xs ys:Nat→Fin P) (N:Nat):Nat→T3 P
 | 0=>(0,0,0)
 | m+1=>inn ns xs ys (twJ (sumJ ns xs ys N m)) (256-m) N
theorem inn_J (C:Fld P) {ns:Nat→Nat} {xs ys:Nat→Fin P} {p:Nat→EC.Pt P} {N:Nat} (hns:∀ i,i<N→ns i<2^256) (hp:∀ i,i<N→EC.Pair (xs i) (ys i) (p i)) (ho:∀ i,i<N→EC.On (p i)) {st:T3 P} {g:Nat→Int} {place:Nat}
 (h:JacT st (EC.tot p N g)):∀ i,i≤N→JacT (inn ns xs ys st place i) (EC.tot p N (fun j=>if j<i then g j+digs (ns j) place else g j))
 | 0,_=>by
  have:EC.tot p N (fun j=>if j<0 then g j+digs (ns j) place else g j)=EC.tot p N g:=EC.tot_congr N fun j _=>if_neg (by omega)
  rw[this]
  exact h
 | i+1,hi=>by
  have ih:=inn_J C hns hp ho (place:=place) h i (by omega)
  have e:EC.tot p N (fun j=>if j<i+1 then g j+digs (ns j) place else g j)=EC.add (EC.tot p N (fun j=>if j<i then g j+digs (ns j) place else g j)) (EC.zmul (digs (ns i) place) (p i)):=by
   rw[← EC.tot_upd C.cur _ i (digs (ns i) place) N (by omega) ho]
   refine EC.tot_congr N fun j _=>?_
   by_cases h1:j=i
   ·subst h1
    rw[if_pos (by omega),if_pos rfl,if_neg (by omega)]
   ·rw[if_neg h1]
    by_cases h2:j<i
    ·rw[if_pos (by omega),if_pos h2]
    ·rw[if_neg (by omega),if_neg h2]
  rw[e]
  unfold inn
  by_cases hz:digs (ns i) place=0
  ·rw[if_pos hz,hz,EC.zmul_zero,EC.add_none]
   exact ih
  ·rw[if_neg hz]
   obtain ⟨q,c,-,hD⟩:=digs_DI (hns i (by omega))
   rcases hD.ho place with h1|h1
   ·exact absurd h1 hz
   ·exact ih.plus C (tmJ_J C (hp i (by omega)) (ho i (by omega)) h1.1)
theorem sumJ_J (C:Fld P) {ns:Nat→Nat} {xs ys:Nat→Fin P} {p:Nat→EC.Pt P} {N:Nat} (hns:∀ i,i<N→ns i<2^256) (hp:∀ i,i<N→EC.Pair (xs i) (ys i) (p i)) (ho:∀ i,i<N→EC.On (p i)) :
 ∀ m,m≤257→JacT (sumJ ns xs ys N m) (EC.tot p N (fun j=>DG.hor (digs (ns j)) m))
 | 0,_=>by
  rw[show EC.tot p N (fun j=>DG.hor (digs (ns j)) 0)=.none from EC.tot_zero p N (fun _ _=>rfl)]
  exact JacT.none
 | m+1,hm=>by
  have ih:=(sumJ_J C hns hp ho m (by omega)).twice C
  rw[← EC.tot_twice C.cur _ N ho] at ih
  have h1:=inn_J C hns hp ho (place:=256-m) ih N (Nat.le_refl _)
  have e:EC.tot p N (fun j=>DG.hor (digs (ns j)) (m+1))=EC.tot p N (fun j=>if j<N then 2*DG.hor (digs (ns j)) m+digs (ns j) (256-m) else 2*DG.hor (digs (ns j)) m):=
   EC.tot_congr N fun j hj=>by rw[if_pos hj];rfl
  rw[e]
  exact h1
theorem sumJ_all (C:Fld P) {ns:Nat→Nat} {xs ys:Nat→Fin P} {p:Nat→EC.Pt P} {N:Nat} (hns:∀ i,i<N→ns i<2^256) (hp:∀ i,i<N→EC.Pair (xs i) (ys i) (p i)) (ho:∀ i,i<N→EC.On (p i)) :
 JacT (sumJ ns xs ys N 257) (EC.tot p N (fun j=>(ns j:Int))):=by
 have h:=sumJ_J C hns hp ho 257 (Nat.le_refl _)
 have e:EC.tot p N (fun j=>(ns j:Int))=EC.tot p N (fun j=>DG.hor (digs (ns j)) 257):=EC.tot_congr N fun j hj=>by
  obtain ⟨q,c,hq,hD⟩:=digs_DI (hns j hj)
  exact (DG.hor_all hD hq).symm
 rw[e]
 exact h
def cc (ns:Nat→Nat) (xs ys:Nat→Fin P) (C0:List Value):Nat→List Value
 | 0=>C0
 | i+1=>fc (xs i) (ys i) (digs (ns i)) (cc ns xs ys C0 i) (353*i) 8
theorem cc_at {ns:Nat→Nat} {xs ys:Nat→Fin P} {C0:List Value} {N:Nat} (hl:C0.length=353*N):∀ i,i≤N→(cc ns xs ys C0 i).length=353*N ∧
 ∀ j,j<i→(∀ q,q<257→(cc ns xs ys C0 i)[353*j+96+q]? = some (.int .i8 (digs (ns j) q)))∧∀ q r,q<8→r<12→(cc ns xs ys C0 i)[353*j+12*q+r]? = (tw (od (xs j) (ys j) q))[r]?
 | 0,_=>⟨hl,fun j hj=>by omega⟩
 | i+1,hi=>by
  obtain ⟨h1,h2⟩:=cc_at hl i (by omega)
  have hF:=fc_Fi (x:=xs i) (y:=ys i) (D:=digs (ns i)) (C0:=cc ns xs ys C0 i) (off:=353*i) (by rw[h1];omega) 8 (Nat.le_refl _)
  refine ⟨by rw[← h1];exact hF.len,fun j hj=>?_⟩
  by_cases hji:j=i
  ·subst hji
   exact ⟨hF.dig,fun q r hq hr=>hF.odd q r hq hr⟩
  ·obtain ⟨g1,g2⟩:=h2 j (by omega)
   exact ⟨fun q hq=>(hF.out _ (by omega)).trans (g1 q hq),fun q r hq hr=>(hF.out _ (by omega)).trans (g2 q r hq hr)⟩
theorem mk135 (N:Nat) (hN:N≤512):∃ C0:List Value,C0.length=353*N∧∀ w:World,(Instr.makeSlice 136 (.int .i64 N) (.int .i64 N)).run Tryz.prog w=.ok (.slice (some ⟨w.heap.size,0,none⟩) N N) (w.alloc (.cells C0.toArray 144)):=by
 have hu:Tryz.prog.underlying 136=some (.slice 144):=by kernel_rfl
 have hi:(Tryz.prog.info? 144).map (fun i=>(i.size,decide (i.bytes≤4000),i.zero.isSome))=some (353,true,true):=by kernel_rfl
 obtain ⟨i,hi1,hi2⟩:=Option.map_eq_some_iff.1 hi
 simp only[Prod.mk.injEq,decide_eq_true_eq] at hi2
 obtain ⟨h1,h2,h3⟩:=hi2
 obtain ⟨z,hz⟩:=Option.isSome_iff_exists.1 h3
 refine ⟨(madeCells z.cells (N*353)).toList,by rw[Array.length_toList,size_madeCells,Nat.mul_comm],fun w=>?_⟩
 have hb:(i.bytes:Int)*(N:Int)≤281474976710656:=by
  have:i.bytes*N≤4000*512:=Nat.mul_le_mul h2 hN
  have h5:((i.bytes*N:Nat):Int)≤281474976710656:=by omega
  rwa[Int.natCast_mul] at h5
 have:=run_make (P:=Tryz.prog) w 136 144 i z hu hi1 hz .i64 .i64 (N:Int) (N:Int) (by omega) (by omega) hb (by omega)
 rw[Int.toNat_natCast,h1] at this
 rw[Array.toArray_toList]
 exact this
theorem fill_put (F:Fld P) {n:Nat} (hn:n<top) (x y:Fin P) (C0:List Value) (kt off:Nat) (hoff:off+353≤C0.length) (w:World) (ht:w.there kt 0 C0.length) (hr:w.rangeAt kt 0 C0) :
 Calls Tryz.prog 65 #[.pointer (some ⟨kt,off,none⟩),nv n,pv x y] w (Ret fun r w'=>RG.PutTo kt C0.length (fc x y (digs n) C0 off 8) w w'∧r=.tuple #[]):=by
 have hk:kt<w.heap.size:=by
  have h1:=(ht 0 (by omega)).1
  exact Classical.byContradiction fun hn=>by
   have h2:w.heap[kt]? = none:=Array.getElem?_eq_none (by omega)
   simp[World.cell?,h2] at h1
 refine (fill_c F hn x y C0 kt off hoff w hk ht hr).mono ?_
 rintro e w' ⟨v,rfl,⟨C,hF,hP⟩,rfl⟩
 refine ⟨_,rfl,?_,rfl⟩
 rw[(fc_Fi hoff 8 (Nat.le_refl _)).uniq hF]
 exact hP
theorem times_d (F:Fld P) (kt o:Nat) (x y:Fin P) {d:Int} (hd:d%2=1) (hd2:-15≤d∧d≤15) (w:World) (hk:kt<w.heap.size) (hr:∀ q,q<8→w.rangeAt kt (o+0+12*q) (tw (od x y q))) :
 Calls Tryz.prog 68 #[.pointer (some ⟨kt,o,none⟩),.int .i8 d] w (Ret fun e w'=>Below w.heap.size w w'∧e=tv (tmJ x y d)):=by
 unfold tmJ
 by_cases hn:d<0
 ·rw[if_pos hn]
  have h1:=times_n F kt o ((-d).toNat/2) (by omega) (od x y ((-d).toNat/2)) w hk (hr _ (by omega))
  rw[show -(2*(((-d).toNat/2:Nat):Int)+1)=d by omega] at h1
  exact h1
 ·rw[if_neg hn]
  have h1:=times_p F kt o (d.toNat/2) (by omega) (od x y (d.toNat/2)) w hk (hr _ (by omega))
  rw[show 2*((d.toNat/2:Nat):Int)+1=d by omega] at h1
  exact h1
theorem al117 {P:Nat} [NeZero P] (w:World):(Instr.alloc 139 true (.tuple #[])).run Tryz.prog w=.ok (.pointer (some ⟨w.heap.size,0,none⟩)) (w.alloc (.cells (tw ((0,0,0):T3 P)).toArray 139)):=by
 show _=Result.ok _ (w.alloc (.cells (ws (0:Fin P)++(ws (0:Fin P)++ws (0:Fin P))).toArray 139))
 rw[← ws_zero]
 kernel_rfl
theorem ne8_f (w:World):(binOp .neq 141 (.int .i8 0) (.int .i8 0)).run Tryz.prog w=.ok (.bool false) w:=by kernel_rfl
theorem ne8_t {d:Int} (h:¬ d=0) (w:World):(binOp .neq 141 (.int .i8 d) (.int .i8 0)).run Tryz.prog w=.ok (.bool true) w:=by
 go_simp
theorem sub1' (q:Nat) (hq:q<1000) (w:World):(binOp .sub 3 (.int .i64 q) (.int .i64 1)).run Tryz.prog w=.ok (.int .i64 ((q:Int)-1)) w:=sub64i _ _ (by omega) (by omega) w
theorem geq0' (i:Nat) (w:World):(binOp .geq 3 (.int .i64 i) (.int .i64 0)).run Tryz.prog w=.ok (.bool true) w:=by
 go_simp
theorem sums_c (F:Fld P) (N:Nat) (hN:N≤512) (ns:Nat→Nat) (xs ys:Nat→Fin P) (hns:∀ i,i<N→ns i<top) (kn ka:Nat) (w:World) (hkn:kn<w.heap.size) (hka:ka<w.heap.size)
 (hn:∀ i,i<N→w.rangeAt kn (4*i) (wn (ns i))) (ha:∀ i,i<N→w.rangeAt ka (8*i) (ws (xs i)++ws (ys i))) :
 Calls Tryz.prog 28 #[(.slice (some ⟨kn,0,none⟩) N N),(.slice (some ⟨ka,0,none⟩) N N)] w (Ret fun e w'=>Below w.heap.size w w'∧∃ s,s=sumJ ns xs ys N 257∧e=pv (s.1*(EC.inv s.2.2*EC.inv s.2.2)) (s.2.1*(EC.inv s.2.2*EC.inv s.2.2)*EC.inv s.2.2)):=by
 obtain ⟨C,hCl,hmk⟩:=mk135 N hN
 have hstepC:∀ (i:Nat) (c2:List Value),fc (xs i) (ys i) (digs (ns i)) (cc ns xs ys C i) (353*i) 8=c2→cc ns xs ys C (i+1)=c2:=fun i c2 h=>h
 obtain ⟨i,-⟩:∃ i:Nat,i=0:=⟨_,rfl⟩
 obtain ⟨q,-⟩:∃ i:Nat,i=0:=⟨_,rfl⟩
 obtain ⟨d,-⟩:∃ i:Int,i=0:=⟨_,rfl⟩
 obtain ⟨C2,-⟩:∃ c:List Value,c=C:=⟨_,rfl⟩
 obtain ⟨s,-⟩:∃ s:T3 P,s=(0,0,0):=⟨_,rfl⟩
 obtain ⟨s2,-⟩:∃ s:T3 P,s=(0,0,0):=⟨_,rfl⟩
 obtain ⟨s3,-⟩:∃ s:T3 P,s=(0,0,0):=⟨_,rfl⟩
 obtain ⟨s4,-⟩:∃ s:T3 P,s=(0,0,0):=⟨_,rfl⟩
 go_enter Tryz.func28,Tryz.ntmps28
 refine RG.var2 (v0:=(.slice (some ⟨kn,0,none⟩) N N)) (v1:=(.slice (some ⟨ka,0,none⟩) N N)) (n:=62) (by kernel_rfl) (by kernel_rfl) (by kernel_rfl) (by kernel_rfl) ?_
 intro a0 sl0 f0 f1
 have hS0:=RG.St.begin w
 have M0:RG.M w w.heap.size [] 62 [] [] [(0,(.v (.slice (some ⟨kn,0,none⟩) N N))),(1,(.v (.slice (some ⟨ka,0,none⟩) N N)))] a0 _:=⟨hS0,sl0,⟨f0,f1,trivial⟩⟩
 repeat refine wp_seq ?_
 refine M0.t [.m 4 [] 0] [(0,(RG.z 8))] [] [(RG.z 8)] [(0,(.v (.slice (some ⟨kn,0,none⟩) N N))),(1,(.v (.slice (some ⟨ka,0,none⟩) N N))),(4,(.p 0 0))] ⟨RG.mk 0 85,trivial⟩ ?_
 intro j1 a1 w1 M1
 repeat refine wp_seq ?_
 refine M1.t [.x 11 [] (.slice (some ⟨kn,0,none⟩) N N),.x 12 [(11,0)] (.int .i64 N),⟨some 13,[(12,1)],(.s 1 N N),.make 1⟩,.s 5 [(13,2)] (.s 1 N N)] [(2,C)] [] [(RG.z 8),C] [(0,(.v (.slice (some ⟨kn,0,none⟩) N N))),(1,(.v (.slice (some ⟨ka,0,none⟩) N N))),(4,(.p 0 0)),(5,(.s 1 N N))] ⟨RG.st,RG.cert_one rfl 11 (.v (.slice (some ⟨kn,0,none⟩) N N)) (.int .i64 N) rfl RG.sx (fun a w=>by kernel_rfl) (fun μ w=>by kernel_rfl),RG.cert_makes 1 rfl _ rfl 136 144 12 12 N rfl rfl RG.sx RG.sx (hmk),RG.st,trivial⟩ ?_
 intro j2 a2 w2 M2
 repeat refine wp_seq ?_
 refine M2.u [.s 14 [] (.s 1 N N),.x 15 [(14,0)] (.int .i64 N),.x 16 [] (.int .i64 0)] [(0,(.v (.slice (some ⟨kn,0,none⟩) N N))),(1,(.v (.slice (some ⟨ka,0,none⟩) N N))),(4,(.p 0 0)),(5,(.s 1 N N)),(15,(.v (.int .i64 N))),(16,(.v (.int .i64 0)))] ⟨RG.st,RG.cert_one rfl 14 (.s 1 N N) (.int .i64 N) rfl RG.sx (fun a w=>by kernel_rfl) (fun μ w=>by kernel_rfl),RG.st,trivial⟩ ?_
 intro a3 w3 M3
 have f0_3:a3.tmps[0]? = some (.slice (some ⟨kn,0,none⟩) N N):=M3.at (s:=(.v (.slice (some ⟨kn,0,none⟩) N N)))
 have f1_3:a3.tmps[1]? = some (.slice (some ⟨ka,0,none⟩) N N):=M3.at (s:=(.v (.slice (some ⟨ka,0,none⟩) N N)))
 have f4_3:a3.tmps[4]? = some (.pointer (some ⟨j1,0,none⟩)):=M3.at (s:=(.p 0 0))
 have f5_3:a3.tmps[5]? = some (.slice (some ⟨j2,0,none⟩) N N):=M3.at (s:=(.s 1 N N))
 have f15_3:a3.tmps[15]? = some (.int .i64 N):=M3.at (s:=(.v (.int .i64 N)))
 have f16_3:a3.tmps[16]? = some (.int .i64 0):=M3.at (s:=(.v (.int .i64 0)))
 repeat refine wp_seq ?_
 refine wp_block ?_
 refine wp_loop_ghost (fun m a wr=>∃ i,i+m=N∧RG.Sl a 62∧a.tmps[0]? = some (.slice (some ⟨kn,0,none⟩) N N)∧a.tmps[1]? = some (.slice (some ⟨ka,0,none⟩) N N)∧a.tmps[4]? = some (.pointer (some ⟨j1,0,none⟩))∧a.tmps[5]? = some (.slice (some ⟨j2,0,none⟩) N N)∧a.tmps[15]? = some (.int .i64 N)∧a.tmps[16]? = some (.int .i64 i)∧RG.St w w.heap.size [] [[.int .u64 0,.int .u64 0,.int .u64 0,.int .u64 0,.int .u64 0,.int .u64 0,.int .u64 0,.int .u64 0],cc ns xs ys C i] [j1,j2] wr) N ⟨0,by omega,M3.sl,f0_3,f1_3,f4_3,f5_3,f15_3,f16_3,M3.st⟩ ?_
 intro m a wr
 rintro ⟨i,him,sl,p0,p1,p4,p5,p15,p16,hSp⟩
 generalize j1=kr at p4 hSp
 generalize j2=kt at p5 hSp
 obtain ⟨C,hCe⟩:∃ c,cc ns xs ys C i=c:=⟨_,rfl⟩
 have hcc:=cc_at (ns:=ns) (xs:=xs) (ys:=ys) hCl i (by omega)
 rw[hCe] at hSp hcc
 by_cases hi:i<N
 ·obtain ⟨C2,hC2e⟩:∃ c,fc (xs i) (ys i) (digs (ns i)) C (353*i) 8=c:=⟨_,rfl⟩
  have hoff:353*i+353≤C.length:=by rw[hcc.1];omega
  have hcl:C2.length=C.length:=hC2e ▸ (fc_Fi hoff 8 (Nat.le_refl _)).len
  have hfill:∀ (k:Nat) (w:World),w.there k 0 C.length→w.rangeAt k 0 C→Calls Tryz.prog 65 #[.pointer (some ⟨k,353*i,none⟩),nv (ns i),pv (xs i) (ys i)] w (Ret fun r w'=>RG.PutTo k C.length C2 w w'∧r=.tuple #[]):=fun k w ht hr=>hC2e ▸ fill_put F (hns i hi) (xs i) (ys i) C k (353*i) hoff w ht hr
  have hrn:w.rangeAt kn (0+4*i) (wn (ns i)):=by rw[Nat.zero_add];exact hn i hi
  have hra:w.rangeAt ka (0+8*i) (ws (xs i)++ws (ys i)):=by rw[Nat.zero_add];exact ha i hi
  have M10:RG.M w w.heap.size [] 62 [(RG.z 8),C] [kr,kt] [(0,(.v (.slice (some ⟨kn,0,none⟩) N N))),(1,(.v (.slice (some ⟨ka,0,none⟩) N N))),(4,(.p 0 0)),(5,(.s 1 N N)),(15,(.v (.int .i64 N))),(16,(.v (.int .i64 i)))] a _:=⟨hSp,sl,⟨p0,p1,p4,p5,p15,p16,trivial⟩⟩
  repeat refine wp_seq ?_
  refine M10.u [.x 17 [] (.bool true)] [(0,(.v (.slice (some ⟨kn,0,none⟩) N N))),(1,(.v (.slice (some ⟨ka,0,none⟩) N N))),(4,(.p 0 0)),(5,(.s 1 N N)),(15,(.v (.int .i64 N))),(16,(.v (.int .i64 i))),(17,(.v (.bool true)))] ⟨RG.cert_bin rfl .lss 3 3 16 15 (.int .i64 i) (.int .i64 N) (.bool true) rfl rfl RG.sx RG.sx (fun w=>by kernel_rfl) (lssn_t hi),trivial⟩ ?_
  intro a11 w11 M11
  repeat refine wp_seq ?_
  refine wp_cond_true M11.ev ?_
  refine wp_skip ?_
  refine wp_seq ?_
  refine wp_block ?_
  repeat refine wp_seq ?_
  refine M11.u [.x 18 [] (.int .i64 i),.x 6 [(18,0)] (.int .i64 i)] [(0,(.v (.slice (some ⟨kn,0,none⟩) N N))),(1,(.v (.slice (some ⟨ka,0,none⟩) N N))),(4,(.p 0 0)),(5,(.s 1 N N)),(6,(.v (.int .i64 i))),(15,(.v (.int .i64 N))),(16,(.v (.int .i64 i)))] ⟨RG.st,RG.st,trivial⟩ ?_
  intro a12 w12 M12
  repeat refine wp_seq ?_
  refine M12.dr (by kernel_rfl) [.s 19 [] (.s 1 N N),.x 20 [] (.int .i64 i),.s 21 [(19,0),(20,1)] (.p 1 (353*i)),.x 22 [] (.slice (some ⟨kn,0,none⟩) N N),.x 23 [] (.int .i64 i),.x 24 [(22,3),(23,4)] (.pointer (some ⟨kn,(0+4*i),none⟩)),.x 25 [(24,5)] (nv (ns i)),.x 26 [] (.slice (some ⟨ka,0,none⟩) N N),.x 27 [] (.int .i64 i),.x 28 [(26,7),(27,8)] (.pointer (some ⟨ka,(0+8*i),none⟩)),.x 29 [(28,9)] (pv (xs i) (ys i)),⟨some 30,[(21,2),(25,6),(29,10)],(.v (.tuple #[])),.put 1⟩] [] [(1,11,C2)] [(RG.z 8),C2] [(0,(.v (.slice (some ⟨kn,0,none⟩) N N))),(1,(.v (.slice (some ⟨ka,0,none⟩) N N))),(4,(.p 0 0)),(5,(.s 1 N N)),(15,(.v (.int .i64 N))),(16,(.v (.int .i64 i)))] (by kernel_rfl) (congrArg (fun n=>[n]) hcl) ⟨RG.st,RG.st,RG.cert_idx rfl 136 19 20 rfl (.s 1 N N) (.int .i64 i) RG.sx RG.sx (fun μ w=>at135 _ _ _ i hi w),RG.st,RG.st,RG.cert_idx rfl 81 22 23 rfl (.v (.slice (some ⟨kn,0,none⟩) N N)) (.int .i64 i) RG.sx RG.sx (fun μ w=>at82 _ _ _ _ i hi w),RG.cert_loadB rfl kn (0+4*i) hkn List.not_mem_nil 50 24 rfl (wn (ns i)) rfl RG.sx hrn u85 i85,RG.st,RG.st,RG.cert_idx rfl 92 26 27 rfl (.v (.slice (some ⟨ka,0,none⟩) N N)) (.int .i64 i) RG.sx RG.sx (fun μ w=>at112 _ _ _ _ i hi w),RG.cert_loadB rfl ka (0+8*i) hka List.not_mem_nil 85 28 rfl (ws (xs i)++ws (ys i)) rfl RG.sx hra u109 i109,RG.cert_callput3 1 rfl _ rfl 65 21 25 29 (.p 1 (353*i)) (nv (ns i)) (pv (xs i) (ys i)) (.tuple #[]) rfl (fun a w=>by kernel_rfl) RG.sx RG.sx RG.sx (fun μ w ht hr=>hfill (μ 1) w ht hr),trivial⟩ ?_
  intro a13 w13 M13
  repeat refine wp_seq ?_
  refine M13.u [.x 31 [] (.int .i64 ((i+1:Nat):Int)),.x 16 [(31,0)] (.int .i64 ((i+1:Nat):Int))] [(0,(.v (.slice (some ⟨kn,0,none⟩) N N))),(1,(.v (.slice (some ⟨ka,0,none⟩) N N))),(4,(.p 0 0)),(5,(.s 1 N N)),(15,(.v (.int .i64 N))),(16,(.v (.int .i64 ((i+1:Nat):Int))))] ⟨RG.cert_binc rfl .add 3 3 16 (.int .i64 i) (.int .i64 1) (.int .i64 ((i+1:Nat):Int)) rfl rfl RG.sx (fun w=>by kernel_rfl) (addn i 1 (by omega) (by omega)),RG.st,trivial⟩ ?_
  intro a14 w14 M14
  have f0_14:a14.tmps[0]? = some (.slice (some ⟨kn,0,none⟩) N N):=M14.at (s:=(.v (.slice (some ⟨kn,0,none⟩) N N)))
  have f1_14:a14.tmps[1]? = some (.slice (some ⟨ka,0,none⟩) N N):=M14.at (s:=(.v (.slice (some ⟨ka,0,none⟩) N N)))
  have f4_14:a14.tmps[4]? = some (.pointer (some ⟨kr,0,none⟩)):=M14.at (s:=(.p 0 0))
  have f5_14:a14.tmps[5]? = some (.slice (some ⟨kt,0,none⟩) N N):=M14.at (s:=(.s 1 N N))
  have f15_14:a14.tmps[15]? = some (.int .i64 N):=M14.at (s:=(.v (.int .i64 N)))
  have f16_14:a14.tmps[16]? = some (.int .i64 ((i+1:Nat):Int)):=M14.at (s:=(.v (.int .i64 ((i+1:Nat):Int))))
  show ∃ n',_
  refine ⟨m-1,by omega,i+1,by omega,M14.sl,f0_14,f1_14,f4_14,f5_14,f15_14,f16_14,?_⟩
  rw[hstepC i C2 (by rw[hCe];exact hC2e)]
  exact M14.st
 ·have hiN:i=N:=by omega
  rw[hiN] at hcc
  have hcN:=hcc.2
  have M20:RG.M w w.heap.size [] 62 [(RG.z 8),C] [kr,kt] [(0,(.v (.slice (some ⟨kn,0,none⟩) N N))),(1,(.v (.slice (some ⟨ka,0,none⟩) N N))),(4,(.p 0 0)),(5,(.s 1 N N)),(15,(.v (.int .i64 N))),(16,(.v (.int .i64 i)))] a _:=⟨hSp,sl,⟨p0,p1,p4,p5,p15,p16,trivial⟩⟩
  repeat refine wp_seq ?_
  refine M20.u [.x 17 [] (.bool false)] [(4,(.p 0 0)),(5,(.s 1 N N)),(17,(.v (.bool false)))] ⟨RG.cert_bin rfl .lss 3 3 16 15 (.int .i64 i) (.int .i64 N) (.bool false) rfl rfl RG.sx RG.sx (fun w=>by kernel_rfl) (lssn_f hi),trivial⟩ ?_
  intro a21 w21 M21
  repeat refine wp_seq ?_
  refine wp_cond_false M21.ev ?_
  refine wp_exit ?_
  dsimp only[Exit.then,Exit.inBlock]
  rw[if_pos rfl]
  repeat refine wp_seq ?_
  refine M21.t [.m 7 [] 2] [(0,(tw ((0,0,0):T3 P)))] [] [(RG.z 8),C,(tw ((0,0,0):T3 P))] [(4,(.p 0 0)),(5,(.s 1 N N)),(7,(.p 2 0))] ⟨RG.cert_alloc 2 rfl rfl _ rfl 139 rfl (al117),trivial⟩ ?_
  intro j22 a22 w22 M22
  repeat refine wp_seq ?_
  refine M22.u [.x 8 [] (.int .i64 256)] [(4,(.p 0 0)),(5,(.s 1 N N)),(7,(.p 2 0)),(8,(.v (.int .i64 256)))] ⟨RG.st,trivial⟩ ?_
  intro a23 w23 M23
  have f4_23:a23.tmps[4]? = some (.pointer (some ⟨kr,0,none⟩)):=M23.at (s:=(.p 0 0))
  have f5_23:a23.tmps[5]? = some (.slice (some ⟨kt,0,none⟩) N N):=M23.at (s:=(.s 1 N N))
  have f7_23:a23.tmps[7]? = some (.pointer (some ⟨j22,0,none⟩)):=M23.at (s:=(.p 2 0))
  have f8_23:a23.tmps[8]? = some (.int .i64 256):=M23.at (s:=(.v (.int .i64 256)))
  repeat refine wp_seq ?_
  refine wp_block ?_
  refine wp_loop_ghost (fun m a wr=>m≤257∧RG.Sl a 62∧a.tmps[4]? = some (.pointer (some ⟨kr,0,none⟩))∧a.tmps[5]? = some (.slice (some ⟨kt,0,none⟩) N N)∧a.tmps[7]? = some (.pointer (some ⟨j22,0,none⟩))∧a.tmps[8]? = some (.int .i64 ((m:Int)-1))∧RG.St w w.heap.size [] [[.int .u64 0,.int .u64 0,.int .u64 0,.int .u64 0,.int .u64 0,.int .u64 0,.int .u64 0,.int .u64 0],C,tw (sumJ ns xs ys N (257-m))] [kr,kt,j22] wr) 257 ⟨Nat.le_refl _,M23.sl,f4_23,f5_23,f7_23,f8_23,?_⟩ ?_
  ·rw[Nat.sub_self,sumJ]
   exact M23.st
  intro m b wr
  rintro ⟨hm,slb,q4,q5,q7,q8,hSq⟩
  generalize j22=kl at q7 hSq
  by_cases hz:m=0
  ·subst hz
   rw[show 257-0=257 from rfl] at hSq
   obtain ⟨s,hse⟩:∃ s,sumJ ns xs ys N 257=s:=⟨_,rfl⟩
   rw[hse] at hSq
   have M40:RG.M w w.heap.size [] 62 [(RG.z 8),C,(tw s)] [kr,kt,kl] [(4,(.p 0 0)),(5,(.s 1 N N)),(7,(.p 2 0)),(8,(.v (.int .i64 (-1))))] b _:=⟨hSq,slb,⟨q4,q5,q7,q8,trivial⟩⟩
   repeat refine wp_seq ?_
   refine M40.u [.x 32 [] (.int .i64 (-1)),.x 33 [(32,0)] (.bool false)] [(4,(.p 0 0)),(7,(.p 2 0)),(33,(.v (.bool false)))] ⟨RG.st,RG.st,trivial⟩ ?_
   intro a41 w41 M41
   repeat refine wp_seq ?_
   refine wp_cond_false M41.ev ?_
   refine wp_exit ?_
   dsimp only[Exit.then,Exit.inBlock]
   rw[if_pos rfl]
   repeat refine wp_seq ?_
   refine M41.t [.x 60 [] (tv s),.c 61 [(60,0)] (pv (s.1*(EC.inv s.2.2*EC.inv s.2.2)) (s.2.1*(EC.inv s.2.2*EC.inv s.2.2)*EC.inv s.2.2)),.u [(61,1)] 0] [] [(0,2,(ws (s.1*(EC.inv s.2.2*EC.inv s.2.2))++(ws (s.2.1*(EC.inv s.2.2*EC.inv s.2.2)*EC.inv s.2.2))))] [(ws (s.1*(EC.inv s.2.2*EC.inv s.2.2))++(ws (s.2.1*(EC.inv s.2.2*EC.inv s.2.2)*EC.inv s.2.2))),C,(tw s)] [(4,(.p 0 0))] ⟨RG.ld u117 i117,RG.cl (ptJ_c F s),RG.pt i109,trivial⟩ ?_
   intro a42 w42 M42
   refine wp_ret ?_
   refine bodyPost_ret (v:=pv (s.1*(EC.inv s.2.2*EC.inv s.2.2)) (s.2.1*(EC.inv s.2.2*EC.inv s.2.2)*EC.inv s.2.2)) (RG.results_row M42.st 4 85 rfl 0 _ rfl (M42.at (s:=(.p 0 0))) u109 i109) M42.sl.defers ?_
   exact ⟨_,rfl,M42.st.bel.below,s,hse.symm,rfl⟩
  ·obtain ⟨q,rfl⟩:∃ q,m=q+1:=⟨m-1,by omega⟩
   have hq:q<257:=by omega
   replace q8:b.tmps[8]? = some (.int .i64 q):=by rw[q8];congr 2;omega
   obtain ⟨s,hse⟩:∃ s,sumJ ns xs ys N (257-(q+1))=s:=⟨_,rfl⟩
   rw[hse] at hSq
   obtain ⟨s2,hs2e⟩:∃ t,twJ s=t:=⟨_,rfl⟩
   have hs2:Gives 66 #[tv s] (tv s2):=hs2e ▸ twJ_c F s
   have hnext:sumJ ns xs ys N (257-q)=inn ns xs ys s2 q N:=by
    rw[show 257-q=257-(q+1)+1 by omega]
    show inn ns xs ys (twJ (sumJ ns xs ys N (257-(q+1)))) (256-(257-(q+1))) N=_
    rw[hse,hs2e,show 256-(257-(q+1))=q by omega]
   have M30:RG.M w w.heap.size [] 62 [(RG.z 8),C,(tw s)] [kr,kt,kl] [(4,(.p 0 0)),(5,(.s 1 N N)),(7,(.p 2 0)),(8,(.v (.int .i64 q)))] b _:=⟨hSq,slb,⟨q4,q5,q7,q8,trivial⟩⟩
   repeat refine wp_seq ?_
   refine M30.u [.x 32 [] (.int .i64 q),.x 33 [(32,0)] (.bool true)] [(4,(.p 0 0)),(5,(.s 1 N N)),(7,(.p 2 0)),(8,(.v (.int .i64 q))),(33,(.v (.bool true)))] ⟨RG.st,RG.cert_binc rfl .geq 3 3 32 (.int .i64 q) (.int .i64 0) (.bool true) rfl rfl RG.sx (fun w=>by kernel_rfl) (geq0' q),trivial⟩ ?_
   intro a31 w31 M31
   repeat refine wp_seq ?_
   refine wp_cond_true M31.ev ?_
   refine wp_skip ?_
   refine wp_seq ?_
   refine wp_block ?_
   repeat refine wp_seq ?_
   refine M31.t [.x 36 [] (tv s),.c 37 [(36,0)] (tv s2),.u [(37,1)] 2] [] [(2,2,(tw s2))] [(RG.z 8),C,(tw s2)] [(4,(.p 0 0)),(5,(.s 1 N N)),(7,(.p 2 0)),(8,(.v (.int .i64 q)))] ⟨RG.ld u117 i117,RG.cl (hs2),RG.pt i117,trivial⟩ ?_
   intro a32 w32 M32
   repeat refine wp_seq ?_
   refine M32.u [.s 38 [] (.s 1 N N),.x 39 [(38,0)] (.int .i64 N),.x 40 [] (.int .i64 0)] [(4,(.p 0 0)),(5,(.s 1 N N)),(7,(.p 2 0)),(8,(.v (.int .i64 q))),(39,(.v (.int .i64 N))),(40,(.v (.int .i64 0)))] ⟨RG.st,RG.cert_one rfl 38 (.s 1 N N) (.int .i64 N) rfl RG.sx (fun a w=>by kernel_rfl) (fun μ w=>by kernel_rfl),RG.st,trivial⟩ ?_
   intro a33 w33 M33
   have f4_33:a33.tmps[4]? = some (.pointer (some ⟨kr,0,none⟩)):=M33.at (s:=(.p 0 0))
   have f5_33:a33.tmps[5]? = some (.slice (some ⟨kt,0,none⟩) N N):=M33.at (s:=(.s 1 N N))
   have f7_33:a33.tmps[7]? = some (.pointer (some ⟨kl,0,none⟩)):=M33.at (s:=(.p 2 0))
   have f8_33:a33.tmps[8]? = some (.int .i64 q):=M33.at (s:=(.v (.int .i64 q)))
   have f39_33:a33.tmps[39]? = some (.int .i64 N):=M33.at (s:=(.v (.int .i64 N)))
   have f40_33:a33.tmps[40]? = some (.int .i64 0):=M33.at (s:=(.v (.int .i64 0)))
   repeat refine wp_seq ?_
   refine wp_block ?_
   refine wp_loop_ghost (fun m a wr=>∃ i,i+m=N∧RG.Sl a 62∧a.tmps[4]? = some (.pointer (some ⟨kr,0,none⟩))∧a.tmps[5]? = some (.slice (some ⟨kt,0,none⟩) N N)∧a.tmps[7]? = some (.pointer (some ⟨kl,0,none⟩))∧a.tmps[8]? = some (.int .i64 q)∧a.tmps[39]? = some (.int .i64 N)∧a.tmps[40]? = some (.int .i64 i)∧RG.St w w.heap.size [] [[.int .u64 0,.int .u64 0,.int .u64 0,.int .u64 0,.int .u64 0,.int .u64 0,.int .u64 0,.int .u64 0],C,tw (inn ns xs ys s2 q i)] [kr,kt,kl] wr) N ⟨0,by omega,M33.sl,f4_33,f5_33,f7_33,f8_33,f39_33,f40_33,M33.st⟩ ?_
   intro m' c wr
   rintro ⟨i,him,slc,r4,r5,r7,r8,r39,r40,hSr⟩
   obtain ⟨s,hse3⟩:∃ s,inn ns xs ys s2 q i=s:=⟨_,rfl⟩
   rw[hse3] at hSr
   by_cases hi:i<N
   ·obtain ⟨h1,h2⟩:=hcN i hi
    obtain ⟨d,hde⟩:∃ d,digs (ns i) q=d:=⟨_,rfl⟩
    have hdig:C[353*i+96+q]? = some (.int .i8 d):=hde ▸ h1 q hq
    have hCne:C≠[]:=by intro h;rw[h] at hdig;simp at hdig
    have hstep:inn ns xs ys s2 q (i+1)=if d=0 then s else plJ s (tmJ (xs i) (ys i) d):=by rw[← hse3,← hde];rfl
    by_cases hdz:d=0
    ·rw[if_pos hdz] at hstep
     rw[hdz] at hdig
     have M50:RG.M w w.heap.size [] 62 [(RG.z 8),C,(tw s)] [kr,kt,kl] [(4,(.p 0 0)),(5,(.s 1 N N)),(7,(.p 2 0)),(8,(.v (.int .i64 q))),(39,(.v (.int .i64 N))),(40,(.v (.int .i64 i)))] c _:=⟨hSr,slc,⟨r4,r5,r7,r8,r39,r40,trivial⟩⟩
     repeat refine wp_seq ?_
     refine M50.u [.x 41 [] (.bool true)] [(4,(.p 0 0)),(5,(.s 1 N N)),(7,(.p 2 0)),(8,(.v (.int .i64 q))),(39,(.v (.int .i64 N))),(40,(.v (.int .i64 i))),(41,(.v (.bool true)))] ⟨RG.cert_bin rfl .lss 3 3 40 39 (.int .i64 i) (.int .i64 N) (.bool true) rfl rfl RG.sx RG.sx (fun w=>by kernel_rfl) (lssn_t hi),trivial⟩ ?_
     intro a51 w51 M51
     repeat refine wp_seq ?_
     refine wp_cond_true M51.ev ?_
     refine wp_skip ?_
     refine wp_seq ?_
     refine wp_block ?_
     repeat refine wp_seq ?_
     refine M51.u [.x 42 [] (.int .i64 i),.x 9 [(42,0)] (.int .i64 i)] [(4,(.p 0 0)),(5,(.s 1 N N)),(7,(.p 2 0)),(8,(.v (.int .i64 q))),(9,(.v (.int .i64 i))),(39,(.v (.int .i64 N))),(40,(.v (.int .i64 i)))] ⟨RG.st,RG.st,trivial⟩ ?_
     intro a52 w52 M52
     repeat refine wp_seq ?_
     refine M52.u [.s 43 [] (.s 1 N N),.x 44 [] (.int .i64 i),.x 45 [] (.int .i64 q),.s 46 [(43,0),(44,1)] (.p 1 (353*i)),.s 47 [(46,3)] (.p 1 ((353*i)+96)),.s 48 [(47,4),(45,2)] (.p 1 (((353*i)+96)+q)),.x 49 [(48,5)] (.int .i8 0),.x 10 [(49,6)] (.int .i8 0)] [(4,(.p 0 0)),(5,(.s 1 N N)),(7,(.p 2 0)),(8,(.v (.int .i64 q))),(10,(.v (.int .i8 0))),(39,(.v (.int .i64 N))),(40,(.v (.int .i64 i)))] ⟨RG.st,RG.st,RG.st,RG.cert_idx rfl 136 43 44 rfl (.s 1 N N) (.int .i64 i) RG.sx RG.sx (fun μ w=>at135 _ _ _ i hi w),RG.st,RG.cert_idx rfl 142 47 45 rfl (.p 1 ((353*i)+96)) (.int .i64 q) RG.sx RG.sx (fun μ w=>at138 _ _ q hq w),RG.cert_load1 rfl 1 (((353*i)+96)+q) _ rfl rfl (by kernel_rfl) 141 48 rfl (.int .i8 0) rfl RG.sx hdig u137,RG.st,trivial⟩ ?_
     intro a53 w53 M53
     repeat refine wp_seq ?_
     refine M53.u [.x 50 [] (.int .i8 0),.x 51 [(50,0)] (.bool false)] [(4,(.p 0 0)),(5,(.s 1 N N)),(7,(.p 2 0)),(8,(.v (.int .i64 q))),(39,(.v (.int .i64 N))),(40,(.v (.int .i64 i))),(51,(.v (.bool false)))] ⟨RG.st,RG.cert_binc rfl .neq 141 141 50 (.int .i8 0) (.int .i8 0) (.bool false) rfl rfl RG.sx (fun w=>by kernel_rfl) (ne8_f),trivial⟩ ?_
     intro a54 w54 M54
     repeat refine wp_seq ?_
     refine wp_cond_false M54.ev ?_
     refine wp_skip ?_
     repeat refine wp_seq ?_
     refine M54.u [.x 59 [] (.int .i64 ((i+1:Nat):Int)),.x 40 [(59,0)] (.int .i64 ((i+1:Nat):Int))] [(4,(.p 0 0)),(5,(.s 1 N N)),(7,(.p 2 0)),(8,(.v (.int .i64 q))),(39,(.v (.int .i64 N))),(40,(.v (.int .i64 ((i+1:Nat):Int))))] ⟨RG.cert_binc rfl .add 3 3 40 (.int .i64 i) (.int .i64 1) (.int .i64 ((i+1:Nat):Int)) rfl rfl RG.sx (fun w=>by kernel_rfl) (addn i 1 (by omega) (by omega)),RG.st,trivial⟩ ?_
     intro a55 w55 M55
     have f4_55:a55.tmps[4]? = some (.pointer (some ⟨kr,0,none⟩)):=M55.at (s:=(.p 0 0))
     have f5_55:a55.tmps[5]? = some (.slice (some ⟨kt,0,none⟩) N N):=M55.at (s:=(.s 1 N N))
     have f7_55:a55.tmps[7]? = some (.pointer (some ⟨kl,0,none⟩)):=M55.at (s:=(.p 2 0))
     have f8_55:a55.tmps[8]? = some (.int .i64 q):=M55.at (s:=(.v (.int .i64 q)))
     have f39_55:a55.tmps[39]? = some (.int .i64 N):=M55.at (s:=(.v (.int .i64 N)))
     have f40_55:a55.tmps[40]? = some (.int .i64 ((i+1:Nat):Int)):=M55.at (s:=(.v (.int .i64 ((i+1:Nat):Int))))
     show ∃ n',_
     exact ⟨m'-1,by omega,i+1,by omega,M55.sl,f4_55,f5_55,f7_55,f8_55,f39_55,f40_55,by rw[hstep];exact M55.st⟩
    ·rw[if_neg hdz] at hstep
     have hodd:d%2=1∧-15≤d∧d≤15:=by
      obtain ⟨_,_,-,hD⟩:=digs_DI (show ns i<2^256 from hns i hi)
      rcases hD.ho q with h|h
      ·exact absurd (hde ▸ h) hdz
      ·exact hde ▸ h
     obtain ⟨s3,hs3e⟩:∃ t,tmJ (xs i) (ys i) d=t:=⟨_,rfl⟩
     obtain ⟨s4,hs4e⟩:∃ t,plJ s s3=t:=⟨_,rfl⟩
     have hs4:Gives 67 #[tv s,tv s3] (tv s4):=hs4e ▸ plJ_c F s s3
     have htm:∀ (k:Nat) (w:World),k<w.heap.size→w.rangeAt k 0 C→Calls Tryz.prog 68 #[.pointer (some ⟨k,353*i,none⟩),.int .i8 d] w (Ret fun r w'=>Below w.heap.size w w'∧r=tv s3):=fun k w hlt hr =>
      hs3e ▸ times_d F k (353*i) (xs i) (ys i) hodd.1 hodd.2 w hlt (fun qq hqq=>RG.range_sub hr (fun j hj=>by rw[Nat.add_zero];exact h2 qq j hqq (by rw[tw_length] at hj;exact hj)))
     rw[hs3e,hs4e] at hstep
     have M50:RG.M w w.heap.size [] 62 [(RG.z 8),C,(tw s)] [kr,kt,kl] [(4,(.p 0 0)),(5,(.s 1 N N)),(7,(.p 2 0)),(8,(.v (.int .i64 q))),(39,(.v (.int .i64 N))),(40,(.v (.int .i64 i)))] c _:=⟨hSr,slc,⟨r4,r5,r7,r8,r39,r40,trivial⟩⟩
     repeat refine wp_seq ?_
     refine M50.u [.x 41 [] (.bool true)] [(4,(.p 0 0)),(5,(.s 1 N N)),(7,(.p 2 0)),(8,(.v (.int .i64 q))),(39,(.v (.int .i64 N))),(40,(.v (.int .i64 i))),(41,(.v (.bool true)))] ⟨RG.cert_bin rfl .lss 3 3 40 39 (.int .i64 i) (.int .i64 N) (.bool true) rfl rfl RG.sx RG.sx (fun w=>by kernel_rfl) (lssn_t hi),trivial⟩ ?_
     intro a51 w51 M51
     repeat refine wp_seq ?_
     refine wp_cond_true M51.ev ?_
     refine wp_skip ?_
     refine wp_seq ?_
     refine wp_block ?_
     repeat refine wp_seq ?_
     refine M51.u [.x 42 [] (.int .i64 i),.x 9 [(42,0)] (.int .i64 i)] [(4,(.p 0 0)),(5,(.s 1 N N)),(7,(.p 2 0)),(8,(.v (.int .i64 q))),(9,(.v (.int .i64 i))),(39,(.v (.int .i64 N))),(40,(.v (.int .i64 i)))] ⟨RG.st,RG.st,trivial⟩ ?_
     intro a52 w52 M52
     repeat refine wp_seq ?_
     refine M52.u [.s 43 [] (.s 1 N N),.x 44 [] (.int .i64 i),.x 45 [] (.int .i64 q),.s 46 [(43,0),(44,1)] (.p 1 (353*i)),.s 47 [(46,3)] (.p 1 ((353*i)+96)),.s 48 [(47,4),(45,2)] (.p 1 (((353*i)+96)+q)),.x 49 [(48,5)] (.int .i8 d),.x 10 [(49,6)] (.int .i8 d)] [(4,(.p 0 0)),(5,(.s 1 N N)),(7,(.p 2 0)),(8,(.v (.int .i64 q))),(9,(.v (.int .i64 i))),(10,(.v (.int .i8 d))),(39,(.v (.int .i64 N))),(40,(.v (.int .i64 i)))] ⟨RG.st,RG.st,RG.st,RG.cert_idx rfl 136 43 44 rfl (.s 1 N N) (.int .i64 i) RG.sx RG.sx (fun μ w=>at135 _ _ _ i hi w),RG.st,RG.cert_idx rfl 142 47 45 rfl (.p 1 ((353*i)+96)) (.int .i64 q) RG.sx RG.sx (fun μ w=>at138 _ _ q hq w),RG.cert_load1 rfl 1 (((353*i)+96)+q) _ rfl rfl (by kernel_rfl) 141 48 rfl (.int .i8 d) rfl RG.sx hdig u137,RG.st,trivial⟩ ?_
     intro a53 w53 M53
     repeat refine wp_seq ?_
     refine M53.u [.x 50 [] (.int .i8 d),.x 51 [(50,0)] (.bool true)] [(4,(.p 0 0)),(5,(.s 1 N N)),(7,(.p 2 0)),(8,(.v (.int .i64 q))),(9,(.v (.int .i64 i))),(10,(.v (.int .i8 d))),(39,(.v (.int .i64 N))),(40,(.v (.int .i64 i))),(51,(.v (.bool true)))] ⟨RG.st,RG.cert_binc rfl .neq 141 141 50 (.int .i8 d) (.int .i8 0) (.bool true) rfl rfl RG.sx (fun w=>by kernel_rfl) (ne8_t hdz),trivial⟩ ?_
     intro a54 w54 M54
     repeat refine wp_seq ?_
     refine wp_cond_true M54.ev ?_
     repeat refine wp_seq ?_
     refine M54.d [.x 52 [] (tv s),.s 53 [] (.s 1 N N),.x 54 [] (.int .i64 i),.s 55 [(53,1),(54,2)] (.p 1 (353*i)),.x 56 [] (.int .i8 d),.c 57 [(55,3),(56,4)] (tv s3),.c 58 [(52,0),(57,5)] (tv s4),.u [(58,6)] 2] [] [(2,7,(tw s4))] [(RG.z 8),C,(tw s4)] [(4,(.p 0 0)),(5,(.s 1 N N)),(7,(.p 2 0)),(8,(.v (.int .i64 q))),(39,(.v (.int .i64 N))),(40,(.v (.int .i64 i)))] ⟨RG.ld u117 i117,RG.st,RG.st,RG.cert_idx rfl 136 53 54 rfl (.s 1 N N) (.int .i64 i) RG.sx RG.sx (fun μ w=>at135 _ _ _ i hi w),RG.st,RG.cert_callM2 rfl 1 _ rfl rfl (by kernel_rfl) hCne 68 55 56 (.p 1 (353*i)) (.int .i8 d) (tv s3) rfl (fun a w=>by kernel_rfl) RG.sx RG.sx (fun μ w hlt hr=>htm (μ 1) w hlt hr),RG.cl (hs4),RG.pt i117,trivial⟩ ?_
     intro a55 w55 M55
     repeat refine wp_seq ?_
     refine M55.u [.x 59 [] (.int .i64 ((i+1:Nat):Int)),.x 40 [(59,0)] (.int .i64 ((i+1:Nat):Int))] [(4,(.p 0 0)),(5,(.s 1 N N)),(7,(.p 2 0)),(8,(.v (.int .i64 q))),(39,(.v (.int .i64 N))),(40,(.v (.int .i64 ((i+1:Nat):Int))))] ⟨RG.cert_binc rfl .add 3 3 40 (.int .i64 i) (.int .i64 1) (.int .i64 ((i+1:Nat):Int)) rfl rfl RG.sx (fun w=>by kernel_rfl) (addn i 1 (by omega) (by omega)),RG.st,trivial⟩ ?_
     intro a56 w56 M56
     have f4_56:a56.tmps[4]? = some (.pointer (some ⟨kr,0,none⟩)):=M56.at (s:=(.p 0 0))
     have f5_56:a56.tmps[5]? = some (.slice (some ⟨kt,0,none⟩) N N):=M56.at (s:=(.s 1 N N))
     have f7_56:a56.tmps[7]? = some (.pointer (some ⟨kl,0,none⟩)):=M56.at (s:=(.p 2 0))
     have f8_56:a56.tmps[8]? = some (.int .i64 q):=M56.at (s:=(.v (.int .i64 q)))
     have f39_56:a56.tmps[39]? = some (.int .i64 N):=M56.at (s:=(.v (.int .i64 N)))
     have f40_56:a56.tmps[40]? = some (.int .i64 ((i+1:Nat):Int)):=M56.at (s:=(.v (.int .i64 ((i+1:Nat):Int))))
     show ∃ n',_
     exact ⟨m'-1,by omega,i+1,by omega,M56.sl,f4_56,f5_56,f7_56,f8_56,f39_56,f40_56,by rw[hstep];exact M56.st⟩
   ·have hiN3:i=N:=by omega
    rw[hiN3] at hse3
    rw[hse3] at hnext
    have M60:RG.M w w.heap.size [] 62 [(RG.z 8),C,(tw s)] [kr,kt,kl] [(4,(.p 0 0)),(5,(.s 1 N N)),(7,(.p 2 0)),(8,(.v (.int .i64 q))),(39,(.v (.int .i64 N))),(40,(.v (.int .i64 i)))] c _:=⟨hSr,slc,⟨r4,r5,r7,r8,r39,r40,trivial⟩⟩
    repeat refine wp_seq ?_
    refine M60.u [.x 41 [] (.bool false)] [(4,(.p 0 0)),(5,(.s 1 N N)),(7,(.p 2 0)),(8,(.v (.int .i64 q))),(41,(.v (.bool false)))] ⟨RG.cert_bin rfl .lss 3 3 40 39 (.int .i64 i) (.int .i64 N) (.bool false) rfl rfl RG.sx RG.sx (fun w=>by kernel_rfl) (lssn_f hi),trivial⟩ ?_
    intro a61 w61 M61
    repeat refine wp_seq ?_
    refine wp_cond_false M61.ev ?_
    refine wp_exit ?_
    dsimp only[Exit.then,Exit.inBlock]
    rw[if_pos rfl]
    repeat refine wp_seq ?_
    refine M61.u [.x 34 [] (.int .i64 q),.x 35 [(34,0)] (.int .i64 ((q:Int)-1)),.x 8 [(35,1)] (.int .i64 ((q:Int)-1))] [(4,(.p 0 0)),(5,(.s 1 N N)),(7,(.p 2 0)),(8,(.v (.int .i64 ((q:Int)-1))))] ⟨RG.st,RG.cert_binc rfl .sub 3 3 34 (.int .i64 q) (.int .i64 1) (.int .i64 ((q:Int)-1)) rfl rfl RG.sx (fun w=>by kernel_rfl) (sub1' q (by omega)),RG.st,trivial⟩ ?_
    intro a62 w62 M62
    have f4_62:a62.tmps[4]? = some (.pointer (some ⟨kr,0,none⟩)):=M62.at (s:=(.p 0 0))
    have f5_62:a62.tmps[5]? = some (.slice (some ⟨kt,0,none⟩) N N):=M62.at (s:=(.s 1 N N))
    have f7_62:a62.tmps[7]? = some (.pointer (some ⟨kl,0,none⟩)):=M62.at (s:=(.p 2 0))
    have f8_62:a62.tmps[8]? = some (.int .i64 ((q:Int)-1)):=M62.at (s:=(.v (.int .i64 ((q:Int)-1))))
    show ∃ n',_
    exact ⟨q,Nat.lt_succ_self q,by omega,M62.sl,f4_62,f5_62,f7_62,f8_62,by rw[hnext];exact M62.st⟩
def rt (m:Fin P):Option (Fin P):=if m.val^(P/4+1)%P*(m.val^(P/4+1)%P)%P=m.val then some (Fin.ofNat P (even P (m.val^(P/4+1)%P))) else none
omit [NeZero P] in
theorem even_lt {r:Nat} (hP:0<P) (h:r<P):even P r<P:=by unfold even;split<;>omega
theorem rt_four {m y:Fin P} {v:Value} (h:rt m=some y) (hF:Four v (even P (m.val^(P/4+1)%P))):v=fv y:=by
 unfold rt at h
 split at h
 ·obtain rfl:=Option.some.inj h
  have:(Fin.ofNat P (even P (m.val^(P/4+1)%P))).val=even P (m.val^(P/4+1)%P):=Nat.mod_eq_of_lt (even_lt (Nat.pos_of_neZero P) (Nat.mod_lt _ (Nat.pos_of_neZero P)))
  show v=nv _
  rw[this]
  exact hF.nv
 ·cases h
theorem rt_yes {m y:Fin P} (h:rt m=some y):m.val^(P/4+1)%P*(m.val^(P/4+1)%P)%P=m.val:=by
 unfold rt at h
 split at h
 ·assumption
 ·cases h
theorem rt_no {m:Fin P} (h:rt m=none):¬ m.val^(P/4+1)%P*(m.val^(P/4+1)%P)%P=m.val:=by
 unfold rt at h
 split at h
 ·cases h
 ·assumption
theorem RootR.val {m:Fin P} {e:Value} (h:RootR P m.val (m.val^(P/4+1)%P) e):(∀ y,rt m=some y→e=.tuple #[fv y,.bool true])∧(rt m=none→e=.tuple #[fv (0:Fin P),.bool false]):=by
 obtain ⟨ya,yb,yc,yd,ok,rfl,h1,h2,h3⟩:=h
 refine ⟨fun y hy=>?_,fun hn=>?_⟩
 ·cases ok with
  | true=>rw[rt_four hy (h1 rfl).2]
  | false=>exact absurd (rt_yes hy) (h2 rfl)
 ·cases ok with
  | true=>exact absurd (h1 rfl).1 (rt_no hn)
  | false =>
   obtain ⟨rfl,rfl,rfl,rfl⟩:=h3 rfl
   rw[← zero_fv]
   rfl
theorem Root_y (h:Fld P) {m y:Fin P} (e:rt m=some y):Gives 129 #[gv0,fv m] (.tuple #[fv y,.bool true]):=fun w =>
 (Root_any 4294968273 0 0 P _ m.val h.gap h.p4 (h.four m) w).mono (by rintro e' w' ⟨v,rfl,hb,hF⟩;exact ⟨_,rfl,hb,hF.val.1 y e⟩)
theorem Root_n (h:Fld P) {m:Fin P} (e:rt m=none):Gives 129 #[gv0,fv m] (.tuple #[fv (0:Fin P),.bool false]):=fun w =>
 (Root_any 4294968273 0 0 P _ m.val h.gap h.p4 (h.four m) w).mono (by rintro e' w' ⟨v,rfl,hb,hF⟩;exact ⟨_,rfl,hb,hF.val.2 e⟩)
def gl0:List Value:=[.int .u64 4294968273,.int .u64 0,.int .u64 0,.int .u64 0]
theorem above_y_c (C:Fld P) (x y:Fin P)(hr:rt (x*x*x+7)=some y) :Gives 73 #[(fv x)] (.tuple #[pv x y,.bool true]):=by
 intro w
 obtain ⟨c1,hc1⟩:∃ c,c=x*x:=⟨_,rfl⟩
 obtain ⟨c2,hc2⟩:∃ c,c=c1*x:=⟨_,rfl⟩
 obtain ⟨c3,hc3⟩:∃ c,c=c2+(7:Fin P):=⟨_,rfl⟩
 have hfin:((.tuple #[(pv x y),(.bool true)]):Value)=(.tuple #[pv x y,.bool true]):=by
  subst_vars;rfl
 rw[← hfin]
 go_enter Tryz.func73,Tryz.ntmps73
 refine RG.M.enter [(0,(.v (fv x)))] 31 (by kernel_rfl) ?_
 intro a0 M0
 repeat refine wp_seq ?_
 refine M0.t [.m 1 [] 0,.m 2 [] 1,.x 3 [] (.bool false)] [(0,(ws x)),(1,(RG.z 8))] [] [(ws x),(RG.z 8)] [(1,(.p 0 0)),(2,(.p 1 0)),(3,(.v (.bool false)))] ⟨RG.mk 0 50,RG.mk 1 85,RG.st,trivial⟩ ?_
 intro j1 i1 a1 w1 M1
 repeat refine wp_seq ?_
 refine M1.t [.c 8 [] gv0,.m 4 [] 2,.u [(4,1),(8,0)] 2] [(1,(RG.z 4))] [(2,2,gl0)] [(ws x),(RG.z 8),gl0] [(1,(.p 0 0)),(2,(.p 1 0)),(3,(.v (.bool false))),(4,(.p 2 0))] ⟨RG.cl (Coordinates_c),RG.mk 2 111,RG.pt i79,trivial⟩ ?_
 intro j2 a2 w2 M2
 repeat refine wp_seq ?_
 refine M2.d [.x 9 [] gv0,.x 10 [] gv0,.x 11 [] gv0,.x 12 [] (fv x),.x 13 [] (fv x),.c 14 [(11,2),(12,3),(13,4)] (fv c1),.x 15 [] (fv x),.c 16 [(10,1),(14,5),(15,6)] (fv c2),.x 17 [] (fv (7:Fin P)),.c 18 [(9,0),(16,7),(17,8)] (fv c3),.m 5 [] 3,.u [(5,10),(18,9)] 3] [(10,(RG.z 4))] [(3,11,(ws c3))] [(ws x),(RG.z 8),gl0,(ws c3)] [(1,(.p 0 0)),(2,(.p 1 0)),(3,(.v (.bool false))),(4,(.p 2 0)),(5,(.p 3 0))] ⟨RG.ld u79 i79,RG.ld u79 i79,RG.ld u79 i79,RG.ld u85 i85,RG.ld u85 i85,RG.cl ((PTimes_c C x x).e hc1),RG.ld u85 i85,RG.cl ((PTimes_c C c1 x).e hc2),RG.se (seven_fv C),RG.cl ((PPlus_c C c2 (7:Fin P)).e hc3),RG.mk 3 50,RG.pt i85,trivial⟩ ?_
 intro j3 a3 w3 M3
 repeat refine wp_seq ?_
 refine M3.t [.x 20 [] gv0,.x 21 [] (fv c3),.c 22 [(20,0),(21,1)] (.tuple #[(fv y),(.bool true)]),.x 19 [(22,2)] (.tuple #[(fv y),(.bool true)]),.x 23 [(19,3)] (fv y),.x 24 [(19,3)] (.bool true),.m 6 [] 4,.u [(6,6),(23,4)] 4,.x 7 [(24,5)] (.bool true)] [(6,(RG.z 4))] [(4,7,(ws y))] [(ws x),(RG.z 8),gl0,(ws c3),(ws y)] [(1,(.p 0 0)),(2,(.p 1 0)),(3,(.v (.bool false))),(6,(.p 4 0)),(7,(.v (.bool true)))] ⟨RG.ld u79 i79,RG.ld u85 i85,RG.cl (f:=129) (args:=#[gv0,(fv c3)]) (v:=(.tuple #[(fv y),(.bool true)])) (Root_y C (by subst_vars;exact hr)),RG.st,RG.st,RG.st,RG.mk 4 50,RG.pt i85,RG.st,trivial⟩ ?_
 intro j4 a4 w4 M4
 repeat refine wp_seq ?_
 refine M4.u [.x 25 [] (.bool true),.x 26 [(25,0)] (.bool false)] [(1,(.p 0 0)),(2,(.p 1 0)),(3,(.v (.bool false))),(6,(.p 4 0)),(26,(.v (.bool false)))] ⟨RG.st,RG.st,trivial⟩ ?_
 intro a5 w5 M5
 repeat refine wp_seq ?_
 refine wp_cond_false M5.ev ?_
 refine wp_skip ?_
 repeat refine wp_seq ?_
 refine M5.t [.x 28 [] (fv x),.x 29 [] (fv y),.x 30 [(28,0),(29,1)] (pv x y),.u [(30,2)] 1,.x 3 [] (.bool true)] [] [(1,3,(ws x++(ws y)))] [(ws x),(ws x++(ws y)),gl0,(ws c3),(ws y)] [(2,(.p 1 0)),(3,(.v (.bool true)))] ⟨RG.ld u85 i85,RG.ld u85 i85,RG.st,RG.pt i109,RG.st,trivial⟩ ?_
 intro a6 w6 M6
 refine wp_ret ?_
 refine bodyPost_ret (v:=(.tuple #[(pv x y),(.bool true)])) (RG.results_rt M6.st 2 3 85 rfl 1 _ rfl (M6.at (s:=(.p 1 0))) _ (M6.at (s:=(.v (.bool true)))) u109 i109) M6.sl.defers ?_
 exact ⟨_,rfl,M6.st.bel.below,rfl⟩
theorem above_n_c (C:Fld P) (x:Fin P)(hr:rt (x*x*x+7)=none) :Gives 73 #[(fv x)] (.tuple #[pv (0:Fin P) 0,.bool false]):=by
 intro w
 obtain ⟨c1,hc1⟩:∃ c,c=x*x:=⟨_,rfl⟩
 obtain ⟨c2,hc2⟩:∃ c,c=c1*x:=⟨_,rfl⟩
 obtain ⟨c3,hc3⟩:∃ c,c=c2+(7:Fin P):=⟨_,rfl⟩
 have hfin:((.tuple #[(pv (0:Fin P) (0:Fin P)),(.bool false)]):Value)=(.tuple #[pv (0:Fin P) 0,.bool false]):=by
  subst_vars;rfl
 rw[← hfin]
 go_enter Tryz.func73,Tryz.ntmps73
 refine RG.M.enter [(0,(.v (fv x)))] 31 (by kernel_rfl) ?_
 intro a0 M0
 repeat refine wp_seq ?_
 refine M0.t [.m 1 [] 0,.m 2 [] 1,.x 3 [] (.bool false)] [(0,(ws x)),(1,(RG.z 8))] [] [(ws x),(RG.z 8)] [(1,(.p 0 0)),(2,(.p 1 0)),(3,(.v (.bool false)))] ⟨RG.mk 0 50,RG.mk 1 85,RG.st,trivial⟩ ?_
 intro j1 i1 a1 w1 M1
 repeat refine wp_seq ?_
 refine M1.t [.c 8 [] gv0,.m 4 [] 2,.u [(4,1),(8,0)] 2] [(1,(RG.z 4))] [(2,2,gl0)] [(ws x),(RG.z 8),gl0] [(1,(.p 0 0)),(2,(.p 1 0)),(3,(.v (.bool false))),(4,(.p 2 0))] ⟨RG.cl (Coordinates_c),RG.mk 2 111,RG.pt i79,trivial⟩ ?_
 intro j2 a2 w2 M2
 repeat refine wp_seq ?_
 refine M2.d [.x 9 [] gv0,.x 10 [] gv0,.x 11 [] gv0,.x 12 [] (fv x),.x 13 [] (fv x),.c 14 [(11,2),(12,3),(13,4)] (fv c1),.x 15 [] (fv x),.c 16 [(10,1),(14,5),(15,6)] (fv c2),.x 17 [] (fv (7:Fin P)),.c 18 [(9,0),(16,7),(17,8)] (fv c3),.m 5 [] 3,.u [(5,10),(18,9)] 3] [(10,(RG.z 4))] [(3,11,(ws c3))] [(ws x),(RG.z 8),gl0,(ws c3)] [(2,(.p 1 0)),(3,(.v (.bool false))),(4,(.p 2 0)),(5,(.p 3 0))] ⟨RG.ld u79 i79,RG.ld u79 i79,RG.ld u79 i79,RG.ld u85 i85,RG.ld u85 i85,RG.cl ((PTimes_c C x x).e hc1),RG.ld u85 i85,RG.cl ((PTimes_c C c1 x).e hc2),RG.se (seven_fv C),RG.cl ((PPlus_c C c2 (7:Fin P)).e hc3),RG.mk 3 50,RG.pt i85,trivial⟩ ?_
 intro j3 a3 w3 M3
 repeat refine wp_seq ?_
 refine M3.t [.x 20 [] gv0,.x 21 [] (fv c3),.c 22 [(20,0),(21,1)] (.tuple #[(fv (0:Fin P)),(.bool false)]),.x 19 [(22,2)] (.tuple #[(fv (0:Fin P)),(.bool false)]),.x 23 [(19,3)] (fv (0:Fin P)),.x 24 [(19,3)] (.bool false),.m 6 [] 4,.u [(6,6),(23,4)] 4,.x 7 [(24,5)] (.bool false)] [(6,(RG.z 4))] [(4,7,(ws (0:Fin P)))] [(ws x),(RG.z 8),gl0,(ws c3),(ws (0:Fin P))] [(2,(.p 1 0)),(3,(.v (.bool false))),(7,(.v (.bool false)))] ⟨RG.ld u79 i79,RG.ld u85 i85,RG.cl (f:=129) (args:=#[gv0,(fv c3)]) (v:=(.tuple #[(fv (0:Fin P)),(.bool false)])) (Root_n C (by subst_vars;exact hr)),RG.st,RG.st,RG.st,RG.mk 4 50,RG.pt i85,RG.st,trivial⟩ ?_
 intro j4 a4 w4 M4
 repeat refine wp_seq ?_
 refine M4.u [.x 25 [] (.bool false),.x 26 [(25,0)] (.bool true)] [(2,(.p 1 0)),(3,(.v (.bool false))),(26,(.v (.bool true)))] ⟨RG.st,RG.st,trivial⟩ ?_
 intro a5 w5 M5
 repeat refine wp_seq ?_
 refine wp_cond_true M5.ev ?_
 repeat refine wp_seq ?_
 refine M5.t [.x 27 [] (pv (0:Fin P) (0:Fin P)),.u [(27,0)] 1,.x 3 [] (.bool false)] [] [(1,1,(ws (0:Fin P)++(ws (0:Fin P))))] [(ws x),(ws (0:Fin P)++(ws (0:Fin P))),gl0,(ws c3),(ws (0:Fin P))] [(2,(.p 1 0)),(3,(.v (.bool false)))] ⟨RG.se (zero_pv (P:=P)),RG.pt i109,RG.st,trivial⟩ ?_
 intro a6 w6 M6
 refine wp_ret ?_
 refine bodyPost_ret (v:=(.tuple #[(pv (0:Fin P) (0:Fin P)),(.bool false)])) (RG.results_rt M6.st 2 3 85 rfl 1 _ rfl (M6.at (s:=(.p 1 0))) _ (M6.at (s:=(.v (.bool false)))) u109 i109) M6.sl.defers ?_
 exact ⟨_,rfl,M6.st.bel.below,rfl⟩
theorem popp_c (C:Fld P) (x y:Fin P):Gives 154 #[(pv x y)] (pv x (0-y)):=by
 intro w
 obtain ⟨c1,hc1⟩:∃ c,c=(0:Fin P)-y:=⟨_,rfl⟩
 have hfin:((pv x c1):Value)=(pv x (0-y)):=by
  subst_vars;rfl
 rw[← hfin]
 go_enter Tryz.func154,Tryz.ntmps154
 refine RG.M.enter [(0,(.v (pv x y)))] 11 (by kernel_rfl) ?_
 intro a0 M0
 repeat refine wp_seq ?_
 refine M0.t [.m 1 [] 0,.m 2 [] 1] [(0,(ws x++(ws y))),(1,(RG.z 8))] [] [(ws x++(ws y)),(RG.z 8)] [(1,(.p 0 0)),(2,(.p 1 0))] ⟨RG.mk 0 85,RG.mk 1 85,trivial⟩ ?_
 intro j1 i1 a1 w1 M1
 repeat refine wp_seq ?_
 refine M1.d [.s 3 [] (.p 0 0),.x 4 [(3,0)] (fv x),.c 5 [] gv0,.x 6 [] (fv (0:Fin P)),.s 7 [] (.p 0 4),.x 8 [(7,4)] (fv y),.c 9 [(5,2),(6,3),(8,5)] (fv c1),.x 10 [(4,1),(9,6)] (pv x c1),.u [(10,7)] 1] [] [(1,8,(ws x++(ws c1)))] [(ws x++(ws y)),(ws x++(ws c1))] [(2,(.p 1 0))] ⟨RG.st,RG.ld u85 i85,RG.cl (Coordinates_c),RG.se (zero_fv (P:=P)),RG.st,RG.ld u85 i85,RG.cl ((PMinus_c C (0:Fin P) y).e hc1),RG.st,RG.pt i109,trivial⟩ ?_
 intro a2 w2 M2
 refine wp_ret ?_
 refine bodyPost_ret (v:=(pv x c1)) (RG.results_row M2.st 2 85 rfl 1 _ rfl (M2.at (s:=(.p 1 0))) u109 i109) M2.sl.defers ?_
 exact ⟨_,rfl,M2.st.bel.below,rfl⟩
end
section
open Go.RowKit Go.Sort Go.Deep
variable {P:Nat} [NeZero P] {N:Nat}
theorem readS_of {w W:World} {k0 k1 k6 a b c d g0 g1 g2:Nat} (h:Kept w k0 [⟨k6,0,a,b,c,d⟩,⟨k0,0,g0,g1,g2,0⟩,⟨k1,0,0,0,0,0⟩] W):W.cell? ⟨k6,0,none⟩=some (.int .u64 a)∧W.cell? ⟨k6,1,none⟩=some (.int .u64 b)∧W.cell? ⟨k6,2,none⟩=some (.int .u64 c)∧W.cell? ⟨k6,3,none⟩=some (.int .u64 d)∧W.cell? ⟨k0,0,none⟩=some (.int .u64 g0)∧W.cell? ⟨k0,1,none⟩=some (.int .u64 g1)∧W.cell? ⟨k0,2,none⟩=some (.int .u64 g2)∧W.cell? ⟨k0,3,none⟩=some (.int .u64 0)∧Kept w k0 [⟨k6,0,a,b,c,d⟩,⟨k0,0,g0,g1,g2,0⟩,⟨k1,0,0,0,0,0⟩] W:=⟨h.head.c0,h.head.c1,h.head.c2,h.head.c3,h.tail.head.c0,h.tail.head.c1,h.tail.head.c2,h.tail.head.c3,h⟩
theorem readS_get {w W:World} {k0 k1 k6 a b c d g0 g1 g2:Nat} (h:W.cell? ⟨k6,0,none⟩=some (.int .u64 a)∧W.cell? ⟨k6,1,none⟩=some (.int .u64 b)∧W.cell? ⟨k6,2,none⟩=some (.int .u64 c)∧W.cell? ⟨k6,3,none⟩=some (.int .u64 d)∧W.cell? ⟨k0,0,none⟩=some (.int .u64 g0)∧W.cell? ⟨k0,1,none⟩=some (.int .u64 g1)∧W.cell? ⟨k0,2,none⟩=some (.int .u64 g2)∧W.cell? ⟨k0,3,none⟩=some (.int .u64 0)∧Kept w k0 [⟨k6,0,a,b,c,d⟩,⟨k0,0,g0,g1,g2,0⟩,⟨k1,0,0,0,0,0⟩] W):Kept w k0 [⟨k6,0,a,b,c,d⟩,⟨k0,0,g0,g1,g2,0⟩,⟨k1,0,0,0,0,0⟩] W:=h.2.2.2.2.2.2.2.2
theorem readS_alloc {w W:World} {k0 k1 k6 a b c d g0 g1 g2:Nat} {o:Obj} (h:W.cell? ⟨k6,0,none⟩=some (.int .u64 a)∧W.cell? ⟨k6,1,none⟩=some (.int .u64 b)∧W.cell? ⟨k6,2,none⟩=some (.int .u64 c)∧W.cell? ⟨k6,3,none⟩=some (.int .u64 d)∧W.cell? ⟨k0,0,none⟩=some (.int .u64 g0)∧W.cell? ⟨k0,1,none⟩=some (.int .u64 g1)∧W.cell? ⟨k0,2,none⟩=some (.int .u64 g2)∧W.cell? ⟨k0,3,none⟩=some (.int .u64 0)∧Kept w k0 [⟨k6,0,a,b,c,d⟩,⟨k0,0,g0,g1,g2,0⟩,⟨k1,0,0,0,0,0⟩] W):(W.alloc o).cell? ⟨k6,0,none⟩=some (.int .u64 a)∧(W.alloc o).cell? ⟨k6,1,none⟩=some (.int .u64 b)∧(W.alloc o).cell? ⟨k6,2,none⟩=some (.int .u64 c)∧(W.alloc o).cell? ⟨k6,3,none⟩=some (.int .u64 d)∧(W.alloc o).cell? ⟨k0,0,none⟩=some (.int .u64 g0)∧(W.alloc o).cell? ⟨k0,1,none⟩=some (.int .u64 g1)∧(W.alloc o).cell? ⟨k0,2,none⟩=some (.int .u64 g2)∧(W.alloc o).cell? ⟨k0,3,none⟩=some (.int .u64 0)∧Kept w k0 [⟨k6,0,a,b,c,d⟩,⟨k0,0,g0,g1,g2,0⟩,⟨k1,0,0,0,0,0⟩] (W.alloc o):=readS_of ((readS_get h).alloc o)
theorem readS_allocd {w W:World} {k0 k1 k6 a b c d g0 g1 g2:Nat} {o:Obj} (h:W.drew.cell? ⟨k6,0,none⟩=some (.int .u64 a)∧W.drew.cell? ⟨k6,1,none⟩=some (.int .u64 b)∧W.drew.cell? ⟨k6,2,none⟩=some (.int .u64 c)∧W.drew.cell? ⟨k6,3,none⟩=some (.int .u64 d)∧W.drew.cell? ⟨k0,0,none⟩=some (.int .u64 g0)∧W.drew.cell? ⟨k0,1,none⟩=some (.int .u64 g1)∧W.drew.cell? ⟨k0,2,none⟩=some (.int .u64 g2)∧W.drew.cell? ⟨k0,3,none⟩=some (.int .u64 0)∧Kept w k0 [⟨k6,0,a,b,c,d⟩,⟨k0,0,g0,g1,g2,0⟩,⟨k1,0,0,0,0,0⟩] W.drew):(W.alloc o).drew.cell? ⟨k6,0,none⟩=some (.int .u64 a)∧(W.alloc o).drew.cell? ⟨k6,1,none⟩=some (.int .u64 b)∧(W.alloc o).drew.cell? ⟨k6,2,none⟩=some (.int .u64 c)∧(W.alloc o).drew.cell? ⟨k6,3,none⟩=some (.int .u64 d)∧(W.alloc o).drew.cell? ⟨k0,0,none⟩=some (.int .u64 g0)∧(W.alloc o).drew.cell? ⟨k0,1,none⟩=some (.int .u64 g1)∧(W.alloc o).drew.cell? ⟨k0,2,none⟩=some (.int .u64 g2)∧(W.alloc o).drew.cell? ⟨k0,3,none⟩=some (.int .u64 0)∧Kept w k0 [⟨k6,0,a,b,c,d⟩,⟨k0,0,g0,g1,g2,0⟩,⟨k1,0,0,0,0,0⟩] (W.alloc o).drew:=readS_of (((readS_get h).undrew).alloc o).drew
theorem Read_len (pv:Value) (p:Option Addr) (n cap:Nat) (w:World) (g0 g1 g2:Nat) (hp:pv=.agg #[.int .u64 g0,.int .u64 g1,.int .u64 g2,.int .u64 0]) (hn:n≠32) :
 Calls Tryz.prog 42 #[pv,.slice p n cap] w (Ret fun e w'=>Below w.heap.size w w'∧e=.tuple #[.agg #[.int .u64 0,.int .u64 0,.int .u64 0,.int .u64 0],.bool false]):=by
 subst hp
 have h1:¬ (n:Int)=32:=by omega
 go_enter Tryz.func42,Tryz.ntmps42
 go_wp2
 refine bodyPost_ret (v:=?v) ?hr rfl ?hR
 case hr=>simp[results,Tryz.results42,go_sem];rfl
 exact ⟨_,rfl,below2 _ _ _,rfl⟩
theorem Read_any (g0 g1 g2 P g o cap:Nat) (bs:Bs) (hG:Gap g0 g1 g2 P) (w:World) (hs:bs.size=32) (hc:32≤cap) (hg:g<w.heap.size) (hB:Holds encB w g o bs) :
 Calls Tryz.prog 42 #[.agg #[.int .u64 g0,.int .u64 g1,.int .u64 g2,.int .u64 0],.slice (some ⟨g,o,none⟩) 32 cap] w
  (Ret fun e w'=>Below w.heap.size w w'∧((beV bs.toList<P∧∃ v,e=.tuple #[v,.bool true]∧Four v (beV bs.toList))∨(P≤beV bs.toList∧e=.tuple #[.agg #[.int .u64 0,.int .u64 0,.int .u64 0,.int .u64 0],.bool false]))):=by
 have HG:Hid (Gap g0 g1 g2 P):=hG
 have HBS:Hid (Holds encB w g o bs):=hB
 have HS:Hid (bs.size=32):=hs
 clear hG hB hs
 go_enter Tryz.func42,Tryz.ntmps42
 go_wp2_with fail
 have PR:=(At4.made w 111 g0 g1 g2 0 rfl).alloc (.cells #[.int .u64 0,.int .u64 0,.int .u64 0,.int .u64 0] 50)
 have RE:=At4.made (w.alloc (.cells #[.int .u64 g0,.int .u64 g1,.int .u64 g2,.int .u64 0] 111)) 50 0 0 0 0 (World.size_alloc _ _)
 have KP0:=((Kept.mk1 (below2 w (.cells #[.int .u64 g0,.int .u64 g1,.int .u64 g2,.int .u64 0] 111) (.cells #[.int .u64 0,.int .u64 0,.int .u64 0,.int .u64 0] 50)) (below2 w (.cells #[.int .u64 g0,.int .u64 g1,.int .u64 g2,.int .u64 0] 111) (.cells #[.int .u64 0,.int .u64 0,.int .u64 0,.int .u64 0] 50)).size).cons RE.blk).cons PR.blk
 have HB0:=Holds.below HBS.out (below2 w (.cells #[.int .u64 g0,.int .u64 g1,.int .u64 g2,.int .u64 0] 111) (.cells #[.int .u64 0,.int .u64 0,.int .u64 0,.int .u64 0] 50)) hg
 clear PR RE
 generalize World.alloc _ _=W0 at KP0 HB0 ⊢
 refine (fromBytes_any (some ⟨g,o,none⟩) g o 32 cap bs _ (Nat.le_refl 32) hc HS.out (Or.inr ⟨rfl,HB0⟩)).mono ?_
 rintro e w1 ⟨v,rfl,hb1,hF⟩
 obtain ⟨a,b,c,d,rfl,ha,hb,hc',hd,es⟩:=id hF
 have HF:Hid (Four _ _):=hF
 have K1:=KP0.call hb1
 clear es hF hb1 KP0 HB0
 go_wp2_with fail
 have KP:=(K1.alloc (.cells #[.int .u64 a,.int .u64 b,.int .u64 c,.int .u64 d] 50)).cons (At4.made w1 50 a b c d rfl).blk
 have q60:w1.heap.size≠w.heap.size:=Nat.ne_of_gt K1.head.lt
 clear K1
 generalize World.alloc _ _=W1 at KP ⊢
 generalize w1.heap.size=k6 at KP q60 ⊢
 generalize h1:w.heap.size+1=k1 at KP ⊢
 have Q1:Hid (w.heap.size≤k1):=by unfold Hid;omega
 generalize h0:w.heap.size=k0 at KP Q1 hg q60 ⊢
 have H0:Hid (w.heap.size=k0):=h0
 clear h0 h1
 go_cut [8] (fun s8 wx=>∃ k:Nat,s8=.int .u64 k∧k≤1∧Hid (∃ t,t<top∧t+top*k=beV bs.toList+val g0 g1 g2 0)∧Kept w k0 [⟨k6,0,a,b,c,d⟩,⟨k0,0,g0,g1,g2,0⟩,⟨k1,0,0,0,0,0⟩] wx)
 case first =>
  go_region_held3 (fun w'=>w'.cell? ⟨k6,0,none⟩=some (.int .u64 a)∧w'.cell? ⟨k6,1,none⟩=some (.int .u64 b)∧w'.cell? ⟨k6,2,none⟩=some (.int .u64 c)∧w'.cell? ⟨k6,3,none⟩=some (.int .u64 d)∧w'.cell? ⟨k0,0,none⟩=some (.int .u64 g0)∧w'.cell? ⟨k0,1,none⟩=some (.int .u64 g1)∧w'.cell? ⟨k0,2,none⟩=some (.int .u64 g2)∧w'.cell? ⟨k0,3,none⟩=some (.int .u64 0)∧Kept w k0 [⟨k6,0,a,b,c,d⟩,⟨k0,0,g0,g1,g2,0⟩,⟨k1,0,0,0,0,0⟩] w') (first|(with_reducible exact readS_of KP)|(with_reducible exact readS_of KP.drew)|(with_reducible exact readS_allocd (by assumption))|(with_reducible exact readS_alloc (by assumption))|(with_reducible exact readS_of (KP.alloc _))|(with_reducible exact readS_of (KP.set4' M7 (fun x hx=>Nat.ne_of_gt (N7 x hx)) _ _ _ _))|(with_reducible exact readS_of (KP.alloc _).drew)|(with_reducible exact readS_of (KP.set4' M7 (fun x hx=>Nat.ne_of_gt (N7 x hx)) _ _ _ _).drew)|fail) (first|(go_at_call 97;refine (four_any _ _ HF.out _).mono ?_;rintro e w2 ⟨v,rfl,hb1,rfl⟩;(try (with_reducible have T1:=T.call hb1;clear T;have T:=T1;clear T1));(try (first|(with_reducible have T:=(At4.made _ 109 0 0 0 0 rfl).call hb1)|(with_reducible have T:=(At4.made _ 109 0 0 0 0 rfl).drew.call hb1));have N7:=KP.lts;have M7:=KP.le);have KP1:=Kept.call (readS_get (by assumption)) hb1;clear KP;have KP:=KP1;clear KP1 hb1)|(go_at_call 96;refine (plus_any _ _ _ _ HF.out (Four.mk HG.out.h0 HG.out.h1 HG.out.h2 (by decide) rfl) _).mono ?_;rintro e w2 ⟨v,rfl,hb1,v2,t,k,rfl,hF2,hk,he⟩;obtain ⟨a',b',c',d',rfl,ha',hb',hc',hd',es⟩:=id hF2;have HT:Hid (t<top∧t+top*k=beV bs.toList+val g0 g1 g2 0):=⟨hF2.lt,he⟩;clear es he hF2;(try (with_reducible have T1:=T.call hb1;clear T;have T:=T1;clear T1));(try (first|(with_reducible have T:=(At4.made _ 109 0 0 0 0 rfl).call hb1)|(with_reducible have T:=(At4.made _ 109 0 0 0 0 rfl).drew.call hb1));have N7:=KP.lts;have M7:=KP.le);have KP1:=Kept.call (readS_get (by assumption)) hb1;clear KP;have KP:=KP1;clear KP1 hb1;(try (obtain ⟨tc0,tc1,tc2,tc3,tf⟩:=id T;have zt:=T.lt))))
  all_goals (try go_wp2)
  all_goals (have HX:Hid (∃ t,t<top∧t+top*k=beV bs.toList+val g0 g1 g2 0):=⟨t,HT.out⟩)
  all_goals (go_meet;first|(with_reducible exact ⟨k,rfl,hk,HX,KP.alloc _⟩)|(with_reducible exact ⟨k,rfl,hk,HX,(KP.alloc _).drew⟩)|(with_reducible exact ⟨k,rfl,hk,HX,KP.set4' M7 (fun x hx=>Nat.ne_of_gt (N7 x hx)) _ _ _ _⟩)|(with_reducible exact ⟨k,rfl,hk,HX,(KP.set4' M7 (fun x hx=>Nat.ne_of_gt (N7 x hx)) _ _ _ _).drew⟩)|fail)
 case rest =>
  clear KP
  obtain ⟨k,rfl,hk,HE,KP⟩:=hcut
  have hk':k=0∨k=1:=by omega
  rcases hk' with rfl|rfl
  ·obtain ⟨xc0,xc1,xc2,xc3,xf⟩:=KP.head.at4
   obtain ⟨rc0,rc1,rc2,rc3,rf⟩:=KP.tail.tail.head.at4
   have z1:=KP.tail.tail.head.lt
   go_wp2
   have RF:=KP.tail.tail.head.at4.self4 a b c d
   unfold set4 at RF
   refine bodyPost_ret (v:=?v0) ?hr0 rfl ?hR0
   case hr0=>simp[results,Tryz.results42,go_sem,RF.c0,RF.c1,RF.c2,RF.c3];rfl
   refine ⟨_,rfl,?_,Or.inl ⟨?_,_,rfl,HF.out⟩⟩
   ·rw[H0.out];exact below_set4 KP.bl Q1.out _ _ _ _
   ·obtain ⟨t,h1,h2⟩:=HE.out
    have:=HG.out.hP
    omega
  ·obtain ⟨rc0,rc1,rc2,rc3,rf⟩:=KP.tail.tail.head.at4
   have z1:=KP.tail.tail.head.lt
   go_wp2
   have RF:At4 (set4 wc k1 (.int .u64 0) (.int .u64 0) (.int .u64 0) (.int .u64 0)) k1 0 0 0 0:=KP.tail.tail.head.at4.self4 0 0 0 0
   unfold set4 at RF
   refine bodyPost_ret (v:=?v1) ?hr1 rfl ?hR1
   case hr1=>simp[results,Tryz.results42,go_sem,RF.c0,RF.c1,RF.c2,RF.c3];rfl
   refine ⟨_,rfl,?_,Or.inr ⟨?_,rfl⟩⟩
   ·rw[H0.out];exact below_set4 KP.bl Q1.out _ _ _ _
   ·obtain ⟨t,h1,h2⟩:=HE.out
    have:=HG.out.hP
    omega
def Arg (w:World) (v:Value) (bs:Bs):Prop:=∃ (p:Option Addr) (n cap:Nat),v=.slice p n cap∧bs.size=n∧(n=32→∃ g o,p=some ⟨g,o,none⟩∧32≤cap∧g<w.heap.size∧Holds encB w g o bs)
theorem Arg.below {w w1:World} {v:Value} {bs:Bs} (h:Arg w v bs) (hb:Below w.heap.size w w1):Arg w1 v bs:=by
 obtain ⟨p,n,cap,rfl,hs,h1⟩:=h
 refine ⟨p,n,cap,rfl,hs,fun h2=>?_⟩
 obtain ⟨g,o,h3,h4,h6,h7⟩:=h1 h2
 exact ⟨g,o,h3,h4,Nat.lt_of_lt_of_le h6 hb.size,Holds.below h7 hb h6⟩
def Args (w:World) (q:Option Addr) (n:Nat) (L:Nat→Bs):Prop:=0<n→∃ gg,q=some ⟨gg,0,none⟩∧gg<w.heap.size∧∀ j,j<n→∃ v,w.cell? ⟨gg,j,none⟩=some v∧Arg w v (L j)
end
section
open Go.RowKit Go.Sort
theorem u131:(Tryz.prog.underlying 60).map (·.isRow)=some true:=by kernel_rfl
theorem i131:(Tryz.prog.info? 60).map (·.size)=some 33:=by kernel_rfl
theorem u5:(Tryz.prog.underlying 5).map (·.isRow)=some false:=by kernel_rfl
theorem und131:Tryz.prog.underlying 60=some (.array 33 5):=by kernel_rfl
theorem und5:Tryz.prog.underlying 5=some (.int .u8):=by kernel_rfl
theorem cells5:Tryz.prog.cellsOf 5=1:=by kernel_rfl
theorem sl33 (g o cap:Nat) (hc:33≤cap) (w:World):(Instr.sliceAt 23 (.slice (some ⟨g,o,none⟩) 33 cap) (some (.int .i64 1)) none none).run Tryz.prog w=.ok (.slice (some ⟨g,o+1,none⟩) 32 (cap-1)) w:=by
 go_simp
 omega
theorem arr33 (g o cap:Nat) (w:World):(Instr.arrayAt 60 (.slice (some ⟨g,o,none⟩) 33 cap)).run Tryz.prog w=.ok (.pointer (some ⟨g,o,none⟩)) w:=by kernel_rfl
theorem at23 (g o n cap:Nat) (hn:0<n) (w:World):(Instr.indexAt 23 (.slice (some ⟨g,o,none⟩) n cap) (.int .i64 0)).run Tryz.prog w=.ok (.pointer (some ⟨g,o,none⟩)) w:=by
 have h:(0:Int)<(n:Int):=by omega
 go_simp
theorem part5 (xs:Array Value) (i:Nat) (v:Value) (h:xs[i]? = some v) (w:World):(part 5 xs i).run Tryz.prog w=.ok v w:=by
 go_simp
theorem eqI (xs ys:Array Value) (a b:Nat→Int) (D:Nat) (w:World):∀ (is:List Nat),(∀ i∈is,xs[i]? = some (.int .u8 (a i)))→(∀ i∈is,ys[i]? = some (.int .u8 (b i))) →
 (Op.eqItems (D+1) 5 1 xs ys is).run Tryz.prog w=.ok (decide (∀ i∈is,a i=b i)) w
 | [],_,_=>by
  rw[Op.eqItems]
  simp
 | i :: is,hx,hy=>by
  have ih:=eqI xs ys a b D w is (fun j hj=>hx j (List.mem_cons_of_mem _ hj)) (fun j hj=>hy j (List.mem_cons_of_mem _ hj))
  have p1:=part5 xs (i*1) _ (by rw[Nat.mul_one];exact hx i List.mem_cons_self) w
  have p2:=part5 ys (i*1) _ (by rw[Nat.mul_one];exact hy i List.mem_cons_self) w
  have p3:=run_equalIn_int (P:=Tryz.prog) w D 5 .u8 .u8 (a i) (b i) und5
  rw[Op.eqItems]
  simp only[Sem.run_bind,p1,p2,p3,Result.andThen_ok]
  by_cases h:a i=b i
  ·simp only[h,beq_self_eq_true,Bool.not_true,Bool.false_eq_true,if_false,ih,List.forall_mem_cons,true_and]
  ·have h2:(a i == b i)=false:=by simpa using h
   simp only[h2,Bool.not_false,if_true,Sem.run_pure,List.forall_mem_cons,h,false_and,decide_false]
def bl33 (bs:Bs):List Value:=bs.toList.map encB
def z33:List Value:=List.replicate 33 (.int .u8 0)
theorem bl33_at (bs:Bs) (i:Nat) (h:i<bs.size):(bl33 bs)[i]? = some (.int .u8 (ub bs[i]!)):=by
 unfold bl33
 rw[List.getElem?_map,Array.getElem?_toList,Array.getElem?_eq_getElem h,getElem!_pos bs i h]
 rfl
theorem eqz (bs:Bs) (h:bs.size=33) (w:World):(binOp .eql 60 (.agg (bl33 bs).toArray) (.agg z33.toArray)).run Tryz.prog w=.ok (.bool (decide (∀ i∈List.range 33,ub bs[i]! = 0))) w:=by
 have hi:(Tryz.prog.info? 5).isSome=true:=by kernel_rfl
 obtain ⟨inf,hinf⟩:=Option.isSome_iff_exists.1 hi
 rw[run_eql_struct,run_equalIn_array w 9999 _ _ und131 hinf,cells5,
  eqI _ _ (fun i=>ub bs[i]!) (fun _=>0) 9998 w (List.range 33) (fun i hi=>by
   rw[List.getElem?_toArray]
   exact bl33_at bs i (by rw[h];exact List.mem_range.1 hi)) (fun i hi=>by
   rw[List.getElem?_toArray]
   unfold z33
   rw[List.getElem?_replicate,if_pos (List.mem_range.1 hi)])]
 rfl
@[reducible] def Zero33 (bs:Bs):Prop:=∀ i∈List.range 33,ub bs[i]! = 0
theorem eqz_t {bs:Bs} (h:bs.size=33) (hz:Zero33 bs) (w:World):(binOp .eql 60 (.agg (bl33 bs).toArray) (.agg z33.toArray)).run Tryz.prog w=.ok (.bool true) w:=by rw[eqz bs h,decide_eq_true (show ∀ i∈List.range 33,ub bs[i]! = 0 from hz)]
theorem eqz_f {bs:Bs} (h:bs.size=33) (hz:¬ Zero33 bs) (w:World):(binOp .eql 60 (.agg (bl33 bs).toArray) (.agg z33.toArray)).run Tryz.prog w=.ok (.bool false) w:=by rw[eqz bs h,decide_eq_false (show ¬ ∀ i∈List.range 33,ub bs[i]! = 0 from hz)]
theorem bl33_length {bs:Bs} (h:bs.size=33):(bl33 bs).length=33:=by unfold bl33;rw[List.length_map,Array.length_toList,h]
theorem bl33_range {bs:Bs} {w:World} {g o:Nat} (hB:Holds encB w g o bs):w.rangeAt g o (bl33 bs):=fun j v hv=>by
 have hj:j<bs.size:=by
  have:=(List.getElem?_eq_some_iff.1 hv).1
  unfold bl33 at this
  rwa[List.length_map,Array.length_toList] at this
 rw[bl33_at bs j hj] at hv
 rw[(hB j hj).1]
 exact hv
def tl33 (bs:Bs):Bs:=bs.extract 1 33
theorem tl33_size {bs:Bs} (h:bs.size=33):(tl33 bs).size=32:=by unfold tl33;rw[Array.size_extract,h];rfl
theorem tl33_holds {bs:Bs} {w:World} {g o:Nat} (h:bs.size=33) (hB:Holds encB w g o bs):Holds encB w g (o+1) (tl33 bs):=
 Holds.part hB (by rw[tl33_size h,h];decide) (fun j hj=>by
  rw[tl33_size h] at hj
  unfold tl33
  rw[getElem!_pos _ j (by rw[Array.size_extract,h];omega),getElem!_pos _ (1+j) (by rw[h];omega),Array.getElem_extract])
variable {P:Nat} [NeZero P]
theorem Read_y (C:Fld P) {g o cap:Nat} {bs:Bs} (hs:bs.size=32) (hc:32≤cap) {x:Fin P} (hx:beV bs.toList=x.val) {w:World} (hg:g<w.heap.size) (hB:Holds encB w g o bs) :
 Calls Tryz.prog 42 #[gv0,.slice (some ⟨g,o,none⟩) 32 cap] w (Ret fun e w'=>Below w.heap.size w w'∧e=.tuple #[fv x,.bool true]):=
 (Read_any 4294968273 0 0 P g o cap bs C.gap w hs hc hg hB).mono (by
  rintro e w' ⟨v,rfl,hb,⟨hl,v',rfl,h8⟩|⟨hl,rfl⟩⟩
  ·refine ⟨_,rfl,hb,?_⟩
   rw[hx] at h8
   rw[h8.nv]
  ·have:=x.isLt
   omega)
theorem Read_n (C:Fld P) {g o cap:Nat} {bs:Bs} (hs:bs.size=32) (hc:32≤cap) (hx:¬ beV bs.toList<P) {w:World} (hg:g<w.heap.size) (hB:Holds encB w g o bs) :
 Calls Tryz.prog 42 #[gv0,.slice (some ⟨g,o,none⟩) 32 cap] w (Ret fun e w'=>Below w.heap.size w w'∧e=.tuple #[fv (0:Fin P),.bool false]):=
 (Read_any 4294968273 0 0 P g o cap bs C.gap w hs hc hg hB).mono (by
  rintro e w' ⟨v,rfl,hb,⟨hl,v',rfl,h8⟩|⟨hl,rfl⟩⟩
  ·exact absurd hl hx
  ·refine ⟨_,rfl,hb,?_⟩
   rw[← zero_fv])
def rdx (P:Nat) [NeZero P] (bs:Bs):Fin P:=Fin.ofNat P (beV (tl33 bs).toList)
def rd (P:Nat) [NeZero P] (bs:Bs):Option (Fin P × Fin P):=
 if bs.size=33 then
  if Zero33 bs then some (0,0) else
  if ub bs[0]! = 2∨ub bs[0]! = 3 then
   if beV (tl33 bs).toList<P then
    (rt (rdx P bs*rdx P bs*rdx P bs+7)).map (fun y=>(rdx P bs,if ub bs[0]! = 3 then 0-y else y))
   else none
  else none
 else none
def rdV:Option (Fin P × Fin P)→Value
 | none=>.tuple #[pv (0:Fin P) 0,.bool false]
 | some p=>.tuple #[pv p.1 p.2,.bool true]
end
section
open Go.RowKit Go.Sort
variable {P:Nat} [NeZero P] {N:Nat}
theorem rp_len (C:Fld P) (q:Option Addr) (n cap:Nat) (x:Fin P) (w:World) (hn:¬ n=33):Calls Tryz.prog 112 #[(.slice q n cap)] w (Ret fun e w'=>Below w.heap.size w w'∧e=(.tuple #[pv (0:Fin P) 0,.bool false])):=by
 have hne:∀ w,(binOp .neq 3 (.int .i64 n) (.int .i64 33)).run Tryz.prog w=.ok (.bool true) w:=fun w=>by
  have h:¬ (n:Int)=33:=by omega
  go_simp
 go_enter Tryz.func112,Tryz.ntmps112
 refine RG.var1 (v0:=(.slice q n cap)) (n:=54) (by kernel_rfl) (by kernel_rfl) (by kernel_rfl) ?_
 intro a0 sl0 f0
 have hS0:=RG.St.begin w
 have M0:RG.M w w.heap.size [] 54 [] [] [(0,(.v (.slice q n cap)))] a0 _:=⟨hS0,sl0,⟨f0,trivial⟩⟩
 repeat refine wp_seq ?_
 refine M0.t [.m 2 [] 0,.x 3 [] (.bool false)] [(0,(RG.z 8))] [] [(RG.z 8)] [(0,(.v (.slice q n cap))),(2,(.p 0 0)),(3,(.v (.bool false)))] ⟨RG.mk 0 85,RG.st,trivial⟩ ?_
 intro j1 a1 w1 M1
 repeat refine wp_seq ?_
 refine M1.u [.x 7 [] (.slice q n cap),.x 8 [(7,0)] (.int .i64 n),.x 9 [(8,1)] (.bool true)] [(2,(.p 0 0)),(3,(.v (.bool false))),(9,(.v (.bool true)))] ⟨RG.st,RG.cert_one rfl 7 (.v (.slice q n cap)) (.int .i64 n) rfl RG.sx (fun a w=>by kernel_rfl) (fun μ w=>by kernel_rfl),RG.cert_binc rfl .neq 3 3 8 (.int .i64 n) (.int .i64 33) (.bool true) rfl rfl RG.sx (fun w=>by kernel_rfl) (hne),trivial⟩ ?_
 intro a2 w2 M2
 repeat refine wp_seq ?_
 refine wp_cond_true M2.ev ?_
 repeat refine wp_seq ?_
 refine M2.t [.x 10 [] (pv (0:Fin P) (0:Fin P)),.u [(10,0)] 0,.x 3 [] (.bool false)] [] [(0,1,(ws (0:Fin P)++(ws (0:Fin P))))] [(ws (0:Fin P)++(ws (0:Fin P)))] [(2,(.p 0 0)),(3,(.v (.bool false)))] ⟨RG.se (zero_pv (P:=P)),RG.pt i109,RG.st,trivial⟩ ?_
 intro a3 w3 M3
 refine wp_ret ?_
 refine bodyPost_ret (v:=(.tuple #[(pv (0:Fin P) (0:Fin P)),(.bool false)])) (RG.results_rt M3.st 2 3 85 rfl 0 _ rfl (M3.at (s:=(.p 0 0))) _ (M3.at (s:=(.v (.bool false)))) u109 i109) M3.sl.defers ?_
 exact ⟨_,rfl,M3.st.bel.below,rfl⟩
abbrev v33 (g o cap:Nat):Value:=.slice (some ⟨g,o,none⟩) 33 cap
theorem rp33 (C:Fld P) (g o cap:Nat) (bs:Bs) (w:World) (hs:bs.size=33) (hc:33≤cap) (hg:g<w.heap.size) (hB:Holds encB w g o bs):Calls Tryz.prog 112 #[v33 g o cap] w (Ret fun e w'=>Below w.heap.size w w'∧e=rdV (rd P bs)):=by
 have hrg:=bl33_range hB
 have hb0:w.cell? ⟨g,o,none⟩=some (.int .u8 (ub bs[0]!)):=by
  have:=(hB 0 (by rw[hs];decide)).1
  rw[Nat.add_zero] at this
  exact this
 go_enter Tryz.func112,Tryz.ntmps112
 refine RG.var1 (v0:=(v33 g o cap)) (n:=54) (by kernel_rfl) (by kernel_rfl) (by kernel_rfl) ?_
 intro a0 sl0 f0
 have hS0:=RG.St.begin w
 have M0:RG.M w w.heap.size [] 54 [] [] [(0,(.v (v33 g o cap)))] a0 _:=⟨hS0,sl0,⟨f0,trivial⟩⟩
 repeat refine wp_seq ?_
 refine M0.t [.m 2 [] 0,.x 3 [] (.bool false)] [(0,(RG.z 8))] [] [(RG.z 8)] [(0,(.v (v33 g o cap))),(2,(.p 0 0)),(3,(.v (.bool false)))] ⟨RG.mk 0 85,RG.st,trivial⟩ ?_
 intro j1 a1 w1 M1
 repeat refine wp_seq ?_
 refine M1.u [.x 7 [] (v33 g o cap),.x 8 [(7,0)] (.int .i64 33),.x 9 [(8,1)] (.bool false)] [(0,(.v (v33 g o cap))),(2,(.p 0 0)),(3,(.v (.bool false))),(9,(.v (.bool false)))] ⟨RG.st,RG.cert_one rfl 7 (.v (v33 g o cap)) (.int .i64 33) rfl RG.sx (fun a w=>by kernel_rfl) (fun μ w=>by kernel_rfl),RG.st,trivial⟩ ?_
 intro a2 w2 M2
 repeat refine wp_seq ?_
 refine wp_cond_false M2.ev ?_
 refine wp_skip ?_
 repeat refine wp_seq ?_
 unfold rd
 rw[if_pos hs]
 by_cases hz:Zero33 bs
 ·rw[if_pos hz]
  refine M2.u [.x 11 [] (v33 g o cap),.x 12 [(11,0)] (.pointer (some ⟨g,o,none⟩)),.x 13 [(12,1)] (.agg (bl33 bs).toArray),.x 14 [] (.agg z33.toArray),.x 15 [(13,2),(14,3)] (.bool true)] [(2,(.p 0 0)),(3,(.v (.bool false))),(15,(.v (.bool true)))] ⟨RG.st,RG.cert_s2a rfl 60 11 (v33 g o cap) (.pointer (some ⟨g,o,none⟩)) rfl rfl RG.sx (arr33 g o cap),RG.cert_loadB rfl g o hg List.not_mem_nil 60 12 rfl (bl33 bs) rfl RG.sx hrg u131 (by rw[bl33_length hs];exact i131),RG.st,RG.cert_bin rfl .eql 60 60 13 14 (.agg (bl33 bs).toArray) (.agg z33.toArray) (.bool true) rfl rfl RG.sx RG.sx (fun w=>by kernel_rfl) (eqz_t hs hz),trivial⟩ ?_
  intro a3 w3 M3
  repeat refine wp_seq ?_
  refine wp_cond_true M3.ev ?_
  repeat refine wp_seq ?_
  refine M3.t [.x 16 [] (pv (0:Fin P) (0:Fin P)),.u [(16,0)] 0,.x 3 [] (.bool true)] [] [(0,1,(ws (0:Fin P)++(ws (0:Fin P))))] [(ws (0:Fin P)++(ws (0:Fin P)))] [(2,(.p 0 0)),(3,(.v (.bool true)))] ⟨RG.se (zero_pv (P:=P)),RG.pt i109,RG.st,trivial⟩ ?_
  intro a4 w4 M4
  refine wp_ret ?_
  refine bodyPost_ret (v:=(.tuple #[(pv (0:Fin P) (0:Fin P)),(.bool true)])) (RG.results_rt M4.st 2 3 85 rfl 0 _ rfl (M4.at (s:=(.p 0 0))) _ (M4.at (s:=(.v (.bool true)))) u109 i109) M4.sl.defers ?_
  exact ⟨_,rfl,M4.st.bel.below,rfl⟩
 rw[if_neg hz]
 refine M2.u [.x 11 [] (v33 g o cap),.x 12 [(11,0)] (.pointer (some ⟨g,o,none⟩)),.x 13 [(12,1)] (.agg (bl33 bs).toArray),.x 14 [] (.agg z33.toArray),.x 15 [(13,2),(14,3)] (.bool false)] [(0,(.v (v33 g o cap))),(2,(.p 0 0)),(3,(.v (.bool false))),(15,(.v (.bool false)))] ⟨RG.st,RG.cert_s2a rfl 60 11 (v33 g o cap) (.pointer (some ⟨g,o,none⟩)) rfl rfl RG.sx (arr33 g o cap),RG.cert_loadB rfl g o hg List.not_mem_nil 60 12 rfl (bl33 bs) rfl RG.sx hrg u131 (by rw[bl33_length hs];exact i131),RG.st,RG.cert_bin rfl .eql 60 60 13 14 (.agg (bl33 bs).toArray) (.agg z33.toArray) (.bool false) rfl rfl RG.sx RG.sx (fun w=>by kernel_rfl) (eqz_f hs hz),trivial⟩ ?_
 intro a3 w3 M3
 repeat refine wp_seq ?_
 refine wp_cond_false M3.ev ?_
 refine wp_skip ?_
 repeat refine wp_seq ?_
 by_cases hm:ub bs[0]! = 2∨ub bs[0]! = 3
 rotate_left
 ·rw[if_neg hm]
  generalize ub bs[0]! = m at hb0 hm
  have h2:¬ m=2:=fun h=>hm (.inl h)
  have h3:¬ m=3:=fun h=>hm (.inr h)
  have hm2:∀ w,(binOp .neq 5 (.int .u8 m) (.int .u8 2)).run Tryz.prog w=.ok (.bool true) w:=fun w=>by
   go_simp
  have hm3:∀ w,(binOp .neq 5 (.int .u8 m) (.int .u8 3)).run Tryz.prog w=.ok (.bool true) w:=fun w=>by
   go_simp
  refine M3.u [.x 17 [] (v33 g o cap),.x 18 [(17,0)] (.pointer (some ⟨g,o,none⟩)),.x 19 [(18,1)] (.int .u8 m),.x 20 [(19,2)] (.bool true),.x 21 [(20,3)] (.bool true),.x 22 [] (v33 g o cap),.x 23 [(22,5)] (.pointer (some ⟨g,o,none⟩)),.x 24 [(23,6)] (.int .u8 m),.x 25 [(24,7)] (.bool true),.x 26 [(21,4),(25,8)] (.bool true)] [(2,(.p 0 0)),(3,(.v (.bool false))),(26,(.v (.bool true)))] ⟨RG.st,RG.cert_idxc rfl 23 17 (.int .i64 0) rfl (.v (v33 g o cap)) RG.sx (fun μ w=>at23 g o 33 cap (by decide) w),RG.cert_load1B rfl g o hg List.not_mem_nil 5 18 rfl (.int .u8 m) rfl RG.sx hb0 u5,RG.cert_binc rfl .neq 5 5 19 (.int .u8 m) (.int .u8 2) (.bool true) rfl rfl RG.sx (fun w=>by kernel_rfl) (hm2),RG.st,RG.st,RG.cert_idxc rfl 23 22 (.int .i64 0) rfl (.v (v33 g o cap)) RG.sx (fun μ w=>at23 g o 33 cap (by decide) w),RG.cert_load1B rfl g o hg List.not_mem_nil 5 23 rfl (.int .u8 m) rfl RG.sx hb0 u5,RG.cert_binc rfl .neq 5 5 24 (.int .u8 m) (.int .u8 3) (.bool true) rfl rfl RG.sx (fun w=>by kernel_rfl) (hm3),RG.st,trivial⟩ ?_
  intro a4 w4 M4
  repeat refine wp_seq ?_
  refine wp_cond_true M4.ev ?_
  repeat refine wp_seq ?_
  refine M4.t [.x 27 [] (pv (0:Fin P) (0:Fin P)),.u [(27,0)] 0,.x 3 [] (.bool false)] [] [(0,1,(ws (0:Fin P)++(ws (0:Fin P))))] [(ws (0:Fin P)++(ws (0:Fin P)))] [(2,(.p 0 0)),(3,(.v (.bool false)))] ⟨RG.se (zero_pv (P:=P)),RG.pt i109,RG.st,trivial⟩ ?_
  intro a5 w5 M5
  refine wp_ret ?_
  refine bodyPost_ret (v:=(.tuple #[(pv (0:Fin P) (0:Fin P)),(.bool false)])) (RG.results_rt M5.st 2 3 85 rfl 0 _ rfl (M5.at (s:=(.p 0 0))) _ (M5.at (s:=(.v (.bool false)))) u109 i109) M5.sl.defers ?_
  exact ⟨_,rfl,M5.st.bel.below,rfl⟩
 rw[if_pos hm]
 rcases hm with hm|hm
 case' inl=>refine M3.u [.x 17 [] (v33 g o cap),.x 18 [(17,0)] (.pointer (some ⟨g,o,none⟩)),.x 19 [(18,1)] (.int .u8 2),.x 20 [(19,2)] (.bool false),.x 21 [(20,3)] (.bool false),⟨some 22,[],(.v undef),.pass⟩,⟨some 23,[],(.v undef),.pass⟩,⟨some 24,[],(.v undef),.pass⟩,⟨some 25,[],(.v undef),.pass⟩,.x 26 [(21,4),(25,8)] (.bool false)] [(0,(.v (v33 g o cap))),(2,(.p 0 0)),(3,(.v (.bool false))),(26,(.v (.bool false)))] ⟨RG.st,RG.cert_idxc rfl 23 17 (.int .i64 0) rfl (.v (v33 g o cap)) RG.sx (fun μ w=>at23 g o 33 cap (by decide) w),RG.cert_load1B rfl g o hg List.not_mem_nil 5 18 rfl (.int .u8 2) rfl RG.sx (hb0.trans (by rw[hm])) u5,RG.st,RG.st,RG.cert_pass rfl rfl,RG.cert_pass rfl rfl,RG.cert_pass rfl rfl,RG.cert_pass rfl rfl,RG.st,trivial⟩ ?_
 case' inr=>refine M3.u [.x 17 [] (v33 g o cap),.x 18 [(17,0)] (.pointer (some ⟨g,o,none⟩)),.x 19 [(18,1)] (.int .u8 3),.x 20 [(19,2)] (.bool true),.x 21 [(20,3)] (.bool true),.x 22 [] (v33 g o cap),.x 23 [(22,5)] (.pointer (some ⟨g,o,none⟩)),.x 24 [(23,6)] (.int .u8 3),.x 25 [(24,7)] (.bool false),.x 26 [(21,4),(25,8)] (.bool false)] [(0,(.v (v33 g o cap))),(2,(.p 0 0)),(3,(.v (.bool false))),(26,(.v (.bool false)))] ⟨RG.st,RG.cert_idxc rfl 23 17 (.int .i64 0) rfl (.v (v33 g o cap)) RG.sx (fun μ w=>at23 g o 33 cap (by decide) w),RG.cert_load1B rfl g o hg List.not_mem_nil 5 18 rfl (.int .u8 3) rfl RG.sx (hb0.trans (by rw[hm])) u5,RG.st,RG.st,RG.st,RG.cert_idxc rfl 23 22 (.int .i64 0) rfl (.v (v33 g o cap)) RG.sx (fun μ w=>at23 g o 33 cap (by decide) w),RG.cert_load1B rfl g o hg List.not_mem_nil 5 23 rfl (.int .u8 3) rfl RG.sx (hb0.trans (by rw[hm])) u5,RG.st,RG.st,trivial⟩ ?_
 all_goals
  intro a4 w4 M4
  repeat refine wp_seq ?_
  refine wp_cond_false M4.ev ?_
  refine wp_skip ?_
  repeat refine wp_seq ?_
  by_cases hx:beV (tl33 bs).toList<P
  rotate_left
  ·rw[if_neg hx]
   have hrd:∀ w',RG.BelX w.heap.size [] w w'→Calls Tryz.prog 42 #[gv0,.slice (some ⟨g,o+1,none⟩) 32 (cap-1)] w' (Ret fun e w''=>Below w'.heap.size w' w''∧e=.tuple #[fv (0:Fin P),.bool false]):=fun w' hb=>Read_n C (tl33_size hs) (by omega) hx (Nat.lt_of_lt_of_le hg hb.size) (Holds.below (tl33_holds hs hB) hb.below hg)
   refine M4.d [.c 29 [] gv0,.x 30 [] (v33 g o cap),.x 31 [(30,1)] (.slice (some ⟨g,o+1,none⟩) 32 (cap-1)),.c 32 [(29,0),(31,2)] (.tuple #[(fv (0:Fin P)),(.bool false)]),.x 28 [(32,3)] (.tuple #[(fv (0:Fin P)),(.bool false)]),.x 33 [(28,4)] (fv (0:Fin P)),.x 34 [(28,4)] (.bool false),.m 4 [] 1,.u [(4,7),(33,5)] 1,.x 5 [(34,6)] (.bool false)] [(7,(RG.z 4))] [(1,8,(ws (0:Fin P)))] [(RG.z 8),(ws (0:Fin P))] [(2,(.p 0 0)),(3,(.v (.bool false))),(5,(.v (.bool false)))] ⟨RG.cl (Coordinates_c),RG.st,RG.cert_slice1 rfl 23 30 (.int .i64 1) (v33 g o cap) (.slice (some ⟨g,o+1,none⟩) 32 (cap-1)) rfl rfl RG.sx (sl33 g o cap hc),RG.cert_callB2 rfl 42 29 31 gv0 (.slice (some ⟨g,o+1,none⟩) 32 (cap-1)) (.tuple #[(fv (0:Fin P)),(.bool false)]) rfl (fun a w=>by kernel_rfl) RG.sx RG.sx hrd,RG.st,RG.st,RG.st,RG.mk 1 50,RG.pt i85,RG.st,trivial⟩ ?_
   intro j5 a5 w5 M5
   repeat refine wp_seq ?_
   refine M5.u [.x 35 [] (.bool false),.x 36 [(35,0)] (.bool true)] [(2,(.p 0 0)),(3,(.v (.bool false))),(36,(.v (.bool true)))] ⟨RG.st,RG.st,trivial⟩ ?_
   intro a6 w6 M6
   repeat refine wp_seq ?_
   refine wp_cond_true M6.ev ?_
   repeat refine wp_seq ?_
   refine M6.t [.x 37 [] (pv (0:Fin P) (0:Fin P)),.u [(37,0)] 0,.x 3 [] (.bool false)] [] [(0,1,(ws (0:Fin P)++(ws (0:Fin P))))] [(ws (0:Fin P)++(ws (0:Fin P))),(ws (0:Fin P))] [(2,(.p 0 0)),(3,(.v (.bool false)))] ⟨RG.se (zero_pv (P:=P)),RG.pt i109,RG.st,trivial⟩ ?_
   intro a7 w7 M7
   refine wp_ret ?_
   refine bodyPost_ret (v:=(.tuple #[(pv (0:Fin P) (0:Fin P)),(.bool false)])) (RG.results_rt M7.st 2 3 85 rfl 0 _ rfl (M7.at (s:=(.p 0 0))) _ (M7.at (s:=(.v (.bool false)))) u109 i109) M7.sl.defers ?_
   exact ⟨_,rfl,M7.st.bel.below,rfl⟩
  rw[if_pos hx]
  have hx':beV (tl33 bs).toList=(rdx P bs).val:=(Nat.mod_eq_of_lt hx).symm
  generalize rdx P bs=x at hx'
  have hrd:∀ w',RG.BelX w.heap.size [] w w'→Calls Tryz.prog 42 #[gv0,.slice (some ⟨g,o+1,none⟩) 32 (cap-1)] w' (Ret fun e w''=>Below w'.heap.size w' w''∧e=.tuple #[fv x,.bool true]):=fun w' hb=>Read_y C (tl33_size hs) (by omega) hx' (Nat.lt_of_lt_of_le hg hb.size) (Holds.below (tl33_holds hs hB) hb.below hg)
  refine M4.d [.c 29 [] gv0,.x 30 [] (v33 g o cap),.x 31 [(30,1)] (.slice (some ⟨g,o+1,none⟩) 32 (cap-1)),.c 32 [(29,0),(31,2)] (.tuple #[(fv x),(.bool true)]),.x 28 [(32,3)] (.tuple #[(fv x),(.bool true)]),.x 33 [(28,4)] (fv x),.x 34 [(28,4)] (.bool true),.m 4 [] 1,.u [(4,7),(33,5)] 1,.x 5 [(34,6)] (.bool true)] [(7,(RG.z 4))] [(1,8,(ws x))] [(RG.z 8),(ws x)] [(0,(.v (v33 g o cap))),(2,(.p 0 0)),(3,(.v (.bool false))),(4,(.p 1 0)),(5,(.v (.bool true)))] ⟨RG.cl (Coordinates_c),RG.st,RG.cert_slice1 rfl 23 30 (.int .i64 1) (v33 g o cap) (.slice (some ⟨g,o+1,none⟩) 32 (cap-1)) rfl rfl RG.sx (sl33 g o cap hc),RG.cert_callB2 rfl 42 29 31 gv0 (.slice (some ⟨g,o+1,none⟩) 32 (cap-1)) (.tuple #[(fv x),(.bool true)]) rfl (fun a w=>by kernel_rfl) RG.sx RG.sx hrd,RG.st,RG.st,RG.st,RG.mk 1 50,RG.pt i85,RG.st,trivial⟩ ?_
  intro j5 a5 w5 M5
  repeat refine wp_seq ?_
  refine M5.u [.x 35 [] (.bool true),.x 36 [(35,0)] (.bool false)] [(0,(.v (v33 g o cap))),(2,(.p 0 0)),(3,(.v (.bool false))),(4,(.p 1 0)),(5,(.v (.bool true))),(36,(.v (.bool false)))] ⟨RG.st,RG.st,trivial⟩ ?_
  intro a6 w6 M6
  repeat refine wp_seq ?_
  refine wp_cond_false M6.ev ?_
  refine wp_skip ?_
  repeat refine wp_seq ?_
  cases hr:rt (x*x*x+7) with
  | none =>
   refine M6.t [.x 39 [] (fv x),.c 40 [(39,0)] (.tuple #[(pv (0:Fin P) (0:Fin P)),(.bool false)]),.x 38 [(40,1)] (.tuple #[(pv (0:Fin P) (0:Fin P)),(.bool false)]),.x 41 [(38,2)] (pv (0:Fin P) (0:Fin P)),.x 42 [(38,2)] (.bool false),.m 6 [] 2,.u [(6,5),(41,3)] 2,.x 5 [(42,4)] (.bool false)] [(5,(RG.z 8))] [(2,6,(ws (0:Fin P)++(ws (0:Fin P))))] [(RG.z 8),(ws x),(ws (0:Fin P)++(ws (0:Fin P)))] [(2,(.p 0 0)),(3,(.v (.bool false))),(5,(.v (.bool false))),(6,(.p 2 0))] ⟨RG.ld u85 i85,RG.cert_call1 rfl 73 39 (fv x) (.tuple #[(pv (0:Fin P) (0:Fin P)),(.bool false)]) rfl (fun a w=>by kernel_rfl) RG.sx (above_n_c C x hr),RG.st,RG.st,RG.st,RG.mk 2 85,RG.pt i109,RG.st,trivial⟩ ?_
   intro j7 a7 w7 M7
   repeat refine wp_seq ?_
   refine M7.u [.x 43 [] (.bool false),.x 44 [(43,0)] (.bool false),⟨some 45,[],(.v undef),.pass⟩,⟨some 46,[],(.v undef),.pass⟩,⟨some 47,[],(.v undef),.pass⟩,⟨some 48,[],(.v undef),.pass⟩,.x 49 [(44,1),(48,5)] (.bool false)] [(2,(.p 0 0)),(3,(.v (.bool false))),(5,(.v (.bool false))),(6,(.p 2 0)),(49,(.v (.bool false)))] ⟨RG.st,RG.st,RG.cert_pass rfl rfl,RG.cert_pass rfl rfl,RG.cert_pass rfl rfl,RG.cert_pass rfl rfl,RG.st,trivial⟩ ?_
   intro a8 w8 M8
   repeat refine wp_seq ?_
   refine wp_cond_false M8.ev ?_
   refine wp_skip ?_
   repeat refine wp_seq ?_
   refine M8.t [.x 52 [] (pv (0:Fin P) (0:Fin P)),.x 53 [] (.bool false),.u [(52,0)] 0,.x 3 [(53,1)] (.bool false)] [] [(0,2,(ws (0:Fin P)++(ws (0:Fin P))))] [(ws (0:Fin P)++(ws (0:Fin P))),(ws x),(ws (0:Fin P)++(ws (0:Fin P)))] [(2,(.p 0 0)),(3,(.v (.bool false)))] ⟨RG.ld u109 i109,RG.st,RG.pt i109,RG.st,trivial⟩ ?_
   intro a9 w9 M9
   refine wp_ret ?_
   refine bodyPost_ret (v:=(.tuple #[(pv (0:Fin P) (0:Fin P)),(.bool false)])) (RG.results_rt M9.st 2 3 85 rfl 0 _ rfl (M9.at (s:=(.p 0 0))) _ (M9.at (s:=(.v (.bool false)))) u109 i109) M9.sl.defers ?_
   exact ⟨_,rfl,M9.st.bel.below,rfl⟩
  | some y =>
   refine M6.t [.x 39 [] (fv x),.c 40 [(39,0)] (.tuple #[(pv x y),(.bool true)]),.x 38 [(40,1)] (.tuple #[(pv x y),(.bool true)]),.x 41 [(38,2)] (pv x y),.x 42 [(38,2)] (.bool true),.m 6 [] 2,.u [(6,5),(41,3)] 2,.x 5 [(42,4)] (.bool true)] [(5,(RG.z 8))] [(2,6,(ws x++(ws y)))] [(RG.z 8),(ws x),(ws x++(ws y))] [(0,(.v (v33 g o cap))),(2,(.p 0 0)),(3,(.v (.bool false))),(5,(.v (.bool true))),(6,(.p 2 0))] ⟨RG.ld u85 i85,RG.cert_call1 rfl 73 39 (fv x) (.tuple #[(pv x y),(.bool true)]) rfl (fun a w=>by kernel_rfl) RG.sx (above_y_c C x y hr),RG.st,RG.st,RG.st,RG.mk 2 85,RG.pt i109,RG.st,trivial⟩ ?_
   intro j7 a7 w7 M7
   repeat refine wp_seq ?_
   rw[Option.map_some]
   by_cases h3:ub bs[0]! = 3
   ·rw[if_pos h3]
    generalize hy2:0-y=y2
    have popp_y:Gives 154 #[pv x y] (pv x y2):=hy2 ▸ popp_c C x y
    refine M7.u [.x 43 [] (.bool true),.x 44 [(43,0)] (.bool true),.x 45 [] (v33 g o cap),.x 46 [(45,2)] (.pointer (some ⟨g,o,none⟩)),.x 47 [(46,3)] (.int .u8 3),.x 48 [(47,4)] (.bool true),.x 49 [(44,1),(48,5)] (.bool true)] [(2,(.p 0 0)),(3,(.v (.bool false))),(5,(.v (.bool true))),(6,(.p 2 0)),(49,(.v (.bool true)))] ⟨RG.st,RG.st,RG.st,RG.cert_idxc rfl 23 45 (.int .i64 0) rfl (.v (v33 g o cap)) RG.sx (fun μ w=>at23 g o 33 cap (by decide) w),RG.cert_load1B rfl g o hg List.not_mem_nil 5 46 rfl (.int .u8 3) rfl RG.sx (hb0.trans (by rw[h3])) u5,RG.st,RG.st,trivial⟩ ?_
    intro a8 w8 M8
    repeat refine wp_seq ?_
    refine wp_cond_true M8.ev ?_
    repeat refine wp_seq ?_
    refine M8.t [.x 50 [] (pv x y),.c 51 [(50,0)] (pv x y2),.u [(51,1)] 2] [] [(2,2,(ws x++(ws y2)))] [(RG.z 8),(ws x),(ws x++(ws y2))] [(2,(.p 0 0)),(3,(.v (.bool false))),(5,(.v (.bool true))),(6,(.p 2 0))] ⟨RG.ld u109 i109,RG.cl (popp_y),RG.pt i109,trivial⟩ ?_
    intro a9 w9 M9
    repeat refine wp_seq ?_
    refine M9.t [.x 52 [] (pv x y2),.x 53 [] (.bool true),.u [(52,0)] 0,.x 3 [(53,1)] (.bool true)] [] [(0,2,(ws x++(ws y2)))] [(ws x++(ws y2)),(ws x),(ws x++(ws y2))] [(2,(.p 0 0)),(3,(.v (.bool true)))] ⟨RG.ld u109 i109,RG.st,RG.pt i109,RG.st,trivial⟩ ?_
    intro a10 w10 M10
    refine wp_ret ?_
    refine bodyPost_ret (v:=(.tuple #[(pv x y2),(.bool true)])) (RG.results_rt M10.st 2 3 85 rfl 0 _ rfl (M10.at (s:=(.p 0 0))) _ (M10.at (s:=(.v (.bool true)))) u109 i109) M10.sl.defers ?_
    exact ⟨_,rfl,M10.st.bel.below,rfl⟩
   ·rw[if_neg h3]
    have h2:ub bs[0]! = 2:=by omega
    refine M7.u [.x 43 [] (.bool true),.x 44 [(43,0)] (.bool true),.x 45 [] (v33 g o cap),.x 46 [(45,2)] (.pointer (some ⟨g,o,none⟩)),.x 47 [(46,3)] (.int .u8 2),.x 48 [(47,4)] (.bool false),.x 49 [(44,1),(48,5)] (.bool false)] [(2,(.p 0 0)),(3,(.v (.bool false))),(5,(.v (.bool true))),(6,(.p 2 0)),(49,(.v (.bool false)))] ⟨RG.st,RG.st,RG.st,RG.cert_idxc rfl 23 45 (.int .i64 0) rfl (.v (v33 g o cap)) RG.sx (fun μ w=>at23 g o 33 cap (by decide) w),RG.cert_load1B rfl g o hg List.not_mem_nil 5 46 rfl (.int .u8 2) rfl RG.sx (hb0.trans (by rw[h2])) u5,RG.st,RG.st,trivial⟩ ?_
    intro a8 w8 M8
    repeat refine wp_seq ?_
    refine wp_cond_false M8.ev ?_
    refine wp_skip ?_
    repeat refine wp_seq ?_
    refine M8.t [.x 52 [] (pv x y),.x 53 [] (.bool true),.u [(52,0)] 0,.x 3 [(53,1)] (.bool true)] [] [(0,2,(ws x++(ws y)))] [(ws x++(ws y)),(ws x),(ws x++(ws y))] [(2,(.p 0 0)),(3,(.v (.bool true)))] ⟨RG.ld u109 i109,RG.st,RG.pt i109,RG.st,trivial⟩ ?_
    intro a9 w9 M9
    refine wp_ret ?_
    refine bodyPost_ret (v:=(.tuple #[(pv x y),(.bool true)])) (RG.results_rt M9.st 2 3 85 rfl 0 _ rfl (M9.at (s:=(.p 0 0))) _ (M9.at (s:=(.v (.bool true)))) u109 i109) M9.sl.defers ?_
    exact ⟨_,rfl,M9.st.bel.below,rfl⟩
def Arg33 (w:World) (v:Value) (bs:Bs):Prop:=∃ (p:Option Addr) (n cap:Nat),v=.slice p n cap∧bs.size=n∧(n=33→∃ g o,p=some ⟨g,o,none⟩∧33≤cap∧g<w.heap.size∧Holds encB w g o bs)
theorem Arg33.below {w w1:World} {v:Value} {bs:Bs} (h:Arg33 w v bs) (hb:Below w.heap.size w w1):Arg33 w1 v bs:=by
 obtain ⟨p,n,cap,rfl,hs,h1⟩:=h
 refine ⟨p,n,cap,rfl,hs,fun h2=>?_⟩
 obtain ⟨g,o,h3,h4,h6,h7⟩:=h1 h2
 exact ⟨g,o,h3,h4,Nat.lt_of_lt_of_le h6 hb.size,Holds.below h7 hb h6⟩
theorem readPoint_c (C:Fld P) (v:Value) (bs:Bs) (w:World) (hv:Arg33 w v bs):Calls Tryz.prog 112 #[v] w (Ret fun e w'=>Below w.heap.size w w'∧e=rdV (rd P bs)):=by
 obtain ⟨p,n,cap,rfl,hs,h1⟩:=hv
 by_cases hn:n=33
 ·subst hn
  obtain ⟨g,o,rfl,hc,hg,hB⟩:=h1 rfl
  exact rp33 C g o cap bs w hs hc hg hB
 ·unfold rd
  rw[if_neg (by rw[hs];exact hn)]
  exact rp_len C p n cap 0 w hn
end
section
open Go.RowKit Go.Sort Go.Deep
variable {P:Nat} [NeZero P] {N:Nat}
def bx (n:Nat):Bs:=be32 (n%18446744073709551616) (n/18446744073709551616%18446744073709551616) (n/340282366920938463463374607431768211456%18446744073709551616) (n/6277101735386680763835789423207666416102355444464034512896%18446744073709551616)
theorem bx_size (n:Nat):(bx n).size=32:=by unfold bx;exact be32_size _ _ _ _
def mark (n:Nat):UInt8:=if n%2=1 then 3 else 2
def by33 (x y:Fin P):Bs:=if x=0∧y=0 then Array.replicate 33 0 else #[mark y.val]++bx x.val
theorem Bytes_c (C:Fld P) (x:Fin P) (w:World):Calls Tryz.prog 75 #[fv x] w (Ret fun e w'=>Below w.heap.size w w'∧∃ g,e=.slice (some ⟨g,0,none⟩) 32 32∧w.heap.size≤g∧Holds encB w' g 0 (bx x.val)):=
 (Bytes_any _ _ w (C.four x)).mono (by
  rintro e w' ⟨v,rfl,hb,g,a,b,c,d,rfl,hg,he,hH⟩
  refine ⟨_,rfl,hb,g,rfl,hg,?_⟩
  have h2:fv x=.agg #[.int .u64 ((x.val%18446744073709551616:Nat):Int),.int .u64 ((x.val/18446744073709551616%18446744073709551616:Nat):Int),.int .u64 ((x.val/340282366920938463463374607431768211456%18446744073709551616:Nat):Int),.int .u64 ((x.val/6277101735386680763835789423207666416102355444464034512896%18446744073709551616:Nat):Int)]:=rfl
  rw[h2] at he
  simp only[Value.agg.injEq,Array.mk.injEq,List.cons.injEq,Value.int.injEq,true_and,and_true,Int.ofNat_inj] at he
  obtain ⟨rfl,rfl,rfl,rfl⟩:=he
  exact hH)
theorem Odd_c (C:Fld P) (y:Fin P):Gives 74 #[fv y] (.bool (decide (y.val%2=1))):=fun w =>
 (Odd_any _ _ (C.four y) w).mono (by rintro e w' ⟨v,rfl,hb,rfl⟩;exact ⟨_,rfl,hb,rfl⟩)
theorem info5b:(Tryz.prog.info? 5).map (fun i=>(i.zero,i.size,i.bytes))=some (some (.int .u8 0),1,1):=by kernel_rfl
theorem und23:Tryz.prog.underlying 23=some (.slice 5):=by kernel_rfl
def BytesR (w:World) (T:Bs) (e:Value) (w':World):Prop:=∃ g cap,e=.slice (some ⟨g,0,none⟩) 33 cap∧33≤cap∧w.heap.size≤g∧g<w'.heap.size∧Holds encB w' g 0 T
theorem mk33 (w:World):(Instr.makeSlice 23 (.int .i64 33) (.int .i64 33)).run Tryz.prog w=.ok (.slice (some ⟨w.heap.size,0,none⟩) 33 33) (w.alloc (.cells (madeCells #[.int .u8 0] 33) 5)):=
 run_make_row' (P:=Tryz.prog) 23 5 (.int .u8 0) 1 und23 info5b rfl .i64 .i64 33 (by decide) (by decide) w
theorem made33 (w:World) (o:Obj):Holds encB ((w.alloc o).alloc (.cells (madeCells #[.int .u8 0] 33) 5)) (w.heap.size+1) 0 (Array.replicate 33 0):=by
 have h:=Holds.made (enc:=encB) (w.alloc o) 5 33 (0:UInt8)
 rw[World.size_alloc] at h
 exact h
omit [NeZero P] in
theorem pv_words (x y:Fin P):pv x y=.agg #[.int .u64 ((x.val%18446744073709551616:Nat):Int),.int .u64 ((x.val/18446744073709551616%18446744073709551616:Nat):Int),.int .u64 ((x.val/340282366920938463463374607431768211456%18446744073709551616:Nat):Int),.int .u64 ((x.val/6277101735386680763835789423207666416102355444464034512896%18446744073709551616:Nat):Int),.int .u64 ((y.val%18446744073709551616:Nat):Int),.int .u64 ((y.val/18446744073709551616%18446744073709551616:Nat):Int),.int .u64 ((y.val/340282366920938463463374607431768211456%18446744073709551616:Nat):Int),.int .u64 ((y.val/6277101735386680763835789423207666416102355444464034512896%18446744073709551616:Nat):Int)]:=rfl
theorem bytes_zero (C:Fld P) (x y:Fin P) (hz:x=0∧y=0) (w:World):Calls Tryz.prog 32 #[pv x y] w (Ret fun e w'=>Below w.heap.size w w'∧BytesR w (Array.replicate 33 0) e w'):=by
 have heq:=eqPt_t C (x:=x) (y:=y) (z:=0) (t:=0) hz
 rw[← zero_pv,pv_words] at heq
 rw[pv_words]
 generalize ((x.val%18446744073709551616:Nat):Int)=a at heq ⊢
 generalize ((x.val/18446744073709551616%18446744073709551616:Nat):Int)=b at heq ⊢
 generalize ((x.val/340282366920938463463374607431768211456%18446744073709551616:Nat):Int)=c at heq ⊢
 generalize ((x.val/6277101735386680763835789423207666416102355444464034512896%18446744073709551616:Nat):Int)=d at heq ⊢
 generalize ((y.val%18446744073709551616:Nat):Int)=p at heq ⊢
 generalize ((y.val/18446744073709551616%18446744073709551616:Nat):Int)=q at heq ⊢
 generalize ((y.val/340282366920938463463374607431768211456%18446744073709551616:Nat):Int)=r at heq ⊢
 generalize ((y.val/6277101735386680763835789423207666416102355444464034512896%18446744073709551616:Nat):Int)=s at heq ⊢
 have hmk:=mk33
 generalize hT:(Array.replicate 33 0:Bs)=T
 go_enter Tryz.func32,Tryz.ntmps32
 go_wp2
 go_ret
 have hM:=made33 w (.cells #[.int .u64 a,.int .u64 b,.int .u64 c,.int .u64 d,.int .u64 p,.int .u64 q,.int .u64 r,.int .u64 s] 85)
 rw[hT] at hM
 exact ⟨_,rfl,below2 _ _ _,_,33,rfl,by omega,by omega,by simp,hM⟩
theorem grow33 (w:World) (k g m:Nat) (B:Bs) (hB:B.size=32) (hc:w.cell? ⟨k,0,none⟩=some (.int .u8 m)) (hH:Holds encB w g 0 B) (hm:m<256:=by decide) :
 ∃ (w':World) (cap:Nat),(Builtin.append_ #[23,23] 23 #[.slice (some ⟨k,0,none⟩) 1 1,.slice (some ⟨g,0,none⟩) 32 32]).run Tryz.prog w=.ok (.slice (some ⟨w.heap.size,0,none⟩) 33 cap) w'∧Below w.heap.size w w'∧33≤cap∧w.heap.size<w'.heap.size∧Holds encB w' w.heap.size 0 (#[UInt8.ofNat m]++B):=by
 obtain ⟨i,hi,hzz⟩:=Option.map_eq_some_iff.1 info5b
 simp only[Prod.mk.injEq] at hzz
 obtain ⟨hz,hs,hb⟩:=hzz
 have hap:=run_append_grow (P:=Tryz.prog) w 23 23 5 i (.int .u8 0) und23 hi hz ⟨k,0,none⟩ 1 1 [.int .u8 m] (by rw[hs];rfl) (fun j v hj=>by
  cases j with
  | zero =>
   obtain rfl:Value.int .u8 m=v:=by simpa using hj
   rw[Addr.add_mid]
   exact hc
  | succ j=>simp at hj) ⟨g,0,none⟩ 32 32 (B.toList.map encB) (by rw[hs,List.length_map,Array.length_toList,hB]) (fun j v hj=>by
  have hj':j<B.size:=by
   have:=(List.getElem?_eq_some_iff.1 hj).1
   rwa[List.length_map,Array.length_toList] at this
  rw[Addr.add_mid,(hH j hj').1]
  rw[List.getElem?_map,Array.getElem?_toList,Array.getElem?_eq_getElem hj'] at hj
  rw[getElem!_pos B j hj']
  exact hj) (by decide) (by decide) (by rw[hb];decide)
 refine ⟨_,_,hap,?_,?_,?_,?_⟩
 ·exact (Below.refl _ w).drew.trans (below1 w.drew _)
 ·exact grownCap_ge w (1+32) 1 5
 ·show w.drew.heap.size<(w.drew.alloc _).heap.size
  rw[World.size_alloc]
  exact Nat.lt_succ_self _
 ·intro j hj
  have hsz:(#[UInt8.ofNat m]++B).size=33:=by rw[Array.size_append,hB];rfl
  have hj':j<33:=by rw[← hsz];exact hj
  refine ⟨?_,World.frozen?_alloc_new w.drew _ _ _⟩
  show (w.drew.alloc _).cell? ⟨w.drew.heap.size,0+j,none⟩=_
  rw[Nat.zero_add,World.cell?_alloc_new,getElem!_pos _ j hj,Array.getElem?_append_left (by
   rw[Array.size_append,List.size_toArray,List.size_toArray,List.length_map,Array.length_toList]
   show j<1+B.size
   omega)]
  cases j with
  | zero =>
   rw[Array.getElem?_append_left (by simp),Array.getElem_append_left (by simp)]
   show some (Value.int .u8 m)=some (encB (UInt8.ofNat m))
   unfold encB
   rw[ub_ofNat,Nat.mod_eq_of_lt hm]
  | succ i =>
   rw[Array.getElem?_append_right (by simp),Array.getElem_append_right (by simp),List.getElem?_toArray,List.getElem?_map,Array.getElem?_toList]
   show Option.map encB B[i]? = some (encB B[i])
   rw[Array.getElem?_eq_getElem (by omega)]
   rfl
theorem keptP (w:World) (a b c d p q r s:Nat):Kept w w.heap.size [⟨w.heap.size,0,a,b,c,d⟩,⟨w.heap.size,4,p,q,r,s⟩] (w.alloc (.cells #[.int .u64 a,.int .u64 b,.int .u64 c,.int .u64 d,.int .u64 p,.int .u64 q,.int .u64 r,.int .u64 s] 85)):=by
 have F:=At8.made w 85 a b c d p q r s rfl
 refine ((Kept.mk1 (below1 w _) (below1 w _).size).cons ?_).cons ?_
 ·exact ⟨F.c4,F.c5,F.c6,F.c7,F.fz⟩
 ·exact ⟨F.c0,F.c1,F.c2,F.c3,F.fz⟩
theorem bytes_odd (C:Fld P) (x y:Fin P) (hz:¬ (x=0∧y=0)) (ho:y.val%2=1) (w:World):Calls Tryz.prog 32 #[pv x y] w (Ret fun e w'=>Below w.heap.size w w'∧BytesR w (#[3]++bx x.val) e w'):=by
 have heq:=eqPt_f C (x:=x) (y:=y) (z:=0) (t:=0) hz
 rw[← zero_pv,pv_words] at heq
 rw[pv_words]
 have hO:∀ w,Calls Tryz.prog 74 #[.agg #[.int .u64 ((y.val%18446744073709551616:Nat):Int),.int .u64 ((y.val/18446744073709551616%18446744073709551616:Nat):Int),.int .u64 ((y.val/340282366920938463463374607431768211456%18446744073709551616:Nat):Int),.int .u64 ((y.val/6277101735386680763835789423207666416102355444464034512896%18446744073709551616:Nat):Int)]] w (Ret fun e w'=>Below w.heap.size w w'∧e=.bool true):=fun w=>by
  have h:=Odd_c C y w
  rw[decide_eq_true ho] at h
  exact h
 have hBy:∀ w,Calls Tryz.prog 75 #[.agg #[.int .u64 ((x.val%18446744073709551616:Nat):Int),.int .u64 ((x.val/18446744073709551616%18446744073709551616:Nat):Int),.int .u64 ((x.val/340282366920938463463374607431768211456%18446744073709551616:Nat):Int),.int .u64 ((x.val/6277101735386680763835789423207666416102355444464034512896%18446744073709551616:Nat):Int)]] w (Ret fun e w'=>Below w.heap.size w w'∧∃ g,e=.slice (some ⟨g,0,none⟩) 32 32∧w.heap.size≤g∧Holds encB w' g 0 (bx x.val)):=Bytes_c C x
 have hbs:=bx_size x.val
 generalize bx x.val=B at hBy hbs ⊢
 generalize x.val%18446744073709551616=a at heq hO hBy ⊢
 generalize x.val/18446744073709551616%18446744073709551616=b at heq hO hBy ⊢
 generalize x.val/340282366920938463463374607431768211456%18446744073709551616=c at heq hO hBy ⊢
 generalize x.val/6277101735386680763835789423207666416102355444464034512896%18446744073709551616=d at heq hO hBy ⊢
 generalize y.val%18446744073709551616=p at heq hO hBy ⊢
 generalize y.val/18446744073709551616%18446744073709551616=q at heq hO hBy ⊢
 generalize y.val/340282366920938463463374607431768211456%18446744073709551616=r at heq hO hBy ⊢
 generalize y.val/6277101735386680763835789423207666416102355444464034512896%18446744073709551616=s at heq hO hBy ⊢
 have HQ:Hid (∀ w,(binOp .eql 85 _ _).run Tryz.prog w=_):=heq
 go_enter Tryz.func32,Tryz.ntmps32
 go_wp2_with fail
 have KP:=keptP w a b c d p q r s
 clear heq
 generalize World.alloc _ _=W0 at KP ⊢
 generalize hk:w.heap.size=k0 at KP ⊢
 refine (hO _).mono ?_
 rintro e w1 ⟨v,rfl,hb1,rfl⟩
 replace KP:=KP.call hb1
 clear hb1 HQ hO
 obtain ⟨xc0,xc1,xc2,xc3,xf⟩:=KP.head
 have zx:=KP.head.lt
 go_wp2_with fail
 refine (hBy _).mono ?_
 rintro e w2 ⟨v,rfl,hb2,g,rfl,hg,hH⟩
 have hc:w2.cell? ⟨w1.heap.size,0,none⟩=some (.int .u8 3):=by
  rw[hb2.cell (p:=⟨w1.heap.size,0,none⟩) (by show w1.heap.size<_;rw[World.size_alloc];omega),World.cell?_alloc_new]
  rfl
 have hle:k0≤w2.heap.size:=Nat.le_trans KP.le (Nat.le_trans (by rw[World.size_alloc];omega) hb2.size)
 have hbl:Hid (Below k0 w w2):=((KP.alloc _).call hb2).bl
 clear KP hb2 xc0 xc1 xc2 xc3 xf zx hg
 obtain ⟨W3,cp,hap,hb3,hcp,hsz3,hH3⟩:=grow33 w2 w1.heap.size g 3 B hbs hc hH
 generalize w1.heap.size=km at hap ⊢
 go_wp2_with (at_builtin;refine Lib.wpList_append_run _ rfl _ _ 23 23 rfl _ _ rfl rfl _ _ hap ?_)
 go_ret
 refine ⟨_,rfl,?_,_,cp,rfl,hcp,?_,hsz3,hH3⟩
 ·rw[hk];exact hbl.out.trans (hb3.mono hle)
 ·rw[hk];exact hle
theorem bytes_even (C:Fld P) (x y:Fin P) (hz:¬ (x=0∧y=0)) (ho:¬ y.val%2=1) (w:World):Calls Tryz.prog 32 #[pv x y] w (Ret fun e w'=>Below w.heap.size w w'∧BytesR w (#[2]++bx x.val) e w'):=by
 have heq:=eqPt_f C (x:=x) (y:=y) (z:=0) (t:=0) hz
 rw[← zero_pv,pv_words] at heq
 rw[pv_words]
 have hO:∀ w,Calls Tryz.prog 74 #[.agg #[.int .u64 ((y.val%18446744073709551616:Nat):Int),.int .u64 ((y.val/18446744073709551616%18446744073709551616:Nat):Int),.int .u64 ((y.val/340282366920938463463374607431768211456%18446744073709551616:Nat):Int),.int .u64 ((y.val/6277101735386680763835789423207666416102355444464034512896%18446744073709551616:Nat):Int)]] w (Ret fun e w'=>Below w.heap.size w w'∧e=.bool false):=fun w=>by
  have h:=Odd_c C y w
  rw[decide_eq_false ho] at h
  exact h
 have hBy:∀ w,Calls Tryz.prog 75 #[.agg #[.int .u64 ((x.val%18446744073709551616:Nat):Int),.int .u64 ((x.val/18446744073709551616%18446744073709551616:Nat):Int),.int .u64 ((x.val/340282366920938463463374607431768211456%18446744073709551616:Nat):Int),.int .u64 ((x.val/6277101735386680763835789423207666416102355444464034512896%18446744073709551616:Nat):Int)]] w (Ret fun e w'=>Below w.heap.size w w'∧∃ g,e=.slice (some ⟨g,0,none⟩) 32 32∧w.heap.size≤g∧Holds encB w' g 0 (bx x.val)):=Bytes_c C x
 have hbs:=bx_size x.val
 generalize bx x.val=B at hBy hbs ⊢
 generalize x.val%18446744073709551616=a at heq hO hBy ⊢
 generalize x.val/18446744073709551616%18446744073709551616=b at heq hO hBy ⊢
 generalize x.val/340282366920938463463374607431768211456%18446744073709551616=c at heq hO hBy ⊢
 generalize x.val/6277101735386680763835789423207666416102355444464034512896%18446744073709551616=d at heq hO hBy ⊢
 generalize y.val%18446744073709551616=p at heq hO hBy ⊢
 generalize y.val/18446744073709551616%18446744073709551616=q at heq hO hBy ⊢
 generalize y.val/340282366920938463463374607431768211456%18446744073709551616=r at heq hO hBy ⊢
 generalize y.val/6277101735386680763835789423207666416102355444464034512896%18446744073709551616=s at heq hO hBy ⊢
 have HQ:Hid (∀ w,(binOp .eql 85 _ _).run Tryz.prog w=_):=heq
 go_enter Tryz.func32,Tryz.ntmps32
 go_wp2_with fail
 have KP:=keptP w a b c d p q r s
 clear heq
 generalize World.alloc _ _=W0 at KP ⊢
 generalize hk:w.heap.size=k0 at KP ⊢
 refine (hO _).mono ?_
 rintro e w1 ⟨v,rfl,hb1,rfl⟩
 replace KP:=KP.call hb1
 clear hb1 HQ hO
 obtain ⟨xc0,xc1,xc2,xc3,xf⟩:=KP.head
 have zx:=KP.head.lt
 go_wp2_with fail
 refine (hBy _).mono ?_
 rintro e w2 ⟨v,rfl,hb2,g,rfl,hg,hH⟩
 have hc:w2.cell? ⟨w1.heap.size,0,none⟩=some (.int .u8 2):=by
  rw[hb2.cell (p:=⟨w1.heap.size,0,none⟩) (by show w1.heap.size<_;rw[World.size_alloc];omega),World.cell?_alloc_new]
  rfl
 have hle:k0≤w2.heap.size:=Nat.le_trans KP.le (Nat.le_trans (by rw[World.size_alloc];omega) hb2.size)
 have hbl:Hid (Below k0 w w2):=((KP.alloc _).call hb2).bl
 clear KP hb2 xc0 xc1 xc2 xc3 xf zx hg
 obtain ⟨W3,cp,hap,hb3,hcp,hsz3,hH3⟩:=grow33 w2 w1.heap.size g 2 B hbs hc hH
 generalize w1.heap.size=km at hap ⊢
 go_wp2_with (at_builtin;refine Lib.wpList_append_run _ rfl _ _ 23 23 rfl _ _ rfl rfl _ _ hap ?_)
 go_ret
 refine ⟨_,rfl,?_,_,cp,rfl,hcp,?_,hsz3,hH3⟩
 ·rw[hk];exact hbl.out.trans (hb3.mono hle)
 ·rw[hk];exact hle
theorem bytes_c (C:Fld P) (x y:Fin P) (w:World):Calls Tryz.prog 32 #[pv x y] w (Ret fun e w'=>Below w.heap.size w w'∧BytesR w (by33 x y) e w'):=by
 unfold by33 mark
 by_cases hz:x=0∧y=0
 ·rw[if_pos hz]
  exact bytes_zero C x y hz w
 ·rw[if_neg hz]
  by_cases ho:y.val%2=1
  ·rw[if_pos ho]
   exact bytes_odd C x y hz ho w
  ·rw[if_neg ho]
   exact bytes_even C x y hz ho w
theorem u23:(Tryz.prog.underlying 23).map (·.isRow)=some false:=by kernel_rfl
theorem at46 (k o n c i:Nat) (hi:i<n) (w:World):(Instr.indexAt 22 (.slice (some ⟨k,o,none⟩) n c) (.int .i64 i)).run Tryz.prog w=.ok (.pointer (some ⟨k,o+i,none⟩)) w:=by
 have h1:¬ (i:Int)<0:=by omega
 have h2:(i:Int)<n:=by omega
 go_simp
theorem mk112 (N:Nat) (hN:N≤512):∃ C0:List Value,C0.length=8*N∧∀ w:World,(Instr.makeSlice 92 (.int .i64 N) (.int .i64 N)).run Tryz.prog w=.ok (.slice (some ⟨w.heap.size,0,none⟩) N N) (w.alloc (.cells C0.toArray 85)):=by
 have hu:Tryz.prog.underlying 92=some (.slice 85):=by kernel_rfl
 have hi:(Tryz.prog.info? 85).map (fun i=>(i.size,decide (i.bytes≤4000),i.zero.isSome))=some (8,true,true):=by kernel_rfl
 obtain ⟨i,hi1,hi2⟩:=Option.map_eq_some_iff.1 hi
 simp only[Prod.mk.injEq,decide_eq_true_eq] at hi2
 obtain ⟨h1,h2,h3⟩:=hi2
 obtain ⟨z,hz⟩:=Option.isSome_iff_exists.1 h3
 refine ⟨(madeCells z.cells (N*8)).toList,by rw[Array.length_toList,size_madeCells,Nat.mul_comm],fun w=>?_⟩
 have hb:(i.bytes:Int)*(N:Int)≤281474976710656:=by
  have:i.bytes*N≤4000*512:=Nat.mul_le_mul h2 hN
  have h5:((i.bytes*N:Nat):Int)≤281474976710656:=by omega
  rwa[Int.natCast_mul] at h5
 have:=run_make (P:=Tryz.prog) w 92 85 i z hu hi1 hz .i64 .i64 (N:Int) (N:Int) (by omega) (by omega) hb (by omega)
 rw[Int.toNat_natCast,h1] at this
 rw[Array.toArray_toList]
 exact this
theorem mk82 (N:Nat) (hN:N≤512):∃ C0:List Value,C0.length=4*N∧∀ w:World,(Instr.makeSlice 81 (.int .i64 N) (.int .i64 N)).run Tryz.prog w=.ok (.slice (some ⟨w.heap.size,0,none⟩) N N) (w.alloc (.cells C0.toArray 50)):=by
 have hu:Tryz.prog.underlying 81=some (.slice 50):=by kernel_rfl
 have hi:(Tryz.prog.info? 50).map (fun i=>(i.size,decide (i.bytes≤4000),i.zero.isSome))=some (4,true,true):=by kernel_rfl
 obtain ⟨i,hi1,hi2⟩:=Option.map_eq_some_iff.1 hi
 simp only[Prod.mk.injEq,decide_eq_true_eq] at hi2
 obtain ⟨h1,h2,h3⟩:=hi2
 obtain ⟨z,hz⟩:=Option.isSome_iff_exists.1 h3
 refine ⟨(madeCells z.cells (N*4)).toList,by rw[Array.length_toList,size_madeCells,Nat.mul_comm],fun w=>?_⟩
 have hb:(i.bytes:Int)*(N:Int)≤281474976710656:=by
  have:i.bytes*N≤4000*512:=Nat.mul_le_mul h2 hN
  have h5:((i.bytes*N:Nat):Int)≤281474976710656:=by omega
  rwa[Int.natCast_mul] at h5
 have:=run_make (P:=Tryz.prog) w 81 50 i z hu hi1 hz .i64 .i64 (N:Int) (N:Int) (by omega) (by omega) hb (by omega)
 rw[Int.toNat_natCast,h1] at this
 rw[Array.toArray_toList]
 exact this
structure Rows (sz N:Nat) (cell:Nat→List Value) (m:Nat) (C:List Value):Prop where
 len:C.length=sz*N
 row:∀ j r,j<m→r<sz→C[sz*j+r]? = (cell j)[r]?
theorem Rows.next {sz N m:Nat} {cell:Nat→List Value} {C:List Value} (h:Rows sz N cell m C) (hm:m<N) (hc:(cell m).length=sz):Rows sz N cell (m+1) (RG.rep C (0+sz*m) (cell m)):=by
 have hlen:=h.len
 have hb:sz*m+sz≤sz*N:=by rw[← Nat.mul_succ];exact Nat.mul_le_mul_left _ hm
 have hl:0+sz*m+(cell m).length≤C.length:=by rw[hc];omega
 refine ⟨by rw[RG.rep_length hl];exact hlen,fun j r hj hr=>?_⟩
 rw[RG.rep_at hl]
 by_cases hjm:j=m
 ·subst hjm
  rw[if_pos (by rw[hc];omega),show sz*j+r-(0+sz*j)=r by omega]
 ·have h2:sz*j+sz≤sz*m:=by rw[← Nat.mul_succ];exact Nat.mul_le_mul_left _ (by omega)
  rw[if_neg (by rw[hc];omega)]
  exact h.row j r (by omega) hr
def rq (N:Nat) (bs:Bs):Option Nat:=if bs.size=32∧beV bs.toList<N then some (beV bs.toList) else none
def rqV:Option Nat→Value
 | none=>.tuple #[nv 0,.bool false]
 | some n=>.tuple #[nv n,.bool true]
theorem Scalars_c:Gives 41 #[] gv1:=fun w=>(Scalars_any w).mono (by rintro e w' ⟨rfl,rfl⟩;exact ⟨_,rfl,below1 _ _,rfl⟩)
theorem readQ_c {N:Nat} (hG:Gap 4624529908474429119 4994812053365940164 1 N) (v:Value) (bs:Bs) (w:World) (hv:Arg w v bs):Calls Tryz.prog 42 #[gv1,v] w (Ret fun e w'=>Below w.heap.size w w'∧e=rqV (rq N bs)):=by
 obtain ⟨p,n,cap,rfl,hs,h1⟩:=hv
 unfold rq
 by_cases hn:n=32
 ·subst hn
  obtain ⟨g,o,rfl,h4,h6,h7⟩:=h1 rfl
  refine (Read_any _ _ _ N g o cap bs hG w hs h4 h6 h7).mono ?_
  rintro e w' ⟨v,rfl,hb,⟨hl,v',rfl,h8⟩|⟨hl,rfl⟩⟩
  ·rw[if_pos ⟨hs,hl⟩]
   exact ⟨_,rfl,hb,by rw[h8.nv];rfl⟩
  ·rw[if_neg (fun h=>by omega)]
   exact ⟨_,rfl,hb,rfl⟩
 ·refine (Read_len _ p n cap w _ _ _ rfl hn).mono ?_
  rintro e w' ⟨v,rfl,hb,rfl⟩
  rw[if_neg (fun h=>hn (hs.symm.trans h.1))]
  exact ⟨_,rfl,hb,rfl⟩
end
section
open Go.RowKit Go.Sort
variable {P:Nat} [NeZero P] {N:Nat}
structure RefP (p0 p1 p2 p3 c0 c1 c2 c3 P:Nat):Prop where
 hp0:p0<18446744073709551616
 hp1:p1<18446744073709551616
 hp2:p2<18446744073709551616
 hp3:p3<18446744073709551616
 hc0:c0<18446744073709551616
 hc1:c1<18446744073709551616
 hc2:c2<18446744073709551616
 hc3:c3<18446744073709551616
 eP:P=val p0 p1 p2 p3
 hP:P+val c0 c1 c2 c3=top
 hP2:top<2*P
theorem refP1:RefP 13822214165235122497 13451932020343611451 18446744073709551614 18446744073709551615 4624529908474429119 4994812053365940164 1 0 Go.Proofs.YtnfpdihkjkimiaaGreat.p1:=
 ⟨by decide,by decide,by decide,by decide,by decide,by decide,by decide,by decide,by decide +kernel,by decide +kernel,by decide +kernel⟩
def Eight (v:Value) (n:Nat):Prop:=∃ a b c d a' b' c' d':Nat,v=.agg #[.int .u64 a,.int .u64 b,.int .u64 c,.int .u64 d,.int .u64 a',.int .u64 b',.int .u64 c',.int .u64 d'] ∧
 a<18446744073709551616∧b<18446744073709551616∧c<18446744073709551616∧d<18446744073709551616∧a'<18446744073709551616∧b'<18446744073709551616∧c'<18446744073709551616∧d'<18446744073709551616 ∧
 n=val a b c d+top*val a' b' c' d'
end
section
open Go.RowKit Go.Sort
section
variable {w w0:World} {k a b c d e f g h j B:Nat}
end
end
section
open Go.RowKit Go.Sort
variable {P:Nat} [NeZero P] {N:Nat}
end
section
open Go.RowKit Go.Sort Go.Deep
variable {P:Nat} [NeZero P] {N:Nat}
def wordOf (a b c d k:Nat):Nat:=if k<8 then a else if k<16 then b else if k<24 then c else d
end
section
open Go.RowKit Go.Sort Go.Deep
structure Ord (N:Nat):Prop where
 gap:Gap 4624529908474429119 4994812053365940164 1 N
 ref:RefP 13822214165235122497 13451932020343611451 18446744073709551614 18446744073709551615 4624529908474429119 4994812053365940164 1 0 N
 le:N≤top
 n2:2≤N%18446744073709551616
variable {N:Nat}
theorem Ord.pos (O:Ord N):0<N:=by have:=O.n2;omega
theorem Ord.four (O:Ord N) {a:Nat} (h:a<N):Four (nv a) a:=four_nv (Nat.lt_of_lt_of_le h O.le)
def sMi (N a b:Nat):Nat:=(a+N-b)%N
def sTi (N a b:Nat):Nat:=a*b%N
def sIn (N a:Nat):Nat:=a^(N-2)%N
theorem sMinus_c (O:Ord N) {a b:Nat} (ha:a<N) (hb:b<N):Gives 163 #[gv1,nv a,nv b] (nv (sMi N a b)):=fun w =>
 (Minus_any _ _ _ N _ _ a b O.gap (O.four ha) (O.four hb) ha hb w).mono (by rintro e w' ⟨v,rfl,hb,hF⟩;exact ⟨_,rfl,hb,hF.nv⟩)
theorem sTimes_c (O:Ord N) {a b:Nat} (ha:a<N) (hb:b<N):Gives 113 #[gv1,nv a,nv b] (nv (sTi N a b)):=fun w =>
 (Times_any _ _ _ N _ _ a b O.gap (O.four ha) (O.four hb) w).mono (by rintro e w' ⟨v,rfl,hb,hF⟩;exact ⟨_,rfl,hb,hF.nv⟩)
theorem sInv_c (O:Ord N) {a:Nat} (ha:a<N):Gives 108 #[gv1,nv a] (nv (sIn N a)):=fun w =>
 (Inverse_any _ _ _ N _ a O.gap O.n2 (O.four ha) w).mono (by rintro e w' ⟨v,rfl,hb,hF⟩;exact ⟨_,rfl,hb,hF.nv⟩)
theorem nv_words {a x y z u:Nat} (h:nv a=.agg #[.int .u64 x,.int .u64 y,.int .u64 z,.int .u64 u]):be32 x y z u=bx a:=by
 have h1:wn a=[.int .u64 x,.int .u64 y,.int .u64 z,.int .u64 u]:=by
  unfold nv at h
  injection h with h
  exact congrArg Array.toList h
 unfold wn at h1
 simp only[List.cons.injEq,Value.int.injEq,true_and,and_true,Int.natCast_inj] at h1
 obtain ⟨rfl,rfl,rfl,rfl⟩:=h1
 rfl
def cb (b:Bs):List Value:=b.toList.map encB
theorem cb_length (b:Bs):(cb b).length=b.size:=by unfold cb;rw[List.length_map,Array.length_toList]
theorem cb_range {w:World} {g:Nat} {b:Bs} (h:Holds encB w g 0 b):w.rangeAt g 0 (cb b)∧w.there g 0 (cb b).length:=by
 refine ⟨fun j v hv=>?_,fun j hj=>?_⟩
 ·have hj:j<b.size:=by rw[← cb_length];exact (List.getElem?_eq_some_iff.1 hv).1
  rw[(h j hj).1]
  unfold cb at hv
  rw[List.getElem?_map,Array.getElem?_toList,Array.getElem?_eq_getElem hj] at hv
  rw[getElem!_pos b j hj]
  exact hv
 ·rw[cb_length] at hj
  exact ⟨by rw[(h j hj).1];rfl,(h j hj).2⟩
theorem cb_holds {w:World} {g:Nat} {b:Bs} (h1:w.rangeAt g 0 (cb b)) (h2:w.there g 0 (cb b).length):Holds encB w g 0 b:=fun j hj=>by
 refine ⟨h1 j _ ?_,(h2 j (by rw[cb_length];exact hj)).2⟩
 unfold cb
 rw[List.getElem?_map,Array.getElem?_toList,Array.getElem?_eq_getElem hj,getElem!_pos b j hj]
 rfl
def GivesB (f:FuncId) (args:Array Value) (b:Bs) (n:Nat):Prop:=∀ w,Calls Tryz.prog f args w (Ret fun e w'=>∃ k,RG.Made w k (cb b) w'∧e=.slice (some ⟨k,0,none⟩) n n)
theorem sBytes_c (O:Ord N) {a:Nat} (ha:a<N):GivesB 75 #[nv a] (bx a) 32:=fun w =>
 (Bytes_any _ a w (O.four ha)).mono (by
  rintro e w' ⟨v,rfl,hb,g,x,y,z,u,rfl,hle,he,hH⟩
  rw[nv_words he] at hH
  obtain ⟨h1,h2⟩:=cb_range hH
  exact ⟨_,rfl,g,⟨hb,hle,Holds.lt hH (by rw[bx_size];omega),h1,h2⟩,rfl⟩)
end
section
open Go.RowKit Go.Sort Go.Deep
variable {P:Nat} [NeZero P] {N:Nat}
theorem eqS2 (a b c d p q r s:Nat) (w:World):(binOp .eql 52 (.agg #[.int .u64 a,.int .u64 b,.int .u64 c,.int .u64 d]) (.agg #[.int .u64 p,.int .u64 q,.int .u64 r,.int .u64 s])).run Tryz.prog w=.ok (.bool (decide (a=p∧b=q∧c=r∧d=s))) w:=by
 go_simp
 rw[eqP_d 9997,Result.andThen_ok]
 by_cases h1:a=p∧b=q∧c=r∧d=s
 ·rw[decide_eq_true h1]
  obtain ⟨rfl,rfl,rfl,rfl⟩:=h1
  simp
 ·have h2:(decide (a=p) && (decide (b=q) && (decide (c=r) && decide (d=s))))=false:=by
   rw[← Bool.not_eq_true,Bool.and_eq_true,Bool.and_eq_true,Bool.and_eq_true]
   simpa using h1
  rw[decide_eq_false h1,h2]
  simp
theorem eqS {a b:Nat} (ha:a<top) (hb:b<top) (w:World):(binOp .eql 52 (nv a) (nv b)).run Tryz.prog w=.ok (.bool (decide (a=b))) w:=by
 refine (eqS2 (a%18446744073709551616) (a/18446744073709551616%18446744073709551616) (a/340282366920938463463374607431768211456%18446744073709551616) (a/6277101735386680763835789423207666416102355444464034512896%18446744073709551616) (b%18446744073709551616) (b/18446744073709551616%18446744073709551616) (b/340282366920938463463374607431768211456%18446744073709551616) (b/6277101735386680763835789423207666416102355444464034512896%18446744073709551616) w).trans ?_
 simp only[wn_inj ha hb]
theorem u40:(Tryz.prog.underlying 52).map (·.isRow)=some true:=by kernel_rfl
theorem i40:(Tryz.prog.info? 52).map (·.size)=some 4:=by kernel_rfl
theorem u38:(Tryz.prog.underlying 50).map (·.isRow)=some true:=by kernel_rfl
theorem i38:(Tryz.prog.info? 50).map (·.size)=some 4:=by kernel_rfl
theorem sMin_c (O:Ord N) (a b:Nat) (ha:a<N) (hb:b<N):Gives 134 #[(nv a),(nv b)] (nv (sMi N a b)):=by
 intro w
 go_enter Tryz.func134,Tryz.ntmps134
 refine RG.M.enter [(0,(.v (nv a))),(1,(.v (nv b)))] 12 (by kernel_rfl) ?_
 intro a0 M0
 repeat refine wp_seq ?_
 refine M0.t [.m 2 [] 0,.m 3 [] 1,.m 4 [] 2] [(0,(wn a)),(1,(wn b)),(2,(RG.z 4))] [] [(wn a),(wn b),(RG.z 4)] [(2,(.p 0 0)),(3,(.p 1 0)),(4,(.p 2 0))] ⟨RG.mk 0 52,RG.mk 1 52,RG.mk 2 52,trivial⟩ ?_
 intro j1 i1 m1 a1 w1 M1
 repeat refine wp_seq ?_
 refine M1.d [.c 5 [] gv1,.s 6 [] (.p 0 0),.x 7 [(6,1)] (nv a),.s 8 [] (.p 1 0),.x 9 [(8,3)] (nv b),.c 10 [(5,0),(7,2),(9,4)] (nv (sMi N a b)),.x 11 [(10,5)] (nv (sMi N a b)),.u [(11,6)] 2] [] [(2,7,(wn (sMi N a b)))] [(wn a),(wn b),(wn (sMi N a b))] [(4,(.p 2 0))] ⟨RG.cl (Scalars_c),RG.st,RG.ld u38 i38,RG.st,RG.ld u38 i38,RG.cl (sMinus_c O ha hb),RG.st,RG.pt i40,trivial⟩ ?_
 intro a2 w2 M2
 refine wp_ret ?_
 refine bodyPost_ret (v:=(nv (sMi N a b))) (RG.results_row M2.st 4 52 rfl 2 _ rfl (M2.at (s:=(.p 2 0))) u40 i40) M2.sl.defers ?_
 exact ⟨_,rfl,M2.st.bel.below,rfl⟩
theorem sTim_c (O:Ord N) (a b:Nat) (ha:a<N) (hb:b<N):Gives 61 #[(nv a),(nv b)] (nv (sTi N a b)):=by
 intro w
 go_enter Tryz.func61,Tryz.ntmps61
 refine RG.M.enter [(0,(.v (nv a))),(1,(.v (nv b)))] 12 (by kernel_rfl) ?_
 intro a0 M0
 repeat refine wp_seq ?_
 refine M0.t [.m 2 [] 0,.m 3 [] 1,.m 4 [] 2] [(0,(wn a)),(1,(wn b)),(2,(RG.z 4))] [] [(wn a),(wn b),(RG.z 4)] [(2,(.p 0 0)),(3,(.p 1 0)),(4,(.p 2 0))] ⟨RG.mk 0 52,RG.mk 1 52,RG.mk 2 52,trivial⟩ ?_
 intro j1 i1 m1 a1 w1 M1
 repeat refine wp_seq ?_
 refine M1.d [.c 5 [] gv1,.s 6 [] (.p 0 0),.x 7 [(6,1)] (nv a),.s 8 [] (.p 1 0),.x 9 [(8,3)] (nv b),.c 10 [(5,0),(7,2),(9,4)] (nv (sTi N a b)),.x 11 [(10,5)] (nv (sTi N a b)),.u [(11,6)] 2] [] [(2,7,(wn (sTi N a b)))] [(wn a),(wn b),(wn (sTi N a b))] [(4,(.p 2 0))] ⟨RG.cl (Scalars_c),RG.st,RG.ld u38 i38,RG.st,RG.ld u38 i38,RG.cl (sTimes_c O ha hb),RG.st,RG.pt i40,trivial⟩ ?_
 intro a2 w2 M2
 refine wp_ret ?_
 refine bodyPost_ret (v:=(nv (sTi N a b))) (RG.results_row M2.st 4 52 rfl 2 _ rfl (M2.at (s:=(.p 2 0))) u40 i40) M2.sl.defers ?_
 exact ⟨_,rfl,M2.st.bel.below,rfl⟩
theorem sInv2_c (O:Ord N) (a:Nat) (ha:a<N):Gives 54 #[(nv a)] (nv (sIn N a)):=by
 intro w
 go_enter Tryz.func54,Tryz.ntmps54
 refine RG.M.enter [(0,(.v (nv a)))] 8 (by kernel_rfl) ?_
 intro a0 M0
 repeat refine wp_seq ?_
 refine M0.t [.m 1 [] 0,.m 2 [] 1] [(0,(wn a)),(1,(RG.z 4))] [] [(wn a),(RG.z 4)] [(1,(.p 0 0)),(2,(.p 1 0))] ⟨RG.mk 0 52,RG.mk 1 52,trivial⟩ ?_
 intro j1 i1 a1 w1 M1
 repeat refine wp_seq ?_
 refine M1.d [.c 3 [] gv1,.s 4 [] (.p 0 0),.x 5 [(4,1)] (nv a),.c 6 [(3,0),(5,2)] (nv (sIn N a)),.x 7 [(6,3)] (nv (sIn N a)),.u [(7,4)] 1] [] [(1,5,(wn (sIn N a)))] [(wn a),(wn (sIn N a))] [(2,(.p 1 0))] ⟨RG.cl (Scalars_c),RG.st,RG.ld u38 i38,RG.cl (sInv_c O ha),RG.st,RG.pt i40,trivial⟩ ?_
 intro a2 w2 M2
 refine wp_ret ?_
 refine bodyPost_ret (v:=(nv (sIn N a))) (RG.results_row M2.st 2 52 rfl 1 _ rfl (M2.at (s:=(.p 1 0))) u40 i40) M2.sl.defers ?_
 exact ⟨_,rfl,M2.st.bel.below,rfl⟩
theorem sread_m (v:Value) (m:Nat) (ok:Bool) (w:World) (hrd:∀ w',RG.BelX w.heap.size [] w w'→Calls Tryz.prog 42 #[gv1,v] w' (Ret fun e w''=>Below w'.heap.size w' w''∧e=.tuple #[nv m,.bool ok])) :
 Calls Tryz.prog 16 #[v] w (Ret fun e w'=>Below w.heap.size w w'∧e=.tuple #[nv m,.bool ok]):=by
 go_enter Tryz.func16,Tryz.ntmps16
 refine RG.M.enter [(0,.v v)] 15 (by kernel_rfl) ?_
 intro a0 M0
 repeat refine wp_seq ?_
 refine M0.t [.m 2 [] 0,.x 3 [] (.bool false)] [(0,(RG.z 4))] [] [(RG.z 4)] [(0,(.v v)),(2,(.p 0 0)),(3,(.v (.bool false)))] ⟨RG.mk 0 52,RG.st,trivial⟩ ?_
 intro j1 a1 w1 M1
 repeat refine wp_seq ?_
 refine M1.t [.c 7 [] gv1,.x 8 [] v,.c 9 [(7,0),(8,1)] (.tuple #[(nv m),(.bool ok)]),.x 6 [(9,2)] (.tuple #[(nv m),(.bool ok)]),.x 10 [(6,3)] (nv m),.x 11 [(6,3)] (.bool ok),.m 4 [] 1,.u [(4,6),(10,4)] 1,.x 5 [(11,5)] (.bool ok)] [(6,(RG.z 4))] [(1,7,(wn m))] [(RG.z 4),(wn m)] [(2,(.p 0 0)),(3,(.v (.bool false))),(4,(.p 1 0)),(5,(.v (.bool ok)))] ⟨RG.cl (Scalars_c),RG.st,RG.clB (fun _ _=>by kernel_rfl) hrd,RG.st,RG.st,RG.st,RG.mk 1 50,RG.pt i38,RG.st,trivial⟩ ?_
 intro j2 a2 w2 M2
 repeat refine wp_seq ?_
 refine M2.t [.x 12 [] (nv m),.x 13 [(12,0)] (nv m),.x 14 [] (.bool ok),.u [(13,1)] 0,.x 3 [(14,2)] (.bool ok)] [] [(0,3,(wn m))] [(wn m),(wn m)] [(2,(.p 0 0)),(3,(.v (.bool ok)))] ⟨RG.ld u38 i38,RG.st,RG.st,RG.pt i40,RG.st,trivial⟩ ?_
 intro a3 w3 M3
 refine wp_ret ?_
 refine bodyPost_ret (v:=.tuple #[nv m,.bool ok]) (RG.results_rt M3.st 2 3 52 rfl 0 _ rfl (M3.at (s:=.p 0 0)) _ (M3.av (v:=.bool ok) (by kernel_rfl)) u40 i40) M3.sl.defers ?_
 exact ⟨_,rfl,M3.st.bel.below,rfl⟩
theorem sread_c (O:Ord N) (v:Value) (bs:Bs) (w:World) (hv:Arg w v bs):Calls Tryz.prog 16 #[v] w (Ret fun e w'=>Below w.heap.size w w'∧e=.tuple #[nv ((rq N bs).getD 0),.bool (rq N bs).isSome]):=by
 refine sread_m v _ _ w fun w' hb=>?_
 have h:=readQ_c O.gap v bs w' (hv.below hb.below)
 cases hr:rq N bs with
 | none=>rw[hr] at h;exact h
 | some n=>rw[hr] at h;exact h
theorem sbytes_c (O:Ord N) {a:Nat} (ha:a<N):GivesB 50 #[nv a] (bx a) 32:=by
 intro w
 go_enter Tryz.func50,Tryz.ntmps50
 refine RG.M.enter [(0,.v (nv a))] 6 (by kernel_rfl) ?_
 intro a0 M0
 repeat refine wp_seq ?_
 refine M0.t [.m 1 [] 0,.x 2 [] (.slice none 0 0)] [(0,(wn a))] [] [(wn a)] [(1,(.p 0 0)),(2,(.v (.slice none 0 0)))] ⟨RG.mk 0 52,RG.st,trivial⟩ ?_
 intro j1 a1 w1 M1
 repeat refine wp_seq ?_
 refine M1.t [.s 3 [] (.p 0 0),.x 4 [(3,0)] (nv a),⟨some 5,[(4,1)],(.s 1 32 32),.make 1⟩,.s 2 [(5,2)] (.s 1 32 32)] [(2,(cb (bx a)))] [] [(wn a),(cb (bx a))] [(2,(.s 1 32 32))] ⟨RG.st,RG.ld u38 i38,RG.cm 1 (fun w _=>sBytes_c O ha w) fun _ _=>by kernel_rfl,RG.st,trivial⟩ ?_
 intro j2 a2 w2 M2
 refine wp_ret ?_
 refine bodyPost_ret (v:=_) (RG.results_t 2 rfl _ (M2.at (s:=.s 1 32 32))) M2.sl.defers ?_
 exact ⟨_,rfl,_,M2.st.made (b:=1) rfl,rfl⟩
end
namespace SP
open Go.RowKit
theorem lt64 (x:BitVec 64):(x.toNat:Int)<18446744073709551616:=by
 have:=x.isLt
 omega
theorem ofInt_toNat64 (x:BitVec 64):BitVec.ofInt 64 (x.toNat:Int)=x:=by
 apply BitVec.eq_of_toNat_eq
 rw[BitVec.ofInt_natCast,BitVec.toNat_ofNat]
 exact Nat.mod_eq_of_lt x.isLt
theorem wrap_u64_toNat (x:BitVec 64):IntKind.u64.wrap (x.toNat:Int)=x.toNat:=by
 rw[IntKind.wrap_u64]
 have:=lt64 x
 exact Int.emod_eq_of_lt (by omega) this
def u (v:BitVec 64):Int:=(v.toNat:Int)
theorem bits_xor64 (a b:BitVec 64):bits .xor .u64 (u a) (u b)=u (a ^^^ b):=by
 show IntKind.u64.wrap ((BitVec.ofInt 64 (a.toNat:Int) ^^^ BitVec.ofInt 64 (b.toNat:Int)).toNat:Int)=_
 rw[ofInt_toNat64,ofInt_toNat64,wrap_u64_toNat]
 rfl
theorem bits_and64 (a b:BitVec 64):bits .and .u64 (u a) (u b)=u (a &&& b):=by
 show IntKind.u64.wrap ((BitVec.ofInt 64 (a.toNat:Int) &&& BitVec.ofInt 64 (b.toNat:Int)).toNat:Int)=_
 rw[ofInt_toNat64,ofInt_toNat64,wrap_u64_toNat]
 rfl
theorem bits_or64 (a b:BitVec 64):bits .or .u64 (u a) (u b)=u (a ||| b):=by
 show IntKind.u64.wrap ((BitVec.ofInt 64 (a.toNat:Int) ||| BitVec.ofInt 64 (b.toNat:Int)).toNat:Int)=_
 rw[ofInt_toNat64,ofInt_toNat64,wrap_u64_toNat]
 rfl
theorem bits_not64 (a:BitVec 64):bits .xor .u64 IntKind.u64.max (u a)=u (~~~a):=by
 have e:IntKind.u64.max=u (BitVec.allOnes 64):=by decide +kernel
 rw[e,bits_xor64,BitVec.allOnes_xor]
theorem and63 (k:Nat) (hk:k<64):bits .and .u64 (k:Int) 63=k:=by
 have h:∀ j:Fin 64,bits .and .u64 ((j.val:Nat):Int) 63=(j.val:Int):=by decide +kernel
 exact h ⟨k,hk⟩
theorem shl64 (x:BitVec 64) (k:Nat):IntKind.u64.wrap (u x*2^k)=u (x <<< k):=by
 unfold u
 rw[IntKind.wrap_u64,BitVec.toNat_shiftLeft,Nat.shiftLeft_eq,Int.natCast_emod,Int.natCast_mul,Int.natCast_pow]
 rfl
theorem shr64 (x:BitVec 64) (k:Nat):u x/2^k=u (x >>> k):=by
 unfold u
 rw[BitVec.toNat_ushiftRight,Nat.shiftRight_eq_div_pow,Int.natCast_ediv,Int.natCast_pow]
 rfl
def rol (w:BitVec 64) (n:Nat):BitVec 64:=w <<< n ||| w >>> (64-n)
abbrev St:=Array (BitVec 64)
def enc (v:BitVec 64):Value:=.int .u64 (u v)
def colsum (d:St) (x:Nat):BitVec 64:=d[x]! ^^^ d[x+5]! ^^^ d[x+10]! ^^^ d[x+15]! ^^^ d[x+20]!
def sumsTo (d:St):Nat→St
 | 0=>#[0,0,0,0,0]
 | k+1=>(sumsTo d k).setIfInBounds k (colsum d k)
def xorAt (d:St) (i:Nat) (v:BitVec 64):St:=d.setIfInBounds i (d[i]! ^^^ v)
def innerTo (v:BitVec 64) (x:Nat) (d:St):Nat→St
 | 0=>d
 | m+1=>xorAt (innerTo v x d m) (x+5*m) v
def dcol (s:St) (x:Nat):BitVec 64:=s[(x+4)%5]! ^^^ rol s[(x+1)%5]! 1
def thetaTo (s d:St):Nat→St
 | 0=>d
 | k+1=>innerTo (dcol s k) k (thetaTo s d k) 5
def theta (d:St):St:=thetaTo (sumsTo d 5) d 5
theorem xorAt_size (d:St) (i:Nat) (v:BitVec 64):(xorAt d i v).size=d.size:=by simp[xorAt]
theorem sumsTo_size (d:St) (k:Nat):(sumsTo d k).size=5:=by
 induction k with
 | zero=>rfl
 | succ k ih=>simp[sumsTo,ih]
theorem innerTo_size (v:BitVec 64) (x:Nat) (d:St) (m:Nat):(innerTo v x d m).size=d.size:=by
 induction m with
 | zero=>rfl
 | succ k ih=>simp[innerTo,xorAt_size,ih]
theorem thetaTo_size (s d:St) (m:Nat):(thetaTo s d m).size=d.size:=by
 induction m with
 | zero=>rfl
 | succ k ih=>simp[thetaTo,innerTo_size,ih]
structure Tm where
 x:Nat
 y:Nat
 m:BitVec 64
 d:St
def offs (t:Nat):Nat:=(t+1)*(t+2)/2%64
def tmStep (t:Nat) (s:Tm):Tm:=
 { x:=s.y,y:=(2*s.x+3*s.y)%5,m:=s.d[s.y+5*((2*s.x+3*s.y)%5)]!,d:=s.d.setIfInBounds (s.y+5*((2*s.x+3*s.y)%5)) (rol s.m (offs t)) }
def tmTo (d:St):Nat→Tm
 | 0=>{ x:=1,y:=0,m:=d[1]!,d:=d }
 | t+1=>tmStep t (tmTo d t)
def rhopi (d:St):St:=(tmTo d 24).d
theorem tmTo_ok (d:St) (hd:d.size=25) (t:Nat):(tmTo d t).x<5∧(tmTo d t).y<5∧(tmTo d t).d.size=25:=by
 induction t with
 | zero=>exact ⟨show 1<5 by decide,show 0<5 by decide,hd⟩
 | succ t ih =>
  obtain ⟨h1,h2,h3⟩:=ih
  refine ⟨h2,?_,?_⟩
  ·show (2*(tmTo d t).x+3*(tmTo d t).y)%5<5
   omega
  ·show ((tmTo d t).d.setIfInBounds _ _).size=25
   rw[Array.size_setIfInBounds,h3]
def rowAt (d:St) (i:Nat):St:=
 xorAt (xorAt (xorAt (xorAt (xorAt d i (~~~d[i+1]! &&& d[i+2]!)) (i+1) (~~~d[i+2]! &&& d[i+3]!)) (i+2) (~~~d[i+3]! &&& d[i+4]!)) (i+3) (~~~d[i+4]! &&& d[i]!)) (i+4) (~~~d[i]! &&& d[i+1]!)
def chiTo (d:St):Nat→St
 | 0=>d
 | k+1=>rowAt (chiTo d k) (5*k)
def chi (d:St):St:=chiTo d 5
theorem rowAt_size (d:St) (i:Nat):(rowAt d i).size=d.size:=by simp[rowAt,xorAt_size]
theorem chiTo_size (d:St) (k:Nat):(chiTo d k).size=d.size:=by
 induction k with
 | zero=>rfl
 | succ k ih=>simp[chiTo,rowAt_size,ih]
end SP
namespace SP
open Go.RowKit
def rcReg (r:Nat):Nat:=if 255<2*r then (2*r) ^^^ 369 else 2*r
def rcTo (r:Nat):Nat→BitVec 64 × Nat
 | 0=>(0,r)
 | j+1=>((rcTo r j).1 ||| BitVec.ofNat 64 ((rcTo r j).2%2) <<< (2^j-1),rcReg (rcTo r j).2)
theorem rcReg_lt (r:Nat) (h:r<256):rcReg r<256:=by
 have H:∀ j:Fin 256,rcReg j.val<256:=by decide +kernel
 exact H ⟨r,h⟩
theorem rcTo_lt (r:Nat) (h:r<256) (j:Nat):(rcTo r j).2<256:=by
 induction j with
 | zero=>exact h
 | succ j ih=>exact rcReg_lt _ ih
theorem rc_xor (r:Nat) (h:r<256):bits .xor .i64 ((r:Int)*2) 369=(((2*r) ^^^ 369:Nat):Int):=by
 have H:∀ j:Fin 256,bits .xor .i64 ((j.val:Int)*2) 369=(((2*j.val) ^^^ 369:Nat):Int):=by decide +kernel
 exact H ⟨r,h⟩
theorem rc_and (r:Nat) (h:r<256):bits .and .i64 (r:Int) 1=u (BitVec.ofNat 64 (r%2)):=by
 have H:∀ j:Fin 256,bits .and .i64 (j.val:Int) 1=u (BitVec.ofNat 64 (j.val%2)):=by decide +kernel
 exact H ⟨r,h⟩
theorem wrap_u (x:BitVec 64):IntKind.u64.wrap (u x)=u x:=wrap_u64_toNat x
def kround (d:St) (c:BitVec 64):St:=xorAt (chi (rhopi (theta d))) 0 c
def rcC (r:Nat):BitVec 64:=(rcTo r 7).1
def rcN (r:Nat):Nat:=(rcTo r 7).2
theorem rcN_lt (r:Nat) (h:r<256):rcN r<256:=by
 unfold rcN
 exact rcTo_lt r h 7
def rcAt:Nat→Nat
 | 0=>1
 | k+1=>rcN (rcAt k)
theorem rcAt_lt (k:Nat):rcAt k<256:=by
 induction k with
 | zero=>decide
 | succ k ih=>exact rcN_lt _ ih
def permTo (d:St):Nat→St
 | 0=>d
 | k+1=>kround (permTo d k) (rcC (rcAt k))
def perm (d:St):St:=permTo d 24
theorem theta_size (d:St):(theta d).size=d.size:=thetaTo_size _ _ _
theorem rhopi_size (d:St) (hd:d.size=25):(rhopi d).size=25:=(tmTo_ok d hd 24).2.2
theorem chi_size (d:St):(chi d).size=d.size:=chiTo_size _ _
theorem kround_size (d:St) (c:BitVec 64) (hd:d.size=25):(kround d c).size=25:=by
 unfold kround
 rw[xorAt_size,chi_size,rhopi_size]
 rw[theta_size,hd]
theorem permTo_size (d:St) (hd:d.size=25) (k:Nat):(permTo d k).size=25:=by
 induction k with
 | zero=>exact hd
 | succ k ih=>exact kround_size _ _ ih
theorem perm_size (d:St) (hd:d.size=25):(perm d).size=25:=permTo_size d hd 24
abbrev Bs:=Array UInt8
def ub (x:UInt8):Int:=(x.toNat:Int)
def encB (x:UInt8):Value:=.int .u8 (ub x)
def wide (x:UInt8):BitVec 64:=BitVec.ofNat 64 x.toNat
def low (v:BitVec 64):UInt8:=UInt8.ofNat v.toNat
theorem wide_ub (x:UInt8):ub x=u (wide x):=by
 unfold ub u wide
 rw[BitVec.toNat_ofNat,Nat.mod_eq_of_lt]
 have:=x.toNat_lt
 omega
theorem wrap_ub (x:UInt8):IntKind.u64.wrap (ub x)=u (wide x):=by rw[wide_ub,wrap_u]
theorem low_u (v:BitVec 64):IntKind.u8.wrap (u v)=ub (low v):=by
 have e:IntKind.u8.wrap (u v)=u v%256:=by simp[IntKind.wrap,IntKind.bits,IntKind.signed]
 rw[e]
 unfold u ub low
 rw[UInt8.toNat_ofNat']
 omega
def wordTo (bs:Bs) (o:Nat):Nat→BitVec 64
 | 0=>0
 | i+1=>wordTo bs o i ||| wide bs[o+i]! <<< (8*i)
def wordOf (bs:Bs) (o:Nat):BitVec 64:=wordTo bs o 8
def mixTo (bs:Bs) (d:St):Nat→St
 | 0=>d
 | i+1=>xorAt (mixTo bs d i) i (wordOf bs (8*i))
theorem mixTo_size (bs:Bs) (d:St) (k:Nat):(mixTo bs d k).size=d.size:=by
 induction k with
 | zero=>rfl
 | succ k ih=>simp[mixTo,xorAt_size,ih]
def byteOf (d:St) (k:Nat):UInt8:=low (d[k/8]! >>> (8*(k%8)))
def frontTo (d:St) (n:Nat):Nat→Bs
 | 0=>Array.replicate n 0
 | k+1=>(frontTo d n k).setIfInBounds k (byteOf d k)
def front (d:St) (n:Nat):Bs:=frontTo d n n
theorem frontTo_size (d:St) (n k:Nat):(frontTo d n k).size=n:=by
 induction k with
 | zero=>simp[frontTo]
 | succ k ih=>simp[frontTo,ih]
theorem front_size (d:St) (n:Nat):(front d n).size=n:=frontTo_size d n n
end SP
namespace SP
open Go.RowKit Go.Sort
structure Only (b off n:Nat) (w w':World):Prop where
 os:w'.os=w.os
 tape:w'.tape=w.tape
 output:w'.output=w.output
 size:w.heap.size≤w'.heap.size
 block:∀ k,k<w.heap.size→k≠b→w'.heap[k]? = w.heap[k]?
 cell:∀ o,(o<off∨off+n≤o)→w'.cell? ⟨b,o,none⟩=w.cell? ⟨b,o,none⟩
 froz:∀ o,w'.frozen? ⟨b,o,none⟩=w.frozen? ⟨b,o,none⟩
variable {b off n:Nat} {w w1 w2:World}
theorem Only.refl (b off n:Nat) (w:World):Only b off n w w:=⟨rfl,rfl,rfl,Nat.le_refl _,fun _ _ _=>rfl,fun _ _=>rfl,fun _=>rfl⟩
theorem Only.trans (h:Only b off n w w1) (k:Only b off n w1 w2):Only b off n w w2:=
 ⟨k.os.trans h.os,k.tape.trans h.tape,k.output.trans h.output,Nat.le_trans h.size k.size,
  fun i hi hn=>(k.block i (Nat.lt_of_lt_of_le hi h.size) hn).trans (h.block i hi hn),
  fun o ho=>(k.cell o ho).trans (h.cell o ho),fun o=>(k.froz o).trans (h.froz o)⟩
theorem Only.drewN (h:Only b off n w w1) (q:Nat):Only b off n w (w1.drewN q):=⟨h.os,h.tape,h.output,h.size,h.block,h.cell,h.froz⟩
theorem Only.drew (h:Only b off n w w1):Only b off n w w1.drew:=⟨h.os,h.tape,h.output,h.size,h.block,h.cell,h.froz⟩
theorem Only.setCell (h:Only b off n w w1) {o:Nat} (h1:off≤o) (h2:o<off+n) (v:Value):Only b off n w (w1.setCell ⟨b,o,none⟩ v):=by
 refine h.trans ⟨rfl,rfl,rfl,by simp,fun k _ hn=>Below.heap_setCell _ _ _ _ hn,fun o' ho=>?_,fun o'=>by simp⟩
 exact World.cell?_setCell_other _ _ _ _ (by intro e;simp only[Addr.mk.injEq,and_true,true_and] at e;omega)
theorem Only.alloc (h:Only b off n w w1) (hb:b<w1.heap.size) (o:Obj):Only b off n w (w1.alloc o):=by
 refine h.trans ⟨rfl,rfl,rfl,by simp,fun k hk _=>Below.heap_alloc _ _ _ hk,fun o' _=>?_,fun o'=>?_⟩
 ·exact World.cell?_alloc_lt _ _ _ hb
 ·exact World.frozen?_alloc_old _ _ _ (by show b≠_;omega)
theorem Only.below (h:Only b off n w w1) {B:Nat} (hB:B≤w.heap.size) (hb:B≤b):Below B w w1:=
 ⟨h.os,h.tape,h.output,h.size,fun k hk=>h.block k (by omega) (by omega)⟩
theorem Only.of_below {B:Nat} (h:Below B w w1) (hB:B=w.heap.size) (hb:b<B):Only b off n w w1:=
 ⟨h.os,h.tape,h.output,h.size,fun k hk _=>h.block k (by omega),fun o _=>h.cell (p:=⟨b,o,none⟩) hb,fun o=>h.frozen (p:=⟨b,o,none⟩) hb⟩
theorem Only.other (h:Only b off n w w1) {c o:Nat} (hc:c≠b) (hs:c<w.heap.size):w1.cell? ⟨c,o,none⟩=w.cell? ⟨c,o,none⟩∧w1.frozen? ⟨c,o,none⟩=w.frozen? ⟨c,o,none⟩:=
 ⟨World.cell?_of_block (w:=w) (h.block c hs hc),World.frozen?_of_block (w:=w) (h.block c hs hc)⟩
theorem Only.fresh {o m:Nat} {x:Obj} (h:Only w.heap.size o m (w.alloc x) w1):Below w.heap.size w w1:=
 ((Below.refl _ _).alloc (Nat.le_refl _) x).trans (h.below (by simp) (Nat.le_refl _))
section
variable {α:Type} [Inhabited α] {enc:α→Value} {d:Array α}
theorem Holds.lt (h:Holds enc w b off d) (hd:0<d.size):b<w.heap.size:=World.block_lt_of_cell? _ _ (h 0 hd).1
theorem Holds.other {c o:Nat} (h:Holds enc w c o d) (k:Only b off n w w1) (hc:c≠b) (hd:0<d.size):Holds enc w1 c o d:=by
 intro j hj
 have:=h j hj
 have:=k.other (o:=o+j) hc (Holds.lt h hd)
 rw[this.1,this.2]
 exact h j hj
theorem Holds.same {o:Nat} (h:Holds enc w b o d) (k:Only b off n w w1) (hd:o+d.size≤off∨off+n≤o):Holds enc w1 b o d:=by
 intro j hj
 rw[k.cell _ (by omega),k.froz]
 exact h j hj
theorem Holds.below {B:Nat} (h:Holds enc w b off d) (k:Below B w w1) (hb:b<B):Holds enc w1 b off d:=by
 intro j hj
 rw[k.cell (p:=⟨b,off+j,none⟩) hb,k.frozen (p:=⟨b,off+j,none⟩) hb]
 exact h j hj
theorem Holds.drewN (h:Holds enc w b off d) (q:Nat):Holds enc (w.drewN q) b off d:=h
theorem Holds.drew (h:Holds enc w b off d):Holds enc w.drew b off d:=h
theorem Holds.set (h:Holds enc w b off d) {i:Nat} (hi:i<d.size) (x:α):Holds enc (w.setCell ⟨b,off+i,none⟩ (enc x)) b off (d.setIfInBounds i x):=by
 intro j hj
 rw[Array.size_setIfInBounds] at hj
 rw[World.frozen?_setCell]
 by_cases e:j=i
 ·subst e
  rw[getElem!_set_same d j x hi]
  exact ⟨World.cell?_setCell_same _ _ _ (h j hj).1,(h j hj).2⟩
 ·rw[getElem!_set_other d i j x e,World.cell?_setCell_other _ _ _ _ (by intro e';simp only[Addr.mk.injEq,and_true,true_and] at e';omega)]
  exact h j hj
theorem Holds.new (w:World) (t:TypeId) (d:Array α):Holds enc (w.alloc (.cells (d.map enc) t)) w.heap.size 0 d:=by
 intro j hj
 rw[World.cell?_alloc_new,World.frozen?_alloc_new]
 refine ⟨?_,rfl⟩
 simp only[Nat.zero_add,Array.getElem?_map,Array.getElem?_eq_getElem hj,Option.map_some,getElem!_pos d j hj]
theorem Holds.made (w:World) (t:TypeId) (n:Nat) (x:α):Holds enc (w.alloc (.cells (madeCells #[enc x] n) t)) w.heap.size 0 (Array.replicate n x):=by
 intro j hj
 rw[Array.size_replicate] at hj
 rw[World.cell?_alloc_new,World.frozen?_alloc_new]
 refine ⟨?_,rfl⟩
 rw[getElem!_pos _ j (by simpa using hj),Array.getElem_replicate]
 simp[madeCells,hj,Nat.mod_one]
end
theorem Holds.xor {d:St} (h:Holds enc w b off d) {i:Nat} (hi:i<d.size) {x:BitVec 64} (hx:d[i]! = x) (v:BitVec 64):Holds enc (w.setCell ⟨b,off+i,none⟩ (.int .u64 (u (x ^^^ v)))) b off (xorAt d i v):=by
 unfold xorAt
 rw[hx]
 exact Holds.set h hi (x ^^^ v)
theorem xorAt_other (d:St) (i j:Nat) (v:BitVec 64) (h:j≠i):(xorAt d i v)[j]! = d[j]!:=getElem!_set_other d i j _ h
end SP
namespace SP
open Go.RowKit Go.Sort
theorem mixed:Tryz.prog.follows .mixedOrders=true:=by kernel_rfl
theorem at_word {w:World} {b off:Nat} {d:St} (h:Holds enc w b off d) (i:Nat) (hi:i<d.size) {x:BitVec 64} (hx:d[i]! = x) :
 w.cell? ⟨b,off+i,none⟩=some (.int .u64 (u x))∧w.frozen? ⟨b,off+i,none⟩=false:=by
 rw[← hx];exact h i hi
theorem ret_int {k:IntKind} {a b:Int} (h:a=b):Ending.returned (.int k a)=.returned (.int k b):=by rw[h]
theorem rotl_any (x:BitVec 64) (k:Nat) (w:World) (hk:k<64) :
 Calls Tryz.prog 188 #[.int .u64 (u x),.int .i64 k] w fun e w'=>e=.returned (.int .u64 (u (rol x k)))∧w'=w:=by
 have h63:=and63 k hk
 have h1:(0:Int)≤64-(k:Int):=by omega
 go_enter Tryz.func188,Tryz.ntmps188
 go_wp2
 go_ret
 refine ⟨ret_int ?_,rfl⟩
 rw[shl64,shr64,bits_or64]
 rfl
end SP
namespace SP
open Go.RowKit Go.Sort
theorem holds_zero5 (w:World) (t:TypeId):Holds enc (w.alloc (.cells #[.int .u64 0,.int .u64 0,.int .u64 0,.int .u64 0,.int .u64 0] t)) w.heap.size 0 (#[0,0,0,0,0]:St):=by
 have h:=Holds.new (enc:=enc) w t (#[0,0,0,0,0]:St)
 have e:Array.map enc (#[0,0,0,0,0]:St)=#[.int .u64 0,.int .u64 0,.int .u64 0,.int .u64 0,.int .u64 0]:=by simp[enc,u]
 rw[e] at h
 exact h
attribute [local go_sem] bits_xor64 bits_and64 bits_or64
theorem mixColumns_any (b off:Nat) (d:St) (w:World) (hd:d.size=25) (hH:Holds enc w b off d) :
 Calls Tryz.prog 184 #[.pointer (some ⟨b,off,none⟩)] w fun e w'=>e=.returned (.tuple #[])∧Only b off 25 w w'∧Holds enc w' b off (theta d):=by
 have hb:=Holds.lt hH (by omega)
 go_enter Tryz.func184,Tryz.ntmps184
 go_wp2
 generalize hW1:(w.alloc _)=W1
 go_loopg [7] 5 (fun g s7 wr=>∃ k sk,k+g=5∧s7=.int .i64 (k:Nat)∧Holds enc wr w.heap.size 0 sk∧Only w.heap.size 0 5 W1 wr∧Hid (sk=sumsTo d k))
 case atStart =>
  refine ⟨0,#[0,0,0,0,0],rfl,rfl,?_,Only.refl _ _ _ _,rfl⟩
  rw[← hW1]
  exact holds_zero5 w 252
 case round =>
  obtain ⟨k,sk,hk,rfl,hS,hO,HE⟩:=hrel
  have hHw:Holds enc wr b off d:=Holds.other (by rw[← hW1];exact Holds.below hH ((Below.refl _ _).alloc (Nat.le_refl _) _) hb) hO (by omega) (by omega)
  by_cases hlt:k<5
  ·obtain ⟨x0,hx0⟩:∃ x,d[k]! = x:=⟨_,rfl⟩
   obtain ⟨x1,hx1⟩:∃ x,d[k+5]! = x:=⟨_,rfl⟩
   obtain ⟨x2,hx2⟩:∃ x,d[k+10]! = x:=⟨_,rfl⟩
   obtain ⟨x3,hx3⟩:∃ x,d[k+15]! = x:=⟨_,rfl⟩
   obtain ⟨x4,hx4⟩:∃ x,d[k+20]! = x:=⟨_,rfl⟩
   obtain ⟨x5,hx5⟩:∃ x,sk[k]! = x:=⟨_,rfl⟩
   have hss:sk.size=5:=by rw[HE.out,sumsTo_size]
   obtain ⟨c0,f0⟩:=at_word hHw k (by omega) hx0
   obtain ⟨c1,f1⟩:=at_word hHw (k+5) (by omega) hx1
   obtain ⟨c2,f2⟩:=at_word hHw (k+10) (by omega) hx2
   obtain ⟨c3,f3⟩:=at_word hHw (k+15) (by omega) hx3
   obtain ⟨c4,f4⟩:=at_word hHw (k+20) (by omega) hx4
   obtain ⟨c5,f5⟩:=at_word hS k (by omega) hx5
   rw[Nat.zero_add] at c5 f5
   have HX:Hid (colsum d k=x0 ^^^ x1 ^^^ x2 ^^^ x3 ^^^ x4):=by rw[← hx0,← hx1,← hx2,← hx3,← hx4];rfl
   clear hx0 hx1 hx2 hx3 hx4 hx5 hHw
   have k5:(k:Int)<5:=by omega
   have b0:(k:Int)<25:=by omega
   have b1:(k:Int)+5<25:=by omega
   have b2:(k:Int)+10<25:=by omega
   have b3:(k:Int)+15<25:=by omega
   have b4:(k:Int)+20<25:=by omega
   have p1:0≤(k:Int)+5:=by omega
   have p2:0≤(k:Int)+10:=by omega
   have p3:0≤(k:Int)+15:=by omega
   have p4:0≤(k:Int)+20:=by omega
   have e1:((k:Int)+5).toNat=k+5:=by omega
   have e2:((k:Int)+10).toNat=k+10:=by omega
   have e3:((k:Int)+15).toNat=k+15:=by omega
   have e4:((k:Int)+20).toNat=k+20:=by omega
   have v1:IntKind.i64.wrap ((k:Int)+5)=(k:Int)+5:=IntWalk.i64_in _ (by omega)
   have v2:IntKind.i64.wrap ((k:Int)+10)=(k:Int)+10:=IntWalk.i64_in _ (by omega)
   have v3:IntKind.i64.wrap ((k:Int)+15)=(k:Int)+15:=IntWalk.i64_in _ (by omega)
   have v4:IntKind.i64.wrap ((k:Int)+20)=(k:Int)+20:=IntWalk.i64_in _ (by omega)
   go_wp2_with fail
   go_still_tail 35,mixed
   go_wp2
   go_roundg (gk-1)
   case measure=>omega
   case rel =>
    refine ⟨k+1,sk.setIfInBounds k (x0 ^^^ x1 ^^^ x2 ^^^ x3 ^^^ x4),by omega,by go_num,?_,?_,?_⟩
    ·have:=Holds.set hS (i:=k) (by omega) (x0 ^^^ x1 ^^^ x2 ^^^ x3 ^^^ x4)
     rw[Nat.zero_add] at this
     exact Holds.drew this
    ·exact (hO.setCell (Nat.zero_le _) (by omega) _).drew
    ·show _=(sumsTo d k).setIfInBounds k (colsum d k)
     rw[HX.out,HE.out]
  ·have hk5:k=5:=by omega
   subst hk5
   have HS:Hid (sk=sumsTo d 5):=HE
   have hO2:Only b off 25 w wr:=by
    rw[← hW1] at hO
    exact Only.of_below hO.fresh rfl hb
   clear hk hlt HE hO hW1
   go_wp2
   go_loopg [46] 5 (fun g s46 wq=>∃ k dk,k+g=5∧s46=.int .i64 (k:Nat)∧Holds enc wq b off dk∧Only b off 25 wr wq∧Hid (dk=thetaTo sk d k))
   case atStart=>exact ⟨0,d,rfl,rfl,hHw,Only.refl _ _ _ _,rfl⟩
   case round =>
    obtain ⟨k,dk,hk,rfl,hD,hO,HE⟩:=hrel
    by_cases hlt:k<5
    ·have hss:sk.size=5:=by rw[HS.out,sumsTo_size]
     have hSw:=Holds.other hS hO (by omega) (by omega)
     obtain ⟨y0,hy0⟩:∃ x,sk[(k+4)%5]! = x:=⟨_,rfl⟩
     obtain ⟨y1,hy1⟩:∃ x,sk[(k+1)%5]! = x:=⟨_,rfl⟩
     obtain ⟨c0,f0⟩:=at_word hSw ((k+4)%5) (by omega) hy0
     obtain ⟨c1,f1⟩:=at_word hSw ((k+1)%5) (by omega) hy1
     rw[Nat.zero_add] at c0 c1
     have HD:Hid (dcol sk k=y0 ^^^ rol y1 1):=by rw[← hy0,← hy1];rfl
     clear hy0 hy1 f0 f1
     have k5:(k:Int)<5:=by omega
     go_wp2_with fail
     go_quiet ((go_at_call 188;exact Calls.quiet_of_same (rotl_any _ 1 _ (by decide))))
     clear c0 c1
     go_wp2
     have hO1:=hO.drewN nq
     have hD1:=Holds.drewN hD nq
     have hds:dk.size=25:=by rw[HE.out,thetaTo_size,hd]
     go_loopg [6] 5 (fun g s6 wq=>∃ m dm,m+g=5∧s6=.int .i64 ((k+5*m:Nat):Int)∧Holds enc wq b off dm∧Only b off 25 wr wq∧Hid (dm=innerTo (y0 ^^^ rol y1 1) k dk m))
     case atStart=>exact ⟨0,dk,rfl,rfl,hD1,(Only.refl _ _ _ _).drewN _,rfl⟩
     case round =>
      obtain ⟨m,dm,hm,rfl,hM,hOm,HM⟩:=hrel
      by_cases hlt2:m<5
      ·have hms:dm.size=25:=by rw[HM.out,innerTo_size,hds]
       obtain ⟨z,hz⟩:∃ x,dm[k+5*m]! = x:=⟨_,rfl⟩
       obtain ⟨c,f⟩:=at_word hM (k+5*m) (by omega) hz
       have HZ:Hid (dm[k+5*m]! = z):=hz
       clear hz
       have r1:((k+5*m:Nat):Int)<25:=by omega
       generalize hi:k+5*m=i at *
       have Hi:Hid (k+5*m=i):=hi
       clear hi
       go_wp2_with fail
       go_still_tail 9,mixed
       go_wp2
       go_roundg (gk-1)
       case measure=>omega
       case rel =>
        refine ⟨m+1,dm.setIfInBounds i (z ^^^ (y0 ^^^ rol y1 1)),by omega,?_,?_,?_,?_⟩
        ·rw[← Hi.out];go_num
        ·exact Holds.drew (Holds.set hM (by omega) _)
        ·exact (hOm.setCell (Nat.le_add_right _ _) (by omega) _).drew
        ·show _=xorAt (innerTo (y0 ^^^ rol y1 1) k dk m) (k+5*m) (y0 ^^^ rol y1 1)
         rw[← HM.out,Hi.out,← HZ.out]
         rfl
      ·have hm5:m=5:=by omega
       subst hm5
       have r1:(25:Int)≤((k+5*5:Nat):Int):=by omega
       generalize hi:k+5*5=i at *
       go_wp2
       go_roundg (4-k)
       case measure=>omega
       case rel =>
        refine ⟨k+1,dm,by omega,by go_num,hM,hO.trans hOm,?_⟩
        show _=innerTo (dcol sk k) k (thetaTo sk d k) 5
        rw[← HE.out,HD.out]
        exact HM.out
    ·have hk5:k=5:=by omega
     subst hk5
     go_wp2
     go_end0
     refine ⟨rfl,hO2.trans hO,?_⟩
     have:theta d=dk:=by rw[HE.out,HS.out];rfl
     rw[this]
     exact hD
end SP
namespace SP
open Go.RowKit Go.Sort
attribute [local go_sem] bits_xor64 bits_and64 bits_or64
theorem offs_int (t:Nat) (h:t<24):(wrap64 ((wrap64 (((t:Int)+1)*((t:Int)+2))).tdiv 2)).tmod 64=(offs t:Int):=by
 have H:∀ j:Fin 24,(wrap64 ((wrap64 (((j.val:Int)+1)*((j.val:Int)+2))).tdiv 2)).tmod 64=(offs j.val:Int):=by decide +kernel
 exact H ⟨t,h⟩
theorem turnAndMove_any (b off:Nat) (d:St) (w:World) (hd:d.size=25) (hH:Holds enc w b off d) :
 Calls Tryz.prog 185 #[.pointer (some ⟨b,off,none⟩)] w fun e w'=>e=.returned (.tuple #[])∧Only b off 25 w w'∧Holds enc w' b off (rhopi d):=by
 obtain ⟨x1,hx1⟩:∃ x,d[1]! = x:=⟨_,rfl⟩
 obtain ⟨c1,f1⟩:=at_word hH 1 (by omega) hx1
 go_enter Tryz.func185,Tryz.ntmps185
 go_wp2
 go_loopg [2,3,4,12] 24 (fun g sx sy sm st wr=>∃ t T,t+g=24∧st=.int .i64 (t:Nat)∧sx=.int .i64 (T.x:Nat)∧sy=.int .i64 (T.y:Nat)∧sm=.int .u64 (u T.m)∧Holds enc wr b off T.d∧Only b off 25 w wr∧Hid (T=tmTo d t))
 case atStart=>exact ⟨0,tmTo d 0,rfl,rfl,rfl,rfl,by rw[← hx1];rfl,hH,Only.refl _ _ _ _,rfl⟩
 case round =>
  obtain ⟨t,⟨x,y,m,dk⟩,ht,rfl,rfl,rfl,rfl,hD,hO,HE⟩:=hrel
  have hok:=tmTo_ok d hd t
  rw[← HE.out] at hok
  obtain ⟨hx,hy,hs⟩:=hok
  dsimp only at hx hy hs hD
  clear c1 f1 hx1
  by_cases hlt:t<24
  ·obtain ⟨i,hi⟩:∃ i,y+5*((2*x+3*y)%5)=i:=⟨_,rfl⟩
   obtain ⟨z,hz⟩:∃ z,dk[i]! = z:=⟨_,rfl⟩
   have hib:i<25:=by omega
   obtain ⟨c,f⟩:=at_word hD i (by omega) hz
   have Hz:Hid (dk[i]! = z):=hz
   have Hi:Hid (y+5*((2*x+3*y)%5)=i):=hi
   have l24:(t:Int)<24:=by omega
   clear hz hi
   go_wp2_with fail
   rw[offs_int t hlt]
   refine (rotl_any m (offs t) _ (Nat.mod_lt _ (by decide))).mono ?_
   rintro e w' ⟨rfl,rfl⟩
   go_wp2_with fail
   obtain ⟨y2,hy2⟩:∃ n,(2*x+3*y)%5=n:=⟨_,rfl⟩
   have hy2':(2*(x:Int)+3*(y:Int))%5=(y2:Int):=by omega
   rw[hy2']
   have Hy2:Hid ((2*x+3*y)%5=y2):=hy2
   have r0:y2<5:=by omega
   clear hy2 hy2'
   have r1:(0:Int)≤(y:Int)+5*(y2:Int):=by omega
   have r2:(y:Int)+5*(y2:Int)<25:=by omega
   have r3:((y:Int)+5*(y2:Int)).toNat=i:=by have:=Hi.out;have:=Hy2.out;omega
   have s1:IntKind.i64.wrap (5*(y2:Int))=5*(y2:Int):=IntWalk.i64_in _ (by omega)
   have s2:IntKind.i64.wrap ((y:Int)+5*(y2:Int))=(y:Int)+5*(y2:Int):=IntWalk.i64_in _ (by omega)
   go_region
   go_wp2
   go_roundg (gk-1)
   case measure=>omega
   case rel =>
    refine ⟨t+1,⟨y,y2,z,dk.setIfInBounds i (rol m (offs t))⟩,by omega,by go_num,rfl,rfl,rfl,?_,?_,?_⟩
    ·exact Holds.drew (Holds.set hD (by omega) _)
    ·exact (hO.setCell (Nat.le_add_right _ _) (by omega) _).drew
    ·show _=tmStep t (tmTo d t)
     rw[← HE.out]
     simp only[tmStep,Hy2.out]
     have e:y+5*y2=i:=by have:=Hi.out;have:=Hy2.out;omega
     rw[e,Hz.out]
  ·have ht24:t=24:=by omega
   subst ht24
   go_wp2
   go_end0
   refine ⟨rfl,hO,?_⟩
   show Holds enc _ b off (tmTo d 24).d
   rw[← HE.out]
   exact hD
end SP
namespace SP
open Go.RowKit Go.Sort
attribute [local go_sem] bits_xor64 bits_and64 bits_or64 bits_not64
theorem mixRows_any (b off:Nat) (d:St) (w:World) (hd:d.size=25) (hH:Holds enc w b off d) :
 Calls Tryz.prog 186 #[.pointer (some ⟨b,off,none⟩)] w fun e w'=>e=.returned (.tuple #[])∧Only b off 25 w w'∧Holds enc w' b off (chi d):=by
 go_enter Tryz.func186,Tryz.ntmps186
 go_wp2
 go_loopg [2] 5 (fun g si wr=>∃ k dk,k+g=5∧si=.int .i64 ((5*k:Nat):Int)∧Holds enc wr b off dk∧Only b off 25 w wr∧Hid (dk=chiTo d k))
 case atStart=>exact ⟨0,d,rfl,rfl,hH,Only.refl _ _ _ _,rfl⟩
 case round =>
  obtain ⟨k,dk,hk,rfl,hD,hO,HE⟩:=hrel
  have hs:dk.size=25:=by rw[HE.out,chiTo_size,hd]
  by_cases hlt:k<5
  ·obtain ⟨i,hi⟩:∃ i,5*k=i:=⟨_,rfl⟩
   rw[hi]
   have Hi:Hid (5*k=i):=hi
   obtain ⟨x0,hx0⟩:∃ x,dk[i]! = x:=⟨_,rfl⟩
   obtain ⟨x1,hx1⟩:∃ x,dk[i+1]! = x:=⟨_,rfl⟩
   obtain ⟨x2,hx2⟩:∃ x,dk[i+2]! = x:=⟨_,rfl⟩
   obtain ⟨x3,hx3⟩:∃ x,dk[i+3]! = x:=⟨_,rfl⟩
   obtain ⟨x4,hx4⟩:∃ x,dk[i+4]! = x:=⟨_,rfl⟩
   obtain ⟨c0,f0⟩:=at_word hD i (by omega) hx0
   obtain ⟨c1,f1⟩:=at_word hD (i+1) (by omega) hx1
   obtain ⟨c2,f2⟩:=at_word hD (i+2) (by omega) hx2
   obtain ⟨c3,f3⟩:=at_word hD (i+3) (by omega) hx3
   obtain ⟨c4,f4⟩:=at_word hD (i+4) (by omega) hx4
   have HX0:Hid (dk[i]! = x0):=hx0
   have HX1:Hid (dk[i+1]! = x1):=hx1
   have HX2:Hid (dk[i+2]! = x2):=hx2
   have HX3:Hid (dk[i+3]! = x3):=hx3
   have HX4:Hid (dk[i+4]! = x4):=hx4
   have Q0:=HX0
   have Q1:=HX1
   have Q2:=HX2
   have Q3:=HX3
   have Q4:=HX4
   have i20:i≤20:=by omega
   clear hx0 hx1 hx2 hx3 hx4 hi
   have b0:(i:Int)<25:=by omega
   have b1:(i:Int)+1<25:=by omega
   have p1:0≤(i:Int)+1:=by omega
   have e1:((i:Int)+1).toNat=i+1:=by omega
   have v1:IntKind.i64.wrap ((i:Int)+1)=(i:Int)+1:=IntWalk.i64_in _ (by omega)
   have b2:(i:Int)+2<25:=by omega
   have p2:0≤(i:Int)+2:=by omega
   have e2:((i:Int)+2).toNat=i+2:=by omega
   have v2:IntKind.i64.wrap ((i:Int)+2)=(i:Int)+2:=IntWalk.i64_in _ (by omega)
   have b3:(i:Int)+3<25:=by omega
   have p3:0≤(i:Int)+3:=by omega
   have e3:((i:Int)+3).toNat=i+3:=by omega
   have v3:IntKind.i64.wrap ((i:Int)+3)=(i:Int)+3:=IntWalk.i64_in _ (by omega)
   have b4:(i:Int)+4<25:=by omega
   have p4:0≤(i:Int)+4:=by omega
   have e4:((i:Int)+4).toNat=i+4:=by omega
   have v4:IntKind.i64.wrap ((i:Int)+4)=(i:Int)+4:=IntWalk.i64_in _ (by omega)
   go_wp2_with fail
   go_quiet (fail)
   clear c1 c2 c3 c4 f1 f2 f3 f4 b1 p1 e1 v1 b2 p2 e2 v2 b3 p3 e3 v3 b4 p4 e4 v4
   go_wp2_with fail
   go_region
   go_wp2_with fail
   generalize hW0:World.setCell _ _ _=W0
   have hs0:(xorAt dk i (~~~x1 &&& x2)).size=25:=by rw[xorAt_size];omega
   have hD0:Holds enc W0 b off (xorAt dk i (~~~x1 &&& x2)):=by rw[← hW0];exact Holds.xor (Holds.drewN hD _) (by omega) HX0.out _
   have hO0:Only b off 25 w W0:=by rw[← hW0];exact (hO.drewN _).setCell (o:=off+i) (by omega) (by omega) _
   generalize hd0:xorAt dk i (~~~x1 &&& x2)=d0 at *
   have Hd0:Hid (xorAt dk i (~~~x1 &&& x2)=d0):=hd0
   have HX1:Hid (d0[i+1]! = x1):=by show _=_;rw[← hd0,xorAt_other _ _ _ _ (by omega)];exact HX1.out
   have HX2:Hid (d0[i+2]! = x2):=by show _=_;rw[← hd0,xorAt_other _ _ _ _ (by omega)];exact HX2.out
   have HX3:Hid (d0[i+3]! = x3):=by show _=_;rw[← hd0,xorAt_other _ _ _ _ (by omega)];exact HX3.out
   have HX4:Hid (d0[i+4]! = x4):=by show _=_;rw[← hd0,xorAt_other _ _ _ _ (by omega)];exact HX4.out
   obtain ⟨c1,f1⟩:=at_word hD0 (i+1) (by omega) HX1.out
   clear hd0 hW0 c0 f0
   have b1:(i:Int)+1<25:=by omega
   have p1:0≤(i:Int)+1:=by omega
   have e1:((i:Int)+1).toNat=i+1:=by omega
   have v1:IntKind.i64.wrap ((i:Int)+1)=(i:Int)+1:=IntWalk.i64_in _ (by omega)
   go_region
   go_wp2_with fail
   generalize hW1:World.setCell _ _ _=W1
   have hs1:(xorAt d0 (i+1) (~~~x2 &&& x3)).size=25:=by rw[xorAt_size];omega
   have hD1:Holds enc W1 b off (xorAt d0 (i+1) (~~~x2 &&& x3)):=by rw[← hW1];exact Holds.xor hD0 (by omega) HX1.out _
   have hO1:Only b off 25 w W1:=by rw[← hW1];exact (hO0).setCell (o:=off+(i+1)) (by omega) (by omega) _
   generalize hd1:xorAt d0 (i+1) (~~~x2 &&& x3)=d1 at *
   have Hd1:Hid (xorAt d0 (i+1) (~~~x2 &&& x3)=d1):=hd1
   have HX2:Hid (d1[i+2]! = x2):=by show _=_;rw[← hd1,xorAt_other _ _ _ _ (by omega)];exact HX2.out
   have HX3:Hid (d1[i+3]! = x3):=by show _=_;rw[← hd1,xorAt_other _ _ _ _ (by omega)];exact HX3.out
   have HX4:Hid (d1[i+4]! = x4):=by show _=_;rw[← hd1,xorAt_other _ _ _ _ (by omega)];exact HX4.out
   obtain ⟨c2,f2⟩:=at_word hD1 (i+2) (by omega) HX2.out
   clear hd1 hW1 c1 f1
   clear b1 p1 e1 v1
   have b2:(i:Int)+2<25:=by omega
   have p2:0≤(i:Int)+2:=by omega
   have e2:((i:Int)+2).toNat=i+2:=by omega
   have v2:IntKind.i64.wrap ((i:Int)+2)=(i:Int)+2:=IntWalk.i64_in _ (by omega)
   go_region
   go_wp2_with fail
   generalize hW2:World.setCell _ _ _=W2
   have hs2:(xorAt d1 (i+2) (~~~x3 &&& x4)).size=25:=by rw[xorAt_size];omega
   have hD2:Holds enc W2 b off (xorAt d1 (i+2) (~~~x3 &&& x4)):=by rw[← hW2];exact Holds.xor hD1 (by omega) HX2.out _
   have hO2:Only b off 25 w W2:=by rw[← hW2];exact (hO1).setCell (o:=off+(i+2)) (by omega) (by omega) _
   generalize hd2:xorAt d1 (i+2) (~~~x3 &&& x4)=d2 at *
   have Hd2:Hid (xorAt d1 (i+2) (~~~x3 &&& x4)=d2):=hd2
   have HX3:Hid (d2[i+3]! = x3):=by show _=_;rw[← hd2,xorAt_other _ _ _ _ (by omega)];exact HX3.out
   have HX4:Hid (d2[i+4]! = x4):=by show _=_;rw[← hd2,xorAt_other _ _ _ _ (by omega)];exact HX4.out
   obtain ⟨c3,f3⟩:=at_word hD2 (i+3) (by omega) HX3.out
   clear hd2 hW2 c2 f2
   clear b2 p2 e2 v2
   have b3:(i:Int)+3<25:=by omega
   have p3:0≤(i:Int)+3:=by omega
   have e3:((i:Int)+3).toNat=i+3:=by omega
   have v3:IntKind.i64.wrap ((i:Int)+3)=(i:Int)+3:=IntWalk.i64_in _ (by omega)
   go_region
   go_wp2_with fail
   generalize hW3:World.setCell _ _ _=W3
   have hs3:(xorAt d2 (i+3) (~~~x4 &&& x0)).size=25:=by rw[xorAt_size];omega
   have hD3:Holds enc W3 b off (xorAt d2 (i+3) (~~~x4 &&& x0)):=by rw[← hW3];exact Holds.xor hD2 (by omega) HX3.out _
   have hO3:Only b off 25 w W3:=by rw[← hW3];exact (hO2).setCell (o:=off+(i+3)) (by omega) (by omega) _
   generalize hd3:xorAt d2 (i+3) (~~~x4 &&& x0)=d3 at *
   have Hd3:Hid (xorAt d2 (i+3) (~~~x4 &&& x0)=d3):=hd3
   have HX4:Hid (d3[i+4]! = x4):=by show _=_;rw[← hd3,xorAt_other _ _ _ _ (by omega)];exact HX4.out
   obtain ⟨c4,f4⟩:=at_word hD3 (i+4) (by omega) HX4.out
   clear hd3 hW3 c3 f3
   clear b3 p3 e3 v3
   have b4:(i:Int)+4<25:=by omega
   have p4:0≤(i:Int)+4:=by omega
   have e4:((i:Int)+4).toNat=i+4:=by omega
   have v4:IntKind.i64.wrap ((i:Int)+4)=(i:Int)+4:=IntWalk.i64_in _ (by omega)
   go_region
   go_wp2
   generalize hW4:World.setCell _ _ _=W4
   have hs4:(xorAt d3 (i+4) (~~~x0 &&& x1)).size=25:=by rw[xorAt_size];omega
   have hD4:Holds enc W4 b off (xorAt d3 (i+4) (~~~x0 &&& x1)):=by rw[← hW4];exact Holds.xor hD3 (by omega) HX4.out _
   have hO4:Only b off 25 w W4:=by rw[← hW4];exact (hO3).setCell (o:=off+(i+4)) (by omega) (by omega) _
   generalize hd4:xorAt d3 (i+4) (~~~x0 &&& x1)=d4 at *
   have Hd4:Hid (xorAt d3 (i+4) (~~~x0 &&& x1)=d4):=hd4
   clear hd4 hW4 c4 f4
   clear b4 p4 e4 v4
   go_roundg (gk-1)
   case measure=>omega
   case rel =>
    refine ⟨k+1,d4,by omega,?_,?_,?_,?_⟩
    ·rw[← Hi.out];go_num
    ·exact hD4
    ·exact hO4.drewN 4
    ·show d4=rowAt (chiTo d k) (5*k)
     rw[← HE.out,Hi.out]
     unfold rowAt
     rw[Q0.out,Q1.out,Q2.out,Q3.out,Q4.out,Hd0.out,Hd1.out,Hd2.out,Hd3.out,Hd4.out]
  ·have hk5:k=5:=by omega
   subst hk5
   go_wp2
   go_end0
   refine ⟨rfl,hO,?_⟩
   show Holds enc _ b off (chiTo d 5)
   rw[← HE.out]
   exact hD
end SP
namespace SP
open Go.RowKit Go.Sort
attribute [local go_sem] bits_xor64 bits_and64 bits_or64 wrap_u
theorem place_int (j:Nat) (hj:j<7):∃ p:Nat,wrap64 (wrap64 ((2:Int)^j)-1)=(p:Int)∧p≤63∧Hid (2^j-1=p):=by
 have H:∀ j:Fin 7,wrap64 (wrap64 ((2:Int)^j.val)-1)=((2^j.val-1:Nat):Int)∧2^j.val-1≤63:=by decide +kernel
 exact ⟨_,(H ⟨j,hj⟩).1,(H ⟨j,hj⟩).2,rfl⟩
theorem roundConstant_any (r:Nat) (w:World) (hr:r<256) :
 Calls Tryz.prog 187 #[.int .i64 r] w fun e w'=>e=.returned (.tuple #[.int .u64 (u (rcC r)),.int .i64 (rcN r:Int)])∧w'=w:=by
 go_enter Tryz.func187,Tryz.ntmps187
 go_wp2
 go_loop [0,2,6] (fun s0 s2 s6=>∃ j:Nat,j≤7∧∃ (c:BitVec 64) (q:Nat),s6=.int .i64 j∧s2=.int .u64 (u c)∧s0=.int .i64 q∧q<256∧Hid (rcTo r j=(c,q))) (fun _ _ s6=>7-(intOf s6).toNat)
 case atStart=>exact ⟨0,by decide,0,r,rfl,rfl,rfl,hr,rfl⟩
 case round =>
  obtain ⟨j,hj,c,q,rfl,rfl,rfl,hq,HE⟩:=hrel
  by_cases hlt:j<7
  ·have a1:=rc_and q hq
   have a2:=rc_xor q hq
   obtain ⟨p,a3,hp,HP⟩:=place_int j hlt
   have HC:Hid (rcTo r (j+1)=(c ||| BitVec.ofNat 64 (q%2) <<< p,rcReg q)):=by
    show ((rcTo r j).1 ||| BitVec.ofNat 64 ((rcTo r j).2%2) <<< (2^j-1),rcReg (rcTo r j).2)=_
    rw[HE.out,HP.out]
   have hs:=shl64 (BitVec.ofNat 64 (q%2)) p
   have hlt2:=rcReg_lt q hq
   by_cases h255:255<2*q
   ·have HR:Hid (rcReg q=2*q ^^^ 369):=if_pos h255
    rw[HR.out] at hlt2
    generalize 2*q ^^^ 369=q2 at *
    go_wp2
    go_round
    case rel=>exact ⟨j+1,by omega,_,q2,by go_num,rfl,rfl,hlt2,by rw[HC.out,HR.out];rfl⟩
    case measure=>simp[intOf];omega
   ·have HR:Hid (rcReg q=2*q):=if_neg h255
    go_wp2
    go_round
    case rel=>exact ⟨j+1,by omega,_,2*q,by go_num,rfl,by go_num,by omega,by rw[HC.out,HR.out];rfl⟩
    case measure=>simp[intOf];omega
  ·have hj7:j=7:=by omega
   subst hj7
   go_wp2
   go_ret2
   unfold rcC rcN
   rw[HE.out]
   exact ⟨rfl,rfl⟩
theorem permute_any (b off:Nat) (d:St) (w:World) (hd:d.size=25) (hH:Holds enc w b off d) :
 Calls Tryz.prog 175 #[.pointer (some ⟨b,off,none⟩)] w fun e w'=>e=.returned (.tuple #[])∧Only b off 25 w w'∧Holds enc w' b off (perm d):=by
 go_enter Tryz.func175,Tryz.ntmps175
 go_wp2
 go_loopg [2,3,4] 24 (fun g sc sr sk wr=>∃ (k:Nat) (c:BitVec 64) (dk:St),k+g=24∧sk=.int .i64 k∧sc=.int .u64 (u c)∧sr=.int .i64 (rcAt k:Nat)∧Holds enc wr b off dk∧Only b off 25 w wr∧Hid (dk=permTo d k))
 case atStart=>exact ⟨0,0,d,rfl,rfl,rfl,rfl,hH,Only.refl _ _ _ _,rfl⟩
 case round =>
  obtain ⟨k,c,dk,hk,rfl,rfl,rfl,hD,hO,HE⟩:=hrel
  have hs:dk.size=25:=by rw[HE.out,permTo_size d hd]
  by_cases hlt:k<24
  ·have k24:(k:Int)<24:=by omega
   go_wp2_with fail
   refine (mixColumns_any b off dk _ hs hD).mono ?_
   rintro e w1 ⟨rfl,hO1,hD1⟩
   go_wp2_with fail
   refine (turnAndMove_any b off _ _ (by rw[theta_size,hs]) hD1).mono ?_
   rintro e w2 ⟨rfl,hO2,hD2⟩
   go_wp2_with fail
   refine (mixRows_any b off _ _ (rhopi_size _ (by rw[theta_size,hs])) hD2).mono ?_
   rintro e w3 ⟨rfl,hO3,hD3⟩
   have HN:Hid (rcAt (k+1)=rcN (rcAt k)):=rfl
   have HK:Hid (permTo d (k+1)=kround (permTo d k) (rcC (rcAt k))):=rfl
   have hrl:=rcAt_lt k
   generalize rcAt k=r at *
   go_wp2_with fail
   refine (roundConstant_any r _ hrl).mono ?_
   rintro e w4 ⟨rfl,rfl⟩
   have hs3:(chi (rhopi (theta dk))).size=25:=by rw[chi_size,rhopi_size _ (by rw[theta_size,hs])]
   obtain ⟨x,hx⟩:∃ x,(chi (rhopi (theta dk)))[0]! = x:=⟨_,rfl⟩
   obtain ⟨c0,f0⟩:=at_word hD3 0 (by omega) hx
   rw[Nat.add_zero] at c0 f0
   have HX:Hid ((chi (rhopi (theta dk)))[0]! = x):=hx
   clear hx
   go_wp2_with fail
   go_region
   go_wp2
   go_roundg (gk-1)
   case measure=>omega
   case rel =>
    refine ⟨k+1,rcC r,kround dk (rcC r),by omega,by go_num,rfl,by rw[HN.out],?_,?_,?_⟩
    ·exact Holds.drew (Holds.xor (i:=0) hD3 (by omega) HX.out (rcC r))
    ·exact ((((hO.trans hO1).trans hO2).trans hO3).setCell (o:=off) (by omega) (by omega) _).drew
    ·rw[HK.out,HE.out];rfl
  ·have hk24:k=24:=by omega
   subst hk24
   go_wp2
   go_end0
   refine ⟨rfl,hO,?_⟩
   unfold perm
   rw[← HE.out]
   exact hD
end SP
namespace SP
open Go.RowKit Go.Sort Go.Deep
attribute [local go_sem] bits_xor64 bits_and64 bits_or64 wrap_u wrap_ub
theorem at_byte {w:World} {b off:Nat} {d:Bs} (h:Holds encB w b off d) (i:Nat) (hi:i<d.size) {x:UInt8} (hx:d[i]! = x) :
 w.cell? ⟨b,off+i,none⟩=some (.int .u8 (ub x))∧w.frozen? ⟨b,off+i,none⟩=false:=by
 rw[← hx];exact h i hi
theorem word_any (sb so o len cap:Nat) (bs:Bs) (w:World) (hB:Holds encB w sb so bs) (h8:8≤len) (ho:o+8≤bs.size) (hl:len≤4611686018427387904) :
 Calls Tryz.prog 183 #[.slice (some ⟨sb,so+o,none⟩) len cap] w fun e w'=>e=.returned (.int .u64 (u (wordOf bs o)))∧w'=w:=by
 go_enter Tryz.func183,Tryz.ntmps183
 go_wp2
 go_loop [3,5] (fun s3 s5=>∃ (k:Nat) (c:BitVec 64),k≤8∧s5=.int .i64 k∧s3=.int .u64 (u c)∧Hid (wordTo bs o k=c)) (fun _ s5=>8-(intOf s5).toNat)
 case atStart=>exact ⟨0,0,by decide,rfl,rfl,rfl⟩
 case round =>
  obtain ⟨k,c,hk,rfl,rfl,HE⟩:=hrel
  by_cases hlt:k<8
  ·obtain ⟨x,hx⟩:∃ x,bs[o+k]! = x:=⟨_,rfl⟩
   obtain ⟨c0,f0⟩:=at_byte hB (o+k) (by omega) hx
   rw[← Nat.add_assoc] at c0
   have HC:Hid (wordTo bs o (k+1)=c ||| wide x <<< (8*k)):=by
    show wordTo bs o k ||| wide bs[o+k]! <<< (8*k)=_
    rw[HE.out,hx]
   clear hx f0
   have hs:=shl64 (wide x) (8*k)
   have k8:(k:Int)<(len:Int):=by omega
   go_wp2
   go_round
   case rel=>exact ⟨k+1,_,by omega,by go_num,rfl,HC⟩
   case measure=>simp[intOf];omega
  ·have hk8:k=8:=by omega
   subst hk8
   go_wp2
   go_ret
   unfold wordOf
   rw[HE.out]
   exact ⟨rfl,rfl⟩
theorem mix_any (b off sb so len cap:Nat) (bs:Bs) (d:St) (w:World) (hd:d.size=25) (hH:Holds enc w b off d) (hB:Holds encB w sb so bs) (hl:bs.size=len) (hlen:len≤200) (hcap:len≤cap)
 (hdis:sb≠b∨so+len≤off∨off+25≤so) :
 Calls Tryz.prog 174 #[.pointer (some ⟨b,off,none⟩),.slice (some ⟨sb,so,none⟩) len cap] w fun e w'=>e=.returned (.tuple #[])∧Only b off 25 w w'∧Holds enc w' b off (mixTo bs d (len/8)):=by
 go_enter Tryz.func174,Tryz.ntmps174
 go_wp2
 go_loopg [8] (len/8) (fun g s8 wr=>∃ (k:Nat) (dk:St),k+g=len/8∧s8=.int .i64 k∧Holds enc wr b off dk∧Only b off 25 w wr∧Hid (dk=mixTo bs d k))
 case atStart=>exact ⟨0,d,by omega,rfl,hH,Only.refl _ _ _ _,rfl⟩
 case round =>
  obtain ⟨k,dk,hk,rfl,hD,hO,HE⟩:=hrel
  have hs:dk.size=25:=by rw[HE.out,mixTo_size,hd]
  by_cases hlt:k<len/8
  ·have hBr:Holds encB wr sb so bs:=by
    by_cases hsb:sb=b
    ·subst hsb
     exact Holds.same hB hO (by omega)
    ·exact Holds.other hB hO hsb (by omega)
   obtain ⟨x,hx⟩:∃ x,dk[k]! = x:=⟨_,rfl⟩
   obtain ⟨c0,f0⟩:=at_word hD k (by omega) hx
   have HX:Hid (dk[k]! = x):=hx
   clear hx
   have r0:(k:Int)<25:=by omega
   have r1:(0:Int)≤(k:Int)*8:=by omega
   have r2:(k:Int)*8≤(len:Int):=by omega
   have r3:((k:Int)*8).toNat=8*k:=by omega
   have s1:IntKind.i64.wrap ((k:Int)*8)=(k:Int)*8:=IntWalk.i64_in _ (by omega)
   have lt:(k:Int)<(len:Int)/8:=by omega
   go_wp2_with fail
   have hne:(cap=8*k)=False:=eq_false (by omega)
   have HB:Hid (Holds encB wr.drew sb so bs):=Holds.drew hBr
   have Q4:Hid (8*k+8≤bs.size):=by show _≤_;omega
   clear hBr
   go_region_with (go_at_call 183;refine (word_any sb so (8*k) (len-8*k) (cap-8*k) bs _ HB.out (by omega) Q4.out (by omega)).mono ?_;rintro e w2 ⟨rfl,rfl⟩)
   all_goals
    go_wp2
    go_roundg (gk-1)
    case measure=>omega
    case rel =>
     refine ⟨k+1,xorAt dk k (wordOf bs (8*k)),by omega,by go_num,?_,?_,?_⟩
     ·exact Holds.drew (Holds.xor hD (by omega) HX.out _)
     ·exact (hO.setCell (o:=off+k) (by omega) (by omega) _).drew
     ·rw[HE.out];rfl
  ·have hk8:k=len/8:=by omega
   have lt:(len:Int)/8≤(k:Int):=by omega
   go_wp2
   go_end0
   refine ⟨rfl,hO,?_⟩
   rw[← hk8,← HE.out]
   exact hD
theorem slice22:Tryz.prog.underlying 23=some (.slice 5):=by kernel_rfl
theorem info5:(Tryz.prog.info? 5).map (fun i=>(i.zero,i.size,i.bytes))=some (some (.int .u8 0),1,1):=by kernel_rfl
attribute [local go_sem] low_u
theorem front_any (b off n:Nat) (d:St) (w:World) (hd:d.size=25) (hH:Holds enc w b off d) (hn:n≤200) :
 Calls Tryz.prog 127 #[.pointer (some ⟨b,off,none⟩),.int .i64 n] w fun e w'=>e=.returned (.slice (some ⟨w.heap.size,0,none⟩) n n)∧Below w.heap.size w w'∧Holds encB w' w.heap.size 0 (front d n):=by
 have hb:=Holds.lt hH (by omega)
 have hmk:=run_make_row' (P:=Tryz.prog) 23 5 (.int .u8 0) 1 slice22 info5 rfl .i64 .i64 n (by omega) (by omega)
 go_enter Tryz.func127,Tryz.ntmps127
 go_wp2
 generalize hW1:(w.alloc _)=W1
 go_loopg [11] n (fun g s11 wr=>∃ (k:Nat) (bs:Bs),k+g=n∧s11=.int .i64 k∧Holds encB wr w.heap.size 0 bs∧Only w.heap.size 0 n W1 wr∧Hid (bs=frontTo d n k))
 case atStart =>
  refine ⟨0,_,by omega,rfl,?_,Only.refl _ _ _ _,rfl⟩
  rw[← hW1]
  exact Holds.made (enc:=encB) w 5 n 0
 case round =>
  obtain ⟨k,bs,hk,rfl,hB,hO,HE⟩:=hrel
  have hs:bs.size=n:=by rw[HE.out,frontTo_size]
  have hD:Holds enc wr b off d:=Holds.other (by rw[← hW1];exact Holds.below hH ((Below.refl _ _).alloc (Nat.le_refl _) _) hb) hO (by omega) (by omega)
  by_cases hlt:k<n
  ·obtain ⟨x,hx⟩:∃ x,d[k/8]! = x:=⟨_,rfl⟩
   obtain ⟨c0,f0⟩:=at_word hD (k/8) (by omega) hx
   obtain ⟨c1,f1⟩:=hB k (by omega)
   rw[Nat.zero_add] at c1 f1
   have HX:Hid (byteOf d k=low (x >>> (8*(k%8)))):=by show low _=_;rw[hx]
   clear hx f0
   have r0:(k:Int)/8<25:=by omega
   have r1:(k:Int)<(n:Int):=by omega
   have hsr:=shr64 x (8*(k%8))
   go_wp2
   go_roundg (gk-1)
   case measure=>omega
   case rel =>
    refine ⟨k+1,bs.setIfInBounds k (low (x >>> (8*(k%8)))),by omega,by go_num,?_,?_,?_⟩
    ·have:=Holds.set hB (i:=k) (by omega) (low (x >>> (8*(k%8))))
     rw[Nat.zero_add] at this
     exact this
    ·exact hO.setCell (o:=k) (by omega) (by omega) _
    ·show _=(frontTo d n k).setIfInBounds k (byteOf d k)
     rw[HX.out,HE.out]
  ·have hkn:k=n:=by omega
   have lt:(n:Int)≤(k:Int):=by omega
   go_wp2
   go_ret
   refine ⟨rfl,?_,?_⟩
   ·rw[← hW1] at hO
    exact hO.fresh
   ·unfold front
    rw[HE.out,hkn] at hB
    exact hB
end SP
namespace SP
open Go.RowKit
structure Of where
 x:Nat
 y:Nat
 o:Array Nat
end SP
namespace SP
theorem zx (x:BitVec 64):0 ^^^ x=x:=BitVec.zero_xor
end SP
namespace SP
open Go.Sort
def zero25:St:=Array.replicate 25 0
theorem zero25_at (j:Nat) (h:j<25):zero25[j]! = 0:=by
 have h':j<(Array.replicate 25 (0:BitVec 64)).size:=by rw[Array.size_replicate];exact h
 unfold zero25
 rw[getElem!_pos (Array.replicate 25 (0:BitVec 64)) j h',Array.getElem_replicate]
end SP
namespace SP
open Go.RowKit Go.Sort
end SP
namespace SP
open Go.RowKit Go.Sort
def fill (i:Nat):UInt8:=UInt8.ofNat (i%251) ^^^ 165
def lentTo (s:ByteArray):Nat→Bs
 | 0=>s.data++Array.replicate 160 0
 | k+1=>(lentTo s k).setIfInBounds (s.size+k) (fill (s.size+k))
def lent (s:ByteArray):Bs:=lentTo s 160
variable {w w1:World} {b o n:Nat}
theorem heap_setCells (b:Nat) {k:Nat} (hk:k≠b):∀ (vs:List Value) (p:Nat) (w:World),(w.setCells b p vs).heap[k]? = w.heap[k]?
 | [],_,_=>rfl
 | v :: r,p,w=>by rw[World.setCells,heap_setCells b hk r (p+1) _,Below.heap_setCell _ _ _ _ hk]
theorem Only.setCells (h:Only b o n w w1) (vs:List Value) (p:Nat) (hp:o≤p) (hn:p+vs.length≤o+n):Only b o n w (w1.setCells b p vs):=by
 have h0:=below_setCells (B:=0) (b:=b) (Nat.zero_le _) vs p w1 (Below.refl 0 w1)
 exact h.trans ⟨h0.os,h0.tape,h0.output,h0.size,fun k _ hk=>heap_setCells b hk vs p w1,
  fun q hq=>World.cell?_setCells_out b vs p w1 ⟨b,q,none⟩ (fun _ _=>by simp only;omega),fun q=>World.frozen?_setCells b vs p w1 _⟩
theorem Holds.setCells {bs r:Bs} (h:Holds encB w b o bs) (vs:List Value) (p:Nat) (hr:r.size=bs.size) (hp:p+vs.length≤bs.size)
 (h1:∀ j (hj:j<vs.length),vs[j]=encB r[p+j]!) (h2:∀ j,j<bs.size→j<p∨p+vs.length≤j→r[j]! = bs[j]!):Holds encB (w.setCells b (o+p) vs) b o r:=by
 intro j hj
 rw[hr] at hj
 rw[World.frozen?_setCells]
 refine ⟨?_,(h j hj).2⟩
 by_cases hin:j<p∨p+vs.length≤j
 ·rw[World.cell?_setCells_out b vs (o+p) w ⟨b,o+j,none⟩ (fun _ _=>by simp only;omega),h2 j hj hin]
  exact (h j hj).1
 ·have hj2:j-p<vs.length:=by omega
  have:=World.cell?_setCells_in b vs (o+p) w (fun i hi=>by
   have:=(h (p+i) (by omega)).1
   rw[← Nat.add_assoc] at this
   rw[this];rfl) (j-p) hj2
  rw[show o+p+(j-p)=o+j by omega] at this
  rw[this,h1 (j-p) hj2,show p+(j-p)=j by omega]
theorem app_front (a r:Bs) (j:Nat) (hj:j<a.size):(a++r)[j]! = a[j]:=by
 have h:j<(a++r).size:=by rw[Array.size_append];omega
 rw[getElem!_pos (a++r) j h,Array.getElem_append_left hj]
theorem app_back (a r:Bs) (j:Nat) (h1:a.size≤j) (h2:j<a.size+r.size):(a++r)[j]! = r[j-a.size]!:=by
 have h:j<(a++r).size:=by rw[Array.size_append];omega
 have h3:j-a.size<r.size:=by omega
 rw[getElem!_pos (a++r) j h,Array.getElem_append_right h1,getElem!_pos r (j-a.size) h3]
theorem rep_at (n j:Nat) (h:j<n):(Array.replicate n (0:UInt8))[j]! = 0:=by
 have h':j<(Array.replicate n (0:UInt8)).size:=by rw[Array.size_replicate];exact h
 rw[getElem!_pos (Array.replicate n (0:UInt8)) j h',Array.getElem_replicate]
theorem size_of5 (P:Program) (e:TypeId) (h:(P.info? e).map (·.size)=some 1):∀ w,(Go.sizeOf e).run P w=.ok 1 w:=by
 intro w
 cases hq:P.info? e with
 | none=>simp[hq] at h
 | some i =>
  simp[hq] at h
  simp[Go.sizeOf,typeInfo,hq,h]
end SP
namespace SP
open Go.RowKit Go.Sort Go.Deep
theorem int5:Tryz.prog.underlying 5=some (.int .u8):=by kernel_rfl
theorem str9:Tryz.prog.underlying 9=some .string:=by kernel_rfl
theorem size5:∀ w,(Go.sizeOf 5).run Tryz.prog w=.ok 1 w:=size_of5 Tryz.prog 5 (by kernel_rfl)
end SP
end Go.Proofs.YtnfpdihkjkimiaaGreat
