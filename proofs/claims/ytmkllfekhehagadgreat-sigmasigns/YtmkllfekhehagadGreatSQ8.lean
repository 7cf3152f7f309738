import Derived.Deep.RegionHeld3
import Derived.Deep.LoopGhost
import Derived.Laws.AppendOwn
import Derived.Laws.IdiomCopy
import Derived.Lib.AppendZeros
import Derived.Test.YtmkllfekhehagadGreatSQ7
set_option linter.unusedVariables false
set_option linter.unusedSimpArgs false
namespace Go.Proofs.YtmkllfekhehagadGreat
open Go.RowKit Go.Sort Go.Deep
variable {N:Nat}
theorem nuV_top (bs:Bs):nuV bs < top:=by
 unfold nuV
 split
 · rename_i h
   have h1:=beV_lt bs.toList
   rw [Array.length_toList,h] at h1
   exact h1
 · unfold top;omega
theorem qZero_c {m:Nat} (hm:m < top):Gives 80 #[nv m] (.bool (decide (m=0))):=fun w=>rZero_any _ m (four_nv hm) w
def sec (N:Nat) (bs:Bs):Bool:=(rq N bs).isSome && !decide (nuV bs=0)
def FSe_0:List RG.It:=[.m 2 [] 0,.x 3 [] (.bool false)]
def FSe_1 (s:ByteArray) (n:Nat) (ok:Bool):List RG.It:=[.c 8 [] rv1,.x 9 [] (.string s),.c 10 [(8,0),(9,1)] (.tuple #[nv n,.bool ok]),.x 7 [(10,2)] (.tuple #[nv n,.bool ok]),.x 11 [(7,3)] (nv n),.x 12 [(7,3)] (.bool ok),.m 4 [] 1,.u [(4,6),(11,4)] 1,.x 5 [(12,5)] (.bool ok)]
def FSe_2 (n:Nat) (z:Bool):List RG.It:=[.x 13 [] (nv n),.c 14 [(13,0)] (.bool z),.x 6 [(14,1)] (.bool z)]
def FSe_3t (n:Nat) (z:Bool):List RG.It:=[.x 15 [] (nv n),.x 16 [] (.bool true),.x 17 [(16,1)] (.bool true),.x 18 [] (.bool z),.x 19 [(18,3)] (.bool (!z)),.x 20 [(17,2),(19,4)] (.bool (!z)),.u [(15,0)] 0,.x 3 [(20,5)] (.bool (!z))]
def FSe_3f (n:Nat):List RG.It:=[.x 15 [] (nv n),.x 16 [] (.bool false),.x 17 [(16,1)] (.bool false),⟨some 18,[],(.v undef),.pass⟩,⟨some 19,[],(.v undef),.pass⟩,.x 20 [(17,2),(19,4)] (.bool false),.u [(15,0)] 0,.x 3 [(20,5)] (.bool false)]
set_option maxHeartbeats 2000000 in
set_option maxRecDepth 100000 in
theorem qSecret_c (O:Ord N) (s:ByteArray):Gives 31 #[.string s] (.tuple #[nv (nuV s.data),.bool (sec N s.data)]):=by
 intro w
 have hN:=rNum_v O.ref s
 have hZ:=qZero_c (nuV_top s.data)
 unfold sec
 generalize nuV s.data=n at hN hZ ⊢
 generalize (rq N s.data).isSome=ok at hN ⊢
 generalize decide (n=0)=z at hZ ⊢
 go_enter Tryz.func31,Tryz.ntmps31
 refine RG.M.enter [(0,.v (.string s))] 21 (by kernel_rfl) ?_
 intro a0 M0
 repeat refine wp_seq ?_
 refine M0.tx FSe_0 [(0,RG.z 4)] [] [RG.z 4] [(0,.v (.string s)),(2,.p 0 0),(3,.v (.bool false))] (by kernel_rfl) (by kernel_rfl) ⟨RG.mk 0 64 fun _ _=>by kernel_rfl,RG.st fun _ _=>by kernel_rfl,trivial⟩ ?_
 intro j1 a1 w1 M1
 repeat refine wp_seq ?_
 refine M1.tx (FSe_1 s n ok) [(6,RG.z 4)] [(1,7,wn n)] [RG.z 4,wn n] [(2,.p 0 0),(4,.p 1 0),(5,.v (.bool ok))] (by kernel_rfl) (by kernel_rfl) ⟨RG.cl Q3_c fun _ _=>by kernel_rfl,RG.st fun _ _=>by kernel_rfl,RG.cl hN fun _ _=>by kernel_rfl,RG.st fun _ _=>by kernel_rfl,RG.st fun _ _=>by kernel_rfl,RG.st fun _ _=>by kernel_rfl,RG.mk 1 64 fun _ _=>by kernel_rfl,RG.pt i33 (by kernel_rfl),RG.st fun _ _=>by kernel_rfl,trivial⟩ ?_
 intro j2 a2 w2 M2
 repeat refine wp_seq ?_
 refine M2.tx0 (FSe_2 n z) [(2,.p 0 0),(4,.p 1 0),(5,.v (.bool ok)),(6,.v (.bool z))] (by kernel_rfl) ⟨RG.ld u33 i33 (by kernel_rfl),RG.cl hZ fun _ _=>by kernel_rfl,RG.st fun _ _=>by kernel_rfl,trivial⟩ ?_
 intro a3 w3 M3
 repeat refine wp_seq ?_
 cases ok with
 | true =>
  refine M3.tx (FSe_3t n z) [] [(0,6,wn n)] [wn n,wn n] [(2,.p 0 0),(3,.v (.bool (!z)))] (by kernel_rfl) (by kernel_rfl) ⟨RG.ld u33 i33 (by kernel_rfl),RG.st fun _ _=>by kernel_rfl,RG.st fun _ _=>by kernel_rfl,RG.st fun _ _=>by kernel_rfl,RG.st fun _ _=>by kernel_rfl,RG.st fun _ _=>by kernel_rfl,RG.pt i33 (by kernel_rfl),RG.st fun _ _=>by kernel_rfl,trivial⟩ ?_
  intro a4 w4 M4
  refine wp_ret ?_
  refine bodyPost_ret (v:=.tuple #[nv n,.bool (!z)]) (RG.results_rt M4.st 2 3 64 rfl 0 _ rfl (M4.at (s:=.p 0 0) (by kernel_rfl)) (.bool (!z)) (M4.av (by kernel_rfl)) u33 i33) M4.sl.defers ?_
  exact ⟨_,rfl,M4.st.bel.below,rfl⟩
 | false =>
  refine M3.tx (FSe_3f n) [] [(0,6,wn n)] [wn n,wn n] [(2,.p 0 0),(3,.v (.bool false))] (by kernel_rfl) (by kernel_rfl) ⟨RG.ld u33 i33 (by kernel_rfl),RG.st fun _ _=>by kernel_rfl,RG.st fun _ _=>by kernel_rfl,RG.cert_pass rfl rfl,RG.cert_pass rfl rfl,RG.st fun _ _=>by kernel_rfl,RG.pt i33 (by kernel_rfl),RG.st fun _ _=>by kernel_rfl,trivial⟩ ?_
  intro a4 w4 M4
  refine wp_ret ?_
  refine bodyPost_ret (v:=.tuple #[nv n,.bool false]) (RG.results_rt M4.st 2 3 64 rfl 0 _ rfl (M4.at (s:=.p 0 0) (by kernel_rfl)) (.bool false) (M4.av (by kernel_rfl)) u33 i33) M4.sl.defers ?_
  exact ⟨_,rfl,M4.st.bel.below,rfl⟩
theorem cat2 (A B:Bs) (ha:A.size≤1000000) (hb:B.size≤1000000) (w:World):(binOp .add 9 (.string ⟨A⟩) (.string ⟨B⟩)).run Tryz.prog w=.ok (.string ⟨A++B⟩) w:=by
 have h2:(⟨A⟩:ByteArray)++⟨B⟩=⟨A++B⟩:=by
  have h3:((⟨A⟩:ByteArray)++⟨B⟩).data=A++B:=ByteArray.data_append
  rw [← h3]
 have h4:Array.size A+Array.size B≤9223372036854775807:=by omega
 go_simp
variable {P:Nat} [NeZero P]
def FQs_0:List RG.It:=[.x 4 [] (.string ⟨#[]⟩),.x 5 [] (.int .i64 0)]
def FQs_1 (sk:ByteArray) (x:Nat) (ok:Bool):List RG.It:=[.x 14 [] (.string sk),.c 15 [(14,0)] (.tuple #[nv x,.bool ok]),.x 13 [(15,1)] (.tuple #[nv x,.bool ok]),.x 16 [(13,2)] (nv x),.x 17 [(13,2)] (.bool ok),.m 6 [] 0,.u [(6,5),(16,3)] 0,.x 7 [(17,4)] (.bool ok)]
def FQs_2 (ok:Bool):List RG.It:=[.x 18 [] (.bool ok),.x 19 [(18,0)] (.bool (!ok))]
def FQs_3:List RG.It:=[.x 4 [] (.string ⟨#[]⟩),.x 5 [] (.int .i64 3)]
def FQs_4:List RG.It:=[.c 20 [] rv1,.m 8 [] 1,.u [(8,1),(20,0)] 1]
def FQs_5 (sk tx:ByteArray) (k:Nat):List RG.It:=[.x 21 [] (.string sk),.x 22 [] (.string tx),⟨some 23,[(21,0),(22,1)],.s 2 2 2,.make 2⟩,.c 24 [(23,2)] (nv k),.m 9 [] 3,.u [(9,4),(24,3)] 3]
def FQs_6 (k:Nat) (tk:T3 P) (T1:Bs):List RG.It:=[.x 25 [] (nv k),.c 26 [(25,0)] (tv tk),.c 27 [(26,1)] (.string ⟨T1⟩),.x 10 [(27,2)] (.string ⟨T1⟩)]
def FQs_7 (tx:ByteArray) (x c:Nat) (t0:T3 P) (T0 T1:Bs):List RG.It:=[.x 28 [] (nv x),.c 29 [(28,0)] (tv t0),.c 30 [(29,1)] (.string ⟨T0⟩),.x 31 [] (.string ⟨T1⟩),.x 32 [] (.string tx),.c 33 [(30,2),(31,3),(32,4)] (nv c),.m 11 [] 4,.u [(11,6),(33,5)] 4]
def FQs_8 (x k c cx z:Nat):List RG.It:=[.x 34 [] rv1,.x 35 [] (nv k),.x 36 [] rv1,.x 37 [] (nv c),.x 38 [] (nv x),.c 39 [(36,2),(37,3),(38,4)] (nv cx),.c 40 [(34,0),(35,1),(39,5)] (nv z),.m 12 [] 5,.u [(12,7),(40,6)] 5]
def FQs_9 (z:Nat) (T1:Bs):List RG.It:=[.x 41 [] (.string ⟨T1⟩),.x 42 [] (nv z),.c 43 [(42,1)] (.string ⟨bx z⟩),.x 44 [(41,0),(43,2)] (.string ⟨T1++bx z⟩),.x 4 [(44,3)] (.string ⟨T1++bx z⟩),.x 5 [] (.int .i64 0)]
noncomputable def sgn (P:Nat) [NeZero P] (N:Nat) (sk tx:ByteArray):Bs :=
 wr (EC.mul (chL N [110,111,110,99,101,32,115,105,103,110] [sk.data.toList,tx.data.toList]) (gG P)) ++
  bx (sPl N (chL N [110,111,110,99,101,32,115,105,103,110] [sk.data.toList,tx.data.toList])
   (sTi N (asg N (wr (EC.mul (nuV sk.data) (gG P))).toList (wr (EC.mul (chL N [110,111,110,99,101,32,115,105,103,110] [sk.data.toList,tx.data.toList]) (gG P))).toList tx.data.toList) (nuV sk.data)))
theorem tm_frac (C:Fl3 P) {n:Nat} (hn:n < top):FracT (tmF n (gT P) 256) (EC.mul n (gG P)):=by
 have h:=tmF_F C (n:=n) (by unfold top at hn;omega) (gT_frac C.toFld) 256 (Nat.le_refl _)
 rwa [Nat.sub_self,Nat.pow_zero,Nat.div_one] at h
set_option maxHeartbeats 4000000 in
set_option maxRecDepth 100000 in
theorem qSign_y (C:Fl3 P) (O:Ord N) (sk tx:ByteArray) (hsk:sk.size≤4096) (htx:tx.size≤4096) (hok:sec N sk.data=true) (hx:nuV sk.data < N):Gives 10 #[.string sk,.string tx] (.tuple #[.string ⟨sgn P N sk tx⟩,.int .i64 0]):=by
 intro w
 have hSec:=qSecret_c O sk
 rw [hok] at hSec
 have hCh:∀ (g:Nat) (w':World),w'.rangeAt g 0 [.string sk,.string tx]∧g < w'.heap.size→Calls Tryz.prog 33 #[.string ⟨#[110,111,110,99,101,32,115,105,103,110]⟩,.slice (some ⟨g,0,none⟩) 2 2] w' (Ret fun e w''=>Below w'.heap.size w' w''∧e=nv (chL N [110,111,110,99,101,32,115,105,103,110] [sk.data.toList,tx.data.toList])):=fun g w' h=>by
  refine qChance_c O ⟨#[110,111,110,99,101,32,115,105,103,110]⟩ (some ⟨g,0,none⟩) 2 [sk,tx] w' (by decide) (Nat.le_of_ble_eq_true rfl) (Or.inr ⟨g,0,rfl,fun j hj=>?_⟩) (fun j hj=>?_) ?_
  · have hj2:j=0∨j=1:=by simp at hj;omega
    rcases hj2 with rfl | rfl
    · exact h.1 0 _ rfl
    · exact h.1 1 _ rfl
  · have hj2:j=0∨j=1:=by simp at hj;omega
    rcases hj2 with rfl | rfl
    · show sk.size≤_;omega
    · show tx.size≤_;omega
  · have h2:=SP.frames_small [110,111,110,99,101,32,115,105,103,110] ([sk,tx].map fun s=>s.data.toList) 4096 (by decide) (fun p hp=>by
     simp only [List.map_cons,List.map_nil,List.mem_cons,List.not_mem_nil,or_false] at hp
     rcases hp with rfl | rfl
     · rw [Array.length_toList];exact hsk
     · rw [Array.length_toList];exact htx)
    refine Nat.le_trans h2 ?_
    show (2+1)*(4096+4)≤1048576
    decide
 unfold sgn
 have hk:=redu_lt O (SP.strmL (SP.tagL [110,111,110,99,101,32,115,105,103,110] [sk.data.toList,tx.data.toList]).toList 64)
 replace hk:chL N [110,111,110,99,101,32,115,105,103,110] [sk.data.toList,tx.data.toList] < N:=hk
 generalize chL N [110,111,110,99,101,32,115,105,103,110] [sk.data.toList,tx.data.toList]=k at hCh hk ⊢
 generalize nuV sk.data=x at hSec hx ⊢
 have hkt:=Nat.lt_of_lt_of_le hk O.le
 have hxt:=Nat.lt_of_lt_of_le hx O.le
 have hB1:=qBase_c C k hkt
 have hB0:=qBase_c C x hxt
 have hW1:=rWritten_c C (tm_frac C hkt)
 have hW0:=rWritten_c C (tm_frac C hxt)
 have z1:(wr (EC.mul k (gG P))).size=33:=wr_size _
 have z0:(wr (EC.mul x (gG P))).size=33:=wr_size _
 generalize wr (EC.mul k (gG P))=T1 at hW1 z1 ⊢
 generalize wr (EC.mul x (gG P))=T0 at hW0 z0 ⊢
 generalize tmF k (gT P) 256=tk at hB1 hW1
 generalize tmF x (gT P) 256=t0 at hB0 hW0
 have hAs:Gives 36 #[.string ⟨T0⟩,.string ⟨T1⟩,.string tx] (nv (asg N T0.toList T1.toList tx.data.toList)):=qAsked_c O ⟨T0⟩ ⟨T1⟩ tx (by show T0.size≤_;omega) (by show T1.size≤_;omega) (by omega)
 have hc:=asg_lt O T0.toList T1.toList tx.data.toList
 generalize asg N T0.toList T1.toList tx.data.toList=c at hAs hc ⊢
 have hM:=qMul_c O hc hx
 have hcx:=O.ti c x
 generalize sTi N c x=cx at hM hcx ⊢
 have hA:=qAdd_c O hk hcx
 have hz:=O.pl k cx
 generalize sPl N k cx=z at hA hz ⊢
 have hBy:=qBytes_c O hz
 have hcat:=cat2 T1 (bx z) (by omega) (by rw [bx_size];decide)
 clear hk hx hkt hxt hc hcx hz z1 z0 hok
 go_enter Tryz.func10,Tryz.ntmps10
 refine RG.M.enter [(0,.v (.string sk)),(1,.v (.string tx))] 45 (by kernel_rfl) ?_
 intro a0 M0
 repeat refine wp_seq ?_
 refine M0.tx0 FQs_0 [(0,.v (.string sk)),(1,.v (.string tx))] (by kernel_rfl) ⟨RG.st fun _ _=>by kernel_rfl,RG.st fun _ _=>by kernel_rfl,trivial⟩ ?_
 intro a1 w1 M1
 repeat refine wp_seq ?_
 refine M1.tx (FQs_1 sk x true) [(5,RG.z 4)] [(0,6,wn x)] [wn x] [(0,.v (.string sk)),(1,.v (.string tx)),(6,.p 0 0),(7,.v (.bool true))] (by kernel_rfl) (by kernel_rfl) ⟨RG.st fun _ _=>by kernel_rfl,RG.cl hSec fun _ _=>by kernel_rfl,RG.st fun _ _=>by kernel_rfl,RG.st fun _ _=>by kernel_rfl,RG.st fun _ _=>by kernel_rfl,RG.mk 0 64 fun _ _=>by kernel_rfl,RG.pt i33 (by kernel_rfl),RG.st fun _ _=>by kernel_rfl,trivial⟩ ?_
 intro j2 a2 w2 M2
 repeat refine wp_seq ?_
 refine M2.tx0 (FQs_2 true) [(0,.v (.string sk)),(1,.v (.string tx)),(6,.p 0 0),(19,.v (.bool false))] (by kernel_rfl) ⟨RG.st fun _ _=>by kernel_rfl,RG.st fun _ _=>by kernel_rfl,trivial⟩ ?_
 intro a3 w3 M3
 repeat refine wp_seq ?_
 refine wp_cond_false (M3.ev (by kernel_rfl)) ?_
 refine wp_skip ?_
 repeat refine wp_seq ?_
 refine M3.tx FQs_4 [(1,RG.z 8)] [(1,2,rl1)] [wn x,rl1] [(0,.v (.string sk)),(1,.v (.string tx)),(6,.p 0 0),(8,.p 1 0)] (by kernel_rfl) (by kernel_rfl) ⟨RG.cl Q3_c fun _ _=>by kernel_rfl,RG.mk 1 68 fun _ _=>by kernel_rfl,RG.pt i35 (by kernel_rfl),trivial⟩ ?_
 intro j4 a4 w4 M4
 repeat refine wp_seq ?_
 refine M4.tx (FQs_5 sk tx k) [(2,[.string sk,.string tx]),(4,RG.z 4)] [(3,5,wn k)] [wn x,rl1,[.string sk,.string tx],wn k] [(1,.v (.string tx)),(6,.p 0 0),(8,.p 1 0),(9,.p 3 0)] (by kernel_rfl) (by kernel_rfl) ⟨RG.st fun _ _=>by kernel_rfl,RG.st fun _ _=>by kernel_rfl,RG.mk 2 9 fun _ _=>by kernel_rfl,RG.cr [2] (fun μ w' _ hs=>hCh (μ 2) w' (hs 2 (List.Mem.head _) _ rfl (List.cons_ne_nil _ _))) fun _ _=>by kernel_rfl,RG.mk 3 64 fun _ _=>by kernel_rfl,RG.pt i33 (by kernel_rfl),trivial⟩ ?_
 intro j5 i5 a5 w5 M5
 repeat refine wp_seq ?_
 refine M5.tx0 (FQs_6 k tk T1) [(1,.v (.string tx)),(6,.p 0 0),(8,.p 1 0),(9,.p 3 0),(10,.v (.string ⟨T1⟩))] (by kernel_rfl) ⟨RG.ld u33 i33 (by kernel_rfl),RG.cl hB1 fun _ _=>by kernel_rfl,RG.cl hW1 fun _ _=>by kernel_rfl,RG.st fun _ _=>by kernel_rfl,trivial⟩ ?_
 intro a6 w6 M6
 repeat refine wp_seq ?_
 refine M6.tx (FQs_7 tx x c t0 T0 T1) [(6,RG.z 4)] [(4,7,wn c)] [wn x,rl1,[.string sk,.string tx],wn k,wn c] [(6,.p 0 0),(8,.p 1 0),(9,.p 3 0),(10,.v (.string ⟨T1⟩)),(11,.p 4 0)] (by kernel_rfl) (by kernel_rfl) ⟨RG.ld u33 i33 (by kernel_rfl),RG.cl hB0 fun _ _=>by kernel_rfl,RG.cl hW0 fun _ _=>by kernel_rfl,RG.st fun _ _=>by kernel_rfl,RG.st fun _ _=>by kernel_rfl,RG.cl hAs fun _ _=>by kernel_rfl,RG.mk 4 64 fun _ _=>by kernel_rfl,RG.pt i33 (by kernel_rfl),trivial⟩ ?_
 intro j7 a7 w7 M7
 repeat refine wp_seq ?_
 refine M7.dr (by kernel_rfl) (FQs_8 x k c cx z) [(7,RG.z 4)] [(5,8,wn z)] [wn x,rl1,[.string sk,.string tx],wn k,wn c,wn z] [(10,.v (.string ⟨T1⟩)),(12,.p 5 0)] (by kernel_rfl) (by kernel_rfl) ⟨RG.ld u35 i35 (by kernel_rfl),RG.ld u33 i33 (by kernel_rfl),RG.ld u35 i35 (by kernel_rfl),RG.ld u33 i33 (by kernel_rfl),RG.ld u33 i33 (by kernel_rfl),RG.cl hM fun _ _=>by kernel_rfl,RG.cl hA fun _ _=>by kernel_rfl,RG.mk 5 64 fun _ _=>by kernel_rfl,RG.pt i33 (by kernel_rfl),trivial⟩ ?_
 intro j8 a8 w8 M8
 repeat refine wp_seq ?_
 refine M8.tx0 (FQs_9 z T1) [(4,.v (.string ⟨T1++bx z⟩)),(5,.v (.int .i64 0))] (by kernel_rfl) ⟨RG.st fun _ _=>by kernel_rfl,RG.ld u33 i33 (by kernel_rfl),RG.cl hBy fun _ _=>by kernel_rfl,RG.cert_bin rfl .add 9 9 41 43 (.string ⟨T1⟩) (.string ⟨bx z⟩) (.string ⟨T1++bx z⟩) rfl rfl (RG.sx fun _=>by kernel_rfl) (RG.sx fun _=>by kernel_rfl) (fun w=>by kernel_rfl) hcat,RG.st fun _ _=>by kernel_rfl,RG.st fun _ _=>by kernel_rfl,trivial⟩ ?_
 intro a9 w9 M9
 refine wp_ret ?_
 refine bodyPost_ret (v:=.tuple #[.string ⟨T1++bx z⟩,.int .i64 0]) (RG.results_tt 4 5 rfl _ _ (M9.av (by kernel_rfl)) (M9.av (by kernel_rfl))) M9.sl.defers ?_
 exact ⟨_,rfl,M9.st.bel.below,rfl⟩
set_option maxHeartbeats 2000000 in
set_option maxRecDepth 100000 in
theorem qSign_n (O:Ord N) (sk tx:ByteArray) (hok:sec N sk.data=false):Gives 10 #[.string sk,.string tx] (.tuple #[.string ⟨#[]⟩,.int .i64 3]):=by
 intro w
 have hSec:=qSecret_c O sk
 rw [hok] at hSec
 generalize nuV sk.data=x at hSec
 go_enter Tryz.func10,Tryz.ntmps10
 refine RG.M.enter [(0,.v (.string sk)),(1,.v (.string tx))] 45 (by kernel_rfl) ?_
 intro a0 M0
 repeat refine wp_seq ?_
 refine M0.tx0 FQs_0 [(0,.v (.string sk)),(1,.v (.string tx))] (by kernel_rfl) ⟨RG.st fun _ _=>by kernel_rfl,RG.st fun _ _=>by kernel_rfl,trivial⟩ ?_
 intro a1 w1 M1
 repeat refine wp_seq ?_
 refine M1.tx (FQs_1 sk x false) [(5,RG.z 4)] [(0,6,wn x)] [wn x] [(7,.v (.bool false))] (by kernel_rfl) (by kernel_rfl) ⟨RG.st fun _ _=>by kernel_rfl,RG.cl hSec fun _ _=>by kernel_rfl,RG.st fun _ _=>by kernel_rfl,RG.st fun _ _=>by kernel_rfl,RG.st fun _ _=>by kernel_rfl,RG.mk 0 64 fun _ _=>by kernel_rfl,RG.pt i33 (by kernel_rfl),RG.st fun _ _=>by kernel_rfl,trivial⟩ ?_
 intro j2 a2 w2 M2
 repeat refine wp_seq ?_
 refine M2.tx0 (FQs_2 false) [(19,.v (.bool true))] (by kernel_rfl) ⟨RG.st fun _ _=>by kernel_rfl,RG.st fun _ _=>by kernel_rfl,trivial⟩ ?_
 intro a3 w3 M3
 repeat refine wp_seq ?_
 refine wp_cond_true (M3.ev (by kernel_rfl)) ?_
 repeat refine wp_seq ?_
 refine M3.tx0 FQs_3 [(4,.v (.string ⟨#[]⟩)),(5,.v (.int .i64 3))] (by kernel_rfl) ⟨RG.st fun _ _=>by kernel_rfl,RG.st fun _ _=>by kernel_rfl,trivial⟩ ?_
 intro a4 w4 M4
 refine wp_ret ?_
 refine bodyPost_ret (v:=.tuple #[.string ⟨#[]⟩,.int .i64 3]) (RG.results_tt 4 5 rfl _ _ (M4.av (by kernel_rfl)) (M4.av (by kernel_rfl))) M4.sl.defers ?_
 exact ⟨_,rfl,M4.st.bel.below,rfl⟩
end Go.Proofs.YtmkllfekhehagadGreat
namespace Go.Proofs.YtmkllfekhehagadGreat
open Go.RowKit Go.Sort Go.Deep
theorem undCP:Tryz.prog.underlying 58=some (.array 33 5):=by kernel_rfl
theorem bl33_lit {b:Bs} (h:b.size=33):bl33 b=[.int .u8 (ub b[0]!),.int .u8 (ub b[1]!),.int .u8 (ub b[2]!),.int .u8 (ub b[3]!),.int .u8 (ub b[4]!),.int .u8 (ub b[5]!),.int .u8 (ub b[6]!),.int .u8 (ub b[7]!),.int .u8 (ub b[8]!),.int .u8 (ub b[9]!),.int .u8 (ub b[10]!),.int .u8 (ub b[11]!),.int .u8 (ub b[12]!),.int .u8 (ub b[13]!),.int .u8 (ub b[14]!),.int .u8 (ub b[15]!),.int .u8 (ub b[16]!),.int .u8 (ub b[17]!),.int .u8 (ub b[18]!),.int .u8 (ub b[19]!),.int .u8 (ub b[20]!),.int .u8 (ub b[21]!),.int .u8 (ub b[22]!),.int .u8 (ub b[23]!),.int .u8 (ub b[24]!),.int .u8 (ub b[25]!),.int .u8 (ub b[26]!),.int .u8 (ub b[27]!),.int .u8 (ub b[28]!),.int .u8 (ub b[29]!),.int .u8 (ub b[30]!),.int .u8 (ub b[31]!),.int .u8 (ub b[32]!)]:=by
 apply List.ext_getElem?
 intro i
 by_cases hi:i < 33
 · rw [bl33_at b i (by omega)]
   match i,hi with
   | 0,_=>rfl
   | 1,_=>rfl
   | 2,_=>rfl
   | 3,_=>rfl
   | 4,_=>rfl
   | 5,_=>rfl
   | 6,_=>rfl
   | 7,_=>rfl
   | 8,_=>rfl
   | 9,_=>rfl
   | 10,_=>rfl
   | 11,_=>rfl
   | 12,_=>rfl
   | 13,_=>rfl
   | 14,_=>rfl
   | 15,_=>rfl
   | 16,_=>rfl
   | 17,_=>rfl
   | 18,_=>rfl
   | 19,_=>rfl
   | 20,_=>rfl
   | 21,_=>rfl
   | 22,_=>rfl
   | 23,_=>rfl
   | 24,_=>rfl
   | 25,_=>rfl
   | 26,_=>rfl
   | 27,_=>rfl
   | 28,_=>rfl
   | 29,_=>rfl
   | 30,_=>rfl
   | 31,_=>rfl
   | 32,_=>rfl
   | n+33,h=>exact absurd h (by omega)
 · rw [List.getElem?_eq_none (by rw [bl33_length h];omega),List.getElem?_eq_none (by show 33≤i;omega)]
theorem bytes_eq {a b:Bs} (ha:a.size=33) (hb:b.size=33):(∀ i∈List.range 33,ub a[i]! = ub b[i]!)↔a=b:=by
 constructor
 · intro h
   apply Array.ext (by rw [ha,hb])
   intro i h1 h2
   have h3:=h i (List.mem_range.2 (by omega))
   rw [getElem!_pos a i h1,getElem!_pos b i h2] at h3
   have h4:a[i].toNat=b[i].toNat:=by unfold ub at h3;omega
   exact UInt8.toNat_inj.1 h4
 · rintro rfl i _
   rfl
theorem eqCP {a b:Bs} (ha:a.size=33) (hb:b.size=33) (w:World):(Op.equal 58 (.agg (bl33 a).toArray) (.agg (bl33 b).toArray)).run Tryz.prog w=.ok (decide (a=b)) w:=by
 have hi:(Tryz.prog.info? 5).isSome=true:=by kernel_rfl
 obtain ⟨inf,hinf⟩:=Option.isSome_iff_exists.1 hi
 show (Op.equalIn 10000 58 _ _).run Tryz.prog w=_
 rw [run_equalIn_array w 9999 _ _ undCP hinf,cells5,
  eqI _ _ (fun i=>ub a[i]!) (fun i=>ub b[i]!) 9998 w (List.range 33) (fun i hi=>by
   rw [List.getElem?_toArray]
   exact bl33_at a i (by rw [ha];exact List.mem_range.1 hi)) (fun i hi=>by
   rw [List.getElem?_toArray]
   exact bl33_at b i (by rw [hb];exact List.mem_range.1 hi))]
 rw [decide_eq_decide.2 (bytes_eq ha hb)]
set_option maxRecDepth 100000 in
theorem checkCP {b:Bs} (hb:b.size=33) (e:Bool) (w:World):(Instr.checkKey e 10000 58 (.agg (bl33 b).toArray)).run Tryz.prog w=.ok () w:=by
 rw [bl33_lit hb]
 kernel_rfl
def at? (b:Bs):List Bs→Nat→Option Nat
 | [],_=>none
 | k :: r,i=>if b=k then some i else at? b r (i+1)
def ents:List Bs→Nat→List MapEntry
 | [],_=>[]
 | k :: r,i=>{ key:=.agg (bl33 k).toArray,val:=.int .i64 (i:Int),born:=i } :: ents r (i+1)
theorem find_run {b:Bs} (hb:b.size=33) (w:World):∀ (D:List Bs) (i:Nat),(∀ k∈D,k.size=33)→(Instr.findAsking 58 (.agg (bl33 b).toArray) (ents D i) i).run Tryz.prog w=.ok ((at? b D i).map fun j=>(j,.int .i64 (j:Int))) w
 | [],i,_=>rfl
 | k :: r,i,h=>by
  have ih:=find_run hb w r (i+1) (fun x hx=>h x (List.mem_cons_of_mem _ hx))
  have he:=eqCP hb (h k List.mem_cons_self) w
  unfold ents Instr.findAsking at?
  simp only [Sem.run_bind,he,Result.andThen_ok]
  by_cases hk:b=k
  · simp only [hk,decide_true,if_true,Sem.run_pure,Option.map_some]
  · simp only [hk,decide_false,Bool.false_eq_true,if_false,ih]
theorem key_run {b:Bs} (hb:b.size=33) (D:List Bs) (h:∀ k∈D,k.size=33) (w:World):(Instr.findKey 58 (.agg (bl33 b).toArray) (ents D 0)).run Tryz.prog w=.ok ((at? b D 0).map fun j=>(j,.int .i64 (j:Int))) w:=by
 have hu:(underlying 58).run Tryz.prog w=.ok (.array 33 5) w:=run_underlying undCP w
 unfold Instr.findKey
 rw [Sem.run_bind,hu,Result.andThen_ok]
 cases D with
 | nil=>rfl
 | cons k r =>
  have h1:Instr.findNow (.array 33 5) (.agg (bl33 b).toArray) (ents (k :: r) 0) 0=none:=rfl
  simp only [h1]
  exact find_run hb w (k :: r) 0 h
theorem at?_none {b:Bs}:∀ {D:List Bs} {i:Nat},at? b D i=none↔b ∉ D
 | [],i=>by simp [at?]
 | k :: r,i=>by
  unfold at?
  by_cases h:b=k
  · simp [h]
  · simp [h,at?_none (D:=r) (i:=i+1)]
end Go.Proofs.YtmkllfekhehagadGreat
namespace Go.Proofs.YtmkllfekhehagadGreat
open Go.RowKit Go.Sort Go.Deep
section
variable {P:Program} {ops:Array Oper} {rest:List Oper} {op:Oper} {a:Act} {w w':World} {v u:Value} {Q:Exit→Act→World→Prop}
theorem wpList_box (hgd:op.guard=none) (T:TypeId) (x:Operand) (ho:op.op=.box T x) (hx:a.eval x=u) (hr:(Instr.box T u).run P w=.ok v w') (h:wpList P ops Q rest (a.put op.dst v) w'):wpList P ops Q (op :: rest) a w :=
 wpList_plain hgd fun K hK=>by
  unfold Oper.wp execOp
  simp only [ho,hx,Sem.run_bind,hr,Result.andThen_ok,Sem.run_pure]
  exact hK _ _ h
end
variable {N:Nat}
theorem infoCP:(Tryz.prog.info? 58).map (·.size)=some 33:=by kernel_rfl
theorem uCP:(Tryz.prog.underlying 58).map (·.isRow)=some true:=by kernel_rfl
set_option maxRecDepth 100000 in
theorem boxCP {a:Bs} (ha:a.size=33) (w:World):(Instr.box 58 (.agg (bl33 a).toArray)).run Tryz.prog w=.ok (.pointer (some ⟨w.heap.size,0,none⟩)) (w.alloc (.cells (bl33 a).toArray 58)):=by
 rw [bl33_lit ha]
 kernel_rfl
theorem slCP (k:Nat) (w:World):(Instr.sliceAt 58 (.pointer (some ⟨k,0,none⟩)) none none none).run Tryz.prog w=.ok (.slice (some ⟨k,0,none⟩) 33 33) w:=by kernel_rfl
theorem row_holds {W:World} {k:Nat} {a:Bs} (h:Row W k (bl33 a)):Holds encB W k 0 a:=cb_holds h.2.1 h.2.2
theorem row_part {W:World} {k:Nat} {a:Bs} (ha:a.size=33) (h:Row W k (bl33 a)):SP.PartOk W (.slice (some ⟨k,0,none⟩) 33 33) a.toList :=
 ⟨_,k,0,33,a,by rw [ha],rfl,by omega,by omega,Or.inr ⟨rfl,row_holds h⟩⟩
theorem sp_h {W:World} {r:Nat} {L:Bs} (h:Holds encB W r 0 L):Holds SP.encB W r 0 L:=h
theorem sp_k {W:World} {r:Nat} {L:Bs} (h:Holds SP.encB W r 0 L):Holds encB W r 0 L:=h
structure Sx (w W:World) (k3 k4 k6 k7 r:Nat) (a b L:Bs):Prop where
 bl:Below w.heap.size w W
 r3:Row W k3 (bl33 a)
 r4:Row W k4 (bl33 b)
 r6:Row W k6 [.int .u64 0,.int .u64 0,.int .u64 0,.int .u64 0]
 r7:Row W k7 [.pointer (some ⟨r,0,none⟩)]
 lg:Holds encB W r 0 L
structure Sn (w:World) (k3 k4 k6 k7 r:Nat):Prop where
 lr:w.heap.size≤r
 n3:k3≠r
 n4:k4≠r
 n6:k6≠r
 n7:k7≠r
 l6:w.heap.size≤k6
theorem Sx.say {w W W':World} {k3 k4 k6 k7 r:Nat} {a b L L':Bs} (h:Sx w W k3 k4 k6 k7 r a b L) (n:Sn w k3 k4 k6 k7 r) (hO:SP.Only r 0 32 W W') (hL:Holds encB W' r 0 L'):Sx w W' k3 k4 k6 k7 r a b L' :=
 ⟨h.bl.trans (hO.below h.bl.size n.lr),h.r3.only hO n.n3,h.r4.only hO n.n4,h.r6.only hO n.n6,h.r7.only hO n.n7,hL⟩
theorem Sx.drew {w W:World} {k3 k4 k6 k7 r:Nat} {a b L:Bs} (h:Sx w W k3 k4 k6 k7 r a b L):Sx w W.drew k3 k4 k6 k7 r a b L:=⟨h.bl.drew,h.r3,h.r4,h.r6,h.r7,h.lg⟩
theorem Sx.cell {w W:World} {k3 k4 k6 k7 r:Nat} {a b L:Bs} (h:Sx w W k3 k4 k6 k7 r a b L):W.cell? ⟨k7,0,none⟩=some (.pointer (some ⟨r,0,none⟩)):=h.r7.2.1 0 _ rfl
set_option maxHeartbeats 1500000 in
set_option maxRecDepth 100000 in
theorem sAsked_c (O:Ord N) (a b:Bs) (ha:a.size=33) (hb:b.size=33) (ta:Option Addr) (tl tc:Nat) (tx:List UInt8) (w:World) (hP:SP.PartOk w (.slice ta tl tc) tx) :
 Calls Tryz.prog 27 #[.agg (bl33 a).toArray,.agg (bl33 b).toArray,.slice ta tl tc] w (Ret fun e w'=>Below w.heap.size w w'∧e=nv (asg N a.toList b.toList tx)):=by
 obtain ⟨L0,h0⟩:∃ L,Hid (SP.newL [115,105,103,110]=L):=⟨_,rfl⟩
 obtain ⟨L1,h1⟩:∃ L,Hid (SP.sayL L0 [112,117,98,108,105,99] a.toList=L):=⟨_,rfl⟩
 obtain ⟨L2,h2⟩:∃ L,Hid (SP.sayL L1 [102,105,114,115,116] b.toList=L):=⟨_,rfl⟩
 obtain ⟨L3,h3⟩:∃ L,Hid (SP.sayL L2 [116,101,120,116] tx=L):=⟨_,rfl⟩
 have s0:L0.size=32:=by rw [← h0.out];exact SP.newL_size _
 have s1:L1.size=32:=by rw [← h1.out];exact SP.sayL_size _ _ _
 have s2:L2.size=32:=by rw [← h2.out];exact SP.sayL_size _ _ _
 have s3:L3.size=32:=by rw [← h3.out];exact SP.sayL_size _ _ _
 have hr:asg N a.toList b.toList tx=cha N L3:=by unfold asg logS;rw [h0.out,h1.out,h2.out,h3.out]
 rw [hr]
 clear hr
 have HP:=Hid.mk' hP
 clear hP
 obtain ⟨va,hva⟩:∃ v,Hid (Value.agg (bl33 a).toArray=v):=⟨_,rfl⟩
 obtain ⟨vb,hvb⟩:∃ v,Hid (Value.agg (bl33 b).toArray=v):=⟨_,rfl⟩
 have bA:=boxCP ha w
 obtain ⟨w1,hw1⟩:∃ w1,Hid (w.alloc (.cells (bl33 a).toArray 58)=w1):=⟨_,rfl⟩
 have bB:=boxCP hb w1
 obtain ⟨w2,hw2⟩:∃ w2,Hid (w1.alloc (.cells (bl33 b).toArray 58)=w2):=⟨_,rfl⟩
 obtain ⟨w3,hw3⟩:∃ w3,Hid (w2.alloc (.cells #[.int .u64 0,.int .u64 0,.int .u64 0,.int .u64 0] 53)=w3):=⟨_,rfl⟩
 rw [hva.out,hw1.out] at bA
 rw [hvb.out,hw2.out] at bB
 rw [hva.out,hvb.out]
 have e1:w1.heap.size=w.heap.size+1:=by rw [← hw1.out,World.size_alloc]
 have e2:w2.heap.size=w.heap.size+2:=by rw [← hw2.out,World.size_alloc,e1]
 have e3:w3.heap.size=w.heap.size+3:=by rw [← hw3.out,World.size_alloc,e2]
 rw [e1] at bB
 have K3:Hid (Row w3 w.heap.size (bl33 a)∧Row w3 (w.heap.size+1) (bl33 b)∧Row w3 (w.heap.size+2) [.int .u64 0,.int .u64 0,.int .u64 0,.int .u64 0]∧Below w.heap.size w w3):=by
  have q1:Row w1 w.heap.size (bl33 a):=by rw [← hw1.out];exact row_new w _ _
  have q2:Row w2 (w.heap.size+1) (bl33 b):=by rw [← hw2.out,← e1];exact row_new w1 _ _
  have q3:Row w3 (w.heap.size+2) [.int .u64 0,.int .u64 0,.int .u64 0,.int .u64 0]:=by rw [← hw3.out,← e2];exact row_new w2 _ _
  have b1:Below w.heap.size w w1:=by rw [← hw1.out];exact below1 w _
  have b2:Below w1.heap.size w1 w2:=by rw [← hw2.out];exact below1 w1 _
  have b3:Below w2.heap.size w2 w3:=by rw [← hw3.out];exact below1 w2 _
  exact ⟨(q1.below b2).below b3,q2.below b3,q3,(b1.trans (b2.mono (by omega))).trans (b3.mono (by omega))⟩
 clear hw1 hw2
 have BA:=Hid.mk' bA
 have BB:=Hid.mk' bB
 clear bA bB
 go_enter Tryz.func27,Tryz.ntmps27
 go_wp2_with (first | (refine wpList_box (u:=va) (v:=.pointer (some ⟨w.heap.size,0,none⟩)) (w':=w1) rfl 58 (.tmp 0) rfl ?_ ?_ ?_;rfl;exact BA.out) | (refine wpList_box (u:=vb) (v:=.pointer (some ⟨w.heap.size+1,0,none⟩)) (w':=w2) rfl 58 (.tmp 1) rfl ?_ ?_ ?_;rfl;exact BB.out))
 rw [hw3.out]
 clear hw3 BA BB
 refine (sNewLog_c ⟨#[115,105,103,110]⟩ w3 (by decide)).mono ?_
 rintro e w4 ⟨v,rfl,hb4,r,rfl,hr1,hr2,hL⟩
 rw [show SP.newL (⟨#[115,105,103,110]⟩:ByteArray).data.toList=L0 from h0.out] at hL
 have hb04:Below w.heap.size w w4:=K3.out.2.2.2.trans (hb4.mono K3.out.2.2.2.size)
 obtain ⟨k7,hk7⟩:∃ k,Hid (w4.heap.size=k):=⟨_,rfl⟩
 have hk7r:r < k7:=by rw [← hk7.out];exact hr2
 have hb04s:=hb04.size
 have HN:Hid (Sn w w.heap.size (w.heap.size+1) (w.heap.size+2) k7 r):=⟨by omega,by omega,by omega,by omega,by omega,by omega⟩
 obtain ⟨w5,hw5⟩:∃ w5,Hid ((w4.alloc (.cells #[.pointer none] 124)).setCells k7 0 [.pointer (some ⟨r,0,none⟩)]=w5):=⟨_,rfl⟩
 have KS:Hid (Sx w w5 w.heap.size (w.heap.size+1) (w.heap.size+2) k7 r a b L0):=by
  rw [← hw5.out,← hk7.out]
  have hR:=row_new w4 [.pointer none] 124
  have hlt:w4.heap.size=k7:=hk7.out
  refine ⟨RG.below_setCells hb04.size _ _ _ (hb04.alloc hb04.size _),((K3.out.1.below hb4).alloc _).other (by omega),((K3.out.2.1.below hb4).alloc _).other (by omega),((K3.out.2.2.1.below hb4).alloc _).other (by omega),hR.put rfl,fun j hj=>?_⟩
  have e:=RG.setCells_other w4.heap.size [.pointer (some ⟨r,0,none⟩)] 0 (w4.alloc (.cells #[.pointer none] 124)) r (by omega)
  have e2:=Below.heap_alloc w4 (.cells #[.pointer none] 124) r hr2
  rw [World.cell?_of_block (a:=⟨r,0+j,none⟩) e,World.frozen?_of_block (a:=⟨r,0+j,none⟩) e,World.cell?_of_block (a:=⟨r,0+j,none⟩) e2,World.frozen?_of_block (a:=⟨r,0+j,none⟩) e2]
  exact hL j hj
 have HTH:Hid ((w4.alloc (.cells #[.pointer none] 124)).there k7 0 1):=by rw [← hk7.out];exact (row_new w4 [.pointer none] 124).2.2
 clear hb4 hL hb04 hr1 hr2 K3 hk7r hb04s
 go_wp2_with (refine wpList_op (v:=.pointer (some ⟨k7,0,none⟩)) (w':=w4.alloc (.cells #[.pointer none] 124)) rfl (.alloc 124) rfl ?_ ?_;(rw [← hk7.out];kernel_rfl);refine Hid.out ?_)
 show wpList _ _ _ _ _ _
 refine wpList_store_mid rfl 124 _ _ rfl k7 0 #[.pointer (some ⟨r,0,none⟩)] ?_ ?_ ?_ ?_ ?_ ?_
 · kernel_rfl
 · kernel_rfl
 · exact HTH.out
 · exact i124
 · kernel_rfl
 rw [show (#[Value.pointer (some ⟨r,0,none⟩)]).toList=[.pointer (some ⟨r,0,none⟩)] from rfl,hw5.out]
 clear HTH hw5 hk7
 have hs3:=slCP w.heap.size
 have hs4:=slCP (w.heap.size+1)
 have KP:=KS.out
 clear KS
 go_wp2_with fail
 go_region_held3 (fun W=>W.cell? ⟨k7,0,none⟩=some (.pointer (some ⟨r,0,none⟩))∧∃ L,Sx w W w.heap.size (w.heap.size+1) (w.heap.size+2) k7 r a b L) (first | (with_reducible exact ⟨KP.cell,_,KP⟩) | (with_reducible exact ⟨KP.drew.cell,_,KP.drew⟩) | fail) (first | (go_at_call 73;(first | (with_reducible refine (SP.Say_any r L0 ⟨#[112,117,98,108,105,99]⟩ (some ⟨w.heap.size,0,none⟩) 33 33 a.toList _ (by decide) (sp_h KP.lg) s0 (row_part ha KP.r3)).mono ?_) | (with_reducible refine (SP.Say_any r L0 ⟨#[112,117,98,108,105,99]⟩ (some ⟨w.heap.size,0,none⟩) 33 33 a.toList _ (by decide) (sp_h KP.drew.lg) s0 (row_part ha KP.drew.r3)).mono ?_));rintro e w6 ⟨rfl,hO,hL⟩;rw [show SP.sayL L0 (⟨#[112,117,98,108,105,99]⟩:ByteArray).data.toList a.toList=L1 from h1.out] at hL;(first | (with_reducible (have KP1:=KP.drew.say HN.out hO (sp_k hL))) | (with_reducible (have KP1:=KP.say HN.out hO (sp_k hL))) | fail);clear KP hO hL;have KP:=KP1;clear KP1))
 clear hs3
 go_wp2_with fail
 go_region_held3 (fun W=>W.cell? ⟨k7,0,none⟩=some (.pointer (some ⟨r,0,none⟩))∧∃ L,Sx w W w.heap.size (w.heap.size+1) (w.heap.size+2) k7 r a b L) (first | (with_reducible exact ⟨KP.cell,_,KP⟩) | (with_reducible exact ⟨KP.drew.cell,_,KP.drew⟩) | fail) (first | (go_at_call 73;(first | (with_reducible refine (SP.Say_any r L1 ⟨#[102,105,114,115,116]⟩ (some ⟨w.heap.size+1,0,none⟩) 33 33 b.toList _ (by decide) (sp_h KP.lg) s1 (row_part hb KP.r4)).mono ?_) | (with_reducible refine (SP.Say_any r L1 ⟨#[102,105,114,115,116]⟩ (some ⟨w.heap.size+1,0,none⟩) 33 33 b.toList _ (by decide) (sp_h KP.drew.lg) s1 (row_part hb KP.drew.r4)).mono ?_));rintro e w7 ⟨rfl,hO,hL⟩;rw [show SP.sayL L1 (⟨#[102,105,114,115,116]⟩:ByteArray).data.toList b.toList=L2 from h2.out] at hL;(first | (with_reducible (have KP1:=KP.drew.say HN.out hO (sp_k hL))) | (with_reducible (have KP1:=KP.say HN.out hO (sp_k hL))) | fail);clear KP hO hL;have KP:=KP1;clear KP1))
 clear hs4
 have c7:=KP.cell
 have KS:=Hid.mk' KP
 clear KP
 go_wp2_with fail
 clear c7
 refine (SP.Say_any r L2 ⟨#[116,101,120,116]⟩ ta tl tc tx w7 (by decide) (sp_h KS.out.lg) s2 (HP.out.below KS.out.bl)).mono ?_
 rintro e w8 ⟨rfl,hO,hL⟩
 rw [show SP.sayL L2 (⟨#[116,101,120,116]⟩:ByteArray).data.toList tx=L3 from h3.out] at hL
 have KT:Hid (Sx w w8 w.heap.size (w.heap.size+1) (w.heap.size+2) k7 r a b L3):=KS.out.say HN.out hO (sp_k hL)
 clear hO hL KS HP
 obtain ⟨d,hd1,hd2⟩:=Option.map_eq_some_iff.1 u124
 have HD:Hid (Tryz.prog.underlying 124=some d∧d.isRow=true):=⟨hd1,hd2⟩
 clear hd1 hd2
 go_wp2_with (refine wpList_load_mid rfl 124 _ rfl k7 0 ?_ [.pointer (some ⟨r,0,none⟩)] d ?_ ?_ ?_ ?_ ?_;kernel_rfl;exact KT.out.r7.2.1;exact HD.out.1;exact HD.out.2;exact i124)
 refine (sChallenge_c O r L3 w8 KT.out.lg s3).mono ?_
 rintro e w9 ⟨v,rfl,hO,rfl⟩
 have K9:Hid (Row w9 (w.heap.size+2) [.int .u64 0,.int .u64 0,.int .u64 0,.int .u64 0]∧Below w.heap.size w w9):=⟨KT.out.r6.only hO HN.out.n6,KT.out.bl.trans (hO.below KT.out.bl.size HN.out.lr)⟩
 clear hO KT HN
 obtain ⟨m,hm⟩:∃ m,Hid (cha N L3=m):=⟨_,rfl⟩
 rw [hm.out]
 obtain ⟨wa,hwa⟩:∃ wa,Hid (w9.setCells (w.heap.size+2) 0 (wn m)=wa):=⟨_,rfl⟩
 have KA:Hid (Row wa (w.heap.size+2) (wn m)∧Below w.heap.size w wa):=by rw [← hwa.out];exact ⟨K9.out.1.put rfl,RG.below_setCells (by omega) _ _ _ K9.out.2⟩
 obtain ⟨vm,hvm⟩:∃ vm,Hid (nv m=vm):=⟨_,rfl⟩
 rw [hvm.out]
 go_wp2_with (refine wpList_store_mid rfl 53 _ _ rfl (w.heap.size+2) 0 (wn m).toArray ?_ ?_ ?_ ?_ ?_ ?_;rfl;exact hvm.out.symm;exact K9.out.1.2.2;exact i40;exact wn_one m;rw [show (wn m).toArray.toList=wn m from rfl,hwa.out])
 refine bodyPost_ret (results_cell 6 53 rfl KA.out.1 rfl u40 i40) rfl ?_
 exact ⟨_,rfl,KA.out.2,by rw [hm.out];rfl⟩
end Go.Proofs.YtmkllfekhehagadGreat
namespace Go.Proofs.YtmkllfekhehagadGreat
open Go.RowKit Go.Sort Go.Deep
variable {N:Nat}
def FAn_0:List RG.It:=[.m 3 [] 0,.m 4 [] 1,.m 5 [] 2,.m 6 [] 3]
def FAn_1 (c k x cx z:Nat):List RG.It:=[.x 7 [] (nv k),.x 8 [] (nv c),.x 9 [] (nv x),.c 10 [(8,1),(9,2)] (nv cx),.c 11 [(7,0),(10,3)] (nv z),.u [(11,4)] 3]
set_option maxHeartbeats 2000000 in
set_option maxRecDepth 100000 in
theorem answer_c (O:Ord N) {c k x:Nat} (hc:c < N) (hk:k < N) (hx:x < N):Gives 29 #[nv c,nv k,nv x] (nv (sPl N k (sTi N c x))):=by
 intro w
 have h1:=sTim_c O c x hc hx
 have h2:=sPlu_c O k (sTi N c x) hk (O.ti c x)
 generalize sTi N c x=cx at h1 h2 ⊢
 generalize sPl N k cx=z at h2 ⊢
 go_enter Tryz.func29,Tryz.ntmps29
 refine RG.M.enter [(0,.v (nv c)),(1,.v (nv k)),(2,.v (nv x))] 12 (by kernel_rfl) ?_
 intro a0 M0
 repeat refine wp_seq ?_
 refine M0.tx FAn_0 [(0,wn c),(1,wn k),(2,wn x),(3,RG.z 4)] [] [wn c,wn k,wn x,RG.z 4] [(3,.p 0 0),(4,.p 1 0),(5,.p 2 0),(6,.p 3 0)] (by kernel_rfl) (by kernel_rfl) ⟨RG.mk 0 53 fun _ _=>by kernel_rfl,RG.mk 1 53 fun _ _=>by kernel_rfl,RG.mk 2 53 fun _ _=>by kernel_rfl,RG.mk 3 53 fun _ _=>by kernel_rfl,trivial⟩ ?_
 intro j1 j2 j3 j4 a1 w1 M1
 repeat refine wp_seq ?_
 refine M1.dr (by kernel_rfl) (FAn_1 c k x cx z) [] [(3,5,wn z)] [wn c,wn k,wn x,wn z] [(6,.p 3 0)] (by kernel_rfl) (by kernel_rfl) ⟨RG.ld u40 i40 (by kernel_rfl),RG.ld u40 i40 (by kernel_rfl),RG.ld u40 i40 (by kernel_rfl),RG.cl h1 fun _ _=>by kernel_rfl,RG.cl h2 fun _ _=>by kernel_rfl,RG.pt i40 (by kernel_rfl),trivial⟩ ?_
 intro a2 w2 M2
 refine wp_ret ?_
 refine bodyPost_ret (v:=nv z) (RG.results_row M2.st 6 53 rfl 3 _ rfl (M2.at (s:=(.p 3 0)) (by kernel_rfl)) u40 i40) M2.sl.defers ?_
 exact ⟨_,rfl,M2.st.bel.below,rfl⟩
theorem neS {a:Nat} (ha:a < top) (w:World):(binOp .neq 53 (nv a) (nv 0)).run Tryz.prog w=.ok (.bool (!decide (a=0))) w:=by
 have h:=eqS ha (show 0 < top by unfold top;omega) w
 have h1:(binOp .eql 53 (nv a) (nv 0)).run Tryz.prog w=(Op.equal 53 (nv a) (nv 0) >>= fun b=>pure (Value.bool b)).run Tryz.prog w:=rfl
 have h2:(binOp .neq 53 (nv a) (nv 0)).run Tryz.prog w=(Op.equal 53 (nv a) (nv 0) >>= fun b=>pure (Value.bool (!b))).run Tryz.prog w:=rfl
 rw [h1,Sem.run_bind] at h
 rw [h2,Sem.run_bind]
 cases he:(Op.equal 53 (nv a) (nv 0)).run Tryz.prog w with
 | ok r w2 =>
  rw [he] at h
  simp only [Result.andThen_ok,Sem.run_pure,Result.ok.injEq,Value.bool.injEq] at h ⊢
  rw [h.1,h.2]
  exact ⟨rfl,rfl⟩
 | halt r w2 =>
  rw [he] at h
  cases h
def FRs_0:List RG.It:=[.m 2 [] 0,.x 3 [] (.bool false)]
def FRs_1 (v:Value) (n:Nat) (ok:Bool):List RG.It:=[.x 7 [] v,.c 8 [(7,0)] (.tuple #[nv n,.bool ok]),.x 6 [(8,1)] (.tuple #[nv n,.bool ok]),.x 9 [(6,2)] (nv n),.x 10 [(6,2)] (.bool ok),.m 4 [] 1,.u [(4,5),(9,3)] 1,.x 5 [(10,4)] (.bool ok)]
def FRs_2t (n:Nat) (z:Bool):List RG.It:=[.x 11 [] (nv n),.x 12 [] (.bool true),.x 13 [(12,1)] (.bool true),.x 14 [] (nv n),.x 15 [] (nv 0),.x 16 [(14,3),(15,4)] (.bool z),.x 17 [(13,2),(16,5)] (.bool z),.u [(11,0)] 0,.x 3 [(17,6)] (.bool z)]
def FRs_2f (n:Nat):List RG.It:=[.x 11 [] (nv n),.x 12 [] (.bool false),.x 13 [(12,1)] (.bool false),⟨some 14,[],(.v undef),.pass⟩,⟨some 15,[],(.v undef),.pass⟩,⟨some 16,[],(.v undef),.pass⟩,.x 17 [(13,2),(16,5)] (.bool false),.u [(11,0)] 0,.x 3 [(17,6)] (.bool false)]
set_option maxHeartbeats 2000000 in
set_option maxRecDepth 100000 in
theorem rsecret_c (O:Ord N) (v:Value) (bs:Bs) (w:World) (hv:Arg w v bs):Calls Tryz.prog 23 #[v] w (Ret fun e w'=>Below w.heap.size w w'∧e=.tuple #[nv ((rq N bs).getD 0),.bool ((rq N bs).isSome && !decide ((rq N bs).getD 0=0))]):=by
 have hR:∀ w',RG.BelX w.heap.size [] w w'→Calls Tryz.prog 66 #[v] w' (Ret fun e w''=>Below w'.heap.size w' w''∧e=.tuple #[nv ((rq N bs).getD 0),.bool (rq N bs).isSome]):=fun w' hb=>sread_c O v bs w' (hv.below hb.below)
 have hlt:(rq N bs).getD 0 < top:=by
  cases h:rq N bs with
  | none=>show 0 < top;unfold top;omega
  | some n=>exact rq_top O.le h
 have hne:=neS hlt
 generalize (rq N bs).getD 0=n at hR hlt hne ⊢
 generalize (rq N bs).isSome=ok at hR ⊢
 generalize (!decide (n=0))=z at hne ⊢
 go_enter Tryz.func23,Tryz.ntmps23
 refine RG.M.enter [(0,.v v)] 18 (by kernel_rfl) ?_
 intro a0 M0
 repeat refine wp_seq ?_
 refine M0.tx FRs_0 [(0,RG.z 4)] [] [RG.z 4] [(0,.v v),(2,.p 0 0),(3,.v (.bool false))] (by kernel_rfl) (by kernel_rfl) ⟨RG.mk 0 53 fun _ _=>by kernel_rfl,RG.st fun _ _=>by kernel_rfl,trivial⟩ ?_
 intro j1 a1 w1 M1
 repeat refine wp_seq ?_
 refine M1.tx (FRs_1 v n ok) [(5,RG.z 4)] [(1,6,wn n)] [RG.z 4,wn n] [(2,.p 0 0),(4,.p 1 0),(5,.v (.bool ok))] (by kernel_rfl) (by kernel_rfl) ⟨RG.st fun _ _=>by kernel_rfl,RG.clB (fun _ _=>by kernel_rfl) hR,RG.st fun _ _=>by kernel_rfl,RG.st fun _ _=>by kernel_rfl,RG.st fun _ _=>by kernel_rfl,RG.mk 1 53 fun _ _=>by kernel_rfl,RG.pt i40 (by kernel_rfl),RG.st fun _ _=>by kernel_rfl,trivial⟩ ?_
 intro j2 a2 w2 M2
 repeat refine wp_seq ?_
 cases ok with
 | true =>
  refine M2.dr (by kernel_rfl) (FRs_2t n z) [] [(0,7,wn n)] [wn n,wn n] [(2,.p 0 0),(3,.v (.bool z))] (by kernel_rfl) (by kernel_rfl) ⟨RG.ld u40 i40 (by kernel_rfl),RG.st fun _ _=>by kernel_rfl,RG.st fun _ _=>by kernel_rfl,RG.ld u40 i40 (by kernel_rfl),RG.st fun _ _=>by kernel_rfl,RG.cert_bin rfl .neq 53 53 14 15 (nv n) (nv 0) (.bool z) rfl rfl (RG.sx fun _=>by kernel_rfl) (RG.sx fun _=>by kernel_rfl) (fun w=>by kernel_rfl) hne,RG.st fun _ _=>by kernel_rfl,RG.pt i40 (by kernel_rfl),RG.st fun _ _=>by kernel_rfl,trivial⟩ ?_
  intro a4 w4 M4
  refine wp_ret ?_
  refine bodyPost_ret (v:=.tuple #[nv n,.bool z]) (RG.results_rt M4.st 2 3 53 rfl 0 _ rfl (M4.at (s:=.p 0 0) (by kernel_rfl)) (.bool z) (M4.av (by kernel_rfl)) u40 i40) M4.sl.defers ?_
  exact ⟨_,rfl,M4.st.bel.below,rfl⟩
 | false =>
  refine M2.dr (by kernel_rfl) (FRs_2f n) [] [(0,7,wn n)] [wn n,wn n] [(2,.p 0 0),(3,.v (.bool false))] (by kernel_rfl) (by kernel_rfl) ⟨RG.ld u40 i40 (by kernel_rfl),RG.st fun _ _=>by kernel_rfl,RG.st fun _ _=>by kernel_rfl,RG.cert_pass rfl rfl,RG.cert_pass rfl rfl,RG.cert_pass rfl rfl,RG.st fun _ _=>by kernel_rfl,RG.pt i40 (by kernel_rfl),RG.st fun _ _=>by kernel_rfl,trivial⟩ ?_
  intro a4 w4 M4
  refine wp_ret ?_
  refine bodyPost_ret (v:=.tuple #[nv n,.bool false]) (RG.results_rt M4.st 2 3 53 rfl 0 _ rfl (M4.at (s:=.p 0 0) (by kernel_rfl)) (.bool false) (M4.av (by kernel_rfl)) u40 i40) M4.sl.defers ?_
  exact ⟨_,rfl,M4.st.bel.below,rfl⟩
end Go.Proofs.YtmkllfekhehagadGreat
namespace Go.Proofs.YtmkllfekhehagadGreat
open Go.RowKit Go.Sort Go.Deep
variable {P:Nat} [NeZero P]
theorem arrCP (g cg:Nat) (w:World):(Instr.arrayAt 58 (.slice (some ⟨g,0,none⟩) 33 cg)).run Tryz.prog w=.ok (.pointer (some ⟨g,0,none⟩)) w:=by kernel_rfl
theorem row_cp {W:World} {k:Nat} {a:Bs} (ha:Holds encB W k 0 a) (hk:k < W.heap.size):Row W k (bl33 a):=⟨hk,(cb_range ha).1,(cb_range ha).2⟩
theorem bl33_one (a:Bs):(bl33 a).toArray.all (·.oneCell')=true:=by
 rw [Array.all_eq_true']
 intro v hv
 obtain ⟨x,-,rfl⟩:=List.mem_map.1 (List.mem_toArray.1 hv)
 rfl
def pvl (a:Bs):Value:=.agg (bl33 a).toArray
set_option maxHeartbeats 1000000 in
set_option maxRecDepth 100000 in
theorem gen_c (C:Fld P):Gives 26 #[] (pvl (wr (gG P))):=by
 intro w
 obtain ⟨T,hT⟩:∃ T,Hid (wr (gG P)=T):=⟨_,rfl⟩
 have hTs:T.size=33:=by rw [← hT.out];exact wr_size _
 rw [hT.out]
 obtain ⟨w1,hw1⟩:∃ w1,Hid (w.alloc (.cells z33.toArray 58)=w1):=⟨_,rfl⟩
 have K1:Hid (Row w1 w.heap.size z33∧Below w.heap.size w w1):=by rw [← hw1.out];exact ⟨row_new w _ _,below1 w _⟩
 obtain ⟨d,hd1,hd2⟩:=Option.map_eq_some_iff.1 uCP
 have HD:Hid (Tryz.prog.underlying 58=some d∧d.isRow=true):=⟨hd1,hd2⟩
 clear hd1 hd2
 go_enter Tryz.func26,Tryz.ntmps26
 go_wp2_with (refine wpList_op (v:=.pointer (some ⟨w.heap.size,0,none⟩)) (w':=w1) rfl (.alloc 58) rfl ?_ ?_;(rw [← hw1.out];kernel_rfl))
 refine (Base_c C w1).mono ?_
 rintro e w2 ⟨vv,rfl,hb2,g,cg,rfl,-,k2,k3,k4⟩
 rw [hT.out] at k4
 have K2:Hid (Row w2 w.heap.size z33∧Below w.heap.size w w2∧Row w2 g (bl33 T)):=⟨K1.out.1.below hb2,K1.out.2.trans (hb2.mono K1.out.2.size),row_cp k4 k3⟩
 clear hb2 k2 k3 k4 K1 hw1
 have harr:=arrCP g cg
 obtain ⟨w3,hw3⟩:∃ w3,Hid (w2.setCells w.heap.size 0 (bl33 T)=w3):=⟨_,rfl⟩
 have hlen:(bl33 T).length=33:=bl33_length hTs
 have K3:Hid (Row w3 w.heap.size (bl33 T)∧Below w.heap.size w w3):=by rw [← hw3.out];exact ⟨K2.out.1.put (by rw [hlen];rfl),RG.below_setCells (Nat.le_refl _) _ _ _ K2.out.2.1⟩
 obtain ⟨vt,hvt⟩:∃ vt,Hid (Value.agg (bl33 T).toArray=vt):=⟨_,rfl⟩
 have HI:Hid ((Tryz.prog.info? 58).map (·.size)=some (bl33 T).length∧w2.there w.heap.size 0 (bl33 T).toArray.size∧(Tryz.prog.info? 58).map (·.size)=some (bl33 T).toArray.size):=by
  have e:(bl33 T).toArray.size=33:=by rw [List.size_toArray];exact hlen
  refine ⟨by rw [hlen];exact infoCP,by rw [e];exact K2.out.1.2.2,by rw [e];exact infoCP⟩
 clear hlen
 go_wp2_with (first | (refine wpList_load_mid rfl 58 _ rfl g 0 ?_ (bl33 T) d ?_ ?_ ?_ ?_ ?_;rfl;exact K2.out.2.2.2.1;exact HD.out.1;exact HD.out.2;exact HI.out.1;rw [hvt.out]) | (refine wpList_store_mid rfl 58 _ _ rfl w.heap.size 0 (bl33 T).toArray ?_ ?_ ?_ ?_ ?_ ?_;rfl;exact hvt.out.symm;exact HI.out.2.1;exact HI.out.2.2;exact bl33_one T;rw [show (bl33 T).toArray.toList=bl33 T from rfl,hw3.out]))
 refine bodyPost_ret (results_cell 0 58 rfl K3.out.1 rfl uCP HI.out.1) rfl ?_
 exact ⟨_,rfl,K3.out.2,rfl⟩
end Go.Proofs.YtmkllfekhehagadGreat
namespace Go.Proofs.YtmkllfekhehagadGreat
open Go.RowKit Go.Sort Go.Deep
section
variable {P:Program} {ops:Array Oper} {rest:List Oper} {op:Oper} {a:Act} {w w':World} {v:Value} {Q:Exit→Act→World→Prop}
theorem wpList_bld (hgd:op.guard=none) (T:TypeId) (parts:Array (Nat × Operand)) (ho:op.op=.build T parts) (vs:Array (Nat × Value)) (hx:(parts.map fun (i,x)=>(i,a.eval x))=vs) (hr:(Instr.build T vs).run P w=.ok v w') (h:wpList P ops Q rest (a.put op.dst v) w'):wpList P ops Q (op :: rest) a w :=
 wpList_plain hgd fun K hK=>by
  unfold Oper.wp execOp
  simp only [ho,hx,Sem.run_bind,hr,Result.andThen_ok,Sem.run_pure]
  exact hK _ _ h
theorem wpList_bsl (hgd:op.guard=none) (T:TypeId) (n:Nat) (parts:Array (Nat × Operand)) (ho:op.op=.buildSlice T n parts) (vs:Array (Nat × Value)) (hx:(parts.map fun (i,x)=>(i,a.eval x))=vs) (hr:(Instr.buildSlice T n vs).run P w=.ok v w') (h:wpList P ops Q rest (a.put op.dst v) w'):wpList P ops Q (op :: rest) a w :=
 wpList_plain hgd fun K hK=>by
  unfold Oper.wp execOp
  simp only [ho,hx,Sem.run_bind,hr,Result.andThen_ok,Sem.run_pure]
  exact hK _ _ h
end
set_option maxRecDepth 100000 in
theorem bldT {a:Bs} (ha:a.size=33) (n:Nat) (w:World):(Instr.build 176 #[(0,nv n),(1,pvl a)]).run Tryz.prog w=.ok (.agg (wn n++bl33 a).toArray) w:=by
 unfold pvl
 rw [bl33_lit ha]
 kernel_rfl
set_option maxRecDepth 100000 in
theorem bslT {a:Bs} (ha:a.size=33) (n:Nat) (w:World):(Instr.buildSlice 120 1 #[(0,.agg (wn n++bl33 a).toArray)]).run Tryz.prog w=.ok (.slice (some ⟨w.heap.size,0,none⟩) 1 1) (w.alloc (.cells (wn n++bl33 a).toArray 176)):=by
 rw [bl33_lit ha]
 kernel_rfl
theorem boxS (n:Nat) (w:World):(Instr.box 53 (nv n)).run Tryz.prog w=.ok (.pointer (some ⟨w.heap.size,0,none⟩)) (w.alloc (.cells (wn n).toArray 53)):=by kernel_rfl
set_option maxHeartbeats 1000000 in
set_option maxRecDepth 100000 in
theorem ptTimes_c (a:Bs) (ha:a.size=33) (n:Nat) (w:World):Calls Tryz.prog 70 #[pvl a,nv n] w (Ret fun e w'=>Below w.heap.size w w'∧∃ k,e=.slice (some ⟨k,0,none⟩) 1 1∧w.heap.size≤k∧Row w' k (wn n++bl33 a)):=by
 have B1:=Hid.mk' (boxCP ha w)
 obtain ⟨w1,hw1⟩:∃ w1,Hid (w.alloc (.cells (bl33 a).toArray 58)=w1):=⟨_,rfl⟩
 rw [hw1.out] at B1
 have e1:w1.heap.size=w.heap.size+1:=by rw [← hw1.out,World.size_alloc]
 have B2:=Hid.mk' (boxS n w1)
 obtain ⟨w2,hw2⟩:∃ w2,Hid (w1.alloc (.cells (wn n).toArray 53)=w2):=⟨_,rfl⟩
 rw [hw2.out,e1] at B2
 have e2:w2.heap.size=w.heap.size+2:=by rw [← hw2.out,World.size_alloc,e1]
 have B3:=Hid.mk' (bldT ha n w2)
 have B4:=Hid.mk' (bslT ha n w2)
 obtain ⟨w3,hw3⟩:∃ w3,Hid (w2.alloc (.cells (wn n++bl33 a).toArray 176)=w3):=⟨_,rfl⟩
 rw [hw3.out,e2] at B4
 have K:Hid (Row w2 w.heap.size (bl33 a)∧Row w2 (w.heap.size+1) (wn n)∧Below w.heap.size w w3∧Row w3 (w.heap.size+2) (wn n++bl33 a)):=by
  have q1:Row w1 w.heap.size (bl33 a):=by rw [← hw1.out];exact row_new w _ _
  have q2:Row w2 (w.heap.size+1) (wn n):=by rw [← hw2.out,← e1];exact row_new w1 _ _
  have q3:Row w3 (w.heap.size+2) (wn n++bl33 a):=by rw [← hw3.out,← e2];exact row_new w2 _ _
  have b1:Below w.heap.size w w1:=by rw [← hw1.out];exact below1 w _
  have b2:Below w1.heap.size w1 w2:=by rw [← hw2.out];exact below1 w1 _
  have b3:Below w2.heap.size w2 w3:=by rw [← hw3.out];exact below1 w2 _
  exact ⟨q1.below b2,q2,(b1.trans (b2.mono (by omega))).trans (b3.mono (by omega)),q3⟩
 have HL:Hid ((Tryz.prog.info? 58).map (·.size)=some (bl33 a).length):=by show _=_;rw [bl33_length ha];exact infoCP
 obtain ⟨d,hd1,hd2⟩:=Option.map_eq_some_iff.1 uCP
 obtain ⟨d',hd3,hd4⟩:=Option.map_eq_some_iff.1 u40
 have HD:Hid ((Tryz.prog.underlying 58=some d∧d.isRow=true)∧Tryz.prog.underlying 53=some d'∧d'.isRow=true):=⟨⟨hd1,hd2⟩,hd3,hd4⟩
 clear hd1 hd2 hd3 hd4 hw1 hw2 hw3 e1 e2
 obtain ⟨va,hva⟩:∃ v,Hid (pvl a=v):=⟨_,rfl⟩
 obtain ⟨vn,hvn⟩:∃ v,Hid (nv n=v):=⟨_,rfl⟩
 obtain ⟨vt,hvt⟩:∃ v,Hid (Value.agg (wn n++bl33 a).toArray=v):=⟨_,rfl⟩
 have B1':Hid ((Instr.box 58 va).run Tryz.prog w=.ok (.pointer (some ⟨w.heap.size,0,none⟩)) w1):=by rw [← hva.out];exact B1
 rw [hvn.out] at B2
 rw [hva.out,hvn.out,hvt.out] at B3
 rw [hvt.out] at B4
 rw [hva.out,hvn.out]
 clear B1
 go_enter Tryz.func70,Tryz.ntmps70
 go_wp2_with (first | (refine wpList_box (u:=va) (v:=.pointer (some ⟨w.heap.size,0,none⟩)) (w':=w1) rfl 58 (.tmp 0) rfl ?_ ?_ ?_;rfl;exact B1'.out) | (refine wpList_box (u:=vn) (v:=.pointer (some ⟨w.heap.size+1,0,none⟩)) (w':=w2) rfl 53 (.tmp 1) rfl ?_ ?_ ?_;rfl;exact B2.out) | (refine wpList_load_mid rfl 53 _ rfl (w.heap.size+1) 0 ?_ (wn n) d' ?_ ?_ ?_ ?_ ?_;rfl;exact K.out.2.1.2.1;exact HD.out.2.1;exact HD.out.2.2;exact i40;rw [show Value.agg (wn n).toArray=vn from hvn.out]) | (refine wpList_load_mid rfl 58 _ rfl w.heap.size 0 ?_ (bl33 a) d ?_ ?_ ?_ ?_ ?_;rfl;exact K.out.1.2.1;exact HD.out.1.1;exact HD.out.1.2;exact HL.out;rw [show Value.agg (bl33 a).toArray=va from hva.out]) | (refine wpList_bld (v:=vt) (w':=w2) rfl 176 _ rfl #[(0,vn),(1,va)] ?_ ?_ ?_;kernel_rfl;exact B3.out) | (refine wpList_bsl (v:=.slice (some ⟨w.heap.size+2,0,none⟩) 1 1) (w':=w3) rfl 120 1 _ rfl #[(0,vt)] ?_ ?_ ?_;kernel_rfl;exact B4.out))
 go_ret
 exact ⟨_,rfl,K.out.2.2.1,w.heap.size+2,rfl,by omega,K.out.2.2.2⟩
end Go.Proofs.YtmkllfekhehagadGreat
namespace Go.Proofs.YtmkllfekhehagadGreat
open Go.RowKit Go.Sort Go.Deep
set_option maxRecDepth 100000 in
theorem boxT {a:Bs} (ha:a.size=33) (n:Nat) (w:World):(Instr.box 176 (.agg (wn n++bl33 a).toArray)).run Tryz.prog w=.ok (.pointer (some ⟨w.heap.size,0,none⟩)) (w.alloc (.cells (wn n++bl33 a).toArray 176)):=by
 rw [bl33_lit ha]
 kernel_rfl
theorem bldS (w:World):(Instr.build 53 #[]).run Tryz.prog w=.ok (nv 0) w:=by kernel_rfl
def tvl (n:Nat) (a:Bs):Value:=.agg (wn n++bl33 a).toArray
theorem range_front {W:World} {k:Nat} {xs ys:List Value} (h:W.rangeAt k 0 (xs++ys)):W.rangeAt k 0 xs:=fun j v hj=>h j v (by rw [List.getElem?_append_left (List.getElem?_eq_some_iff.1 hj).1];exact hj)
theorem range_back {W:World} {k:Nat} {xs ys:List Value} (h:W.rangeAt k 0 (xs++ys)):W.rangeAt k xs.length ys:=fun j v hj=>by
 have:=h (xs.length+j) v (by rw [List.getElem?_append_right (Nat.le_add_right _ _),Nat.add_sub_cancel_left];exact hj)
 rwa [Nat.zero_add] at this
set_option maxHeartbeats 1000000 in
set_option maxRecDepth 100000 in
theorem none_c {n:Nat} (hn:n < top) {a:Bs} (ha:a.size=33):Gives 157 #[tvl n a] (.bool (decide (n=0))):=by
 intro w
 have B1:=Hid.mk' (boxT ha n w)
 obtain ⟨w1,hw1⟩:∃ w1,Hid (w.alloc (.cells (wn n++bl33 a).toArray 176)=w1):=⟨_,rfl⟩
 rw [hw1.out] at B1
 have K:Hid (Row w1 w.heap.size (wn n++bl33 a)∧Below w.heap.size w w1):=by rw [← hw1.out];exact ⟨row_new w _ _,below1 w _⟩
 obtain ⟨d',hd3,hd4⟩:=Option.map_eq_some_iff.1 u40
 have HD:Hid (Tryz.prog.underlying 53=some d'∧d'.isRow=true):=⟨hd3,hd4⟩
 clear hd3 hd4 hw1
 obtain ⟨va,hva⟩:∃ v,Hid (tvl n a=v):=⟨_,rfl⟩
 obtain ⟨vn,hvn⟩:∃ v,Hid (nv n=v):=⟨_,rfl⟩
 obtain ⟨v0,hv0⟩:∃ v,Hid (nv 0=v):=⟨_,rfl⟩
 have B1':Hid ((Instr.box 176 va).run Tryz.prog w=.ok (.pointer (some ⟨w.heap.size,0,none⟩)) w1):=by rw [← hva.out];exact B1
 have B2:Hid ((Instr.build 53 #[]).run Tryz.prog w1=.ok v0 w1):=by rw [← hv0.out];exact bldS w1
 have B3:=Hid.mk' (eqS hn (show 0 < top by unfold top;omega) w1)
 rw [hvn.out,hv0.out] at B3
 have hq:=B3.out
 obtain ⟨z,hz⟩:∃ z,Hid (decide (n=0)=z):=⟨_,rfl⟩
 rw [hz.out] at hq
 have hg:(eqGuard .eql 53 (.tmp 4) (.tmp 5) vn v0).run Tryz.prog w1=.ok () w1:=by rw [← hvn.out,← hv0.out];kernel_rfl
 rw [hva.out,hz.out]
 clear B1 B3
 go_enter Tryz.func157,Tryz.ntmps157
 go_wp2_with (first | (refine wpList_box (u:=va) (v:=.pointer (some ⟨w.heap.size,0,none⟩)) (w':=w1) rfl 176 (.tmp 0) rfl ?_ ?_ ?_;rfl;exact B1'.out) | (refine wpList_load_mid rfl 53 _ rfl w.heap.size 0 ?_ (wn n) d' ?_ ?_ ?_ ?_ ?_;rfl;exact range_front K.out.1.2.1;exact HD.out.1;exact HD.out.2;exact i40;rw [show Value.agg (wn n).toArray=vn from hvn.out]) | (refine wpList_bld (v:=v0) (w':=w1) rfl 53 _ rfl #[] ?_ ?_ ?_;kernel_rfl;exact B2.out))
 go_wp2
 go_ret
 exact ⟨_,rfl,K.out.2,rfl⟩
end Go.Proofs.YtmkllfekhehagadGreat
namespace Go.Proofs.YtmkllfekhehagadGreat
open Go.RowKit Go.Sort Go.Deep
theorem uT:(Tryz.prog.underlying 176).map (·.isRow)=some true:=by kernel_rfl
theorem iT:(Tryz.prog.info? 176).map (·.size)=some 37:=by kernel_rfl
theorem atT (k o n c i:Nat) (hi:i < n) (w:World):(Instr.indexAt 120 (.slice (some ⟨k,o,none⟩) n c) (.int .i64 (i:Int))).run Tryz.prog w=.ok (.pointer (some ⟨k,o+37*i,none⟩)) w:=by
 have h1:¬ (i:Int) < 0:=by omega
 have h2:(i:Int) < n:=by omega
 go_simp
def firstZ (ns:Nat→Nat):Nat→Nat→Int
 | _,0=>-1
 | i,m+1=>if ns i=0 then (i:Int) else firstZ ns (i+1) m
def FIx_0:List RG.It:=[.x 4 [] (.int .i64 0)]
def FIx_1 (g k c:Nat):List RG.It:=[.x 6 [] (.slice (some ⟨g,0,none⟩) k c),.x 7 [(6,0)] (.int .i64 (k:Int)),.x 8 [] (.int .i64 0)]
def FIx_2 (b:Bool):List RG.It:=[.x 9 [] (.bool b)]
def FIx_3 (i:Nat):List RG.It:=[.x 10 [] (.int .i64 (i:Int)),.x 5 [(10,0)] (.int .i64 (i:Int))]
def FIx_4 (g k c i n:Nat) (a:Bs) (z:Bool):List RG.It:=[.x 11 [] (.func (.func 157) #[] #[]),.x 12 [] (.slice (some ⟨g,0,none⟩) k c),.x 13 [] (.int .i64 (i:Int)),.x 14 [(12,1),(13,2)] (.pointer (some ⟨g,(0+37*i),none⟩)),.x 15 [(14,3)] (tvl n a),.c 16 [(11,0),(15,4)] (.bool z)]
def FIx_5 (i:Nat):List RG.It:=[.x 17 [] (.int .i64 (i:Int)),.x 4 [(17,0)] (.int .i64 (i:Int))]
def FIx_6 (i:Nat):List RG.It:=[.x 18 [] (.int .i64 ((i+1:Nat):Int)),.x 8 [(18,0)] (.int .i64 ((i+1:Nat):Int))]
def FIx_7:List RG.It:=[.x 4 [] (.int .i64 (-1))]
set_option maxHeartbeats 2000000 in
set_option maxRecDepth 100000 in
theorem index_c (g k c:Nat) (hk:k≤1000000) (ns:Nat→Nat) (az:Nat→Bs) (hn:∀ j,j < k→ns j < top) (ha:∀ j,j < k→(az j).size=33) (w:World) (hg:g < w.heap.size) (hr:∀ j,j < k→w.rangeAt g (37*j) (wn (ns j)++bl33 (az j))) :
 Calls Tryz.prog 185 #[(.slice (some ⟨g,0,none⟩) k c),(.func (.func 157) #[] #[])] w (Ret fun e w'=>Below w.heap.size w w'∧e=.int .i64 (firstZ ns 0 k)):=by
 obtain ⟨R,hR⟩:∃ R,firstZ ns 0 k=R:=⟨_,rfl⟩
 rw [hR]
 go_enter Tryz.func185,Tryz.ntmps185
 refine RG.M.enter [(0,.v (.slice (some ⟨g,0,none⟩) k c)),(1,.v (.func (.func 157) #[] #[]))] 19 (by kernel_rfl) ?_
 intro a0 M0
 repeat refine wp_seq ?_
 refine M0.tx0 FIx_0 [(0,.v (.slice (some ⟨g,0,none⟩) k c)),(1,.v (.func (.func 157) #[] #[]))] (by kernel_rfl) ⟨RG.st fun _ _=>by kernel_rfl,trivial⟩ ?_
 intro a1 w1 M1
 repeat refine wp_seq ?_
 refine M1.tx0 (FIx_1 g k c) [(0,.v (.slice (some ⟨g,0,none⟩) k c)),(1,.v (.func (.func 157) #[] #[])),(7,.v (.int .i64 (k:Int))),(8,.v (.int .i64 0))] (by kernel_rfl) ⟨RG.st fun _ _=>by kernel_rfl,RG.st fun _ _=>by kernel_rfl,RG.st fun _ _=>by kernel_rfl,trivial⟩ ?_
 intro a2 w2 M2
 repeat refine wp_seq ?_
 refine wp_block ?_
 refine wp_loop_ghost (fun m a wr=>∃ i:Nat,i+m=k∧firstZ ns i m=R∧RG.M w w.heap.size [] 19 [] [] [(0,.v (.slice (some ⟨g,0,none⟩) k c)),(1,.v (.func (.func 157) #[] #[])),(7,.v (.int .i64 (k:Int))),(8,.v (.int .i64 (i:Int)))] a wr) k ⟨0,by omega,hR,M2⟩ ?_
 intro m' a wr
 rintro ⟨i,him,hf,M20⟩
 by_cases hi:i < k
 · obtain ⟨n,hne⟩:∃ n,ns i=n:=⟨_,rfl⟩
   obtain ⟨b,hbe⟩:∃ b,az i=b:=⟨_,rfl⟩
   have hnt:=hn i hi
   have hbs:=ha i hi
   have hri:=hr i hi
   rw [hne] at hnt hri
   rw [hbe] at hbs hri
   have hri':w.rangeAt g (0+37*i) (wn n++bl33 b):=by rw [Nat.zero_add];exact hri
   have hlen:(Tryz.prog.info? 176).map (·.size)=some (wn n++bl33 b).length:=by rw [List.length_append,bl33_length hbs];exact iT
   have hz:=none_c hnt hbs
   obtain ⟨m2,rfl⟩:∃ m2,m'=m2+1:=⟨m' - 1,by omega⟩
   unfold firstZ at hf
   rw [hne] at hf
   repeat refine wp_seq ?_
   refine M20.tx0 (FIx_2 true) [(0,.v (.slice (some ⟨g,0,none⟩) k c)),(1,.v (.func (.func 157) #[] #[])),(7,.v (.int .i64 (k:Int))),(8,.v (.int .i64 (i:Int))),(9,.v (.bool true))] (by kernel_rfl) ⟨RG.cert_bin rfl .lss 3 3 8 7 (.int .i64 (i:Int)) (.int .i64 (k:Int)) (.bool true) rfl rfl (RG.sx fun _=>by kernel_rfl) (RG.sx fun _=>by kernel_rfl) (fun w=>by kernel_rfl) (lssn_t hi),trivial⟩ ?_
   intro a21 w21 M21
   repeat refine wp_seq ?_
   refine wp_cond_true (M21.ev (by kernel_rfl)) ?_
   refine wp_skip ?_
   refine wp_seq ?_
   refine wp_block ?_
   repeat refine wp_seq ?_
   refine M21.tx0 (FIx_3 i) [(0,.v (.slice (some ⟨g,0,none⟩) k c)),(1,.v (.func (.func 157) #[] #[])),(7,.v (.int .i64 (k:Int))),(8,.v (.int .i64 (i:Int))),(5,.v (.int .i64 (i:Int)))] (by kernel_rfl) ⟨RG.st fun _ _=>by kernel_rfl,RG.st fun _ _=>by kernel_rfl,trivial⟩ ?_
   intro a22 w22 M22
   repeat refine wp_seq ?_
   by_cases h0:n=0
   · rw [decide_eq_true h0] at hz
     rw [if_pos h0] at hf
     refine M22.tx0 (FIx_4 g k c i n b true) [(0,.v (.slice (some ⟨g,0,none⟩) k c)),(1,.v (.func (.func 157) #[] #[])),(7,.v (.int .i64 (k:Int))),(8,.v (.int .i64 (i:Int))),(5,.v (.int .i64 (i:Int))),(16,.v (.bool true))] (by kernel_rfl) ⟨RG.st fun _ _=>by kernel_rfl,RG.st fun _ _=>by kernel_rfl,RG.st fun _ _=>by kernel_rfl,RG.cert_idx rfl 120 12 13 rfl (.v (.slice (some ⟨g,0,none⟩) k c)) (.int .i64 (i:Int)) (RG.sx fun _=>by kernel_rfl) (RG.sx fun _=>by kernel_rfl) (fun μ w=>atT _ 0 _ _ i hi w),RG.cert_loadB rfl g (0+37*i) hg List.not_mem_nil 176 14 rfl (wn n++bl33 b) rfl (RG.sx fun _=>by kernel_rfl) hri' uT hlen,RG.clB (fun _ _=>by kernel_rfl) (fun w' _=>hz w'),trivial⟩ ?_
     intro a23 w23 M23
     repeat refine wp_seq ?_
     refine wp_cond_true (M23.ev (by kernel_rfl)) ?_
     repeat refine wp_seq ?_
     refine M23.tx0 (FIx_5 i) [(4,.v (.int .i64 (i:Int)))] (by kernel_rfl) ⟨RG.st fun _ _=>by kernel_rfl,RG.st fun _ _=>by kernel_rfl,trivial⟩ ?_
     intro a24 w24 M24
     refine wp_ret ?_
     refine bodyPost_ret (v:=.int .i64 (i:Int)) (RG.results_t 4 rfl (.int .i64 (i:Int)) (M24.av (by kernel_rfl))) M24.sl.defers ?_
     exact ⟨_,rfl,M24.st.bel.below,by rw [hf]⟩
   · rw [decide_eq_false h0] at hz
     rw [if_neg h0] at hf
     refine M22.tx0 (FIx_4 g k c i n b false) [(0,.v (.slice (some ⟨g,0,none⟩) k c)),(1,.v (.func (.func 157) #[] #[])),(7,.v (.int .i64 (k:Int))),(8,.v (.int .i64 (i:Int))),(16,.v (.bool false))] (by kernel_rfl) ⟨RG.st fun _ _=>by kernel_rfl,RG.st fun _ _=>by kernel_rfl,RG.st fun _ _=>by kernel_rfl,RG.cert_idx rfl 120 12 13 rfl (.v (.slice (some ⟨g,0,none⟩) k c)) (.int .i64 (i:Int)) (RG.sx fun _=>by kernel_rfl) (RG.sx fun _=>by kernel_rfl) (fun μ w=>atT _ 0 _ _ i hi w),RG.cert_loadB rfl g (0+37*i) hg List.not_mem_nil 176 14 rfl (wn n++bl33 b) rfl (RG.sx fun _=>by kernel_rfl) hri' uT hlen,RG.clB (fun _ _=>by kernel_rfl) (fun w' _=>hz w'),trivial⟩ ?_
     intro a23 w23 M23
     repeat refine wp_seq ?_
     refine wp_cond_false (M23.ev (by kernel_rfl)) ?_
     refine wp_skip ?_
     repeat refine wp_seq ?_
     refine M23.tx0 (FIx_6 i) [(0,.v (.slice (some ⟨g,0,none⟩) k c)),(1,.v (.func (.func 157) #[] #[])),(7,.v (.int .i64 (k:Int))),(8,.v (.int .i64 ((i+1:Nat):Int)))] (by kernel_rfl) ⟨RG.cert_binc rfl .add 3 3 8 (.int .i64 (i:Int)) (.int .i64 1) (.int .i64 ((i+1:Nat):Int)) rfl rfl (RG.sx fun _=>by kernel_rfl) (fun w=>by kernel_rfl) (addn i 1 (by omega) (by omega)),RG.st fun _ _=>by kernel_rfl,trivial⟩ ?_
     intro a24 w24 M24
     show ∃ n',_
     exact ⟨m2,by omega,i+1,by omega,hf,M24⟩
 · have hik:m'=0:=by omega
   rw [hik] at hf
   unfold firstZ at hf
   repeat refine wp_seq ?_
   refine M20.tx0 (FIx_2 false) [(9,.v (.bool false))] (by kernel_rfl) ⟨RG.cert_bin rfl .lss 3 3 8 7 (.int .i64 (i:Int)) (.int .i64 (k:Int)) (.bool false) rfl rfl (RG.sx fun _=>by kernel_rfl) (RG.sx fun _=>by kernel_rfl) (fun w=>by kernel_rfl) (lssn_f hi),trivial⟩ ?_
   intro a21 w21 M21
   repeat refine wp_seq ?_
   refine wp_cond_false (M21.ev (by kernel_rfl)) ?_
   refine wp_exit ?_
   dsimp only [Exit.then,Exit.inBlock]
   rw [if_pos rfl]
   repeat refine wp_seq ?_
   refine M21.tx0 FIx_7 [(4,.v (.int .i64 (-1)))] (by kernel_rfl) ⟨RG.st fun _ _=>by kernel_rfl,trivial⟩ ?_
   intro a22 w22 M22
   refine wp_ret ?_
   refine bodyPost_ret (v:=.int .i64 (-1)) (RG.results_t 4 rfl (.int .i64 (-1)) (M22.av (by kernel_rfl))) M22.sl.defers ?_
   exact ⟨_,rfl,M22.st.bel.below,by rw [← hf]⟩
end Go.Proofs.YtmkllfekhehagadGreat
namespace Go.Proofs.YtmkllfekhehagadGreat
open Go.RowKit Go.Sort Go.Deep
def FDe_0:List RG.It:=[.x 4 [] (.slice none 0 0)]
def FDe_1 (g k c:Nat):List RG.It:=[.x 8 [] (.slice (some ⟨g,0,none⟩) k c),.x 9 [] (.func (.func 157) #[] #[]),.c 10 [(8,0),(9,1)] (.int .i64 (-1)),.x 5 [(10,2)] (.int .i64 (-1))]
def FDe_2:List RG.It:=[.x 11 [] (.int .i64 (-1)),.x 12 [(11,0)] (.bool true)]
def FDe_3 (g k c:Nat):List RG.It:=[.x 13 [] (.slice (some ⟨g,0,none⟩) k c),.x 4 [(13,0)] (.slice (some ⟨g,0,none⟩) k c)]
theorem firstZ_none {ns:Nat→Nat}:∀ (m i:Nat),(∀ j,i≤j→j < i+m→ns j≠0)→firstZ ns i m = -1
 | 0,_,_=>rfl
 | m+1,i,h=>by
  unfold firstZ
  rw [if_neg (h i (Nat.le_refl _) (by omega))]
  exact firstZ_none m (i+1) (fun j h1 h2=>h j (by omega) (by omega))
set_option maxHeartbeats 2000000 in
set_option maxRecDepth 100000 in
theorem delete_none (g k c:Nat) (hk:k≤1000000) (ns:Nat→Nat) (az:Nat→Bs) (hn:∀ j,j < k→ns j < top) (hn0:∀ j,j < k→ns j≠0) (ha:∀ j,j < k→(az j).size=33) (w:World) (hg:g < w.heap.size) (hr:∀ j,j < k→w.rangeAt g (37*j) (wn (ns j)++bl33 (az j))) :
 Calls Tryz.prog 156 #[(.slice (some ⟨g,0,none⟩) k c),(.func (.func 157) #[] #[])] w (Ret fun e w'=>Below w.heap.size w w'∧e=(.slice (some ⟨g,0,none⟩) k c)):=by
 have hI:∀ w',RG.BelX w.heap.size [] w w'→Calls Tryz.prog 185 #[(.slice (some ⟨g,0,none⟩) k c),(.func (.func 157) #[] #[])] w' (Ret fun e w''=>Below w'.heap.size w' w''∧e=.int .i64 (-1)):=fun w' hb=>by
  have h:=index_c g k c hk ns az hn ha w' (Nat.lt_of_lt_of_le hg hb.below.size) (fun j hj=>RG.range_below (hr j hj) hb.below hg)
  rw [firstZ_none k 0 (fun j _ h2=>hn0 j (by omega))] at h
  exact h
 go_enter Tryz.func156,Tryz.ntmps156
 refine RG.M.enter [(0,.v (.slice (some ⟨g,0,none⟩) k c)),(1,.v (.func (.func 157) #[] #[]))] 42 (by kernel_rfl) ?_
 intro a0 M0
 repeat refine wp_seq ?_
 refine M0.tx0 FDe_0 [(0,.v (.slice (some ⟨g,0,none⟩) k c)),(1,.v (.func (.func 157) #[] #[]))] (by kernel_rfl) ⟨RG.st fun _ _=>by kernel_rfl,trivial⟩ ?_
 intro a1 w1 M1
 repeat refine wp_seq ?_
 refine M1.tx0 (FDe_1 g k c) [(0,.v (.slice (some ⟨g,0,none⟩) k c)),(5,.v (.int .i64 (-1)))] (by kernel_rfl) ⟨RG.st fun _ _=>by kernel_rfl,RG.st fun _ _=>by kernel_rfl,RG.clB (fun _ _=>by kernel_rfl) hI,RG.st fun _ _=>by kernel_rfl,trivial⟩ ?_
 intro a2 w2 M2
 repeat refine wp_seq ?_
 refine M2.tx0 FDe_2 [(0,.v (.slice (some ⟨g,0,none⟩) k c)),(12,.v (.bool true))] (by kernel_rfl) ⟨RG.st fun _ _=>by kernel_rfl,RG.st fun _ _=>by kernel_rfl,trivial⟩ ?_
 intro a3 w3 M3
 repeat refine wp_seq ?_
 refine wp_cond_true (M3.ev (by kernel_rfl)) ?_
 repeat refine wp_seq ?_
 refine M3.tx0 (FDe_3 g k c) [(4,.v (.slice (some ⟨g,0,none⟩) k c))] (by kernel_rfl) ⟨RG.st fun _ _=>by kernel_rfl,RG.st fun _ _=>by kernel_rfl,trivial⟩ ?_
 intro a4 w4 M4
 refine wp_ret ?_
 refine bodyPost_ret (v:=(.slice (some ⟨g,0,none⟩) k c)) (RG.results_t 4 rfl _ (M4.av (by kernel_rfl))) M4.sl.defers ?_
 exact ⟨_,rfl,M4.st.bel.below,rfl⟩
end Go.Proofs.YtmkllfekhehagadGreat
namespace Go.Proofs.YtmkllfekhehagadGreat
open Go.RowKit Go.Sort Go.Deep
theorem undM:Tryz.prog.underlying 222=some (.map 58 3):=by kernel_rfl
theorem zero3 (w:World):(zeroValue 3).run Tryz.prog w=.ok (.int .i64 0) w:=by kernel_rfl
theorem ents_snoc (b:Bs):∀ (D:List Bs) (i:Nat),ents (D++[b]) i=ents D i++[{ key:=.agg (bl33 b).toArray,val:=.int .i64 ((i+D.length:Nat):Int),born:=i+D.length }]
 | [],i=>rfl
 | k :: r,i=>by
  rw [List.cons_append]
  unfold ents
  rw [ents_snoc b r (i+1),List.length_cons,show i+1+r.length=i+(r.length+1) by omega]
  rfl
theorem look_run {b:Bs} (hb:b.size=33) (D:List Bs) (hD:∀ k∈D,k.size=33) (m clock:Nat) (w:World) (hm:w.heap[m]? = some (.map (ents D 0).toArray clock)) :
 (Instr.lookup 222 (.map (some m)) (.agg (bl33 b).toArray) true).run Tryz.prog w=.ok (.tuple #[.int .i64 (((at? b D 0).getD 0:Nat):Int),.bool (at? b D 0).isSome]) w:=by
 have h1:=run_underlying undM w
 have h2:=fun e=>checkCP hb e w
 have h3:=key_run hb D hD w
 have h4:(getObj m).run Tryz.prog w=.ok (.map (ents D 0).toArray clock) w:=by
  simp [getObj,Sem.run,hm]
 unfold Instr.lookup
 simp only [Sem.run_bind,h1,Result.andThen_ok,h4,Sem.run_pure,h2,h3]
 cases h:at? b D 0 with
 | none=>simp [Sem.run_bind,zero3]
 | some j=>simp
theorem upd_run {b:Bs} (hb:b.size=33) (D:List Bs) (hD:∀ k∈D,k.size=33) (m:Nat) (w:World) (hm:w.heap[m]? = some (.map (ents D 0).toArray D.length)) (hn:at? b D 0=none) :
 (Instr.mapUpdate 222 (.map (some m)) (.agg (bl33 b).toArray) (.int .i64 (D.length:Int))).run Tryz.prog w=.ok () (w.putObj m (.map (ents (D++[b]) 0).toArray (D.length+1))):=by
 have h1:=run_underlying undM w
 have h2:=fun e=>checkCP hb e w
 have h3:=key_run hb D hD w
 rw [hn] at h3
 have h4:(getObj m).run Tryz.prog w=.ok (.map (ents D 0).toArray D.length) w:=by
  simp [getObj,Sem.run,hm]
 unfold Instr.mapUpdate
 simp only [Sem.run_bind,h1,Result.andThen_ok,h4,Sem.run_pure,h2,h3]
 rw [ents_snoc,Nat.zero_add]
 simp [setObj,Sem.run,hm,World.putObj]
end Go.Proofs.YtmkllfekhehagadGreat
namespace Go.Proofs.YtmkllfekhehagadGreat
open Go.RowKit Go.Sort Go.Deep
theorem undS:Tryz.prog.underlying 120=some (.slice 176):=by kernel_rfl
theorem infoT:(Tryz.prog.info? 176).map (fun i=>(i.size,i.bytes,i.zero.map fun z=>z.cells.size))=some (37,72,some 37):=by kernel_rfl
theorem cells_one (n:Nat) (a:Bs):∀ u∈wn n++bl33 a,u.oneCell'=true:=by
 intro u hu
 rcases List.mem_append.1 hu with h | h
 · unfold wn at h
   simp only [List.mem_cons,List.not_mem_nil,or_false] at h
   rcases h with rfl | rfl | rfl | rfl <;> rfl
 · obtain ⟨x,-,rfl⟩:=List.mem_map.1 h
   rfl
theorem app_term {base k g n:Nat} {v:Value} {xs:List Value} {a:Bs} (ha:a.size=33) {W:World} (hown:W.ownsRow base 176 37 v k xs) (hR:Row W g (wn n++bl33 a)) (hk:k≤1000000) (hb:base≤W.heap.size) :
 ∃ v' W',(Builtin.append_ #[120,120] 120 #[v,.slice (some ⟨g,0,none⟩) 1 1]).run Tryz.prog W=.ok v' W'∧W'.ownsRow base 176 37 v' (k+1) (xs++(wn n++bl33 a))∧W.grownBy W' v.ownBlock:=by
 obtain ⟨i,hi,he⟩:=Option.map_eq_some_iff.1 infoT
 simp only [Prod.mk.injEq] at he
 obtain ⟨h1,h2,h3⟩:=he
 obtain ⟨z,hz,hz2⟩:=Option.map_eq_some_iff.1 h3
 obtain ⟨v',W',r1,r2,r3,-⟩:=run_append_own (P:=Tryz.prog) W base 120 120 176 i z 37 72 undS hi hz h1 h2 hz2 (by decide) v k xs hown ⟨g,0,none⟩ 1 1 (wn n++bl33 a) (by rw [List.length_append,bl33_length ha];rfl)
  (fun j u hj=>by
   have:=hR.2.1 j u hj
   rw [Nat.zero_add] at this
   rw [show (⟨g,0,none⟩:Addr).add j=⟨g,j,none⟩ by unfold Addr.add;split <;> simp_all]
   exact this) (cells_one n a) (by unfold maxLen;omega) (by omega) hb
 exact ⟨v',W',r1,r2,r3⟩
def addT (N:Nat):List (Nat × Bs)→Nat→Bs→List (Nat × Bs)
 | [],n,p=>[(n,p)]
 | (s,q) :: r,n,p=>if p=q then (sPl N s n,q) :: r else (s,q) :: addT N r n p
def mrg (N:Nat) (ns:Nat→Nat) (az:Nat→Bs):Nat→List (Nat × Bs)
 | 0=>[]
 | i+1=>addT N (mrg N ns az i) (ns i) (az i)
def cellsT (l:List (Nat × Bs)):List Value:=l.flatMap fun x=>wn x.1++bl33 x.2
theorem addT_new {N n:Nat} {p:Bs}:∀ {l:List (Nat × Bs)},at? p (l.map (·.2)) 0=none→addT N l n p=l++[(n,p)]
 | [],_=>rfl
 | (s,q) :: r,h=>by
  have h2:=at?_none.1 h
  rw [List.map_cons,List.mem_cons,not_or] at h2
  unfold addT
  rw [if_neg h2.1,addT_new (l:=r) (at?_none.2 h2.2)]
  rfl
theorem cellsT_snoc (l:List (Nat × Bs)) (n:Nat) (p:Bs):cellsT (l++[(n,p)])=cellsT l++(wn n++bl33 p):=by
 unfold cellsT
 rw [List.flatMap_append]
 simp
end Go.Proofs.YtmkllfekhehagadGreat
namespace Go.Proofs.YtmkllfekhehagadGreat
open Go.RowKit Go.Sort Go.Deep
variable {N:Nat}
structure Mx (w W:World) (m:Nat) (l:List (Nat × Bs)) (v:Value):Prop where
 bl:Below w.heap.size w W
 mp:W.heap[m]? = some (.map (ents (l.map (·.2)) 0).toArray l.length)
 lm:w.heap.size≤m
 ow:W.ownsRow w.heap.size 176 37 v l.length (cellsT l)
theorem Mx.own_ne {w W:World} {m:Nat} {l:List (Nat × Bs)} {v:Value} (h:Mx w W m l v) {g:Nat} (hg:v.ownBlock=some g):g≠m∧w.heap.size≤g∧g < W.heap.size:=by
 rcases h.ow.2 with ⟨rfl,-⟩ | ⟨g',cap,cur,rfl,h1,h2,-⟩
 · cases hg
 · obtain rfl:g'=g:=by simpa [Value.ownBlock] using hg
   refine ⟨fun e=>?_,h1,(Array.getElem?_eq_some_iff.1 h2).1⟩
   have:=h.mp
   rw [← e,h2] at this
   cases this
theorem owns_kept {W W':World} {base k:Nat} {e:TypeId} {s:Nat} {v:Value} {xs:List Value} (h:W.ownsRow base e s v k xs) (hk:∀ g,v.ownBlock=some g→W'.heap[g]? = W.heap[g]?):W'.ownsRow base e s v k xs:=by
 refine ⟨h.1,?_⟩
 rcases h.2 with h2 | ⟨g,cap,cur,rfl,h1,h2,h3⟩
 · exact Or.inl h2
 · exact Or.inr ⟨g,cap,cur,rfl,h1,by rw [hk g rfl];exact h2,h3⟩
theorem Mx.kept {w W W':World} {m:Nat} {l:List (Nat × Bs)} {v:Value} (h:Mx w W m l v) (hb:Below W.heap.size W W'):Mx w W' m l v :=
 ⟨h.bl.trans (hb.mono h.bl.size),by rw [hb.block m (Array.getElem?_eq_some_iff.1 h.mp).1];exact h.mp,h.lm,owns_kept h.ow fun g hg=>hb.block g (h.own_ne hg).2.2⟩
theorem ents_map (l:List (Nat × Bs)) (n:Nat) (p:Bs):(l++[(n,p)]).map (·.2)=l.map (·.2)++[p]:=by simp
theorem Mx.push {w W:World} {m:Nat} {l:List (Nat × Bs)} {v:Value} (h:Mx w W m l v) {p:Bs} (hp:p.size=33) (hk:l.length≤1000000) (n:Nat) :
 ∃ v' W5,(Builtin.append_ #[120,120] 120 #[v,.slice (some ⟨W.heap.size,0,none⟩) 1 1]).run Tryz.prog ((W.putObj m (.map (ents (l.map (·.2)++[p]) 0).toArray (l.length+1))).alloc (.cells (wn n++bl33 p).toArray 176))=.ok v' W5∧Mx w W5 m (l++[(n,p)]) v'∧W.heap.size < W5.heap.size∧∀ j,j < W.heap.size→w.heap.size≤j→j≠m→some j≠v.ownBlock→W5.heap[j]? = W.heap[j]?:=by
 obtain ⟨W3,h3⟩:∃ W3,W.putObj m (.map (ents (l.map (·.2)++[p]) 0).toArray (l.length+1))=W3:=⟨_,rfl⟩
 have s3:W3.heap.size=W.heap.size:=by rw [← h3];simp [World.putObj]
 have hmW:m < W.heap.size:=(Array.getElem?_eq_some_iff.1 h.mp).1
 have o3:∀ j,j≠m→W3.heap[j]? = W.heap[j]?:=fun j hj=>by rw [← h3];exact World.putObj_heap_other hj
 have b3:Below w.heap.size w W3:=h.bl.trans ⟨by rw [← h3];rfl,by rw [← h3];rfl,by rw [← h3];rfl,by omega,fun j hj=>o3 j (by have:=h.lm;omega)⟩
 have w3:W3.ownsRow w.heap.size 176 37 v l.length (cellsT l):=owns_kept h.ow fun g hg=>o3 g (h.own_ne hg).1
 have m3:W3.heap[m]? = some (.map (ents (l.map (·.2)++[p]) 0).toArray (l.length+1)):=by rw [← h3];exact World.putObj_heap_same hmW
 rw [h3]
 have R4:=row_new W3 (wn n++bl33 p) 176
 have b4:=below1 W3 (.cells (wn n++bl33 p).toArray 176)
 have s4:(W3.alloc (.cells (wn n++bl33 p).toArray 176)).heap.size=W.heap.size+1:=by rw [World.size_alloc,s3]
 generalize W3.alloc (.cells (wn n++bl33 p).toArray 176)=W4 at R4 b4 s4 ⊢
 have w4:W4.ownsRow w.heap.size 176 37 v l.length (cellsT l):=owns_kept w3 fun g hg=>b4.block g (by have:=(h.own_ne hg).2.2;omega)
 rw [s3] at R4
 obtain ⟨v',W5,r1,r2,r3⟩:=app_term hp w4 R4 hk (by have:=b3.size;omega)
 have hm5:some m≠v.ownBlock:=fun e=>(h.own_ne e.symm).1 rfl
 refine ⟨v',W5,r1,⟨?_,?_,h.lm,?_⟩,by have:=r3.size;omega,fun j hj _ hjm hjo=>?_⟩
 · exact (b3.trans (b4.mono b3.size)).grown r3 (by have:=b3.size;omega) (fun k e=>(h.own_ne e).2.1)
 · rw [r3.block m (by omega) hm5,b4.block m (by omega),m3,ents_map,List.length_append]
   rfl
 · rw [cellsT_snoc,List.length_append]
   exact r2
 · rw [r3.block j (by omega) hjo,b4.block j (by omega),o3 j hjm]
end Go.Proofs.YtmkllfekhehagadGreat
namespace Go.Proofs.YtmkllfekhehagadGreat
open Go.RowKit Go.Sort Go.Deep
variable {N:Nat}
section
variable {P:Program} {ops:Array Oper} {rest:List Oper} {op:Oper} {a:Act} {w w':World} {v x y z:Value} {Q:Exit→Act→World→Prop}
theorem wpList_lk (hgd:op.guard=none) (T:TypeId) (m k:Operand) (ok:Bool) (ho:op.op=.lookup T m k ok) (hm:a.eval m=x) (hk:a.eval k=y) (hr:(Instr.lookup T x y ok).run P w=.ok v w') (h:wpList P ops Q rest (a.put op.dst v) w'):wpList P ops Q (op :: rest) a w :=
 wpList_plain hgd fun K hK=>by
  unfold Oper.wp execOp
  simp only [ho,hm,hk,Sem.run_bind,hr,Result.andThen_ok,Sem.run_pure]
  exact hK _ _ h
theorem wpList_mu (hgd:op.guard=none) (T:TypeId) (m k u:Operand) (ho:op.op=.mapUpdate T m k u) (hm:a.eval m=x) (hk:a.eval k=y) (hu:a.eval u=z) (hr:(Instr.mapUpdate T x y z).run P w=.ok () w') (h:wpList P ops Q rest (a.put op.dst undef) w'):wpList P ops Q (op :: rest) a w :=
 wpList_plain hgd fun K hK=>by
  unfold Oper.wp execOp
  simp only [ho,hm,hk,hu,Sem.run_bind,hr,Result.andThen_ok,Sem.run_pure]
  exact hK _ _ h
theorem wpList_app (hgd:op.guard=none) (s u:Operand) (t:TypeId) (ho:op.op=.call { callee:=.builtin .append,args:=#[s,u],argTypes:=#[t,t] }) (hs:a.eval s=x) (hu:a.eval u=y) (hr:(Builtin.append_ #[t,t] op.type #[x,y]).run P w=.ok v w') (h:wpList P ops Q rest (a.put op.dst v) w'):wpList P ops Q (op :: rest) a w :=
 wpList_plain hgd fun K hK=>by
  unfold Oper.wp execOp
  simp only [ho,resolve,invoke,builtin,Sem.run_bind,Sem.run_pure,Result.andThen_ok,List.map_toArray,List.map_cons,List.map_nil,hs,hu,hr]
  exact hK _ _ h
end
def zT:List Value:=[.int .u64 0,.int .u64 0,.int .u64 0,.int .u64 0]++z33
theorem owns_form {W:World} {base k:Nat} {e:TypeId} {s:Nat} {v:Value} {xs:List Value} (h:W.ownsRow base e s v k xs):∃ q cap,v=.slice q k cap:=by
 rcases h.2 with ⟨rfl,rfl⟩ | ⟨g,cap,cur,rfl,-⟩
 · exact ⟨none,0,rfl⟩
 · exact ⟨some ⟨g,0,none⟩,cap,rfl⟩
theorem mrg_len (ns:Nat→Nat) (az:Nat→Bs):∀ i,(mrg N ns az i).length≤i
 | 0=>Nat.le_refl _
 | i+1=>by
  have ih:=mrg_len ns az i
  have h:∀ (l:List (Nat × Bs)) n p,(addT N l n p).length≤l.length+1:=by
   intro l n p
   induction l with
   | nil=>exact Nat.le_refl _
   | cons x r ihr =>
    unfold addT
    split
    · simp
    · simp only [List.length_cons];omega
  exact Nat.le_trans (h _ _ _) (by omega)
theorem mrg_size (ns:Nat→Nat) (az:Nat→Bs) {k:Nat} (ha:∀ j,j < k→(az j).size=33):∀ i,i≤k→∀ x∈(mrg N ns az i).map (·.2),x.size=33
 | 0,_=>fun x hx=>by cases hx
 | i+1,hi=>by
  have ih:=mrg_size ns az ha i (by omega)
  have h:∀ (l:List (Nat × Bs)) n p,p.size=33→(∀ x∈l.map (·.2),x.size=33)→∀ x∈(addT N l n p).map (·.2),x.size=33:=by
   intro l n p hp
   induction l with
   | nil=>intro _ x hx;simp [addT] at hx;rw [hx];exact hp
   | cons y r ihr =>
    intro hl x hx
    unfold addT at hx
    split at hx
    · exact hl x (by simpa using hx)
    · rw [List.map_cons,List.mem_cons] at hx
      rcases hx with hx | hx
      · exact hl x (by rw [hx];simp)
      · exact ihr (fun z hz=>hl z (List.mem_cons_of_mem _ hz)) x hx
  exact h _ _ _ (ha i (by omega)) ih
theorem cellsT_at:∀ (l:List (Nat × Bs)),(∀ x∈l.map (·.2),x.size=33)→∀ (j:Nat) (hj:j < l.length) (t:Nat),t < 37→(cellsT l)[37*j+t]? = (wn (l[j]).1++bl33 (l[j]).2)[t]?
 | [],_,j,hj,_,_=>by cases hj
 | x :: r,hs,j,hj,t,ht=>by
  have hx:(wn x.1++bl33 x.2).length=37:=by rw [List.length_append,bl33_length (hs x.2 (by simp))];rfl
  have e:cellsT (x :: r)=(wn x.1++bl33 x.2)++cellsT r:=by unfold cellsT;rw [List.flatMap_cons]
  rw [e]
  cases j with
  | zero =>
   rw [Nat.mul_zero,Nat.zero_add,List.getElem?_append_left (by omega)]
   rfl
  | succ j =>
   rw [List.getElem?_append_right (by omega),hx,show 37*(j+1)+t - 37=37*j+t by omega,cellsT_at r (fun y hy=>hs y (List.mem_cons_of_mem _ hy)) j (by simpa using hj) t ht]
   rfl
theorem owns_rows {W:World} {base:Nat} {v:Value} {l:List (Nat × Bs)} (h:W.ownsRow base 176 37 v l.length (cellsT l)) (hs:∀ x∈l.map (·.2),x.size=33) (hl:0 < l.length) :
 ∃ g cap,v=.slice (some ⟨g,0,none⟩) l.length cap∧base≤g∧g < W.heap.size∧∀ j (hj:j < l.length),W.rangeAt g (37*j) (wn (l[j]).1++bl33 (l[j]).2):=by
 have h0:=h
 rcases h.2 with ⟨-,h2⟩ | ⟨g,cap,cur,rfl,h1,h2,h3⟩
 · omega
 · refine ⟨g,cap,rfl,h1,(Array.getElem?_eq_some_iff.1 h2).1,fun j hj t u hu=>?_⟩
   have ht:t < 37:=by
    have:=(List.getElem?_eq_some_iff.1 hu).1
    rw [List.length_append,bl33_length (hs _ (List.mem_map.2 ⟨_,List.getElem_mem hj,rfl⟩))] at this
    exact this
   have hc:=h0.cells (g:=g) rfl (37*j+t) u (by rw [cellsT_at l hs j hj t ht];exact hu)
   have e:(⟨g,0,none⟩:Addr).add (37*j+t)=⟨g,37*j+t,none⟩:=by
    unfold Addr.add
    split
    · rename_i h;rw [h]
    · simp
   rw [e] at hc
   exact hc
set_option maxHeartbeats 1000000 in
set_option maxRecDepth 100000 in
theorem merged_g (R:Value→World→Prop) (g k c:Nat) (hk:k≤1000) (ns:Nat→Nat) (az:Nat→Bs) (ha:∀ j,j < k→(az j).size=33) (hd:∀ i,i < k→at? (az i) ((mrg N ns az i).map (·.2)) 0=none) (w:World) (hg:g < w.heap.size) (hr:∀ j,j < k→w.rangeAt g (37*j) (wn (ns j)++bl33 (az j)))
 (hdel:∀ W v,Mx w W w.heap.size (mrg N ns az k) v→Calls Tryz.prog 156 #[v,.func (.func 157) #[] #[]] W (Ret R)) :
 Calls Tryz.prog 117 #[.slice (some ⟨g,0,none⟩) k c] w (Ret R):=by
 have HDEL:=Hid.mk' hdel
 clear hdel
 have hmm:(Instr.makeMap 222 none).run Tryz.prog w=.ok (.map (some w.heap.size)) (w.alloc (.map #[] 0)):=by kernel_rfl
 obtain ⟨w1,hw1⟩:∃ w1,Hid (w.alloc (.map #[] 0)=w1):=⟨_,rfl⟩
 rw [hw1.out] at hmm
 have M1:Hid (Mx w w1 w.heap.size (mrg N ns az 0) (.slice none 0 0)):=by
  rw [← hw1.out]
  exact ⟨below1 w _,by show (w.heap.push (.map #[] 0))[w.heap.size]? = _;rw [Array.getElem?_push_size];rfl,Nat.le_refl _,rfl,Or.inl ⟨rfl,rfl⟩⟩
 have HH:Hid (True∧(∀ j,j < k→(az j).size=33)∧(∀ i,i < k→at? (az i) ((mrg N ns az i).map (·.2)) 0=none)∧g < w.heap.size∧∀ j,j < k→w.rangeAt g (37*j) (wn (ns j)++bl33 (az j))):=⟨trivial,ha,hd,hg,hr⟩
 obtain ⟨d,hd1,hd2⟩:=Option.map_eq_some_iff.1 uCP
 obtain ⟨d',hd3,hd4⟩:=Option.map_eq_some_iff.1 uT
 have HD:Hid ((Tryz.prog.underlying 58=some d∧d.isRow=true)∧Tryz.prog.underlying 176=some d'∧d'.isRow=true):=⟨⟨hd1,hd2⟩,hd3,hd4⟩
 clear hd1 hd2 hd3 hd4 hw1 ha hd hg hr
 go_enter Tryz.func117,Tryz.ntmps117
 go_wp2
 clear hmm
 go_loopg [4,12] k (fun q s4 s12 W=>∃ i:Nat,i+q=k∧s12=.int .i64 (i:Int)∧Hid (Mx w W w.heap.size (mrg N ns az i) s4))
 case atStart=>exact ⟨0,by omega,rfl,M1⟩
 case round =>
  clear M1
  obtain ⟨i,hik,rfl,KM⟩:=hrel
  by_cases hi:i < k
  · have hi':(i:Int) < (k:Int):=by omega
    obtain ⟨n,hne⟩:∃ n,Hid (ns i=n):=⟨_,rfl⟩
    obtain ⟨p,hpe⟩:∃ p,Hid (az i=p):=⟨_,rfl⟩
    obtain ⟨l,hl⟩:∃ l,Hid (mrg N ns az i=l):=⟨_,rfl⟩
    rw [hl.out] at KM
    have hps:Hid (p.size=33):=by have:=HH.out.2.1 i hi;rw [hpe.out] at this;exact this
    have hll:Hid (l.length≤i):=by have:=mrg_len (N:=N) ns az i;rw [hl.out] at this;exact this
    obtain ⟨q,cap,rfl⟩:=owns_form KM.out.ow
    obtain ⟨W1,hW1⟩:∃ W1,Hid (wr.alloc (.cells zT.toArray 176)=W1):=⟨_,rfl⟩
    obtain ⟨W2,hW2⟩:∃ W2,Hid (W1.setCells wr.heap.size 0 (wn n++bl33 p)=W2):=⟨_,rfl⟩
    have hlen:(wn n++bl33 p).length=37:=by rw [List.length_append,bl33_length hps.out];rfl
    have F1:Hid (Row W1 wr.heap.size zT∧Below wr.heap.size wr W1∧W1.heap.size=wr.heap.size+1):=by rw [← hW1.out];exact ⟨row_new wr _ _,below1 wr _,World.size_alloc _ _⟩
    have F2:Hid (Row W2 wr.heap.size (wn n++bl33 p)∧Below wr.heap.size wr W2∧W2.heap.size=wr.heap.size+1):=by rw [← hW2.out];exact ⟨F1.out.1.put (by rw [hlen];rfl),RG.below_setCells (Nat.le_refl _) _ _ _ F1.out.2.1,by rw [RG.setCells_size];exact F1.out.2.2⟩
    have K2:Hid (Mx w W2 w.heap.size l (.slice q l.length cap)):=KM.out.kept F2.out.2.1
    have hnone:Hid (at? p (l.map (·.2)) 0=none):=by have:=HH.out.2.2.1 i hi;rw [hpe.out,hl.out] at this;exact this
    have hsz:∀ x∈l.map (·.2),x.size=33:=by have:=mrg_size (N:=N) ns az HH.out.2.1 i (by omega);rw [hl.out] at this;exact this
    have B1:=Hid.mk' (look_run hps.out (l.map (·.2)) hsz w.heap.size l.length W2 K2.out.mp)
    rw [hnone.out] at B1
    have B2:Hid ((Instr.mapUpdate 222 (.map (some w.heap.size)) (.agg (bl33 p).toArray) (.int .i64 (l.length:Int))).run Tryz.prog W2=.ok () (W2.putObj w.heap.size (.map (ents (l.map (·.2)++[p]) 0).toArray (l.length+1)))):=by
     have h:=upd_run hps.out (l.map (·.2)) hsz w.heap.size W2 (by rw [List.length_map];exact K2.out.mp) hnone.out
     rw [List.length_map] at h
     exact h
    obtain ⟨v',W5,happ,K5,lt5,-⟩:=K2.out.push hps.out (by have:=hll.out;omega) n
    obtain ⟨W3,hW3⟩:∃ W3,Hid (W2.putObj w.heap.size (.map (ents (l.map (·.2)++[p]) 0).toArray (l.length+1))=W3):=⟨_,rfl⟩
    have F3:Hid (Row W3 wr.heap.size (wn n++bl33 p)∧W3.heap.size=wr.heap.size+1):=by rw [← hW3.out];exact ⟨F2.out.1.putObj K2.out.mp rfl _,by simp [World.putObj];exact F2.out.2.2⟩
    have B3:=Hid.mk' (bslT hps.out n W3)
    obtain ⟨W4,hW4⟩:∃ W4,Hid (W3.alloc (.cells (wn n++bl33 p).toArray 176)=W4):=⟨_,rfl⟩
    rw [hW3.out] at B2 happ
    rw [hW4.out] at B3 happ
    rw [F3.out.2] at B3
    rw [F2.out.2.2] at happ
    have K5':Hid (Mx w W5 w.heap.size (mrg N ns az (i+1)) v'):=by
     have e:mrg N ns az (i+1)=l++[(n,p)]:=by
      show addT N (mrg N ns az i) (ns i) (az i)=_
      rw [hl.out,hne.out,hpe.out]
      exact addT_new hnone.out
     rw [e];exact K5
    have B0:Hid (wr.rangeAt g (37*i) (wn n++bl33 p)):=by
     have h:=RG.range_below (HH.out.2.2.2.2 i hi) KM.out.bl HH.out.2.2.2.1
     rw [hne.out,hpe.out] at h
     exact h
    have HLT:Hid ((Tryz.prog.info? 176).map (·.size)=some (wn n++bl33 p).length):=by show _=_;rw [hlen];exact iT
    have HLS:Hid ((Tryz.prog.info? 176).map (·.size)=some (wn n++bl33 p).toArray.size∧W1.there wr.heap.size 0 (wn n++bl33 p).toArray.size):=by
     have e:(wn n++bl33 p).toArray.size=37:=by rw [List.size_toArray];exact hlen
     rw [e];exact ⟨iT,F1.out.1.2.2⟩
    have HLP:Hid ((Tryz.prog.info? 58).map (·.size)=some (bl33 p).length):=by show _=_;rw [bl33_length hps.out];exact infoCP
    have HB:Hid (W2.rangeAt wr.heap.size 4 (bl33 p)):=range_back (xs:=wn n) F2.out.1.2.1
    have HAL:Hid ((wn n++bl33 p).toArray.all (·.oneCell')=true):=by
     show _=_
     rw [Array.all_eq_true']
     intro u hu
     exact cells_one n p u (List.mem_toArray.1 hu)
    have hix:=atT g 0 k c i hi
    have HAP:=Hid.mk' happ
    clear happ
    obtain ⟨vt,hvt⟩:∃ v,Hid (Value.agg (wn n++bl33 p).toArray=v):=⟨_,rfl⟩
    obtain ⟨vp,hvp⟩:∃ v,Hid (Value.agg (bl33 p).toArray=v):=⟨_,rfl⟩
    rw [hvp.out] at B1 B2
    rw [hvt.out] at B3
    clear hlen hsz K5 lt5 hW4 hW3 K2 KM
    go_wp2_with (first | (refine wpList_load_mid rfl 176 _ rfl g (37*i) ?_ (wn n++bl33 p) d' ?_ ?_ ?_ ?_ ?_;rfl;exact B0.out;exact HD.out.2.1;exact HD.out.2.2;exact HLT.out;rw [hvt.out]) | (refine wpList_op (v:=.pointer (some ⟨wr.heap.size,0,none⟩)) (w':=W1) rfl (.alloc 176) rfl ?_ ?_;(rw [← hW1.out];kernel_rfl)) | (refine wpList_store_mid rfl 176 _ _ rfl wr.heap.size 0 (wn n++bl33 p).toArray ?_ ?_ ?_ ?_ ?_ ?_;rfl;exact hvt.out.symm;exact HLS.out.2;exact HLS.out.1;exact HAL.out;rw [show (wn n++bl33 p).toArray.toList=wn n++bl33 p from rfl,hW2.out]) | (refine wpList_load_mid rfl 58 _ rfl wr.heap.size 4 ?_ (bl33 p) d ?_ ?_ ?_ ?_ ?_;rfl;exact HB.out;exact HD.out.1.1;exact HD.out.1.2;exact HLP.out;rw [hvp.out]) | (refine wpList_lk (x:=.map (some w.heap.size)) (y:=vp) (w':=W2) rfl 222 _ _ true rfl ?_ ?_ B1.out ?_;rfl;rfl) | (refine wpList_mu (x:=.map (some w.heap.size)) (y:=vp) (z:=.int .i64 (l.length:Int)) (w':=W3) rfl 222 _ _ _ rfl ?_ ?_ ?_ B2.out ?_;rfl;rfl;rfl) | (refine wpList_load_mid rfl 176 _ rfl wr.heap.size 0 ?_ (wn n++bl33 p) d' ?_ ?_ ?_ ?_ ?_;rfl;exact F3.out.1.2.1;exact HD.out.2.1;exact HD.out.2.2;exact HLT.out;rw [hvt.out]) | (refine wpList_bsl (v:=.slice (some ⟨wr.heap.size+1,0,none⟩) 1 1) (w':=W4) rfl 120 1 _ rfl #[(0,vt)] ?_ B3.out ?_;kernel_rfl) | (refine wpList_app (x:=.slice q l.length cap) (y:=.slice (some ⟨wr.heap.size+1,0,none⟩) 1 1) (v:=v') (w':=W5) rfl _ _ 120 rfl ?_ ?_ ?_ ?_;rfl;rfl;exact HAP.out))
    go_roundg (gk - 1)
    case measure=>omega
    case rel=>exact ⟨i+1,by omega,rfl,K5'⟩
  · have hi':¬ (i:Int) < (k:Int):=by omega
    obtain rfl:i=k:=by omega
    go_wp2_with fail
    refine (HDEL.out wr _ KM.out).mono ?_
    rintro e w9 ⟨vv,rfl,hR9⟩
    have HR9:=Hid.mk' hR9
    clear hR9 HDEL
    go_wp2
    go_ret
    exact ⟨_,rfl,HR9.out⟩
theorem merged_d (g k c:Nat) (hk:k≤1000) (ns:Nat→Nat) (az:Nat→Bs) (ha:∀ j,j < k→(az j).size=33) (hd:∀ i,i < k→at? (az i) ((mrg N ns az i).map (·.2)) 0=none) (hz:∀ x∈mrg N ns az k,x.1≠0∧x.1 < top) (hk0:0 < (mrg N ns az k).length) (w:World) (hg:g < w.heap.size) (hr:∀ j,j < k→w.rangeAt g (37*j) (wn (ns j)++bl33 (az j))) :
 Calls Tryz.prog 117 #[.slice (some ⟨g,0,none⟩) k c] w (Ret fun e w'=>Below w.heap.size w w'∧∃ g' cap,e=.slice (some ⟨g',0,none⟩) (mrg N ns az k).length cap∧w.heap.size≤g'∧g' < w'.heap.size∧∀ j (hj:j < (mrg N ns az k).length),w'.rangeAt g' (37*j) (wn ((mrg N ns az k)[j]).1++bl33 ((mrg N ns az k)[j]).2)):=by
 refine merged_g _ g k c hk ns az ha hd w hg hr fun W v hM=>?_
 have hms:=mrg_size (N:=N) ns az ha k (Nat.le_refl _)
 have hml:=mrg_len (N:=N) ns az k
 generalize mrg N ns az k=l at hM hms hml hz hk0 ⊢
 obtain ⟨g',cap,rfl,h1,h2,h3⟩:=owns_rows hM.ow hms hk0
 refine (delete_none g' l.length cap (by omega) (fun j=>((l[j]?).getD (0,#[])).1) (fun j=>((l[j]?).getD (0,#[])).2) (fun j hj=>by rw [List.getElem?_eq_getElem hj];exact (hz _ (List.getElem_mem hj)).2) (fun j hj=>by rw [List.getElem?_eq_getElem hj];exact (hz _ (List.getElem_mem hj)).1) (fun j hj=>by rw [List.getElem?_eq_getElem hj];exact hms _ (List.mem_map.2 ⟨_,List.getElem_mem hj,rfl⟩)) W h2 (fun j hj=>by rw [List.getElem?_eq_getElem hj];exact h3 j hj)).mono ?_
 rintro e w9 ⟨vv,rfl,hb9,rfl⟩
 exact ⟨_,rfl,hM.bl.trans (hb9.mono hM.bl.size),g',cap,rfl,h1,Nat.lt_of_lt_of_le h2 hb9.size,fun j hj=>RG.range_below (h3 j hj) hb9 h2⟩
end Go.Proofs.YtmkllfekhehagadGreat
namespace Go.Proofs.YtmkllfekhehagadGreat
open Go.RowKit Go.Sort Go.Deep
theorem zeroTm (w:World):(zeroValue 176).run Tryz.prog w=.ok (.agg zT.toArray) w:=by kernel_rfl
theorem zeroTc:(Builtin.zeroCells (Value.agg zT.toArray).cells 1).toList=zT:=by kernel_rfl
theorem zT_one:∀ v∈zT,v.oneCell'=true:=by
 intro v hv
 unfold zT z33 at hv
 rcases List.mem_append.1 hv with h | h
 · simp only [List.mem_cons,List.not_mem_nil,or_false] at h
   rcases h with rfl | rfl | rfl | rfl <;> rfl
 · rw [(List.mem_replicate.1 h).2];rfl
theorem zT_len:zT.length=37:=by kernel_rfl
set_option maxRecDepth 10000 in
theorem clearT (g c:Nat) (ty:TypeId) (w:World) (h:w.there g 0 37):(Builtin.clear_ #[120] ty #[.slice (some ⟨g,0,none⟩) 1 c]).run Tryz.prog w=.ok (.tuple #[]) (w.setCells g 0 zT):=by
 have h1:=zeroTm w
 have h2:=zeroTc
 have h3:=run_underlying undS w
 have h4:(storeCells ⟨g,0,none⟩ zT).run Tryz.prog w=.ok () (w.setCells g 0 zT):=by
  have h5:=run_storeCells_cells (P:=Tryz.prog) g 0 zT 0 w (fun j hj=>by rw [zT_len] at hj;have:=(h j hj).1;simpa using this) (fun j hj=>by rw [zT_len] at hj;have:=(h j hj).2;simpa using this) zT_one
  exact h5
 generalize zT=Z at h1 h2 h4 ⊢
 unfold Builtin.clear_
 simp [Sem.run_bind,h3,h1,h2,h4]
theorem delete_zero (g c:Nat) (a:Bs) (ha:a.size=33) (w:World) (hR:Row w g (wn 0++bl33 a)) (hc:1≤c) :
 Calls Tryz.prog 156 #[.slice (some ⟨g,0,none⟩) 1 c,.func (.func 157) #[] #[]] w (Ret fun e w'=>(∀ j,j < w.heap.size→j≠g→w'.heap[j]? = w.heap[j]?)∧w.heap.size≤w'.heap.size∧Below g w w'∧e=.slice (some ⟨g,0,none⟩) 0 c):=by
 have hI:=index_c g 1 c (by decide) (fun _=>0) (fun _=>a) (fun _ _=>by show 0 < top;unfold top;omega) (fun _ _=>ha) w hR.1 (fun j hj=>by
  obtain rfl:j=0:=by omega
  exact hR.2.1)
 have hf:firstZ (fun _=>0) 0 1=0:=rfl
 rw [hf] at hI
 have HI:=Hid.mk' hI
 have hlen:(wn 0++bl33 a).length=37:=by rw [List.length_append,bl33_length ha];rfl
 have HR:=Hid.mk' hR
 have hth:Hid (w.there g 0 37):=by have:=hR.2.2;rw [hlen] at this;exact this
 clear hI hf hR hlen
 have hc1:(1:Int)≤(c:Int):=by omega
 have hc0:(0:Int)≤(c:Int):=by omega
 go_enter Tryz.func156,Tryz.ntmps156
 go_wp2_with fail
 refine HI.out.mono ?_
 rintro e w1 ⟨v,rfl,hb1,rfl⟩
 have K1:Hid (Below w.heap.size w w1∧Row w1 g (wn 0++bl33 a)):=⟨hb1,HR.out.below hb1⟩
 have hcl:∀ ty,(Builtin.clear_ #[120] ty #[.slice (some ⟨g,0,none⟩) 1 c]).run Tryz.prog w1=.ok (.tuple #[]) (w1.setCells g 0 zT):=fun ty=>clearT g c ty w1 (by
  have:=K1.out.2.2.2
  rw [List.length_append,bl33_length ha] at this
  exact this)
 clear hb1 HI
 go_wp2
 refine wp_loop_once ?_
 go_wp2
 go_ret
 refine ⟨_,rfl,fun j hj hne=>?_,by rw [RG.setCells_size];exact K1.out.1.size,RG.below_setCells (Nat.le_refl _) _ _ _ (K1.out.1.mono (Nat.le_of_lt HR.out.1)),rfl⟩
 rw [RG.setCells_other _ _ _ _ _ hne]
 exact K1.out.1.block j hj
theorem merged_0 (g c:Nat) (a:Bs) (ha:a.size=33) (w:World) (hg:g < w.heap.size) (hr:w.rangeAt g 0 (wn 0++bl33 a)) :
 Calls Tryz.prog 117 #[.slice (some ⟨g,0,none⟩) 1 c] w (Ret fun e w'=>Below w.heap.size w w'∧∃ q cap,e=.slice q 0 cap):=by
 refine merged_g (N:=2) _ g 1 c (by decide) (fun _=>0) (fun _=>a) (fun _ _=>ha) (fun i hi=>by
  obtain rfl:i=0:=by omega
  rfl) w hg (fun j hj=>by
  obtain rfl:j=0:=by omega
  exact hr) fun W v hM=>?_
 have e1:mrg 2 (fun _=>0) (fun _=>a) 1=[(0,a)]:=rfl
 rw [e1] at hM
 obtain ⟨g',cap,rfl,h1,h2,h3⟩:=owns_rows hM.ow (fun x hx=>by simp at hx;rw [hx];exact ha) (Nat.lt_succ_self 0)
 have h0:=h3 0 (Nat.lt_succ_self 0)
 have hth:W.there g' 0 37:=by
  rcases hM.ow.2 with ⟨h,-⟩ | ⟨g2,cap2,cur,he,-,hc,hn,-,hs,-⟩
  · cases h
  · injection he with he1 he2 he3
    injection he1 with he1
    injection he1 with he1
    subst he1
    intro j hj
    have hj2:0+j < cur.size:=by
     rw [hs]
     have:1≤cap2:=hn
     omega
    refine ⟨?_,?_⟩
    · simp [World.cell?,hc,hj2]
      omega
    · simp [World.frozen?,hc]
 have hR:Row W g' (wn 0++bl33 a):=⟨h2,h0,by rw [List.length_append,bl33_length ha];exact hth⟩
 refine (delete_zero g' cap a ha W hR ?_).mono ?_
 · rcases hM.ow.2 with ⟨h,-⟩ | ⟨g2,cap2,cur,he,-,hc,hn,-,hs,-⟩
   · cases h
   · injection he with he1 he2 he3
     rw [he3];exact hn
 · rintro e w9 ⟨vv,rfl,hk9,hs9,hb9,rfl⟩
   exact ⟨_,rfl,hM.bl.trans (hb9.mono h1),_,_,rfl⟩
end Go.Proofs.YtmkllfekhehagadGreat
set_option linter.unusedVariables false
set_option linter.unusedSimpArgs false
namespace Go.Proofs.YtmkllfekhehagadGreat.RG
open Go Go.RowKit
variable {P:Program} {ops:Array Oper} {Q:Exit→Act→World→Prop} {w:World} {a0:Act} {L:Array Bool}
structure Flow where
 R:Nat→Value→World→Prop
 B:Nat→World→Prop
 E:Nat→World→World→Prop
 kill:Nat→List Nat
 killB:Nat→List Nat
def dstOf (ops:Array Oper) (i:Nat):Option Tmp:=(ops[i]?).bind (·.dst)
def depOn (ops:Array Oper) (x k:Nat):Bool:=match ops[x]? with | some o=>depB o k | none=>true
def okK (ops:Array Oper) (k:Nat) (l:List Nat):Bool:=l.all (fun x=>x == k || depOn ops x k)
def freeF (ops:Array Oper) (k:Nat) (t:Tmp):Bool:=(List.range ops.size).all (fun i=>dstOf ops i != some t || i == k || depOn ops i k)
structure InvF (F:Flow) (ops:Array Oper) (a0:Act) (L:Array Bool) (a:Act) (w:World):Prop where
 size:L.size=ops.size
 cl:∀ (i:Nat) (o:Oper),ops[i]? = some o→on L i=true→∀ e∈o.after,Region.binds .any e=true→on L e.on=true
 def':a.defers=a0.defers
 sz:a.tmps.size=a0.tmps.size
 rest:∀ t:Tmp,(∀ i,on L i=true→dstOf ops i≠some t)→a.tmps[t]? = a0.tmps[t]?
 all:∃ V:Nat→Value,(∀ i d,on L i=true→dstOf ops i=some d→a.tmps[d]? = some (V i))∧(∀ i,on L i=true→(∀ x∈F.kill i,on L x=false)→F.R i (V i) w)
 base:∀ b,(∀ x∈F.killB b,on L x=false)→F.B b w
def CertF (P:Program) (Q:Exit→Act→World→Prop) (F:Flow) (ops:Array Oper) (a0:Act) (k:Nat) (o:Oper):Prop :=
 ∀ (a:Act) (w:World) (K:Act→World→Prop),
  (∀ j d,depB o j=true→okK ops k (F.kill j)=true→dstOf ops j=some d→F.R j (a.eval (.tmp d)) w) →
  (∀ t,freeF ops k t=true→a.eval (.tmp t)=a0.eval (.tmp t)) →
  (∀ b,okK ops k (F.killB b)=true→F.B b w) →
  (∀ v w',F.E k w w'→F.R k v w'→K (a.put o.dst v) w')→o.wp P a w K Q
def chkF (ops:Array Oper) (n:Nat):Bool :=
 (List.range ops.size).all (fun i=>match ops[i]? with
  | some o=>o.guard.isNone && o.after.all (fun e=>!Region.binds .any e || e.on < i) && (match o.dst with | none=>true | some d=>decide (d < n) && (List.range ops.size).all (fun j=>j == i || dstOf ops j != some d))
  | none=>false)
structure RegF (P:Program) (Q:Exit→Act→World→Prop) (F:Flow) (ops:Array Oper) (a0:Act) (m:Nat):Prop where
 chk:chkF ops a0.tmps.size=true
 cert:∀ k o,k < m→ops[k]? = some o→CertF P Q F ops a0 k o
 stab:∀ i j,i < m→j < m→i≠j→(F.kill j).contains i=false→depOn ops j i=false→∀ v w w',F.E i w w'→F.R j v w→F.R j v w'
 stabB:∀ i b,i < m→(F.killB b).contains i=false→∀ w w',F.E i w w'→F.B b w→F.B b w'
variable {F:Flow} {m:Nat}
theorem RegF.of {k:Nat} {o:Oper} (h:RegF P Q F ops a0 m) (ho:ops[k]? = some o):o.guard=none∧(∀ e∈o.after,Region.binds .any e=true→e.on < k)∧∀ d,o.dst=some d→d < a0.tmps.size∧∀ j,dstOf ops j=some d→j=k:=by
 have hk:k < ops.size:=(Array.getElem?_eq_some_iff.1 ho).1
 have h1:=List.all_eq_true.1 h.chk k (List.mem_range.2 hk)
 rw [ho] at h1
 simp only [Bool.and_eq_true] at h1
 obtain ⟨⟨h1,h2⟩,h3⟩:=h1
 refine ⟨by simpa using h1,fun e he hb=>?_,fun d hd=>?_⟩
 · have:=Array.all_eq_true'.1 h2 e he
   simpa [hb] using this
 · rw [hd] at h3
   simp only [Bool.and_eq_true,decide_eq_true_eq] at h3
   refine ⟨h3.1,fun j hj=>?_⟩
   have hjs:j < ops.size:=by
    unfold dstOf at hj
    cases hx:ops[j]? with
    | none=>rw [hx] at hj;cases hj
    | some x=>exact (Array.getElem?_eq_some_iff.1 hx).1
   have:=List.all_eq_true.1 h3.2 j (List.mem_range.2 hjs)
   simpa [hj] using this
theorem dstOf_some {i:Nat} {o:Oper} (ho:ops[i]? = some o):dstOf ops i=o.dst:=by unfold dstOf;rw [ho];rfl
theorem dep_on {a:Act} {x k:Nat} {o:Oper} (h:InvF F ops a0 L a w) {ho:ops[x]? = some o} (hd:depB o k=true) (hx:on L x=true):on L k=true:=by
 obtain ⟨e,he,hb⟩:=Array.any_eq_true'.1 hd
 simp only [Bool.and_eq_true,beq_iff_eq] at hb
 rw [← hb.2]
 exact h.cl x o ho hx e he hb.1
theorem on_lt {L:Array Bool} {x:Nat} (h:on L x=true):x < L.size:=by
 rcases Nat.lt_or_ge x L.size with h1 | h1
 · exact h1
 · unfold on at h
   rw [Array.getD_eq_getD_getElem?,Array.getElem?_eq_none h1] at h
   cases h
theorem stepF {k:Nat} {o:Oper} {a:Act} (R:RegF P Q F ops a0 m) (hkm:k < m) (hlt:∀ i,on L i=true→i < m) (ho:ops[k]? = some o) (hun:on L k=false) (hdep:∀ e∈o.after,Region.binds .any e=true→on L e.on=true) (h:InvF F ops a0 L a w) :
 wpOp P ops Q k (InvF F ops a0 (L.setIfInBounds k true)) a w:=by
 obtain ⟨hg,hback,hdst⟩:=R.of ho
 have hks:k < ops.size:=(Array.getElem?_eq_some_iff.1 ho).1
 have hkL:k < L.size:=by rw [h.size];exact hks
 have hdo:dstOf ops k=o.dst:=dstOf_some ho
 have hnot:∀ x,(x == k || depOn ops x k)=true→on L x=false:=fun x hx=>by
  cases hon:on L x with
  | false=>rfl
  | true =>
   rcases Bool.or_eq_true _ _ ▸ hx with h1 | h1
   · rw [show x=k by simpa using h1,hun] at hon;cases hon
   · unfold depOn at h1
     have hxs:x < ops.size:=by rw [← h.size];exact on_lt hon
     have hox:ops[x]? = some ops[x]:=Array.getElem?_eq_getElem hxs
     rw [hox] at h1
     have:=dep_on (ho:=hox) h h1 hon
     rw [hun] at this;cases this
 unfold wpOp
 rw [ho]
 dsimp only
 rw [wanted_none hg,if_pos rfl]
 left
 obtain ⟨V,hV1,hV2⟩:=h.all
 refine R.cert k o hkm ho a w _ (fun j d hj hok hd=>?_) (fun t hf=>?_) (fun b hb=>?_) (fun v w' hE hR=>?_)
 · obtain ⟨e,he,hb⟩:=Array.any_eq_true'.1 hj
   simp only [Bool.and_eq_true,beq_iff_eq] at hb
   have hjon:on L j=true:=by rw [← hb.2];exact hdep e he hb.1
   have h1:=hV1 j d hjon hd
   rw [eval_of h1]
   exact hV2 j hjon fun x hx=>hnot x (List.all_eq_true.1 hok x hx)
 · have h1:=h.rest t fun i hi hd=>by
    have his:i < ops.size:=by rw [← h.size];exact on_lt hi
    have h2:=List.all_eq_true.1 hf i (List.mem_range.2 his)
    rw [hd] at h2
    have h3:(i == k || depOn ops i k)=true:=by simpa using h2
    rw [hnot i h3] at hi;cases hi
   show a.tmps.getD t undef=a0.tmps.getD t undef
   rw [Array.getD_eq_getD_getElem?,Array.getD_eq_getD_getElem?,h1]
 · exact h.base b fun x hx=>hnot x (List.all_eq_true.1 hb x hx)
 · have hon:∀ x,on (L.setIfInBounds k true) x=(on L x || k == x):=fun x=>on_set hkL
   refine ⟨by rw [Array.size_setIfInBounds];exact h.size,fun i oi hoi hi e he hb=>?_,?_,?_,fun t ht=>?_,⟨fun x=>if x=k then v else V x,fun i d hi hd=>?_,fun i hi hkl=>?_⟩,fun b hb=>?_⟩
   · rw [hon] at hi ⊢
     by_cases hik:k=i
     · subst hik
       rw [ho] at hoi
       obtain rfl:=Option.some.inj hoi
       rw [hdep e he hb,Bool.true_or]
     · rw [h.cl i oi hoi (by simpa [hik] using hi) e he hb,Bool.true_or]
   · rw [← h.def'];cases o.dst <;> rfl
   · rw [put_size];exact h.sz
   · have h1:o.dst≠some t:=fun hd=>ht k (by rw [hon];simp) (by rw [hdo];exact hd)
     rw [put_other a v h1]
     exact h.rest t fun i hi=>ht i (by rw [hon,hi,Bool.true_or])
   · rw [hon] at hi
     by_cases hik:i=k
     · subst hik
       rw [hdo] at hd
       rw [hd]
       show (a.tmps.setIfInBounds d v)[d]? = some (if i=i then v else V i)
       rw [if_pos (rfl:i=i)]
       rw [Array.getElem?_setIfInBounds,if_pos rfl,if_pos (by rw [h.sz];exact (hdst d hd).1)]
     · have hne:o.dst≠some d:=fun hd2=>hik ((hdst d hd2).2 i hd)
       rw [put_other a v hne]
       show _=some (if i=k then v else V i)
       rw [if_neg hik]
       have hik':¬ k=i:=fun e=>hik e.symm
       exact hV1 i d (by simpa [hik'] using hi) hd
   · rw [hon] at hi
     by_cases hik:i=k
     · subst hik
       show F.R i (if i=i then v else V i) w'
       rw [if_pos rfl];exact hR
     · show F.R i (if i=k then v else V i) w'
       rw [if_neg hik]
       have hik':¬ k=i:=fun e=>hik e.symm
       have hi':on L i=true:=by simpa [hik'] using hi
       have h1:∀ x∈F.kill i,on L x=false:=fun x hx=>by
        have:=hkl x hx
        rw [hon,Bool.or_eq_false_iff] at this
        exact this.1
       have h2:(F.kill i).contains k=false:=by
        cases hc:(F.kill i).contains k with
        | false=>rfl
        | true =>
         have:=hkl k (by simpa using hc)
         rw [hon] at this
         simp at this
       have his:i < ops.size:=by rw [← h.size];exact on_lt hi'
       have h3:depOn ops i k=false:=by
        cases hc:depOn ops i k with
        | false=>rfl
        | true=>rw [hnot i (by rw [hc,Bool.or_true])] at hi';cases hi'
       exact R.stab k i hkm (hlt i hi') (Ne.symm hik) h2 h3 _ _ _ hE (hV2 i hi' h1)
   · have h1:∀ x∈F.killB b,on L x=false:=fun x hx=>by
      have:=hb x hx
      rw [hon,Bool.or_eq_false_iff] at this
      exact this.1
     have h2:(F.killB b).contains k=false:=by
      cases hc:(F.killB b).contains k with
      | false=>rfl
      | true =>
       have:=hb k (by simpa using hc)
       rw [hon] at this
       simp at this
     exact R.stabB k b hkm h2 _ _ hE (h.base b h1)
def putV (V:Nat→Value):List Oper→Nat→Act→Act
 | [],_,a=>a
 | o :: r,i,a=>putV V r (i+1) (a.put o.dst (V i))
theorem putV_defers (V:Nat→Value):∀ (l:List Oper) (i:Nat) (a:Act),(putV V l i a).defers=a.defers
 | [],_,_=>rfl
 | o :: r,i,a=>by
  rw [putV,putV_defers V r]
  cases o.dst <;> rfl
theorem putV_other (V:Nat→Value):∀ (l:List Oper) (i:Nat) (a:Act) (t:Tmp),(∀ o∈l,o.dst≠some t)→(putV V l i a).tmps[t]? = a.tmps[t]?
 | [],_,_,_,_=>rfl
 | o :: r,i,a,t,h=>by
  rw [putV,putV_other V r _ _ t (fun x hx=>h x (List.mem_cons_of_mem _ hx)),put_other a _ (h o List.mem_cons_self)]
theorem putV_same (V:Nat→Value):∀ (l:List Oper) (i:Nat) (a:Act) (j:Nat) (o:Oper) (d:Tmp),l[j]? = some o→o.dst=some d→(∀ j' o',l[j']? = some o'→o'.dst=some d→j'=j)→d < a.tmps.size→(putV V l i a).tmps[d]? = some (V (i+j))
 | [],_,_,_,_,_,h,_,_,_=>by simp at h
 | x :: r,i,a,0,o,d,h,hd,hu,hs=>by
  obtain rfl:x=o:=by simpa using h
  rw [putV,putV_other V r _ _ d (fun y hy hyd=>by
   obtain ⟨j',hj'⟩:=List.getElem?_of_mem hy
   have:=hu (j'+1) y (by simpa using hj') hyd
   omega),hd]
  show (a.tmps.setIfInBounds d _)[d]? = _
  rw [Array.getElem?_setIfInBounds,if_pos rfl,if_pos hs]
  rfl
 | x :: r,i,a,j+1,o,d,h,hd,hu,hs=>by
  rw [putV,putV_same V r (i+1) _ j o d (by simpa using h) hd (fun j' o' h' hd'=>by
   have:=hu (j'+1) o' (by simpa using h') hd'
   omega) (by rw [put_size];exact hs)]
  congr 2
  omega
theorem InvF.done {a:Act} (R:RegF P Q F ops a0 m) (h:InvF F ops a0 L a w) (hall:∀ i,i < ops.size→on L i=true)
 (hp:∀ (V:Nat→Value),(∀ i,i < ops.size→F.kill i=[]→F.R i (V i) w)→(∀ b,F.killB b=[]→F.B b w)→Q .normal (putV V ops.toList 0 a0) w):Q .normal a w:=by
 obtain ⟨V,hV1,hV2⟩:=h.all
 have e:a=putV V ops.toList 0 a0:=by
  refine Act.ext' ?_ (by rw [putV_defers];exact h.def')
  apply Array.ext_getElem?
  intro t
  by_cases ht:∃ (i:Nat) (o:Oper),ops[i]? = some o∧o.dst=some t
  · obtain ⟨i,o,ho,hd⟩:=ht
    rw [hV1 i t (hall i (Array.getElem?_eq_some_iff.1 ho).1) (by rw [dstOf_some ho];exact hd)]
    rw [putV_same V ops.toList 0 a0 i o t (by rw [Array.getElem?_toList];exact ho) hd (fun j' o' hj' hd'=>((R.of ho).2.2 t hd).2 j' (by rw [Array.getElem?_toList] at hj';rw [dstOf_some hj'];exact hd')) ((R.of ho).2.2 t hd).1,Nat.zero_add]
  · rw [h.rest t (fun i hi hd=>?_),putV_other V ops.toList 0 a0 t (fun o hm hd=>?_)]
    · obtain ⟨i,hi⟩:=List.getElem?_of_mem hm
      rw [Array.getElem?_toList] at hi
      exact ht ⟨i,o,hi,hd⟩
    · unfold dstOf at hd
      cases hx:ops[i]? with
      | none=>rw [hx] at hd;cases hd
      | some x=>rw [hx] at hd;exact ht ⟨i,x,hx,hd⟩
 rw [e]
 exact hp V (fun i hi hk=>hV2 i (hall i hi) (by rw [hk];simp)) (fun b hb=>h.base b (by rw [hb];simp))
theorem InvF.full {a:Act} (R:RegF P Q F ops a0 m) (h:InvF F ops a0 L a w) (hr:Region.ready .any ops L=[]):∀ i,i < ops.size→on L i=true:=by
 intro i
 induction i using Nat.strongRecOn with
 | ind i ih =>
  intro hi
  have ho:ops[i]? = some ops[i]:=Array.getElem?_eq_getElem _
  cases hon:on L i with
  | true=>rfl
  | false =>
   have:i∈Region.ready .any ops L:=mem_ready.2 ⟨?_,_,ho,fun e he hb=>?_⟩
   · rw [hr] at this;cases this
   · unfold on at hon
     rw [Array.getD_eq_getD_getElem?,Array.getElem?_eq_getElem (by rw [h.size];exact hi)] at hon ⊢
     exact hon
   · have hlt:=(R.of ho).2.1 e he hb
     exact ih e.on hlt (Nat.lt_trans hlt hi)
theorem flow_draws {id:Nat} (F:Flow) (hm:P.follows .mixedOrders=true) (R:RegF P Q F ops a0 ops.size) (hB:∀ b,F.B b w.drew)
 (hp:∀ (V:Nat→Value) (w':World),(∀ i,i < ops.size→F.kill i=[]→F.R i (V i) w')→(∀ b,F.killB b=[]→F.B b w')→Q .normal (putV V ops.toList 0 a0) w'):(Code.region id ops true).wp P Q a0 w:=by
 have key:∀ (fuel:Nat) (L:Array Bool) (a:Act) (w:World),unl L=fuel→InvF F ops a0 L a w→wpAny P .any ops Q fuel L a w:=by
  intro fuel
  induction fuel with
  | zero =>
   intro L a w hu hI
   have hall:∀ i,i < ops.size→on L i=true:=fun i hi=>unl_zero hu i (by rw [hI.size];exact hi)
   refine ⟨?_,hI.done R hall (fun V=>hp V w)⟩
   apply List.eq_nil_iff_forall_not_mem.2
   intro i hi
   obtain ⟨h1,o,ho,-⟩:=mem_ready.1 hi
   have h2:=hall i (Array.getElem?_eq_some_iff.1 ho).1
   unfold on at h2
   rw [Array.getD_eq_getD_getElem?] at h1 h2
   cases hh:L[i]? with
   | none=>rw [hh] at h1;cases h1
   | some b=>rw [hh] at h1 h2;rw [show b=false from h1] at h2;cases h2
  | succ fuel ih =>
   intro L a w hu hI
   refine ⟨fun hr=>hI.done R (hI.full R hr) (fun V=>hp V w),fun i hi=>?_⟩
   obtain ⟨h1,o,ho,hdep⟩:=mem_ready.1 hi
   have hoff:on L i=false:=by
    unfold on
    rw [Array.getD_eq_getD_getElem?] at h1 ⊢
    cases hh:L[i]? with
    | none=>rfl
    | some b=>rw [hh] at h1;exact h1
   exact wpOp_mono (fun a' w' hI'=>ih _ a' w' (by have:=unl_set h1;omega) hI') (stepF R (Array.getElem?_eq_some_iff.1 ho).1 (fun i hi=>by rw [← hI.size];exact on_lt hi) ho hoff hdep hI)
 have hoff:∀ i,on (Array.replicate ops.size false) i=false:=fun i=>by
  unfold on
  rw [Array.getD_eq_getD_getElem?,Array.getElem?_replicate]
  by_cases h:i < ops.size
  · rw [if_pos h];rfl
  · rw [if_neg h];rfl
 refine wp_region_any hm (key _ _ a0 _ ?_ ⟨Array.size_replicate,(fun i o _ h=>by rw [hoff] at h;cases h),rfl,rfl,fun _ _=>rfl,⟨fun _=>undef,fun i d h=>(by rw [hoff] at h;cases h),fun i h=>(by rw [hoff] at h;cases h)⟩,fun b _=>hB b⟩)
 unfold unl
 rw [Array.toList_replicate,List.countP_replicate]
 simp
structure PreF (F:Flow) (ops:Array Oper) (a0:Act) (k:Nat) (o:Oper) (a:Act) (w:World):Prop where
 n:∀ j d,depB o j=true→okK ops k (F.kill j)=true→dstOf ops j=some d→F.R j (a.eval (.tmp d)) w
 o:∀ t,freeF ops k t=true→a.eval (.tmp t)=a0.eval (.tmp t)
 b:∀ b,okK ops k (F.killB b)=true→F.B b w
def CertsF (P:Program) (Q:Exit→Act→World→Prop) (F:Flow) (ops:Array Oper) (a0:Act):Nat→List Oper→Prop
 | _,[]=>True
 | k,o :: r=>CertF P Q F ops a0 k o∧CertsF P Q F ops a0 (k+1) r
theorem certs_go:∀ (l:List Oper) (i:Nat),CertsF P Q F ops a0 i l→∀ k o,l[k]? = some o→CertF P Q F ops a0 (i+k) o
 | [],_,_,k,o,h=>by simp at h
 | x :: r,i,hc,0,o,h=>by
  obtain rfl:x=o:=by simpa using h
  exact hc.1
 | x :: r,i,hc,k+1,o,h=>by
  have:=certs_go r (i+1) hc.2 k o (by simpa using h)
  rwa [show i+1+k=i+(k+1) by omega] at this
theorem certs_of (h:CertsF P Q F ops a0 0 ops.toList):∀ k o,k < ops.size→ops[k]? = some o→CertF P Q F ops a0 k o:=fun k o _ ho=>by
 have:=certs_go ops.toList 0 h k o (by rw [Array.getElem?_toList];exact ho)
 rwa [Nat.zero_add] at this
def evo (ev:Tmp→Value):Operand→Value
 | .tmp t=>ev t
 | .const v=>v
 | .global g=>.pointer (some ⟨g,0,none⟩)
 | .func f=>.func (.func f) #[] #[]
def seenT (T:List Tmp) (o:Oper):Bool :=
 (match o.op with | .select _ _=>false | _=>true) && o.op.operands.all (fun x=>match x with | .tmp t=>T.contains t | _=>true)
theorem exec_ev {a:Act} {o:Oper} (ev:Tmp→Value) (T:List Tmp) (h:seenT T o=true) (he:∀ t∈T,a.eval (.tmp t)=ev t):execOp a.eval o=execOp (evo ev) o:=by
 simp only [seenT,Bool.and_eq_true] at h
 refine execOp_congr o (fun cs b he=>?_) (fun x hx=>?_)
 · rw [he] at h;exact absurd h.1 (by simp)
 · have h1:=Array.all_eq_true'.1 h.2 x hx
   cases x with
   | tmp t=>exact he t (by simpa using h1)
   | const v=>rfl
   | global g=>rfl
   | func f=>rfl
theorem cf_val {k:Nat} {o:Oper} (h:∀ (a:Act) (w:World),PreF F ops a0 k o a w→∃ v w',(execOp a.eval o).run P w=.ok (.value v) w'∧F.E k w w'∧F.R k v w'):CertF P Q F ops a0 k o:=by
 intro a w K h1 h2 h3 hK
 obtain ⟨v,w',hr,hE,hR⟩:=h a w ⟨h1,h2,h3⟩
 unfold Oper.wp
 rw [hr]
 exact hK v w' hE hR
theorem cf_one {k:Nat} {o:Oper} (t:Tmp) (h:∀ (a:Act) (w:World),PreF F ops a0 k o a w→∃ v w',(seenT [t] o=true)∧(execOp (evo fun _=>a.eval (.tmp t)) o).run P w=.ok (.value v) w'∧F.E k w w'∧F.R k v w'):CertF P Q F ops a0 k o:=by
 refine cf_val fun a w hp=>?_
 obtain ⟨v,w',hs,hr,hE⟩:=h a w hp
 refine ⟨v,w',?_,hE⟩
 rw [exec_ev (fun _=>a.eval (.tmp t)) [t] hs (fun x hx=>by rw [show x=t by simpa using hx])]
 exact hr
theorem cf_call {k:Nat} {o:Oper} (t:Tmp) (h:∀ (a:Act) (w:World),PreF F ops a0 k o a w→∃ f args,(seenT [t] o=true)∧(execOp (evo fun _=>a.eval (.tmp t)) o).run P w=.ok (.enter f args) w∧Calls P f args w (Ret fun e w'=>F.E k w w'∧F.R k e w')):CertF P Q F ops a0 k o:=by
 intro a w K h1 h2 h3 hK
 obtain ⟨f,args,hs,hr,hc⟩:=h a w ⟨h1,h2,h3⟩
 unfold Oper.wp
 rw [exec_ev (fun _=>a.eval (.tmp t)) [t] hs (fun x hx=>by rw [show x=t by simpa using hx]),hr,Oper.upon_enter]
 refine hc.mono ?_
 rintro e w' ⟨v,rfl,hE,hR⟩
 exact hK _ _ hE hR
theorem cf_load {k:Nat} {o:Oper} (T:TypeId) (t:Tmp) (ho:o.op=.load T (.tmp t)) (hu:(P.underlying T).map (·.isRow)=some true)
 (h:∀ (a:Act) (w:World),PreF F ops a0 k o a w→∃ g off cs,a.eval (.tmp t)=.pointer (some ⟨g,off,none⟩)∧w.rangeAt g off cs∧(P.info? T).map (·.size)=some cs.length∧F.E k w w∧F.R k (.agg cs.toArray) w):CertF P Q F ops a0 k o:=by
 intro a w K h1 h2 h3 hK
 obtain ⟨g,off,cs,he,hr,hi,hE,hR⟩:=h a w ⟨h1,h2,h3⟩
 obtain ⟨d,hu,hd⟩:=Option.map_eq_some_iff.1 hu
 exact wp_load_mid T (.tmp t) ho g off he cs d hr hu hd hi (hK _ _ hE hR)
theorem cf_app {k:Nat} {o:Oper} (s u:Tmp) (t:TypeId) (ho:o.op=.call { callee:=.builtin .append,args:=#[.tmp s,.tmp u],argTypes:=#[t,t] })
 (h:∀ (a:Act) (w:World),PreF F ops a0 k o a w→∃ v w',(Builtin.append_ #[t,t] o.type #[a.eval (.tmp s),a.eval (.tmp u)]).run P w=.ok v w'∧F.E k w w'∧F.R k v w'):CertF P Q F ops a0 k o:=by
 intro a w K h1 h2 h3 hK
 obtain ⟨v,w',hr,hE,hR⟩:=h a w ⟨h1,h2,h3⟩
 unfold Oper.wp execOp
 simp only [ho,resolve,invoke,builtin,Sem.run_bind,Sem.run_pure,Result.andThen_ok,List.map_toArray,List.map_cons,List.map_nil,hr]
 exact hK _ _ hE hR
theorem certs_but (h:CertsF P Q F ops a0 0 (ops.toList.take m)):∀ k o,k < m→ops[k]? = some o→CertF P Q F ops a0 k o:=fun k o hk ho=>by
 have:=certs_go (ops.toList.take m) 0 h k o (by rw [List.getElem?_take,if_pos hk,Array.getElem?_toList];exact ho)
 rwa [Nat.zero_add] at this
theorem InvF.act {a:Act} (R:RegF P Q F ops a0 m) (h:InvF F ops a0 L a w) (hm:m≤ops.size) (hall:∀ i,on L i=true↔i < m) {V:Nat→Value} (hV1:∀ i d,on L i=true→dstOf ops i=some d→a.tmps[d]? = some (V i)):a=putV V (ops.toList.take m) 0 a0:=by
 refine Act.ext' ?_ (by rw [putV_defers];exact h.def')
 apply Array.ext_getElem?
 intro t
 by_cases ht:∃ (i:Nat) (o:Oper),i < m∧ops[i]? = some o∧o.dst=some t
 · obtain ⟨i,o,him,ho,hd⟩:=ht
   rw [hV1 i t ((hall i).2 him) (by rw [dstOf_some ho];exact hd)]
   rw [putV_same V (ops.toList.take m) 0 a0 i o t (by rw [List.getElem?_take,if_pos him,Array.getElem?_toList];exact ho) hd (fun j' o' hj' hd'=>((R.of ho).2.2 t hd).2 j' (by
    rw [List.getElem?_take] at hj'
    split at hj'
    · rw [Array.getElem?_toList] at hj';rw [dstOf_some hj'];exact hd'
    · cases hj')) ((R.of ho).2.2 t hd).1,Nat.zero_add]
 · rw [h.rest t (fun i hi hd=>?_),putV_other V (ops.toList.take m) 0 a0 t (fun o hm' hd=>?_)]
   · obtain ⟨i,hi⟩:=List.getElem?_of_mem hm'
     rw [List.getElem?_take] at hi
     split at hi
     · rename_i him
       rw [Array.getElem?_toList] at hi
       exact ht ⟨i,o,him,hi,hd⟩
     · cases hi
   · unfold dstOf at hd
     cases hx:ops[i]? with
     | none=>rw [hx] at hd;cases hd
     | some x=>rw [hx] at hd;exact ht ⟨i,x,(hall i).1 hi,hx,hd⟩
theorem flow_last {id:Nat} (F:Flow) (n:Nat) (hn:ops.size=n+1) (hd:(List.range n).all (fun j=>depOn ops n j || (List.range n).any (fun i=>depOn ops n i && depOn ops i j))=true) (hm:P.follows .mixedOrders=true) (R:RegF P Q F ops a0 n) (hB:∀ b,F.B b w.drew)
 (hp:∀ (V:Nat→Value) (w':World),(∀ i,i < n→F.kill i=[]→F.R i (V i) w')→(∀ b,F.killB b=[]→F.B b w')→wpList P ops Q (ops.toList.drop n) (putV V (ops.toList.take n) 0 a0) w'):(Code.region id ops true).wp P Q a0 w:=by
 have hon':ops[n]? = some (ops[n]'(by omega)):=Array.getElem?_eq_getElem _
 have key:∀ (fuel:Nat) (L:Array Bool) (a:Act) (w:World),unl L=fuel→on L n=false→InvF F ops a0 L a w→wpAny P .any ops Q fuel L a w:=by
  intro fuel
  induction fuel with
  | zero =>
   intro L a w hu hoff hI
   have:=unl_zero hu n (by rw [hI.size];omega)
   rw [hoff] at this;cases this
  | succ fuel ih =>
   intro L a w hu hoff hI
   refine ⟨fun hr=>?_,fun i hi=>?_⟩
   · have:=hI.full R hr n (by omega)
     rw [hoff] at this;cases this
   · obtain ⟨h1,o,ho,hdep⟩:=mem_ready.1 hi
     have his:i < ops.size:=(Array.getElem?_eq_some_iff.1 ho).1
     have hoi:on L i=false:=by
      unfold on
      rw [Array.getD_eq_getD_getElem?] at h1 ⊢
      cases hh:L[i]? with
      | none=>rfl
      | some b=>rw [hh] at h1;exact h1
     by_cases hin:i=n
     · subst hin
       have hall:∀ j,on L j=true↔j < i:=fun j=>by
        constructor
        · intro hj
          have h2:j < ops.size:=by rw [← hI.size];exact on_lt hj
          rcases Nat.lt_or_ge j i with h | h
          · exact h
          · obtain rfl:j=i:=by omega
            rw [hoff] at hj;cases hj
        · intro hj
          have hdir:∀ j,depOn ops i j=true→on L j=true:=fun j h2=>by
           unfold depOn at h2
           rw [ho] at h2
           obtain ⟨e,he,hb⟩:=Array.any_eq_true'.1 h2
           simp only [Bool.and_eq_true,beq_iff_eq] at hb
           have:=hdep e he hb.1
           rw [hb.2] at this
           exact this
          have h2:=List.all_eq_true.1 hd j (List.mem_range.2 hj)
          rw [Bool.or_eq_true] at h2
          rcases h2 with h2 | h2
          · exact hdir j h2
          · obtain ⟨x,hx,h3⟩:=List.any_eq_true.1 h2
            rw [Bool.and_eq_true] at h3
            have hxo:=hdir x h3.1
            have hxs:x < ops.size:=by have:=List.mem_range.1 hx;omega
            have hox:ops[x]? = some ops[x]:=Array.getElem?_eq_getElem hxs
            have h4:=h3.2
            unfold depOn at h4
            rw [hox] at h4
            exact dep_on (ho:=hox) hI h4 hxo
       obtain ⟨V,hV1,hV2⟩:=hI.all
       have ha:=hI.act R (by omega) hall hV1
       have hkl:∀ l:List Nat,l=[]→∀ x∈l,on L x=false:=fun l hl x hx=>by rw [hl] at hx;cases hx
       have hfin:=hp V w (fun j hj hk=>hV2 j ((hall j).2 hj) (hkl _ hk)) (fun b hb=>hI.base b (hkl _ hb))
       have hdrop:ops.toList.drop i=[o]:=by
        have hlen:ops.toList.length=i+1:=by rw [Array.length_toList];exact hn
        rw [List.drop_eq_getElem_cons (by omega),List.drop_of_length_le (by omega)]
        have:ops.toList[i]? = some o:=by rw [Array.getElem?_toList];exact ho
        rw [List.getElem?_eq_getElem (by omega)] at this
        rw [Option.some.inj this]
       rw [hdrop,← ha] at hfin
       have hop:wpOp P ops Q i (fun a' w'=>Q .normal a' w') a w:=by
        unfold wpOp
        rw [ho]
        exact hfin
       refine wpOp_mono (fun a' w' hq=>?_) hop
       have hon2:∀ j,j < ops.size→on (L.setIfInBounds i true) j=true:=fun j hj=>by
        rw [on_set (by rw [hI.size];omega)]
        by_cases h:j < i
        · rw [(hall j).2 h,Bool.true_or]
        · rw [show j=i by omega];simp
       have hr:Region.ready .any ops (L.setIfInBounds i true)=[]:=by
        apply List.eq_nil_iff_forall_not_mem.2
        intro j hj
        obtain ⟨h1,o',ho',-⟩:=mem_ready.1 hj
        have h2:=hon2 j (Array.getElem?_eq_some_iff.1 ho').1
        unfold on at h2
        rw [Array.getD_eq_getD_getElem?] at h1 h2
        cases hh:(L.setIfInBounds i true)[j]? with
        | none=>rw [hh] at h1;cases h1
        | some b=>rw [hh] at h1 h2;rw [show b=false from h1] at h2;cases h2
       cases fuel with
       | zero=>exact ⟨hr,hq⟩
       | succ f=>exact ⟨fun _=>hq,fun j hj=>by rw [hr] at hj;cases hj⟩
     · refine wpOp_mono (fun a' w' hI'=>ih _ a' w' (by have:=unl_set h1;omega) ?_ hI') (stepF R (by omega) (fun j hj=>?_) ho hoi hdep hI)
       · rw [on_set (by rw [hI.size];exact his),hoff]
         simpa using hin
       · have h2:j < ops.size:=by rw [← hI.size];exact on_lt hj
         rcases Nat.lt_or_ge j n with h | h
         · exact h
         · obtain rfl:j=n:=by omega
           rw [hoff] at hj;cases hj
 have hoff:∀ i,on (Array.replicate ops.size false) i=false:=fun i=>by
  unfold on
  rw [Array.getD_eq_getD_getElem?,Array.getElem?_replicate]
  by_cases h:i < ops.size
  · rw [if_pos h];rfl
  · rw [if_neg h];rfl
 refine wp_region_any hm (key _ _ a0 _ ?_ (hoff n) ⟨Array.size_replicate,(fun i o _ h=>by rw [hoff] at h;cases h),rfl,rfl,fun _ _=>rfl,⟨fun _=>undef,fun i d h=>(by rw [hoff] at h;cases h),fun i h=>(by rw [hoff] at h;cases h)⟩,fun b _=>hB b⟩)
 unfold unl
 rw [Array.toList_replicate,List.countP_replicate]
 simp
end Go.Proofs.YtmkllfekhehagadGreat.RG
namespace Go.Proofs.YtmkllfekhehagadGreat
open Go.RowKit Go.Sort Go.Deep
theorem u8_ne {p:Option Addr} {n c:Nat} {x:UInt8}:encB x≠.slice p n c:=fun h=>by cases h
def El (n:Nat) (W:World) (x:Value) (b:Bs):Prop:=∃ k c,x=.slice (some ⟨k,0,none⟩) n c∧n≤c∧b.size=n∧k < W.heap.size∧Holds encB W k 0 b
def isL (n:Nat) (W:World) (g:Nat):Prop:=∃ p c,W.cell? ⟨g,0,none⟩=some (.slice p n c)
structure Gr (n:Nat) (v:Value) (W W':World):Prop where
 gr:W.grownBy W' v.ownBlock
 is:∀ g,v.ownBlock=some g→isL n W g
theorem Gr.of {W W':World} {n:Nat} (h:Below W.heap.size W W'):Gr n (.slice none 0 0) W W' :=
 ⟨⟨h.os,h.tape,h.output,h.size,fun k hk _=>h.block k hk⟩,fun g hg=>by cases hg⟩
theorem Gr.below {n:Nat} {v:Value} {w W W':World} {B:Nat} (h:Gr n v W W') (hb:Below B w W) (hB:B≤W.heap.size) (hv:∀ g,v.ownBlock=some g→B≤g):Below B w W' :=
 hb.grown h.gr hB (fun k hk=>hv k hk)
theorem Gr.block {n k:Nat} {v:Value} {W W':World} (h:Gr n v W W') (hk:k < W.heap.size) (hne:∀ p c,W.cell? ⟨k,0,none⟩≠some (.slice p n c)):W'.heap[k]? = W.heap[k]? :=
 h.gr.block k hk fun e=>by
  obtain ⟨p,c,hc⟩:=h.is k e.symm
  exact hne p c hc
theorem Holds.kept {W W':World} {k:Nat} {b:Bs} (h:Holds encB W k 0 b) (e:W'.heap[k]? = W.heap[k]?):Holds encB W' k 0 b:=fun j hj=>by
 rw [World.cell?_of_block (a:=⟨k,0+j,none⟩) e,World.frozen?_of_block (a:=⟨k,0+j,none⟩) e]
 exact h j hj
theorem El.kept {m n:Nat} {v x:Value} {W W':World} {b:Bs} (h:El m W x b) (hm:0 < m) (hg:Gr n v W W'):El m W' x b:=by
 obtain ⟨k,c,rfl,h1,h2,h3,h4⟩:=h
 refine ⟨k,c,rfl,h1,h2,Nat.lt_of_lt_of_le h3 hg.gr.size,Holds.kept h4 (hg.block h3 fun p c' hc=>?_)⟩
 have:=(h4 0 (by omega)).1
 rw [Nat.zero_add,hc] at this
 exact u8_ne (Option.some.inj this).symm
theorem Row.kept {n k:Nat} {v:Value} {W W':World} {vs:List Value} (h:Row W k vs) (hg:Gr n v W W') (hne:∀ p c,vs[0]?≠some (.slice p n c)) (hl:0 < vs.length):Row W' k vs:=by
 have e:=hg.block h.1 fun p c hc=>by
  have h0:=h.2.1 0 vs[0] (List.getElem?_eq_getElem hl)
  rw [Nat.zero_add,hc] at h0
  exact hne p c (by rw [List.getElem?_eq_getElem hl,h0])
 refine ⟨Nat.lt_of_lt_of_le h.1 hg.gr.size,fun j u hj=>?_,fun j hj=>?_⟩
 · rw [World.cell?_of_block (a:=⟨k,0+j,none⟩) e];exact h.2.1 j u hj
 · rw [World.cell?_of_block (a:=⟨k,0+j,none⟩) e,World.frozen?_of_block (a:=⟨k,0+j,none⟩) e];exact h.2.2 j hj
structure Lo (n base:Nat) (W:World) (v:Value) (bs:List Bs):Prop where
 ex:∃ xs:List Value,xs.length=bs.length∧W.ownsRow base 22 1 v bs.length xs∧∀ (j:Nat) (x:Value) (b:Bs),xs[j]? = some x→bs[j]? = some b→El n W x b
 nil:bs=[]→v=.slice none 0 0
theorem Lo.begin (n base:Nat) (W:World):Lo n base W (.slice none 0 0) []:=⟨⟨[],rfl,World.ownsRow_nil _ _ _ _,fun j x b h=>by cases h⟩,fun _=>rfl⟩
theorem add0 (g j:Nat):(⟨g,0,none⟩:Addr).add j=⟨g,j,none⟩:=by unfold Addr.add;split <;> simp_all
theorem Lo.isL {n base:Nat} {W:World} {v:Value} {bs:List Bs} (h:Lo n base W v bs) {g:Nat} (hg:v.ownBlock=some g):isL n W g:=by
 obtain ⟨xs,h1,h2,h3⟩:=h.ex
 have hne:bs≠[]:=fun e=>by rw [h.nil e] at hg;cases hg
 cases bs with
 | nil=>exact absurd rfl hne
 | cons b r =>
  cases xs with
  | nil=>cases h1
  | cons x xr =>
   obtain ⟨k,c,rfl,-⟩:=h3 0 x b rfl rfl
   have:=h2.cells hg 0 _ rfl
   rw [add0] at this
   exact ⟨_,_,this⟩
theorem Lo.lt {n base:Nat} {W:World} {v:Value} {bs:List Bs} (h:Lo n base W v bs):∀ g,v.ownBlock=some g→base≤g∧g < W.heap.size:=by
 obtain ⟨xs,h1,h2,h3⟩:=h.ex
 exact h2.lt
theorem Lo.kept {m n base:Nat} {W W':World} {v v':Value} {bs:List Bs} (h:Lo m base W v bs) (hm:0 < m) (hg:Gr n v' W W') (hne:m≠n):Lo m base W' v bs:=by
 have hL:=fun {g}=>h.isL (g:=g)
 obtain ⟨xs,h1,h2,h3⟩:=h.ex
 refine ⟨⟨xs,h1,h2.kept hg.gr ?_,fun j x b hx hb=>(h3 j x b hx hb).kept hm hg⟩,h.nil⟩
 cases hv:v.ownBlock with
 | none=>exact Or.inl rfl
 | some g =>
  refine Or.inr fun e=>hne ?_
  obtain ⟨p,c,hc⟩:=hL hv
  obtain ⟨p',c',hc'⟩:=hg.is g e.symm
  rw [hc] at hc'
  injection hc' with hc'
  injection hc' with _ h5 _
theorem infoB:(Tryz.prog.info? 22).map (fun i=>(i.size,i.bytes,i.zero.map fun z=>z.cells.size))=some (1,24,some 1):=by kernel_rfl
theorem undB:Tryz.prog.underlying 35=some (.slice 22):=by kernel_rfl
theorem Lo.app {n base g:Nat} {W:World} {v x:Value} {bs:List Bs} {b:Bs} (h:Lo n base W v bs) (hn:0 < n) (hx:El n W x b) (hc:W.cell? ⟨g,0,none⟩=some x) (hk:bs.length≤1000000) (hb:base≤W.heap.size) :
 ∃ v' W',(Builtin.append_ #[35,35] 35 #[v,.slice (some ⟨g,0,none⟩) 1 1]).run Tryz.prog W=.ok v' W'∧Lo n base W' v' (bs++[b])∧Gr n v W W':=by
 obtain ⟨i,hi,he⟩:=Option.map_eq_some_iff.1 infoB
 simp only [Prod.mk.injEq] at he
 obtain ⟨h1,h2,h3⟩:=he
 obtain ⟨z,hz,hz2⟩:=Option.map_eq_some_iff.1 h3
 obtain ⟨xs,x1,x2,x3⟩:=h.ex
 obtain ⟨v',W',r1,r2,r3,r4⟩:=run_append_own (P:=Tryz.prog) W base 35 35 22 i z 1 24 undB hi hz h1 h2 hz2 (by decide) v bs.length xs x2 ⟨g,0,none⟩ 1 1 [x] rfl
  (fun j u hj=>by
   cases j with
   | zero =>
    obtain rfl:x=u:=by simpa using hj
    rw [add0];exact hc
   | succ j=>simp at hj) (fun u hu=>by
   obtain rfl:u=x:=by simpa using hu
   obtain ⟨k,c,rfl,-⟩:=hx
   rfl) (by unfold maxLen;omega) (by omega) hb
 have G:Gr n v W W':=⟨r3,fun g hg=>h.isL hg⟩
 refine ⟨v',W',r1,⟨⟨xs++[x],by simp [x1],by rw [List.length_append];exact r2,fun j y c hy hcy=>?_⟩,fun e=>by simp at e⟩,G⟩
 by_cases hj:j < bs.length
 · rw [List.getElem?_append_left (by omega)] at hy hcy
   exact (x3 j y c hy hcy).kept hn G
 · rw [List.getElem?_append_right (by omega)] at hy hcy
   rw [x1] at hy
   cases hjj:j - bs.length with
   | zero =>
    rw [hjj] at hy hcy
    obtain rfl:x=y:=by simpa using hy
    obtain rfl:b=c:=by simpa using hcy
    exact hx.kept hn G
   | succ d=>rw [hjj] at hy;simp at hy
theorem ptBytes_c {a:Bs} (ha:a.size=33) (w:World):Calls Tryz.prog 118 #[pvl a] w (Ret fun e w'=>Below w.heap.size w w'∧El 33 w' e a):=by
 have B1:=Hid.mk' (boxCP ha w)
 obtain ⟨w1,hw1⟩:∃ w1,Hid (w.alloc (.cells (bl33 a).toArray 58)=w1):=⟨_,rfl⟩
 rw [hw1.out] at B1
 have K:Hid (Row w1 w.heap.size (bl33 a)∧Below w.heap.size w w1):=by rw [← hw1.out];exact ⟨row_new w _ _,below1 w _⟩
 obtain ⟨va,hva⟩:∃ v,Hid (pvl a=v):=⟨_,rfl⟩
 have B1':Hid ((Instr.box 58 va).run Tryz.prog w=.ok (.pointer (some ⟨w.heap.size,0,none⟩)) w1):=by rw [← hva.out];exact B1
 rw [hva.out]
 have hs:=slCP w.heap.size
 clear B1 hw1
 go_enter Tryz.func118,Tryz.ntmps118
 go_wp2_with (first | (refine wpList_box (u:=va) (v:=.pointer (some ⟨w.heap.size,0,none⟩)) (w':=w1) rfl 58 (.tmp 0) rfl ?_ ?_ ?_;rfl;exact B1'.out))
 go_ret
 exact ⟨_,rfl,K.out.2,w.heap.size,33,rfl,by omega,ha,K.out.1.1,row_holds K.out.1⟩
end Go.Proofs.YtmkllfekhehagadGreat
namespace Go.Proofs.YtmkllfekhehagadGreat
open Go.RowKit Go.Sort Go.Deep
variable {P:Nat} [NeZero P] {N:Nat}
def Bo (n B0:Nat) (W:World) (v:Value) (b:Bs):Prop:=∃ k x,v=.slice (some ⟨k,0,none⟩) 1 1∧B0≤k∧k < W.heap.size∧W.cell? ⟨k,0,none⟩=some x∧El n W x b
theorem Bo.kept {m n B0:Nat} {W W':World} {v u:Value} {b:Bs} (h:Bo n B0 W v b) (hn:0 < n) (hg:Gr m u W W') (hu:∀ g,u.ownBlock=some g→g < B0):Bo n B0 W' v b:=by
 obtain ⟨k,x,rfl,h1,h2,h3,h4⟩:=h
 refine ⟨k,x,rfl,h1,Nat.lt_of_lt_of_le h2 hg.gr.size,?_,h4.kept hn hg⟩
 rw [World.cell?_of_block (a:=⟨k,0,none⟩) (hg.gr.block k h2 fun e=>by have:=hu k e.symm;omega)]
 exact h3
def Tm (W:World) (q:Option Addr) (k:Nat) (ns:Nat→Nat) (az:Nat→Bs):Prop:=0 < k→∃ g,q=some ⟨g,0,none⟩∧g < W.heap.size∧∀ j,j < k→W.rangeAt g (37*j) (wn (ns j)++bl33 (az j))
theorem Tm.kept {m k:Nat} {W W':World} {u:Value} {q:Option Addr} {ns:Nat→Nat} {az:Nat→Bs} (h:Tm W q k ns az) (hg:Gr m u W W'):Tm W' q k ns az:=fun hk=>by
 obtain ⟨g,h1,h2,h3⟩:=h hk
 refine ⟨g,h1,Nat.lt_of_lt_of_le h2 hg.gr.size,fun j hj i v hv=>?_⟩
 have e:=hg.block h2 fun p c hc=>by
  have h0:=h3 0 hk 0 _ (show (wn (ns 0)++bl33 (az 0))[0]? = some _ from rfl)
  rw [show 37*0+0=0 from rfl,hc] at h0
  cases h0
 rw [World.cell?_of_block (a:=⟨g,37*j+i,none⟩) e]
 exact h3 j hj i v hv
section
variable (w0:World) (v3 v4:Value) (k6 n B0 base:Nat) (p:Bs) (bs cs:List Bs) (q:Option Addr) (k:Nat) (ns:Nat→Nat) (az:Nat→Bs)
def PR:Nat→Value→World→Prop
 | 0,v,_=>v=v3
 | 1,v,_=>v=.pointer (some ⟨k6,0,none⟩)
 | 2,v,_=>v=nv n
 | 3,v,w=>El 32 w v (bx n)
 | 4,v,w=>Bo 32 B0 w v (bx n)
 | 5,v,w=>Lo 32 base w v (bs++[bx n])
 | 6,v,_=>v=v4
 | 7,v,_=>v=.pointer (some ⟨k6,4,none⟩)
 | 8,v,_=>v=pvl p
 | 9,v,w=>El 33 w v p
 | 10,v,w=>Bo 33 B0 w v p
 | 11,v,w=>Lo 33 base w v (cs++[p])
 | 12,v,w=>Lo 32 base w v (bs++[bx n])
 | 13,v,w=>Lo 33 base w v (cs++[p])
 | _,_,_=>True
def PBs:Nat→World→Prop
 | 0,w=>Row w k6 (wn n++bl33 p)
 | 1,w=>Lo 32 base w v3 bs
 | 2,w=>Lo 33 base w v4 cs
 | 3,w=>Below base w0 w∧base≤w.heap.size∧B0≤w.heap.size
 | 4,w=>Tm w q k ns az
 | 5,w=>Row w base z33
 | _,_=>True
def PE:Nat→World→World→Prop
 | 5=>Gr 32 v3
 | 11=>Gr 33 v4
 | _=>Gr 0 (.slice none 0 0)
def Pk1:Nat→List Nat
 | 4=>[5]
 | 10=>[11]
 | _=>[]
def Pk2:Nat→List Nat
 | 1=>[5]
 | 2=>[11]
 | _=>[]
def FP:RG.Flow:=⟨PR v3 v4 k6 n B0 base p bs cs,PBs w0 v3 v4 k6 n B0 base p bs cs q k ns az,PE v3 v4,Pk1,Pk2⟩
theorem PE_any {i:Nat} {w w':World} (h:PE v3 v4 i w w'):∃ m u,Gr m u w w'∧((i=5∧m=32∧u=v3)∨(i=11∧m=33∧u=v4)∨(i≠5∧i≠11∧m=0∧u=.slice none 0 0)):=by
 unfold PE at h
 split at h
 · exact ⟨_,_,h,Or.inl ⟨rfl,rfl,rfl⟩⟩
 · exact ⟨_,_,h,Or.inr (Or.inl ⟨rfl,rfl,rfl⟩)⟩
 · rename_i h1 h2
   exact ⟨_,_,h,Or.inr (Or.inr ⟨h1,h2,rfl,rfl⟩)⟩
variable (hv3:∀ g,v3.ownBlock=some g→base≤g∧g < B0) (hv4:∀ g,v4.ownBlock=some g→base≤g∧g < B0)
include hv3 hv4
theorem PE_own {i m:Nat} {u:Value} (h:(i=5∧m=32∧u=v3)∨(i=11∧m=33∧u=v4)∨(i≠5∧i≠11∧m=0∧u=.slice none 0 0)):∀ g,u.ownBlock=some g→base≤g∧g < B0:=by
 rcases h with ⟨-,-,rfl⟩ | ⟨-,-,rfl⟩ | ⟨-,-,-,rfl⟩
 · exact hv3
 · exact hv4
 · intro g hg;cases hg
theorem P_stab (i j:Nat) (hj:j < 14) (hij:i≠j) (hk:(Pk1 j).contains i=false) (h1:¬ (j=12∧i=5)) (h2:¬ (j=13∧i=11)) (v:Value) (w w':World) (hE:PE v3 v4 i w w') (hR:PR v3 v4 k6 n B0 base p bs cs j v w):PR v3 v4 k6 n B0 base p bs cs j v w':=by
 obtain ⟨m,u,hg,hc⟩:=PE_any v3 v4 hE
 have hu:=PE_own v3 v4 B0 base hv3 hv4 hc
 have m32:m=32→i=5:=fun h=>by rcases hc with ⟨h1,-⟩ | ⟨-,h2,-⟩ | ⟨-,-,h2,-⟩ <;> omega
 have m33:m=33→i=11:=fun h=>by rcases hc with ⟨-,h2,-⟩ | ⟨h1,-⟩ | ⟨-,-,h2,-⟩ <;> omega
 match j,hj,hR with
 | 0,_,h=>exact h
 | 1,_,h=>exact h
 | 2,_,h=>exact h
 | 3,_,h=>exact El.kept h (by decide) hg
 | 4,_,h=>exact Bo.kept h (by decide) hg fun g hgg=>(hu g hgg).2
 | 5,_,h=>exact Lo.kept h (by decide) hg fun e=>hij (m32 e.symm)
 | 6,_,h=>exact h
 | 7,_,h=>exact h
 | 8,_,h=>exact h
 | 9,_,h=>exact El.kept h (by decide) hg
 | 10,_,h=>exact Bo.kept h (by decide) hg fun g hgg=>(hu g hgg).2
 | 11,_,h=>exact Lo.kept h (by decide) hg fun e=>hij (m33 e.symm)
 | 12,_,h=>exact Lo.kept h (by decide) hg fun e=>h1 ⟨rfl,m32 e.symm⟩
 | 13,_,h=>exact Lo.kept h (by decide) hg fun e=>h2 ⟨rfl,m33 e.symm⟩
 | _+14,hj,_=>omega
theorem P_stabB (i b:Nat) (hk:(Pk2 b).contains i=false) (w w':World) (hE:PE v3 v4 i w w') (hR:PBs w0 v3 v4 k6 n B0 base p bs cs q k ns az b w):PBs w0 v3 v4 k6 n B0 base p bs cs q k ns az b w':=by
 obtain ⟨m,u,hg,hc⟩:=PE_any v3 v4 hE
 have hu:=PE_own v3 v4 B0 base hv3 hv4 hc
 have m32:m=32→i=5:=fun h=>by rcases hc with ⟨h1,-⟩ | ⟨-,h2,-⟩ | ⟨-,-,h2,-⟩ <;> omega
 have m33:m=33→i=11:=fun h=>by rcases hc with ⟨-,h2,-⟩ | ⟨h1,-⟩ | ⟨-,-,h2,-⟩ <;> omega
 match b,hk,hR with
 | 0,_,h=>exact Row.kept h hg (fun p c e=>by cases e) (by rw [List.length_append];exact Nat.lt_of_lt_of_le (by decide) (Nat.le_add_right 4 _))
 | 1,hk,h=>exact Lo.kept h (by decide) hg fun e=>by rw [m32 e.symm] at hk;cases hk
 | 2,hk,h=>exact Lo.kept h (by decide) hg fun e=>by rw [m33 e.symm] at hk;cases hk
 | 3,_,h=>exact ⟨hg.below h.1 h.2.1 fun g hgg=>(hu g hgg).1,Nat.le_trans h.2.1 hg.gr.size,Nat.le_trans h.2.2 hg.gr.size⟩
 | 4,_,h=>exact Tm.kept h hg
 | 5,_,h=>exact Row.kept h hg (fun p c e=>by cases e) (by decide)
 | _+6,_,_=>trivial
end
end Go.Proofs.YtmkllfekhehagadGreat
namespace Go.Proofs.YtmkllfekhehagadGreat
open Go.RowKit Go.Sort Go.Deep
variable {P:Nat} [NeZero P] {N:Nat}
theorem Lo.drew {n base:Nat} {W:World} {v:Value} {bs:List Bs} (h:Lo n base W v bs):Lo n base W.drew v bs:=⟨h.ex,h.nil⟩
theorem SumR.all (C:Fld P) (O:Ord N) {w w':World} {k:Nat} (hk:k≤512) {ns:Nat→Nat} {X:Nat→EC.Pt P} (hn:∀ j,j < k→ns j < N) (hX:∀ j,j < k→EC.On (X j)) {L M:Nat→Bs} (hL:∀ j,j < k→L j=bx (ns j)) (hM:∀ j,j < k→M j=wr (X j)) {e:Value} (h:SumR P N w k k L M e w') :
 OutP w (wr (EC.tot X k (fun j=>(ns j:Int)))) e w':=by
 have hq:∀ j,j < k→rq N (L j)=some (ns j):=fun j hj=>by
  rw [hL j hj]
  have hb:beV (bx (ns j)).toList=ns j:=bx_val (Nat.lt_of_lt_of_le (hn j hj) O.le)
  unfold rq
  rw [if_pos ⟨bx_size _,by rw [hb];exact hn j hj⟩,hb]
 have hr:∀ j,j < k→∃ p,rd P (M j)=some p∧pt p=X j:=fun j hj=>by rw [hM j hj];exact rd_wr C (hX j hj)
 rcases h with ⟨h,-⟩ | ⟨-,h,-⟩ | ⟨-,-,⟨⟨j,hj,hn'⟩,-⟩ | ⟨ns',hns,⟨⟨j,hj,hn'⟩,-⟩ | ⟨xs,ys,hxy,h⟩⟩⟩
 · exact absurd rfl h
 · omega
 · rw [hq j hj] at hn';cases hn'
 · obtain ⟨p,hp,-⟩:=hr j hj
   rw [hp] at hn';cases hn'
 · have e1:∀ j,j < k→ns' j=ns j:=fun j hj=>by
    have:=hns j hj
    rw [hq j hj] at this
    exact (Option.some.inj this).symm
   have hp:∀ j,j < k→EC.Pair (xs j) (ys j) (X j)∧EC.On (X j):=fun j hj=>by
    obtain ⟨p,hp,hpt⟩:=hr j hj
    have h1:=hxy j hj
    rw [hp] at h1
    have h2:=Option.some.inj h1
    have h3:=rd_on C hp
    rw [hpt] at h3
    rw [h2] at h3
    exact h3
   have hJ:=sumJ_all C (ns:=ns') (xs:=xs) (ys:=ys) (p:=X) (N:=k) (fun i hi=>by rw [e1 i hi];exact Nat.lt_of_lt_of_le (hn i hi) O.le) (fun i hi=>(hp i hi).1) (fun i hi=>(hp i hi).2)
   have e2:EC.tot X k (fun j=>(ns' j:Int))=EC.tot X k (fun j=>(ns j:Int)):=EC.tot_congr k fun j hj=>by rw [e1 j hj]
   rw [e2] at hJ
   rw [← by33_wr C (hJ.pair C) hJ.2]
   exact h
structure Pz (w W:World) (q:Option Addr) (k i:Nat) (ns:Nat→Nat) (az:Nat→Bs) (s3 s4:Value):Prop where
 bl:Below w.heap.size w W
 l3:Lo 32 w.heap.size W s3 ((List.range i).map fun j=>bx (ns j))
 l4:Lo 33 w.heap.size W s4 ((List.range i).map az)
 tm:Tm W q k ns az
 r2:Row W w.heap.size z33
end Go.Proofs.YtmkllfekhehagadGreat
namespace Go.Proofs.YtmkllfekhehagadGreat
open Go.RowKit Go.Sort Go.Deep
variable {P:Nat} [NeZero P] {N:Nat}
theorem El.of_made {w w':World} {k n:Nat} {b:Bs} (h:RG.Made w k (cb b) w') (hb:b.size=n):El n w' (.slice (some ⟨k,0,none⟩) n n) b:=⟨k,n,rfl,Nat.le_refl _,hb,h.lt,cb_holds h.range h.there⟩
theorem Bo.of {n B0:Nat} {w:World} {x:Value} {b:Bs} (h:El n w x b) (hn:0 < n) (hB:B0≤w.heap.size) (T:TypeId):Bo n B0 (w.alloc (.cells #[x] T)) (.slice (some ⟨w.heap.size,0,none⟩) 1 1) b :=
 ⟨w.heap.size,x,rfl,hB,by rw [World.size_alloc];omega,by rw [World.cell?_alloc_new];rfl,h.kept hn (Gr.of (n:=0) (below1 w _))⟩
theorem Lo.args {n base:Nat} {W:World} {v:Value} {bs:List Bs} (h:Lo n base W v bs):∃ q cap,v=.slice q bs.length cap∧(0 < bs.length→∃ g,q=some ⟨g,0,none⟩∧g < W.heap.size∧∀ (j:Nat) (b:Bs),bs[j]? = some b→∃ x,W.cell? ⟨g,j,none⟩=some x∧El n W x b):=by
 obtain ⟨xs,h1,h2,h3⟩:=h.ex
 have h4:=fun {g:Nat}=>h2.cells (g:=g)
 rcases h2.2 with ⟨rfl,h0⟩ | ⟨g,cap,cur,rfl,-,hc,-⟩
 · exact ⟨none,0,by rw [h0],fun h=>by omega⟩
 · refine ⟨_,_,rfl,fun _=>⟨g,rfl,(Array.getElem?_eq_some_iff.1 hc).1,fun j b hb=>?_⟩⟩
   have hj:j < xs.length:=by rw [h1];exact (List.getElem?_eq_some_iff.1 hb).1
   have:=h4 (g:=g) rfl j xs[j] (List.getElem?_eq_getElem hj)
   rw [add0] at this
   exact ⟨_,this,h3 j _ b (List.getElem?_eq_getElem hj) hb⟩
theorem El.arg {W:World} {x:Value} {b:Bs} (h:El 32 W x b):Arg W x b:=by
 obtain ⟨k,c,rfl,h1,h2,h3,h4⟩:=h
 exact ⟨_,_,_,rfl,h2,fun _=>⟨k,0,rfl,h1,h3,h4⟩⟩
theorem El.arg33 {W:World} {x:Value} {b:Bs} (h:El 33 W x b):Arg33 W x b:=by
 obtain ⟨k,c,rfl,h1,h2,h3,h4⟩:=h
 exact ⟨_,_,_,rfl,h2,fun _=>⟨k,0,rfl,h1,h3,h4⟩⟩
set_option maxHeartbeats 2000000 in
set_option maxRecDepth 100000 in
theorem sumPoint_g (C:Fld P) (O:Ord N) (v:Value) (w:World) (k:Nat) (hk:k≤512) (ns:Nat→Nat) (X:Nat→EC.Pt P) (hn:∀ j,j < k→ns j < N) (hX:∀ j,j < k→EC.On (X j))
 (hmer:∀ W,Below w.heap.size w W→Calls Tryz.prog 117 #[v] W (Ret fun e w'=>Below W.heap.size W w'∧∃ q cap,e=.slice q k cap∧Tm w' q k ns (fun j=>wr (X j)))) :
 Calls Tryz.prog 71 #[v] w (Ret fun e w'=>Below w.heap.size w w'∧e=pvl (wr (EC.tot X k (fun j=>(ns j:Int))))):=by
 have HM:=Hid.mk' hmer
 have HC:Hid (Fld P∧Ord N∧(∀ j,j < k→ns j < N)∧∀ j,j < k→EC.On (X j)):=⟨C,O,hn,hX⟩
 obtain ⟨az,haz⟩:∃ az:Nat→Bs,Hid ((fun j=>wr (X j))=az):=⟨_,rfl⟩
 have haz':Hid (∀ j,az j=wr (X j)):=fun j=>by rw [← haz.out]
 rw [haz.out] at HM
 obtain ⟨w1,hw1⟩:∃ w1,Hid (w.alloc (.cells z33.toArray 58)=w1):=⟨_,rfl⟩
 have K1:Hid (Row w1 w.heap.size z33∧Below w.heap.size w w1):=by rw [← hw1.out];exact ⟨row_new w _ _,below1 w _⟩
 obtain ⟨d,hd1,hd2⟩:=Option.map_eq_some_iff.1 uCP
 obtain ⟨d',hd3,hd4⟩:=Option.map_eq_some_iff.1 uT
 have HD:Hid ((Tryz.prog.underlying 58=some d∧d.isRow=true)∧Tryz.prog.underlying 176=some d'∧d'.isRow=true):=⟨⟨hd1,hd2⟩,hd3,hd4⟩
 clear hd1 hd2 hd3 hd4 hmer hn hX haz C O
 go_enter Tryz.func71,Tryz.ntmps71
 go_wp2_with (refine wpList_op (v:=.pointer (some ⟨w.heap.size,0,none⟩)) (w':=w1) rfl (.alloc 58) rfl ?_ ?_;(rw [← hw1.out];kernel_rfl))
 clear hw1
 refine (HM.out w1 K1.out.2).mono ?_
 rintro e w2 ⟨vv,rfl,hb2,q,cap,rfl,hT⟩
 have K2:Hid (Pz w w2 q k 0 ns az (.slice none 0 0) (.slice none 0 0)):=⟨K1.out.2.trans (hb2.mono K1.out.2.size),Lo.begin _ _ _,Lo.begin _ _ _,hT,K1.out.1.below hb2⟩
 clear hb2 hT K1 HM
 go_wp2_with fail
 go_loopg [3,4,12] k (fun m s3 s4 s12 W=>∃ i:Nat,i+m=k∧s12=.int .i64 (i:Int)∧Hid (Pz w W q k i ns az s3 s4))
 case atStart=>exact ⟨0,by omega,rfl,K2⟩
 case round =>
  clear K2
  obtain ⟨i,hik,rfl,KM⟩:=hrel
  by_cases hi:i < k
  · have hi':(i:Int) < (k:Int):=by omega
    obtain ⟨g,hq,hg,hr⟩:=KM.out.tm (by omega)
    subst hq
    obtain ⟨n,hne⟩:∃ n,Hid (ns i=n):=⟨_,rfl⟩
    obtain ⟨p,hpe⟩:∃ p,Hid (az i=p):=⟨_,rfl⟩
    have B0:Hid (wr.rangeAt g (37*i) (wn n++bl33 p)):=by
     have h:=hr i hi
     rw [hne.out,hpe.out] at h
     exact h
    have hps:Hid (p.size=33):=by rw [← hpe.out,haz'.out i];exact wr_size _
    have hnN:Hid (n < N):=by rw [← hne.out];exact HC.out.2.2.1 i hi
    obtain ⟨W1,hW1⟩:∃ W1,Hid (wr.alloc (.cells zT.toArray 176)=W1):=⟨_,rfl⟩
    obtain ⟨W2,hW2⟩:∃ W2,Hid (W1.setCells wr.heap.size 0 (wn n++bl33 p)=W2):=⟨_,rfl⟩
    have hlen:(wn n++bl33 p).length=37:=by rw [List.length_append,bl33_length hps.out];rfl
    have F1:Hid (Row W1 wr.heap.size zT∧Below wr.heap.size wr W1∧W1.heap.size=wr.heap.size+1):=by rw [← hW1.out];exact ⟨row_new wr _ _,below1 wr _,World.size_alloc _ _⟩
    have F2:Hid (Row W2 wr.heap.size (wn n++bl33 p)∧Below wr.heap.size wr W2):=by rw [← hW2.out];exact ⟨F1.out.1.put (by rw [hlen];rfl),RG.below_setCells (Nat.le_refl _) _ _ _ F1.out.2.1⟩
    have HLT:Hid ((Tryz.prog.info? 176).map (·.size)=some (wn n++bl33 p).length):=by show _=_;rw [hlen];exact iT
    have HLS:Hid ((Tryz.prog.info? 176).map (·.size)=some (wn n++bl33 p).toArray.size∧W1.there wr.heap.size 0 (wn n++bl33 p).toArray.size):=by
     have e:(wn n++bl33 p).toArray.size=37:=by rw [List.size_toArray];exact hlen
     rw [e];exact ⟨iT,F1.out.1.2.2⟩
    have HAL:Hid ((wn n++bl33 p).toArray.all (·.oneCell')=true):=by
     show _=_
     rw [Array.all_eq_true']
     intro u hu
     exact cells_one n p u (List.mem_toArray.1 hu)
    have hix:=atT g 0 k cap i hi
    obtain ⟨vt,hvt⟩:∃ v,Hid (Value.agg (wn n++bl33 p).toArray=v):=⟨_,rfl⟩
    have G2:Gr 0 (.slice none 0 0) wr W2:=Gr.of F2.out.2
    have HB:Hid (∀ b,PBs w u3 u4 wr.heap.size n W2.heap.size w.heap.size p ((List.range i).map fun j=>bx (ns j)) ((List.range i).map az) (some ⟨g,0,none⟩) k ns az b W2.drew):=fun b=>by
     match b with
     | 0=>exact F2.out.1
     | 1=>exact (KM.out.l3.kept (by decide) G2 (by decide)).drew
     | 2=>exact (KM.out.l4.kept (by decide) G2 (by decide)).drew
     | 3=>exact ⟨(KM.out.bl.trans (F2.out.2.mono KM.out.bl.size)).drew,Nat.le_trans KM.out.bl.size F2.out.2.size,Nat.le_refl _⟩
     | 4=>exact KM.out.tm.kept (W':=W2) G2
     | 5=>exact KM.out.r2.below (W':=W2) F2.out.2
     | _+6=>trivial
    have H3:Hid (∀ g,u3.ownBlock=some g→w.heap.size≤g∧g < W2.heap.size):=fun g hg=>⟨(KM.out.l3.lt g hg).1,Nat.lt_of_lt_of_le (KM.out.l3.lt g hg).2 F2.out.2.size⟩
    have H4:Hid (∀ g,u4.ownBlock=some g→w.heap.size≤g∧g < W2.heap.size):=fun g hg=>⟨(KM.out.l4.lt g hg).1,Nat.lt_of_lt_of_le (KM.out.l4.lt g hg).2 F2.out.2.size⟩
    have HG:=Hid.mk' hg
    clear hlen hr G2 KM F2 hg
    go_wp2_with (first | (refine wpList_load_mid rfl 176 _ rfl g (37*i) ?_ (wn n++bl33 p) d' ?_ ?_ ?_ ?_ ?_;rfl;exact B0.out;exact HD.out.2.1;exact HD.out.2.2;exact HLT.out;rw [hvt.out]) | (refine wpList_op (v:=.pointer (some ⟨wr.heap.size,0,none⟩)) (w':=W1) rfl (.alloc 176) rfl ?_ ?_;(rw [← hW1.out];kernel_rfl)) | (refine wpList_store_mid rfl 176 _ _ rfl wr.heap.size 0 (wn n++bl33 p).toArray ?_ ?_ ?_ ?_ ?_ ?_;rfl;exact hvt.out.symm;exact HLS.out.2;exact HLS.out.1;exact HAL.out;rw [show (wn n++bl33 p).toArray.toList=wn n++bl33 p from rfl,hW2.out]) | fail)
    refine RG.flow_draws (FP w u3 u4 wr.heap.size n W2.heap.size w.heap.size p ((List.range i).map fun j=>bx (ns j)) ((List.range i).map az) (some ⟨g,0,none⟩) k ns az) (by kernel_rfl) ⟨by kernel_rfl,RG.certs_of ?_,fun i' j hi0 hj hij hkl hdp=>P_stab u3 u4 wr.heap.size n W2.heap.size w.heap.size p _ _ H3.out H4.out i' j hj hij hkl (fun h=>by rw [h.1,h.2] at hdp;exact absurd (show false=true from hdp.symm.trans (by kernel_rfl)) (by decide)) (fun h=>by rw [h.1,h.2] at hdp;exact absurd (show false=true from hdp.symm.trans (by kernel_rfl)) (by decide)),fun i' b _ hkl=>P_stabB w u3 u4 wr.heap.size n W2.heap.size w.heap.size p _ _ _ k ns az H3.out H4.out i' b hkl⟩ HB.out ?_
    · have hb0:∀ W:World,Gr 0 (.slice none 0 0) W W:=fun W=>Gr.of (Below.refl _ _)
      refine ⟨RG.cf_one 3 fun a W hp=>⟨a.eval (.tmp 3),W,by kernel_rfl,by kernel_rfl,hb0 W,hp.o 3 (by kernel_rfl)⟩,
       RG.cf_one 6 fun a W hp=>⟨.pointer (some ⟨wr.heap.size,0,none⟩),W,by kernel_rfl,by rw [show a.eval (.tmp 6)=.pointer (some ⟨wr.heap.size,0,none⟩) from hp.o 6 (by kernel_rfl)];kernel_rfl,hb0 W,rfl⟩,
       RG.cf_load 53 17 rfl u40 fun a W hp=>⟨wr.heap.size,0,wn n,hp.n 1 17 (by kernel_rfl) (by kernel_rfl) (by kernel_rfl),range_front (show Row W wr.heap.size (wn n++bl33 p) from hp.b 0 (by kernel_rfl)).2.1,i40,hb0 W,rfl⟩,
       RG.cf_call 18 fun a W hp=>⟨30,#[nv n],by kernel_rfl,by rw [show a.eval (.tmp 18)=nv n from hp.n 2 18 (by kernel_rfl) (by kernel_rfl) (by kernel_rfl)];kernel_rfl,(sbytes_c HC.out.2.1 hnN.out W).mono (by
        rintro e W' ⟨u,rfl,k',hm,rfl⟩
        exact ⟨_,rfl,Gr.of hm.bel,El.of_made hm (bx_size n)⟩)⟩,
       RG.cf_one 19 fun a W hp=>⟨.slice (some ⟨W.heap.size,0,none⟩) 1 1,W.alloc (.cells #[a.eval (.tmp 19)] 22),by kernel_rfl,by
        obtain ⟨k',c',he,-⟩:=show El 32 W (a.eval (.tmp 19)) (bx n) from hp.n 3 19 (by kernel_rfl) (by kernel_rfl) (by kernel_rfl)
        rw [he];kernel_rfl,Gr.of (below1 W _),Bo.of (show El 32 W (a.eval (.tmp 19)) (bx n) from hp.n 3 19 (by kernel_rfl) (by kernel_rfl) (by kernel_rfl)) (by decide) (hp.b 3 (by kernel_rfl)).2.2 _⟩,
       RG.cf_app 16 20 35 rfl fun a W hp=>?_,
       RG.cf_one 4 fun a W hp=>⟨a.eval (.tmp 4),W,by kernel_rfl,by kernel_rfl,hb0 W,hp.o 4 (by kernel_rfl)⟩,
       RG.cf_one 6 fun a W hp=>⟨.pointer (some ⟨wr.heap.size,4,none⟩),W,by kernel_rfl,by rw [show a.eval (.tmp 6)=.pointer (some ⟨wr.heap.size,0,none⟩) from hp.o 6 (by kernel_rfl)];kernel_rfl,hb0 W,rfl⟩,
       RG.cf_load 58 23 rfl uCP fun a W hp=>⟨wr.heap.size,4,bl33 p,hp.n 7 23 (by kernel_rfl) (by kernel_rfl) (by kernel_rfl),range_back (xs:=wn n) (show Row W wr.heap.size (wn n++bl33 p) from hp.b 0 (by kernel_rfl)).2.1,by rw [bl33_length hps.out];exact infoCP,hb0 W,rfl⟩,
       RG.cf_call 24 fun a W hp=>⟨118,#[pvl p],by kernel_rfl,by rw [show a.eval (.tmp 24)=pvl p from hp.n 8 24 (by kernel_rfl) (by kernel_rfl) (by kernel_rfl)];kernel_rfl,(ptBytes_c hps.out W).mono (by
        rintro e W' ⟨u,rfl,hb,hE⟩
        exact ⟨_,rfl,Gr.of hb,hE⟩)⟩,
       RG.cf_one 25 fun a W hp=>⟨.slice (some ⟨W.heap.size,0,none⟩) 1 1,W.alloc (.cells #[a.eval (.tmp 25)] 22),by kernel_rfl,by
        obtain ⟨k',c',he,-⟩:=show El 33 W (a.eval (.tmp 25)) p from hp.n 9 25 (by kernel_rfl) (by kernel_rfl) (by kernel_rfl)
        rw [he];kernel_rfl,Gr.of (below1 W _),Bo.of (show El 33 W (a.eval (.tmp 25)) p from hp.n 9 25 (by kernel_rfl) (by kernel_rfl) (by kernel_rfl)) (by decide) (hp.b 3 (by kernel_rfl)).2.2 _⟩,
       RG.cf_app 22 26 35 rfl fun a W hp=>?_,
       RG.cf_one 21 fun a W hp=>⟨a.eval (.tmp 21),W,by kernel_rfl,by kernel_rfl,hb0 W,hp.n 5 21 (by kernel_rfl) (by kernel_rfl) (by kernel_rfl)⟩,
       RG.cf_one 27 fun a W hp=>⟨a.eval (.tmp 27),W,by kernel_rfl,by kernel_rfl,hb0 W,hp.n 11 27 (by kernel_rfl) (by kernel_rfl) (by kernel_rfl)⟩,trivial⟩
      · obtain ⟨k',x,he,h1,h2,h3,h4⟩:=show Bo 32 W2.heap.size W (a.eval (.tmp 20)) (bx n) from hp.n 4 20 (by kernel_rfl) (by kernel_rfl) (by kernel_rfl)
        obtain ⟨v',W',r1,r2,r3⟩:=Lo.app (show Lo 32 w.heap.size W u3 _ from hp.b 1 (by kernel_rfl)) (by decide) h4 h3 (by rw [List.length_map,List.length_range];omega) (hp.b 3 (by kernel_rfl)).2.1
        refine ⟨v',W',?_,r3,r2⟩
        rw [he,show a.eval (.tmp 16)=u3 from hp.n 0 16 (by kernel_rfl) (by kernel_rfl) (by kernel_rfl)]
        exact r1
      · obtain ⟨k',x,he,h1,h2,h3,h4⟩:=show Bo 33 W2.heap.size W (a.eval (.tmp 26)) p from hp.n 10 26 (by kernel_rfl) (by kernel_rfl) (by kernel_rfl)
        obtain ⟨v',W',r1,r2,r3⟩:=Lo.app (show Lo 33 w.heap.size W u4 _ from hp.b 2 (by kernel_rfl)) (by decide) h4 h3 (by rw [List.length_map,List.length_range];omega) (hp.b 3 (by kernel_rfl)).2.1
        refine ⟨v',W',?_,r3,r2⟩
        rw [he,show a.eval (.tmp 22)=u4 from hp.n 6 22 (by kernel_rfl) (by kernel_rfl) (by kernel_rfl)]
        exact r1
    · intro V w5 hR5 hB5
      have KN:Hid (Pz w w5 (some ⟨g,0,none⟩) k (i+1) ns az (V 12) (V 13)):=by
       have h1:=hR5 12 (Nat.lt_of_succ_le (Nat.le_of_ble_eq_true (by kernel_rfl))) rfl
       have h2:=hR5 13 (Nat.lt_of_succ_le (Nat.le_of_ble_eq_true (by kernel_rfl))) rfl
       refine ⟨(hB5 3 rfl).1,?_,?_,hB5 4 rfl,hB5 5 rfl⟩
       · rw [List.range_succ,List.map_append]
         show Lo 32 w.heap.size w5 (V 12) (_++[bx (ns i)])
         rw [hne.out];exact h1
       · rw [List.range_succ,List.map_append]
         show Lo 33 w.heap.size w5 (V 13) (_++[az i])
         rw [hpe.out];exact h2
      clear hR5 hB5 HB H3 H4
      dsimp only [RG.putV,Nat.reduceAdd]
      generalize V 12=s3 at KN ⊢
      generalize V 13=s4 at KN ⊢
      go_wp2
      go_roundg (gk - 1)
      case measure=>omega
      case rel=>exact ⟨i+1,by omega,rfl,KN⟩
  · have hi':¬ (i:Int) < (k:Int):=by omega
    obtain rfl:i=k:=by omega
    obtain ⟨q3,c3,rfl,h3⟩:=KM.out.l3.args
    obtain ⟨q4,c4,rfl,h4⟩:=KM.out.l4.args
    rw [List.length_map,List.length_range] at h3 h4
    have HA:Hid (ArgsScs wr q3 i (fun j=>bx (ns j))):=fun h0=>by
     obtain ⟨g,e1,e2,e3⟩:=h3 h0
     refine ⟨g,e1,e2,fun j hj=>?_⟩
     obtain ⟨x,x1,x2⟩:=e3 j (bx (ns j)) (by rw [List.getElem?_map,List.getElem?_range hj];rfl)
     exact ⟨x,x1,x2.arg⟩
    have HP:Hid (ArgsPts wr q4 i az):=fun h0=>by
     obtain ⟨g,e1,e2,e3⟩:=h4 h0
     refine ⟨g,e1,e2,fun j hj=>?_⟩
     obtain ⟨x,x1,x2⟩:=e3 j (az j) (by rw [List.getElem?_map,List.getElem?_range hj];rfl)
     exact ⟨x,x1,x2.arg33⟩
    rw [List.length_map,List.length_range,List.length_map,List.length_range]
    have KB:Hid (Below w.heap.size w wr∧Row wr w.heap.size z33):=⟨KM.out.bl,KM.out.r2⟩
    clear h3 h4 KM
    go_wp2_with fail
    refine (gSum_c HC.out.1 HC.out.2.1.gap HC.out.2.1.le q3 q4 i c3 i c4 (fun j=>bx (ns j)) az wr HA.out HP.out).mono ?_
    rintro e w6 ⟨vv,rfl,hb6,hS⟩
    obtain ⟨gs,cs,rfl,-,-,h6,h7⟩:=SumR.all HC.out.1 HC.out.2.1 (by omega) HC.out.2.2.1 HC.out.2.2.2 (fun _ _=>rfl) (fun j _=>haz'.out j) hS
    obtain ⟨T,hT⟩:∃ T,Hid (Go.Proofs.YtmkllfekhehagadGreat.wr (EC.tot X i (fun j=>(ns j:Int)))=T):=⟨_,rfl⟩
    have hTs:T.size=33:=by rw [← hT.out];exact wr_size _
    rw [hT.out] at h7
    have K6:Hid (Row w6 w.heap.size z33∧Below w.heap.size w w6∧Row w6 gs (bl33 T)):=⟨KB.out.2.below hb6,KB.out.1.trans (hb6.mono KB.out.1.size),row_cp h7 h6⟩
    clear hb6 hS h6 h7 KB HA HP
    have harr:=arrCP gs cs
    obtain ⟨w7,hw7⟩:∃ w7,Hid (w6.setCells w.heap.size 0 (bl33 T)=w7):=⟨_,rfl⟩
    have hlen:(bl33 T).length=33:=bl33_length hTs
    have K7:Hid (Row w7 w.heap.size (bl33 T)∧Below w.heap.size w w7):=by rw [← hw7.out];exact ⟨K6.out.1.put (by rw [hlen];rfl),RG.below_setCells (Nat.le_refl _) _ _ _ K6.out.2.1⟩
    obtain ⟨vt,hvt⟩:∃ vt,Hid (Value.agg (bl33 T).toArray=vt):=⟨_,rfl⟩
    have HI:Hid ((Tryz.prog.info? 58).map (·.size)=some (bl33 T).length∧w6.there w.heap.size 0 (bl33 T).toArray.size∧(Tryz.prog.info? 58).map (·.size)=some (bl33 T).toArray.size):=by
     have e:(bl33 T).toArray.size=33:=by rw [List.size_toArray];exact hlen
     refine ⟨by rw [hlen];exact infoCP,by rw [e];exact K6.out.1.2.2,by rw [e];exact infoCP⟩
    clear hlen
    go_wp2_with (first | (refine wpList_load_mid rfl 58 _ rfl gs 0 ?_ (bl33 T) d ?_ ?_ ?_ ?_ ?_;rfl;exact K6.out.2.2.2.1;exact HD.out.1.1;exact HD.out.1.2;exact HI.out.1;rw [hvt.out]) | (refine wpList_store_mid rfl 58 _ _ rfl w.heap.size 0 (bl33 T).toArray ?_ ?_ ?_ ?_ ?_ ?_;rfl;exact hvt.out.symm;exact HI.out.2.1;exact HI.out.2.2;exact bl33_one T;rw [show (bl33 T).toArray.toList=bl33 T from rfl,hw7.out]))
    refine bodyPost_ret (results_cell 2 58 rfl K7.out.1 rfl uCP HI.out.1) rfl ?_
    exact ⟨_,rfl,K7.out.2,by rw [hT.out];rfl⟩
end Go.Proofs.YtmkllfekhehagadGreat
namespace Go.Proofs.YtmkllfekhehagadGreat
open Go.RowKit Go.Sort Go.Deep
variable {P:Nat} [NeZero P] {N:Nat}
theorem one_point (C:Fld P) (O:Ord N) {g c n:Nat} (hn:n < N) {X:EC.Pt P} (hX:EC.On X) (w:World) (hR:Row w g (wn n++bl33 (wr X))) :
 Calls Tryz.prog 71 #[.slice (some ⟨g,0,none⟩) 1 c] w (Ret fun e w'=>Below w.heap.size w w'∧e=pvl (wr (EC.mul n X))):=by
 by_cases h0:n=0
 · subst h0
   refine (sumPoint_g C O _ w 0 (by decide) (fun _=>0) (fun _=>X) (fun j hj=>by omega) (fun j hj=>by omega) fun W hb=>?_).mono ?_
   · refine (merged_0 g c (wr X) (wr_size X) W (hR.below hb).1 (hR.below hb).2.1).mono ?_
     rintro e w' ⟨v,rfl,hb',q,cap,rfl⟩
     exact ⟨_,rfl,hb',q,cap,rfl,fun h=>by omega⟩
   · rintro e w' ⟨v,rfl,hb',rfl⟩
     exact ⟨_,rfl,hb',rfl⟩
 · refine (sumPoint_g C O _ w 1 (by decide) (fun _=>n) (fun _=>X) (fun j hj=>hn) (fun j hj=>hX) fun W hb=>?_).mono ?_
   · have e1:mrg N (fun _=>n) (fun _=>wr X) 1=[(n,wr X)]:=rfl
     have h:=merged_d (N:=N) g 1 c (by decide) (fun _=>n) (fun _=>wr X) (fun _ _=>wr_size X) (fun i hi=>by
      obtain rfl:i=0:=by omega
      rfl) (fun x hx=>by
      rw [e1] at hx
      obtain rfl:x=(n,wr X):=by simpa using hx
      exact ⟨h0,Nat.lt_of_lt_of_le hn O.le⟩) (by rw [e1];exact Nat.lt_succ_self 0) W (hR.below hb).1 (fun j hj=>by
      obtain rfl:j=0:=by omega
      exact (hR.below hb).2.1)
     refine h.mono ?_
     rintro e w' ⟨v,rfl,hb',g',cap,rfl,h1,h2,h3⟩
     refine ⟨_,rfl,hb',some ⟨g',0,none⟩,cap,rfl,fun _=>⟨g',rfl,h2,fun j hj=>?_⟩⟩
     have:=h3 j hj
     obtain rfl:j=0:=by omega
     exact this
   · rintro e w' ⟨v,rfl,hb',rfl⟩
     exact ⟨_,rfl,hb',rfl⟩
set_option maxHeartbeats 1000000 in
set_option maxRecDepth 100000 in
theorem times_c (C:Fld P) (O:Ord N) {n:Nat} (hn:n < N) {X:EC.Pt P} (hX:EC.On X):Gives 25 #[nv n,pvl (wr X)] (pvl (wr (EC.mul n X))):=by
 intro w
 have HC:Hid (Fld P∧Ord N∧n < N∧EC.On X):=⟨C,O,hn,hX⟩
 obtain ⟨a,hae⟩:∃ a,Hid (wr X=a):=⟨_,rfl⟩
 have ha:a.size=33:=by rw [← hae.out];exact wr_size X
 rw [hae.out]
 clear C O hn hX
 have B2:=Hid.mk' (boxS n w)
 obtain ⟨w1,hw1⟩:∃ w1,Hid (w.alloc (.cells (wn n).toArray 53)=w1):=⟨_,rfl⟩
 rw [hw1.out] at B2
 have e1:w1.heap.size=w.heap.size+1:=by rw [← hw1.out,World.size_alloc]
 have B1:=Hid.mk' (boxCP ha w1)
 obtain ⟨w2,hw2⟩:∃ w2,Hid (w1.alloc (.cells (bl33 a).toArray 58)=w2):=⟨_,rfl⟩
 rw [hw2.out,e1] at B1
 have e2:w2.heap.size=w.heap.size+2:=by rw [← hw2.out,World.size_alloc,e1]
 obtain ⟨w3,hw3⟩:∃ w3,Hid (w2.alloc (.cells z33.toArray 58)=w3):=⟨_,rfl⟩
 have K:Hid (Row w3 w.heap.size (wn n)∧Row w3 (w.heap.size+1) (bl33 a)∧Row w3 (w.heap.size+2) z33∧Below w.heap.size w w3):=by
  have q1:Row w1 w.heap.size (wn n):=by rw [← hw1.out];exact row_new w _ _
  have q2:Row w2 (w.heap.size+1) (bl33 a):=by rw [← hw2.out,← e1];exact row_new w1 _ _
  have q3:Row w3 (w.heap.size+2) z33:=by rw [← hw3.out,← e2];exact row_new w2 _ _
  have b1:Below w.heap.size w w1:=by rw [← hw1.out];exact below1 w _
  have b2:Below w1.heap.size w1 w2:=by rw [← hw2.out];exact below1 w1 _
  have b3:Below w2.heap.size w2 w3:=by rw [← hw3.out];exact below1 w2 _
  exact ⟨(q1.below b2).below b3,q2.below b3,q3,(b1.trans (b2.mono (by omega))).trans (b3.mono (by omega))⟩
 have HE:Hid (w2.heap.size=w.heap.size+2):=e2
 have HL:Hid ((Tryz.prog.info? 58).map (·.size)=some (bl33 a).length):=by show _=_;rw [bl33_length ha];exact infoCP
 obtain ⟨d,hd1,hd2⟩:=Option.map_eq_some_iff.1 uCP
 obtain ⟨d',hd3,hd4⟩:=Option.map_eq_some_iff.1 u40
 have HD:Hid ((Tryz.prog.underlying 58=some d∧d.isRow=true)∧Tryz.prog.underlying 53=some d'∧d'.isRow=true):=⟨⟨hd1,hd2⟩,hd3,hd4⟩
 clear hd1 hd2 hd3 hd4 hw1 hw2 e1 e2
 obtain ⟨va,hva⟩:∃ v,Hid (pvl a=v):=⟨_,rfl⟩
 obtain ⟨vn,hvn⟩:∃ v,Hid (nv n=v):=⟨_,rfl⟩
 have B1':Hid ((Instr.box 58 va).run Tryz.prog w1=.ok (.pointer (some ⟨w.heap.size+1,0,none⟩)) w2):=by rw [← hva.out];exact B1
 rw [hvn.out] at B2
 rw [hva.out,hvn.out]
 clear B1
 go_enter Tryz.func25,Tryz.ntmps25
 go_wp2_with (first | (refine wpList_box (u:=vn) (v:=.pointer (some ⟨w.heap.size,0,none⟩)) (w':=w1) rfl 53 (.tmp 0) rfl ?_ ?_ ?_;rfl;exact B2.out) | (refine wpList_box (u:=va) (v:=.pointer (some ⟨w.heap.size+1,0,none⟩)) (w':=w2) rfl 58 (.tmp 1) rfl ?_ ?_ ?_;rfl;exact B1'.out) | (refine wpList_op (v:=.pointer (some ⟨w.heap.size+2,0,none⟩)) (w':=w3) rfl (.alloc 58) rfl ?_ ?_;(rw [← hw3.out,← HE.out];kernel_rfl)) | (refine wpList_load_mid rfl 53 _ rfl w.heap.size 0 ?_ (wn n) d' ?_ ?_ ?_ ?_ ?_;rfl;exact K.out.1.2.1;exact HD.out.2.1;exact HD.out.2.2;exact i40;rw [show Value.agg (wn n).toArray=vn from hvn.out]) | (refine wpList_load_mid rfl 58 _ rfl (w.heap.size+1) 0 ?_ (bl33 a) d ?_ ?_ ?_ ?_ ?_;rfl;exact K.out.2.1.2.1;exact HD.out.1.1;exact HD.out.1.2;exact HL.out;rw [show Value.agg (bl33 a).toArray=va from hva.out]))
 have HT:=ptTimes_c a ha n w3
 rw [hva.out,hvn.out] at HT
 refine HT.mono ?_
 rintro e w4 ⟨vv,rfl,hb4,k4,rfl,-,hR4⟩
 have K4:Hid (Row w4 (w.heap.size+2) z33∧Below w.heap.size w w4∧Row w4 k4 (wn n++bl33 a)):=⟨K.out.2.2.1.below hb4,K.out.2.2.2.trans (hb4.mono K.out.2.2.2.size),hR4⟩
 clear hb4 hR4 K HT B2 B1' hw3 HE
 go_wp2_with fail
 refine (one_point HC.out.1 HC.out.2.1 HC.out.2.2.1 HC.out.2.2.2 w4 (by rw [hae.out];exact K4.out.2.2)).mono ?_
 rintro e w5 ⟨vv,rfl,hb5,rfl⟩
 obtain ⟨T,hT⟩:∃ T,Hid (wr (EC.mul n X)=T):=⟨_,rfl⟩
 have hTs:T.size=33:=by rw [← hT.out];exact wr_size _
 rw [hT.out]
 have K5:Hid (Row w5 (w.heap.size+2) z33∧Below w.heap.size w w5):=⟨K4.out.1.below hb5,K4.out.2.1.trans (hb5.mono K4.out.2.1.size)⟩
 clear hb5 K4
 obtain ⟨w6,hw6⟩:∃ w6,Hid (w5.setCells (w.heap.size+2) 0 (bl33 T)=w6):=⟨_,rfl⟩
 have hlen:(bl33 T).length=33:=bl33_length hTs
 have K6:Hid (Row w6 (w.heap.size+2) (bl33 T)∧Below w.heap.size w w6):=by rw [← hw6.out];exact ⟨K5.out.1.put (by rw [hlen];rfl),RG.below_setCells (by omega) _ _ _ K5.out.2⟩
 obtain ⟨vt,hvt⟩:∃ vt,Hid (pvl T=vt):=⟨_,rfl⟩
 have HI:Hid ((Tryz.prog.info? 58).map (·.size)=some (bl33 T).length∧w5.there (w.heap.size+2) 0 (bl33 T).toArray.size∧(Tryz.prog.info? 58).map (·.size)=some (bl33 T).toArray.size):=by
  have e:(bl33 T).toArray.size=33:=by rw [List.size_toArray];exact hlen
  refine ⟨by rw [hlen];exact infoCP,by rw [e];exact K5.out.1.2.2,by rw [e];exact infoCP⟩
 clear hlen
 rw [hvt.out]
 go_wp2_with (first | (refine wpList_store_mid rfl 58 _ _ rfl (w.heap.size+2) 0 (bl33 T).toArray ?_ ?_ ?_ ?_ ?_ ?_;rfl;exact hvt.out.symm;exact HI.out.2.1;exact HI.out.2.2;exact bl33_one T;rw [show (bl33 T).toArray.toList=bl33 T from rfl,hw6.out]))
 refine bodyPost_ret (results_cell 4 58 rfl K6.out.1 rfl uCP HI.out.1) rfl ?_
 exact ⟨_,rfl,K6.out.2,by rw [hT.out];rfl⟩
end Go.Proofs.YtmkllfekhehagadGreat
namespace Go.Proofs.YtmkllfekhehagadGreat
open Go.RowKit Go.Sort Go.Deep
theorem undU:Tryz.prog.underlying 22=some (.slice 5):=by kernel_rfl
theorem undI:Tryz.prog.underlying 3=some (.int .i64):=by kernel_rfl
theorem infoU:(Tryz.prog.info? 5).map (fun i=>(i.size,i.bytes,i.zero.map fun z=>z.cells.size))=some (1,1,some 1):=by kernel_rfl
theorem atB (k o n c i:Nat) (hi:i < n) (w:World):(Instr.indexAt 35 (.slice (some ⟨k,o,none⟩) n c) (.int .i64 (i:Int))).run Tryz.prog w=.ok (.pointer (some ⟨k,o+1*i,none⟩)) w:=by
 have h1:¬ (i:Int) < 0:=by omega
 have h2:(i:Int) < n:=by omega
 go_simp
set_option maxHeartbeats 1000000 in
set_option maxRecDepth 100000 in
theorem grow_c (n:Nat) (hn:n≤10000000) (w:World):Calls Tryz.prog 75 #[.slice none 0 0,.int .i64 (n:Int)] w (Ret fun e w'=>Below w.heap.size w w'∧w'.ownsRow w.heap.size 5 1 e 0 []):=by
 by_cases h0:n=0
 · subst h0
   go_enter Tryz.func75,Tryz.ntmps75
   go_wp2
   go_ret
   exact ⟨_,rfl,Below.refl _ _,World.ownsRow_nil _ _ _ _⟩
 · obtain ⟨i,hi,he⟩:=Option.map_eq_some_iff.1 infoU
   simp only [Prod.mk.injEq] at he
   obtain ⟨h1,h2,h3⟩:=he
   obtain ⟨z,hz,hz2⟩:=Option.map_eq_some_iff.1 h3
   have hr:=Lib.run_append_nil_zeros (P:=Tryz.prog) w 22 3 22 5 i z .i64 .i64 undU undI hi hz n (by omega) (by omega) (by omega) (by rw [h2];omega)
   have hcap:=grownCap_ge w n 0 5
   have hcap2:=grownCap_le_maxLen w n 0 5 (by unfold maxLen;omega)
   have hcs:(Builtin.zeroCells z.cells n++Builtin.zeroCells z.cells (grownCap w n 0 5 - n)).size=grownCap w n 0 5*1:=by rw [Array.size_append,size_zeroCells,size_zeroCells,hz2];omega
   generalize grownCap w n 0 5=cp at hr hcap hcap2 hcs
   generalize Builtin.zeroCells z.cells n++Builtin.zeroCells z.cells (cp - n)=cur at hr hcs
   obtain ⟨w1,hw1⟩:∃ w1,Hid (w.drew.alloc (.cells cur 5)=w1):=⟨_,rfl⟩
   rw [hw1.out] at hr
   have HR:=Hid.mk' hr
   have K:Hid (Below w.heap.size w w1∧w1.ownsRow w.heap.size 5 1 (.slice (some ⟨w.heap.size,0,none⟩) 0 cp) 0 []):=by
    rw [← hw1.out]
    exact ⟨(Below.refl _ _).drew.alloc (Nat.le_refl _) _,World.ownsRow_made w.drew cur cp (Nat.le_refl _) hcap2 hcs⟩
   clear hr hw1 hcs hi hz hz2 h1 h2 h3
   have hn1:(0:Int) < (n:Int):=by omega
   have hn2:¬ ((n:Int) < 0):=by omega
   have hw:IntKind.i64.wrap (n:Int)=n:=by rw [IntKind.wrap_i64];omega
   go_enter Tryz.func75,Tryz.ntmps75
   go_wp2_with (at_builtin;refine Lib.wpList_append_run _ rfl _ _ _ _ rfl _ _ rfl rfl _ _ HR.out ?_)
   go_ret
   exact ⟨_,rfl,K.out.1,K.out.2⟩
def catL (L:Nat→Bs) (k:Nat):List UInt8:=(List.range k).flatMap fun j=>(L j).toList
theorem catL_succ (L:Nat→Bs) (i:Nat):catL L (i+1)=catL L i++(L i).toList:=by
 unfold catL
 rw [List.range_succ,List.flatMap_append]
 simp
theorem catL_le (L:Nat→Bs) {k m:Nat} (hs:∀ j,j < k→(L j).size≤m):∀ i,i≤k→(catL L i).length≤m*i
 | 0,_=>Nat.le_refl _
 | i+1,hi=>by
  have h1:=catL_le L hs i (by omega)
  have h2:=hs i (by omega)
  have e:(L i).toList.length=(L i).size:=rfl
  rw [catL_succ,List.length_append,e,Nat.mul_succ]
  omega
theorem El.below {n B:Nat} {W W':World} {x:Value} {b:Bs} (h:El n W x b) (hb:Below B W W') (hB:W.heap.size≤B):El n W' x b:=by
 obtain ⟨k,c,rfl,h1,h2,h3,h4⟩:=h
 exact ⟨k,c,rfl,h1,h2,Nat.lt_of_lt_of_le h3 hb.size,Holds.kept h4 (hb.block k (by omega))⟩
theorem own_app {base n m:Nat} {W:World} {v x:Value} {xs:List Value} {b:Bs} (hown:W.ownsRow base 5 1 v n xs) (hx:El m W x b) (hn:n+m≤100000000) (hb:base≤W.heap.size) :
 ∃ v' W',(Builtin.append_ #[22,22] 22 #[v,x]).run Tryz.prog W=.ok v' W'∧W'.ownsRow base 5 1 v' (n+m) (xs++cb b)∧W.grownBy W' v.ownBlock:=by
 obtain ⟨i,hi,he⟩:=Option.map_eq_some_iff.1 infoU
 simp only [Prod.mk.injEq] at he
 obtain ⟨h1,h2,h3⟩:=he
 obtain ⟨z,hz,hz2⟩:=Option.map_eq_some_iff.1 h3
 obtain ⟨k,c,rfl,e1,e2,e3,e4⟩:=hx
 obtain ⟨v',W',r1,r2,r3,-⟩:=run_append_own (P:=Tryz.prog) W base 22 22 5 i z 1 1 undU hi hz h1 h2 hz2 (by decide) v n xs hown ⟨k,0,none⟩ m c (cb b) (by rw [cb_length,e2];omega)
  (fun j u hj=>by
   have:=(cb_range e4).1 j u hj
   rw [Nat.zero_add] at this
   rw [add0];exact this) (fun u hu=>by
   obtain ⟨y,-,rfl⟩:=List.mem_map.1 hu
   rfl) (by unfold maxLen;omega) (by omega) hb
 exact ⟨v',W',r1,r2,r3⟩
theorem cb_cat (L:Nat→Bs) (i:Nat):(catL L (i+1)).map encB=(catL L i).map encB++cb (L i):=by rw [catL_succ,List.map_append];rfl
set_option maxHeartbeats 1000000 in
set_option maxRecDepth 10000 in
theorem concat_c (g k c:Nat) (L:Nat→Bs) (hk:k≤1000) (hs:∀ j,j < k→(L j).size≤10000) (w:World) (hg:g < w.heap.size) (hL:∀ j,j < k→∃ x,w.cell? ⟨g,j,none⟩=some x∧El (L j).size w x (L j)) :
 Calls Tryz.prog 28 #[.slice (some ⟨g,0,none⟩) k c] w (Ret fun e w'=>Below w.heap.size w w'∧w'.ownsRow w.heap.size 5 1 e (catL L k).length ((catL L k).map encB)):=by
 have HL:=Hid.mk' hL
 have HS:Hid (∀ i,i≤k→(catL L i).length≤10000*i):=catL_le L hs
 have HG:=Hid.mk' hg
 clear hL hs hg
 go_enter Tryz.func28,Tryz.ntmps28
 go_wp2_with fail
 go_loopg [3,11] k (fun m s3 s11 W=>∃ i:Nat,i+m=k∧s11=.int .i64 (i:Int)∧s3=.int .i64 ((catL L i).length:Int)∧w=W)
 case atStart=>exact ⟨0,by omega,rfl,rfl,rfl⟩
 case round =>
  obtain ⟨i,hik,rfl,rfl,rfl⟩:=hrel
  by_cases hi:i < k
  · have hi':(i:Int) < (k:Int):=by omega
    obtain ⟨x,hc,hE⟩:=HL.out i hi
    obtain ⟨kx,cx,rfl,h1,-⟩:=hE
    have hix:=atB g 0 k c i hi
    rw [show 0+1*i=i by omega] at hix
    have hlen:(catL L (i+1)).length=(catL L i).length+(L i).size:=by rw [catL_succ,List.length_append];rfl
    have hb1:=HS.out i (by omega)
    have hb2:=HS.out (i+1) (by omega)
    obtain ⟨a,ha⟩:∃ a,Hid ((catL L i).length=a):=⟨_,rfl⟩
    obtain ⟨b,hb⟩:∃ b,Hid ((L i).size=b):=⟨_,rfl⟩
    rw [ha.out] at hlen hb1
    rw [hb.out] at hlen h1
    rw [ha.out]
    have hwr:IntKind.i64.wrap ((a:Int)+(b:Int))=((a+b:Nat):Int):=by rw [IntKind.wrap_i64];omega
    have hng:¬ (((a+b:Nat):Int) < 0):=by omega
    rw [hb.out] at hc
    go_wp2
    go_roundg (gk - 1)
    case measure=>omega
    case rel=>exact ⟨i+1,by omega,rfl,by rw [hlen,Int.natCast_add],rfl⟩
  · have hi':¬ (i:Int) < (k:Int):=by omega
    obtain rfl:i=k:=by omega
    go_wp2_with fail
    refine (grow_c (catL L i).length (by have:=HS.out i (Nat.le_refl _);omega) w).mono ?_
    rintro e w1 ⟨v,rfl,hb1,ho1⟩
    have K1:Hid (Below w.heap.size w w1∧w1.ownsRow w.heap.size 5 1 v (catL L 0).length ((catL L 0).map encB)):=⟨hb1,ho1⟩
    clear hb1 ho1
    go_wp2_with fail
    go_loopg [6,27] i (fun m s6 s27 W=>∃ j:Nat,j+m=i∧s27=.int .i64 (j:Int)∧Hid (Below w.heap.size w W∧W.ownsRow w.heap.size 5 1 s6 (catL L j).length ((catL L j).map encB)))
    case atStart=>exact ⟨0,by omega,rfl,K1⟩
    case round =>
     clear K1
     obtain ⟨j,hjk,rfl,KM⟩:=hrel
     by_cases hj:j < i
     · have hj':(j:Int) < (i:Int):=by omega
       obtain ⟨x,hc0,hE0⟩:=HL.out j hj
       have hc:wr.cell? ⟨g,j,none⟩=some x:=by rw [KM.out.1.cell (p:=⟨g,j,none⟩) HG.out];exact hc0
       have hE:=hE0.below KM.out.1 (Nat.le_refl _)
       have hb2:=HS.out (j+1) (by omega)
       have hlen:(catL L (j+1)).length=(catL L j).length+(L j).size:=by rw [catL_succ,List.length_append];rfl
       obtain ⟨v',W',r1,r2,r3⟩:=own_app KM.out.2 hE (by omega) KM.out.1.size
       rw [← hlen,← cb_cat] at r2
       have KN:Hid (Below w.heap.size w W'∧W'.ownsRow w.heap.size 5 1 v' (catL L (j+1)).length ((catL L (j+1)).map encB)):=⟨KM.out.1.grown r3 KM.out.1.size (fun k hk=>(KM.out.2.lt k hk).1),r2⟩
       have HAP:=Hid.mk' r1
       obtain ⟨kx,cx,rfl,-⟩:=hE
       have hix:=atB g 0 i c j hj
       rw [show 0+1*j=j by omega] at hix
       clear r1 r2 r3 hlen hb2 KM hE0 hc0
       go_wp2_with (first | (refine wpList_app (x:=u6) (y:=.slice (some ⟨kx,0,none⟩) (L j).size cx) (v:=v') (w':=W') rfl _ _ 22 rfl ?_ ?_ ?_ ?_;rfl;rfl;exact HAP.out) | fail)
       go_roundg (gk - 1)
       case measure=>omega
       case rel=>exact ⟨j+1,by omega,rfl,KN⟩
     · have hj':¬ (j:Int) < (i:Int):=by omega
       obtain rfl:j=i:=by omega
       go_wp2
       go_ret
       exact ⟨_,rfl,KM.out.1,KM.out.2⟩
end Go.Proofs.YtmkllfekhehagadGreat
set_option linter.unusedVariables false
set_option linter.unusedSimpArgs false
namespace Go.Proofs.YtmkllfekhehagadGreat.RG
open Go Go.RowKit
variable {P:Program} {ops:Array Oper} {Q:Exit→Act→World→Prop} {w:World} {a0:Act}
def AllE (a:Act):List (Tmp × Value)→Prop
 | []=>True
 | x :: r=>a.eval (.tmp x.1)=x.2∧AllE a r
def evl (ps:List (Tmp × Value)) (t:Tmp):Value:=match ps.find? (fun x=>x.1 == t) with | some x=>x.2 | none=>undef
theorem AllE.mem {a:Act}:∀ {ps:List (Tmp × Value)},AllE a ps→∀ x∈ps,a.eval (.tmp x.1)=x.2
 | [],_,x,hx=>by cases hx
 | y :: r,h,x,hx=>by
  rcases List.mem_cons.1 hx with rfl | hx
  · exact h.1
  · exact AllE.mem h.2 x hx
theorem AllE.ev {a:Act} {ps:List (Tmp × Value)} (h:AllE a ps):∀ t∈ps.map (·.1),a.eval (.tmp t)=evl ps t:=fun t ht=>by
 obtain ⟨x,hx,rfl⟩:=List.mem_map.1 ht
 unfold evl
 cases hf:ps.find? (fun y=>y.1 == x.1) with
 | none =>
  have:=List.find?_eq_none.1 hf x hx
  simp at this
 | some y =>
  have h1:=List.mem_of_find?_eq_some hf
  have h2:y.1=x.1:=by simpa using List.find?_some hf
  have:=h.mem y h1
  rw [h2] at this
  exact this
structure Gw where
 R:Nat→Value→World→Prop
 B:World→Prop
 sR:∀ i v w w',Below w.heap.size w w'→R i v w→R i v w'
 sB:∀ w w',Below w.heap.size w w'→B w→B w'
def Gw.flow (G:Gw):Flow:=⟨G.R,fun _=>G.B,fun _ w w'=>Below w.heap.size w w',fun _=>[],fun _=>[]⟩
structure PreG (G:Gw) (ops:Array Oper) (a0:Act) (k:Nat) (o:Oper) (a:Act) (w:World):Prop where
 n:∀ j d,depB o j=true→dstOf ops j=some d→G.R j (a.eval (.tmp d)) w
 o:∀ t,freeF ops k t=true→a.eval (.tmp t)=a0.eval (.tmp t)
 b:G.B w
variable {G:Gw}
theorem pre_of {k:Nat} {o:Oper} {a:Act} (h:PreF G.flow ops a0 k o a w):PreG G ops a0 k o a w:=⟨fun j d hj hd=>h.n j d hj rfl hd,h.o,h.b 0 rfl⟩
theorem gw_val {k:Nat} {o:Oper} (h:∀ (a:Act) (w:World),PreG G ops a0 k o a w→∃ (ps:List (Tmp × Value)) (v:Value) (w':World),AllE a ps∧(seenT (ps.map (·.1)) o,(execOp (evo (evl ps)) o).run P w)=(true,.ok (.value v) w')∧Below w.heap.size w w'∧G.R k v w'):CertF P Q G.flow ops a0 k o :=
 cf_val fun a w hp=>by
  obtain ⟨ps,v,w',he,hs,hE⟩:=h a w (pre_of hp)
  simp only [Prod.mk.injEq] at hs
  refine ⟨v,w',?_,hE⟩
  rw [exec_ev (evl ps) (ps.map (·.1)) hs.1 he.ev]
  exact hs.2
theorem gw_call {k:Nat} {o:Oper} (h:∀ (a:Act) (w:World),PreG G ops a0 k o a w→∃ (ps:List (Tmp × Value)) (f:FuncId) (args:Array Value),AllE a ps∧(seenT (ps.map (·.1)) o,(execOp (evo (evl ps)) o).run P w)=(true,.ok (.enter f args) w)∧Calls P f args w (Ret fun e w'=>Below w.heap.size w w'∧G.R k e w')):CertF P Q G.flow ops a0 k o:=by
 intro a w K h1 h2 h3 hK
 obtain ⟨ps,f,args,he,hs,hc⟩:=h a w (pre_of ⟨h1,h2,h3⟩)
 simp only [Prod.mk.injEq] at hs
 unfold Oper.wp
 rw [exec_ev (evl ps) (ps.map (·.1)) hs.1 he.ev,hs.2,Oper.upon_enter]
 refine hc.mono ?_
 rintro e w' ⟨v,rfl,hE,hR⟩
 exact hK _ _ hE hR
theorem gw_load {k:Nat} {o:Oper} (T:TypeId) (t:Tmp) (ho:o.op=.load T (.tmp t)) (hu:(P.underlying T).map (·.isRow)=some true)
 (h:∀ (a:Act) (w:World),PreG G ops a0 k o a w→∃ g off cs,a.eval (.tmp t)=.pointer (some ⟨g,off,none⟩)∧w.rangeAt g off cs∧(P.info? T).map (·.size)=some cs.length∧G.R k (.agg cs.toArray) w):CertF P Q G.flow ops a0 k o :=
 cf_load T t ho hu fun a w hp=>by
  obtain ⟨g,off,cs,h1,h2,h3,h4⟩:=h a w (pre_of hp)
  exact ⟨g,off,cs,h1,h2,h3,Below.refl _ _,h4⟩
theorem Gw.reg {m:Nat} (hc:chkF ops a0.tmps.size=true) (h:CertsF P Q G.flow ops a0 0 (ops.toList.take m)):RegF P Q G.flow ops a0 m :=
 ⟨hc,certs_but h,fun i j _ _ _ _ _ v w w' hE hR=>G.sR j v w w' hE hR,fun i b _ _ w w' hE hB=>G.sB w w' hE hB⟩
theorem Gw.draws {id:Nat} (G:Gw) (hm:P.follows .mixedOrders=true) (hc:chkF ops a0.tmps.size=true) (h:CertsF P Q G.flow ops a0 0 (ops.toList.take ops.size)) (hB:G.B w.drew)
 (hp:∀ (V:Nat→Value) (w':World),(∀ i,i < ops.size→G.R i (V i) w')→G.B w'→Q .normal (putV V ops.toList 0 a0) w'):(Code.region id ops true).wp P Q a0 w :=
 flow_draws G.flow hm (Gw.reg hc h) (fun _=>hB) fun V w' h1 h2=>hp V w' (fun i hi=>h1 i hi rfl) (h2 0 rfl)
theorem Gw.last {id:Nat} (G:Gw) (n:Nat) (hn:((ops.size == n+1) && (List.range n).all (fun j=>depOn ops n j || (List.range n).any (fun i=>depOn ops n i && depOn ops i j)))=true) (hm:P.follows .mixedOrders=true) (hc:chkF ops a0.tmps.size=true) (h:CertsF P Q G.flow ops a0 0 (ops.toList.take n)) (hB:G.B w.drew)
 (hp:∀ (V:Nat→Value) (w':World),(∀ i,i < n→G.R i (V i) w')→G.B w'→wpList P ops Q (ops.toList.drop n) (putV V (ops.toList.take n) 0 a0) w'):(Code.region id ops true).wp P Q a0 w:=by
 rw [Bool.and_eq_true,beq_iff_eq] at hn
 exact flow_last G.flow n hn.1 hn.2 hm (Gw.reg hc h) (fun _=>hB) fun V w' h1 h2=>hp V w' (fun i hi=>h1 i hi rfl) (h2 0 rfl)
end Go.Proofs.YtmkllfekhehagadGreat.RG
namespace Go.Proofs.YtmkllfekhehagadGreat
open Go.RowKit Go.Sort Go.Deep
variable {P:Nat} [NeZero P] {N:Nat}
structure Kp (w:World) (W:World) (rs:List (Nat × List Value)):Prop where
 bl:Below w.heap.size w W
 rw:∀ x∈rs,Row W x.1 x.2
theorem Kp.grow {w W W':World} {rs:List (Nat × List Value)} (h:Kp w W rs) (hb:Below W.heap.size W W'):Kp w W' rs:=⟨h.bl.trans (hb.mono h.bl.size),fun x hx=>(h.rw x hx).below hb⟩
theorem Kp.drew {w W:World} {rs:List (Nat × List Value)} (h:Kp w W rs):Kp w W.drew rs:=⟨h.bl.drew,h.rw⟩
theorem Kp.at {w W:World} {rs:List (Nat × List Value)} (h:Kp w W rs) {k:Nat} {c:List Value} (i:Nat) (hi:rs[i]? = some (k,c)):Row W k c:=h.rw _ (List.mem_of_getElem? hi)
theorem Kp.put {w W:World} {rs:List (Nat × List Value)} {k:Nat} {old new:List Value} (h:Kp w W rs) (hr:Row W k old) (hl:new.length=old.length) (hk:w.heap.size≤k) (hne:∀ x∈rs,x.1≠k):Kp w (W.setCells k 0 new) ((k,new) :: rs) :=
 ⟨RG.below_setCells hk _ _ _ h.bl,fun x hx=>by
  rcases List.mem_cons.1 hx with rfl | hx
  · exact hr.put hl
  · exact (h.rw x hx).other (hne x hx)⟩
def Nw (B:Nat) (c:List Value) (v:Value) (W:World):Prop:=∃ k,v=.pointer (some ⟨k,0,none⟩)∧B≤k∧Row W k c
theorem Nw.grow {B:Nat} {c:List Value} {v:Value} {W W':World} (h:Nw B c v W) (hb:Below W.heap.size W W'):Nw B c v W':=by
 obtain ⟨k,h1,h2,h3⟩:=h
 exact ⟨k,h1,h2,h3.below hb⟩
section
variable (w:World) (k6 k8 k9 k10 x kk c z B0:Nat) (A F:Bs) (v1:Value)
def R5:Nat→Value→World→Prop
 | 0,v,_=>v=nv kk
 | 1,v,_=>v=pvl A
 | 2,v,_=>v=pvl F
 | 3,v,W=>Nw B0 z33 v W
 | _,_,_=>True
def G5:RG.Gw:=⟨R5 kk B0 A F,fun W=>Kp w W [(k8,wn kk),(k6,wn x)]∧B0≤W.heap.size,fun i v W W' hb h=>by
 match i,h with
 | 0,h=>exact h
 | 1,h=>exact h
 | 2,h=>exact h
 | 3,h=>exact Nw.grow h hb
 | _+4,_=>trivial,fun W W' hb h=>⟨h.1.grow hb,Nat.le_trans h.2 hb.size⟩⟩
def R6 (A':Bs):Nat→Value→World→Prop
 | 0,v,_=>v=nv x
 | 1,v,_=>v=pvl A
 | 2,v,_=>v=pvl A'
 | 3,v,_=>v=pvl F
 | 4,v,_=>v=v1
 | 5,v,_=>v=nv c
 | 6,v,W=>Nw B0 [.int .u64 0,.int .u64 0,.int .u64 0,.int .u64 0] v W
 | _,_,_=>True
def G6 (A':Bs):RG.Gw:=⟨R6 x c B0 A F v1 A',fun W=>Kp w W [(k9,bl33 F),(k8,wn kk),(k6,wn x)]∧B0≤W.heap.size,fun i v W W' hb h=>by
 match i,h with
 | 0,h=>exact h
 | 1,h=>exact h
 | 2,h=>exact h
 | 3,h=>exact h
 | 4,h=>exact h
 | 5,h=>exact h
 | 6,h=>exact Nw.grow h hb
 | _+7,_=>trivial,fun W W' hb h=>⟨h.1.grow hb,Nat.le_trans h.2 hb.size⟩⟩
def Two (v:Value) (W:World):Prop:=∃ k y,v=.slice (some ⟨k,0,none⟩) 2 2∧k < W.heap.size∧W.cell? ⟨k,0,none⟩=some (.slice (some ⟨k9,0,none⟩) 33 33)∧W.cell? ⟨k,1,none⟩=some y∧El 32 W y (bx z)
def Ans (v:Value) (W:World):Prop:=W.ownsRow B0 5 1 v 65 ((F.toList++(bx z).toList).map encB)
def R7:Nat→Value→World→Prop
 | 0,v,_=>v=.slice (some ⟨k9,0,none⟩) 33 33
 | 1,v,_=>v=nv c
 | 2,v,_=>v=nv kk
 | 3,v,_=>v=nv x
 | 4,v,_=>v=nv z
 | 5,v,W=>El 32 W v (bx z)
 | 6,v,W=>Two k9 z v W
 | 7,v,W=>Ans z B0 F v W
 | 8,v,W=>Ans z B0 F v W
 | 9,v,_=>v=.int .i64 0
 | _,_,_=>True
theorem Ans.grow {v:Value} {W W':World} (h:Ans z B0 F v W) (hb:Below W.heap.size W W'):Ans z B0 F v W' :=
 h.kept (row:=none) ⟨hb.os,hb.tape,hb.output,hb.size,fun k hk _=>hb.block k hk⟩ (by cases hv:v.ownBlock <;> simp)
theorem Two.grow {v:Value} {W W':World} (h:Two k9 z v W) (hb:Below W.heap.size W W'):Two k9 z v W':=by
 obtain ⟨k,y,h1,h2,h3,h4,h5⟩:=h
 exact ⟨k,y,h1,Nat.lt_of_lt_of_le h2 hb.size,by rw [hb.cell (p:=⟨k,0,none⟩) h2];exact h3,by rw [hb.cell (p:=⟨k,1,none⟩) h2];exact h4,h5.below hb (Nat.le_refl _)⟩
def G7:RG.Gw:=⟨R7 k9 x kk c z B0 F,fun W=>Kp w W [(k10,wn c),(k9,bl33 F),(k8,wn kk),(k6,wn x)]∧B0≤W.heap.size,fun i v W W' hb h=>by
 match i,h with
 | 0,h=>exact h
 | 1,h=>exact h
 | 2,h=>exact h
 | 3,h=>exact h
 | 4,h=>exact h
 | 5,h=>exact El.below h hb (Nat.le_refl _)
 | 6,h=>exact Two.grow k9 z h hb
 | 7,h=>exact Ans.grow z B0 F h hb
 | 8,h=>exact Ans.grow z B0 F h hb
 | 9,h=>exact h
 | _+10,_=>trivial,fun W W' hb h=>⟨h.1.grow hb,Nat.le_trans h.2 hb.size⟩⟩
end
end Go.Proofs.YtmkllfekhehagadGreat
namespace Go.Proofs.YtmkllfekhehagadGreat
open Go.RowKit Go.Sort Go.Deep
variable {P:Nat} [NeZero P] {N:Nat}
def nonceL:ByteArray:=⟨#[110,111,110,99,101,32,115,105,103,110]⟩
set_option maxHeartbeats 4000000 in
set_option maxRecDepth 100000 in
theorem sign_y (C:Fld P) (O:Ord N) (p0 p1:Option Addr) (n0 c0 n1 c1:Nat) (sk tx:Bs) (w:World) (hA:Arg w (.slice p0 n0 c0) sk) (h0:SP.PartOk w (.slice p0 n0 c0) sk.toList) (h1:SP.PartOk w (.slice p1 n1 c1) tx.toList)
 (x:Nat) (hx:rq N sk=some x) (hx0:x≠0) (kk c z:Nat) (hkk:chL N nonceL.data.toList [sk.toList,tx.toList]=kk) (hc:asg N (wr (EC.mul x (gG P))).toList (wr (EC.mul kk (gG P))).toList tx.toList=c) (hz:sPl N kk (sTi N c x)=z) :
 Calls Tryz.prog 8 #[.slice p0 n0 c0,.slice p1 n1 c1] w (Ret fun e w'=>Below w.heap.size w w'∧∃ v,e=.tuple #[v,.int .i64 0]∧Ans z w.heap.size (wr (EC.mul kk (gG P))) v w'):=by
 have hxN:x < N:=by
  unfold rq at hx
  split at hx
  · rename_i h
    rw [← Option.some.inj hx];exact h.2
  · cases hx
 have hkN:kk < N:=by rw [← hkk];exact redu_lt O _
 have hcN:c < N:=by rw [← hc];exact asg_lt O _ _ _
 have hR:=rsecret_c O (.slice p0 n0 c0) sk w hA
 rw [hx] at hR
 have e1:(!decide (x=0))=true:=by simp [hx0]
 rw [show (some x).getD 0=x from rfl,show ((some x).isSome && !decide (x=0))=true by rw [e1];rfl] at hR
 have HR:=Hid.mk' hR
 have HC:Hid (Fld P∧Ord N∧x < N∧kk < N∧c < N∧sPl N kk (sTi N c x)=z):=⟨C,O,hxN,hkN,hcN,hz⟩
 have HP:Hid (SP.PartOk w (.slice p0 n0 c0) sk.toList∧SP.PartOk w (.slice p1 n1 c1) tx.toList):=⟨h0,h1⟩
 have HK:=Hid.mk' hkk
 obtain ⟨A,hAe⟩:∃ A,Hid (wr (gG P)=A):=⟨_,rfl⟩
 obtain ⟨F,hFe⟩:∃ F,Hid (wr (EC.mul kk (gG P))=F):=⟨_,rfl⟩
 obtain ⟨A',hAe'⟩:∃ A',Hid (wr (EC.mul x (gG P))=A'):=⟨_,rfl⟩
 rw [hFe.out,hAe'.out] at hc
 rw [hFe.out]
 have HQ:=Hid.mk' hc
 have HF:Hid (F.size=33∧A'.size=33):=⟨by rw [← hFe.out];exact wr_size _,by rw [← hAe'.out];exact wr_size _⟩
 clear C O hA h0 h1 hx hx0 hkk hc hz hxN hkN hcN hR e1
 obtain ⟨vx,hvx⟩:∃ v,Hid (nv x=v):=⟨_,rfl⟩
 rw [hvx.out] at HR
 obtain ⟨d',hd3,hd4⟩:=Option.map_eq_some_iff.1 u40
 have HD:Hid (Tryz.prog.underlying 53=some d'∧d'.isRow=true):=⟨hd3,hd4⟩
 clear hd3 hd4
 go_enter Tryz.func8,Tryz.ntmps8
 go_wp2_with fail
 refine HR.out.mono ?_
 rintro e w1 ⟨vv,rfl,hb1,rfl⟩
 obtain ⟨w2,hw2⟩:∃ w2,Hid (w1.alloc (.cells #[.int .u64 0,.int .u64 0,.int .u64 0,.int .u64 0] 53)=w2):=⟨_,rfl⟩
 obtain ⟨w3,hw3⟩:∃ w3,Hid (w2.setCells w1.heap.size 0 (wn x)=w3):=⟨_,rfl⟩
 obtain ⟨k6,hk6⟩:∃ k6,Hid (w1.heap.size=k6):=⟨_,rfl⟩
 rw [hk6.out] at hw3
 have F2:Hid (Row w2 k6 [.int .u64 0,.int .u64 0,.int .u64 0,.int .u64 0]∧Below w.heap.size w w2∧w.heap.size≤k6):=by
  rw [← hw2.out,← hk6.out]
  exact ⟨row_new w1 _ _,hb1.alloc hb1.size _,hb1.size⟩
 have K3:Hid (Kp w w3 [(k6,wn x)]):=by
  rw [← hw3.out]
  exact ⟨RG.below_setCells F2.out.2.2 _ _ _ F2.out.2.1,fun y hy=>by rw [show y=(k6,wn x) by simpa using hy];exact F2.out.1.put rfl⟩
 clear hb1 HR
 go_wp2_with (first | (refine wpList_op (v:=.pointer (some ⟨k6,0,none⟩)) (w':=w2) rfl (.alloc 53) rfl ?_ ?_;(rw [← hw2.out,← hk6.out];kernel_rfl)) | (refine wpList_store_mid rfl 53 _ _ rfl k6 0 (wn x).toArray ?_ ?_ ?_ ?_ ?_ ?_;rfl;exact hvx.out.symm;exact F2.out.1.2.2;exact i40;exact wn_one x;rw [show (wn x).toArray.toList=wn x from rfl,hw3.out]) | fail)
 clear hw2 hw3 hk6 F2
 obtain ⟨w4,hw4⟩:∃ w4,Hid (w3.alloc (.cells #[.slice p0 n0 c0,.slice p1 n1 c1] 22)=w4):=⟨_,rfl⟩
 have hb4:Below w3.heap.size w3 w4:=by rw [← hw4.out];exact below1 _ _
 have K4:Hid (Kp w w4 [(k6,wn x)]):=K3.out.grow hb4
 have HPs:Hid (SP.PartsOk w4 (some ⟨w3.heap.size,0,none⟩) [sk.toList,tx.toList]):=by
  refine Or.inr ⟨w3.heap.size,0,rfl,fun j hj=>?_⟩
  have hM:w4.rangeAt w3.heap.size 0 [.slice p0 n0 c0,.slice p1 n1 c1]:=by rw [← hw4.out];exact (RG.Made.alloc w3 [.slice p0 n0 c0,.slice p1 n1 c1] 22).range
  have hj2:j=0∨j=1:=by simp at hj;omega
  rcases hj2 with rfl | rfl
  · exact ⟨_,hM 0 _ rfl,HP.out.1.below K4.out.bl⟩
  · exact ⟨_,hM 1 _ rfl,HP.out.2.below K4.out.bl⟩
 rw [hw4.out]
 refine (chance_c HC.out.2.1 nonceL (some ⟨w3.heap.size,0,none⟩) 2 2 [sk.toList,tx.toList] w4 (by decide) rfl (by decide) HPs.out).mono ?_
 rintro e w5 ⟨vv,rfl,hb5,rfl⟩
 rw [HK.out]
 have K5:Hid (Kp w w5 [(k6,wn x)]):=K4.out.grow hb5
 clear hb4 hb5 K3 K4 HPs hw4
 obtain ⟨vk,hvk⟩:∃ v,Hid (nv kk=v):=⟨_,rfl⟩
 rw [hvk.out]
 obtain ⟨w6,hw6⟩:∃ w6,Hid (w5.alloc (.cells #[.int .u64 0,.int .u64 0,.int .u64 0,.int .u64 0] 53)=w6):=⟨_,rfl⟩
 obtain ⟨k8,hk8⟩:∃ k8,Hid (w5.heap.size=k8):=⟨_,rfl⟩
 obtain ⟨w7,hw7⟩:∃ w7,Hid (w6.setCells k8 0 (wn kk)=w7):=⟨_,rfl⟩
 have F6:Hid (Row w6 k8 [.int .u64 0,.int .u64 0,.int .u64 0,.int .u64 0]∧Kp w w6 [(k6,wn x)]):=by
  rw [← hw6.out,← hk8.out]
  exact ⟨row_new w5 _ _,K5.out.grow (below1 _ _)⟩
 have K7:Hid (Kp w w7 [(k8,wn kk),(k6,wn x)]):=by
  rw [← hw7.out]
  refine F6.out.2.put F6.out.1 rfl (by rw [← hk8.out];exact K5.out.bl.size) fun y hy=>?_
  rw [show y=(k6,wn x) by simpa using hy,← hk8.out]
  exact Nat.ne_of_lt (K5.out.at 0 rfl).1
 go_wp2_with (first | (refine wpList_op (v:=.pointer (some ⟨k8,0,none⟩)) (w':=w6) rfl (.alloc 53) rfl ?_ ?_;(rw [← hw6.out,← hk8.out];kernel_rfl)) | (refine wpList_store_mid rfl 53 _ _ rfl k8 0 (wn kk).toArray ?_ ?_ ?_ ?_ ?_ ?_;rfl;exact hvk.out.symm;exact F6.out.1.2.2;exact i40;exact wn_one kk;rw [show (wn kk).toArray.toList=wn kk from rfl,hw7.out]) | fail)
 clear hw6 hw7 hk8 F6 K5
 refine (G5 w k6 k8 x kk w7.heap.size A F).last 4 (by kernel_rfl) (by kernel_rfl) (by kernel_rfl) ⟨
  RG.gw_load 53 8 rfl u40 fun a W hp=>⟨k8,0,wn kk,hp.o 8 (by kernel_rfl),(hp.b.1.at 0 rfl).2.1,i40,rfl⟩,
  RG.gw_call fun a W hp=>⟨[],26,#[],trivial,by kernel_rfl,(gen_c HC.out.1 W).mono (by
   rintro e W' ⟨u,rfl,hb,rfl⟩
   exact ⟨_,rfl,hb,by rw [hAe.out];rfl⟩)⟩,
  RG.gw_call fun a W hp=>⟨[(22,nv kk),(23,pvl A)],25,#[nv kk,pvl A],⟨hp.n 0 22 (by kernel_rfl) (by kernel_rfl),hp.n 1 23 (by kernel_rfl) (by kernel_rfl),trivial⟩,by kernel_rfl,by
   rw [← hAe.out]
   refine (times_c HC.out.1 HC.out.2.1 HC.out.2.2.2.1 (gG_on HC.out.1) W).mono ?_
   rintro e W' ⟨u,rfl,hb,rfl⟩
   exact ⟨_,rfl,hb,by rw [hFe.out];rfl⟩⟩,
  RG.gw_val fun a W hp=>⟨[],.pointer (some ⟨W.heap.size,0,none⟩),W.alloc (.cells z33.toArray 58),trivial,by kernel_rfl,below1 _ _,W.heap.size,rfl,hp.b.2,row_new W _ _⟩,trivial⟩ ⟨K7.out.drew,Nat.le_refl _⟩ ?_
 intro V w8 hR8 hB8
 obtain ⟨k9,hk9,hk9b,hk9r⟩:=show Nw w7.heap.size z33 (V 3) w8 from hR8 3 (by decide)
 have hV2:V 2=pvl F:=hR8 2 (by decide)
 dsimp only [RG.putV,Nat.reduceAdd,List.take,List.drop]
 obtain ⟨vF,hvF⟩:∃ v,Hid (pvl F=v):=⟨_,rfl⟩
 rw [hk9,hV2,hvF.out]
 generalize V 0=s22
 generalize V 1=s23
 obtain ⟨w9,hw9⟩:∃ w9,Hid (w8.setCells k9 0 (bl33 F)=w9):=⟨_,rfl⟩
 have hlen:(bl33 F).length=33:=bl33_length HF.out.1
 have HB8:Hid (Kp w w8 [(k8,wn kk),(k6,wn x)]∧w7.heap.size≤w8.heap.size):=hB8
 have K9:Hid (Kp w w9 [(k9,bl33 F),(k8,wn kk),(k6,wn x)]):=by
  rw [← hw9.out]
  refine HB8.out.1.put hk9r (by rw [hlen];rfl) (Nat.le_trans K7.out.bl.size hk9b) fun y hy=>?_
  have h8:=(K7.out.rw y hy).1
  omega
 have HI:Hid (w8.there k9 0 (bl33 F).toArray.size∧(Tryz.prog.info? 58).map (·.size)=some (bl33 F).toArray.size∧(Tryz.prog.info? 58).map (·.size)=some (bl33 F).length):=by
  have e:(bl33 F).toArray.size=33:=by rw [List.size_toArray];exact hlen
  rw [e,hlen]
  exact ⟨hk9r.2.2,infoCP,infoCP⟩
 clear hlen hR8 hB8 hk9 hk9b hk9r hV2 HB8 K7 V
 go_wp2_with (first | (refine wpList_store_mid rfl 58 _ _ rfl k9 0 (bl33 F).toArray ?_ ?_ ?_ ?_ ?_ ?_;rfl;exact hvF.out.symm;exact HI.out.1;exact HI.out.2.1;exact bl33_one F;rw [show (bl33 F).toArray.toList=bl33 F from rfl,hw9.out]) | fail)
 clear hw9
 refine (G6 w k6 k8 k9 x kk c w9.heap.size A F (.slice p1 n1 c1) A').last 7 (by kernel_rfl) (by kernel_rfl) (by kernel_rfl) ⟨
  RG.gw_load 53 6 rfl u40 fun a W hp=>⟨k6,0,wn x,hp.o 6 (by kernel_rfl),(hp.b.1.at 2 rfl).2.1,i40,rfl⟩,
  RG.gw_call fun a W hp=>⟨[],26,#[],trivial,by kernel_rfl,(gen_c HC.out.1 W).mono (by
   rintro e W' ⟨u,rfl,hb,rfl⟩
   exact ⟨_,rfl,hb,by rw [hAe.out];rfl⟩)⟩,
  RG.gw_call fun a W hp=>⟨[(25,nv x),(26,pvl A)],25,#[nv x,pvl A],⟨hp.n 0 25 (by kernel_rfl) (by kernel_rfl),hp.n 1 26 (by kernel_rfl) (by kernel_rfl),trivial⟩,by kernel_rfl,by
   rw [← hAe.out]
   refine (times_c HC.out.1 HC.out.2.1 HC.out.2.2.1 (gG_on HC.out.1) W).mono ?_
   rintro e W' ⟨u,rfl,hb,rfl⟩
   exact ⟨_,rfl,hb,by rw [hAe'.out];rfl⟩⟩,
  RG.gw_load 58 9 rfl uCP fun a W hp=>⟨k9,0,bl33 F,hp.o 9 (by kernel_rfl),(hp.b.1.at 0 rfl).2.1,HI.out.2.2,rfl⟩,
  RG.gw_val fun a W hp=>⟨[(1,.slice p1 n1 c1)],.slice p1 n1 c1,W,⟨hp.o 1 (by kernel_rfl),trivial⟩,by kernel_rfl,Below.refl _ _,rfl⟩,
  RG.gw_call fun a W hp=>⟨[(27,pvl A'),(28,pvl F),(29,.slice p1 n1 c1)],27,#[pvl A',pvl F,.slice p1 n1 c1],⟨hp.n 2 27 (by kernel_rfl) (by kernel_rfl),hp.n 3 28 (by kernel_rfl) (by kernel_rfl),hp.n 4 29 (by kernel_rfl) (by kernel_rfl),trivial⟩,by kernel_rfl,by
   refine (sAsked_c HC.out.2.1 A' F HF.out.2 HF.out.1 p1 n1 c1 tx.toList W (HP.out.2.below hp.b.1.bl)).mono ?_
   rintro e W' ⟨u,rfl,hb,rfl⟩
   exact ⟨_,rfl,hb,by rw [HQ.out];rfl⟩⟩,
  RG.gw_val fun a W hp=>⟨[],.pointer (some ⟨W.heap.size,0,none⟩),W.alloc (.cells #[.int .u64 0,.int .u64 0,.int .u64 0,.int .u64 0] 53),trivial,by kernel_rfl,below1 _ _,W.heap.size,rfl,hp.b.2,row_new W _ _⟩,trivial⟩ ⟨K9.out.drew,Nat.le_refl _⟩ ?_
 intro V wa hRa hBa
 obtain ⟨k10,hk10,hk10b,hk10r⟩:=show Nw w9.heap.size [.int .u64 0,.int .u64 0,.int .u64 0,.int .u64 0] (V 6) wa from hRa 6 (by decide)
 have hV5:V 5=nv c:=hRa 5 (by decide)
 dsimp only [RG.putV,Nat.reduceAdd,List.take,List.drop]
 obtain ⟨vc,hvc⟩:∃ v,Hid (nv c=v):=⟨_,rfl⟩
 rw [hk10,hV5,hvc.out]
 generalize V 0=s25
 generalize V 1=s26
 generalize V 2=s27
 generalize V 3=s28
 generalize V 4=s29
 obtain ⟨wb,hwb⟩:∃ wb,Hid (wa.setCells k10 0 (wn c)=wb):=⟨_,rfl⟩
 have HBa:Hid (Kp w wa [(k9,bl33 F),(k8,wn kk),(k6,wn x)]∧w9.heap.size≤wa.heap.size):=hBa
 have Kb:Hid (Kp w wb [(k10,wn c),(k9,bl33 F),(k8,wn kk),(k6,wn x)]):=by
  rw [← hwb.out]
  refine HBa.out.1.put hk10r rfl (Nat.le_trans K9.out.bl.size hk10b) fun y hy=>?_
  have h8:=(K9.out.rw y hy).1
  omega
 have HJ:Hid (wa.there k10 0 [Value.int .u64 0,.int .u64 0,.int .u64 0,.int .u64 0].length):=hk10r.2.2
 clear hRa hBa hk10 hk10b hk10r hV5 HBa K9 V
 simp only [Act.put,List.setIfInBounds_toArray,List.set_cons_succ,List.set_cons_zero]
 go_wp2_with (first | (refine wpList_store_mid rfl 53 _ _ rfl k10 0 (wn c).toArray ?_ ?_ ?_ ?_ ?_ ?_;rfl;exact hvc.out.symm;exact HJ.out;exact i40;exact wn_one c;rw [show (wn c).toArray.toList=wn c from rfl,hwb.out]) | fail)
 clear hwb HJ
 refine (G7 w k6 k8 k9 k10 x kk c z w.heap.size F).draws (by kernel_rfl) (by kernel_rfl) ⟨
  RG.gw_val fun a W hp=>⟨[(9,.pointer (some ⟨k9,0,none⟩))],.slice (some ⟨k9,0,none⟩) 33 33,W,⟨hp.o 9 (by kernel_rfl),trivial⟩,by kernel_rfl,Below.refl _ _,rfl⟩,
  RG.gw_load 53 10 rfl u40 fun a W hp=>⟨k10,0,wn c,hp.o 10 (by kernel_rfl),(hp.b.1.at 0 rfl).2.1,i40,rfl⟩,
  RG.gw_load 53 8 rfl u40 fun a W hp=>⟨k8,0,wn kk,hp.o 8 (by kernel_rfl),(hp.b.1.at 2 rfl).2.1,i40,rfl⟩,
  RG.gw_load 53 6 rfl u40 fun a W hp=>⟨k6,0,wn x,hp.o 6 (by kernel_rfl),(hp.b.1.at 3 rfl).2.1,i40,rfl⟩,
  RG.gw_call fun a W hp=>⟨[(32,nv c),(33,nv kk),(34,nv x)],29,#[nv c,nv kk,nv x],⟨hp.n 1 32 (by kernel_rfl) (by kernel_rfl),hp.n 2 33 (by kernel_rfl) (by kernel_rfl),hp.n 3 34 (by kernel_rfl) (by kernel_rfl),trivial⟩,by kernel_rfl,by
   refine (answer_c HC.out.2.1 HC.out.2.2.2.2.1 HC.out.2.2.2.1 HC.out.2.2.1 W).mono ?_
   rintro e W' ⟨u,rfl,hb,rfl⟩
   exact ⟨_,rfl,hb,by rw [HC.out.2.2.2.2.2];rfl⟩⟩,
  RG.gw_call fun a W hp=>⟨[(35,nv z)],30,#[nv z],⟨hp.n 4 35 (by kernel_rfl) (by kernel_rfl),trivial⟩,by kernel_rfl,by
   refine (sbytes_c HC.out.2.1 (by rw [← HC.out.2.2.2.2.2];exact Nat.mod_lt _ HC.out.2.1.pos) W).mono ?_
   rintro e W' ⟨u,rfl,k',hm,rfl⟩
   exact ⟨_,rfl,hm.bel,El.of_made hm (bx_size z)⟩⟩,
  RG.gw_val fun a W hp=>⟨[(31,.slice (some ⟨k9,0,none⟩) 33 33),(36,a.eval (.tmp 36))],.slice (some ⟨W.heap.size,0,none⟩) 2 2,W.alloc (.cells #[.slice (some ⟨k9,0,none⟩) 33 33,a.eval (.tmp 36)] 22),⟨hp.n 0 31 (by kernel_rfl) (by kernel_rfl),rfl,trivial⟩,by
   obtain ⟨k',c',he,-⟩:=show El 32 W (a.eval (.tmp 36)) (bx z) from hp.n 5 36 (by kernel_rfl) (by kernel_rfl)
   rw [he];kernel_rfl,below1 _ _,by
   have hE:=show El 32 W (a.eval (.tmp 36)) (bx z) from hp.n 5 36 (by kernel_rfl) (by kernel_rfl)
   refine ⟨W.heap.size,a.eval (.tmp 36),rfl,by rw [World.size_alloc];omega,by rw [World.cell?_alloc_new];rfl,by rw [World.cell?_alloc_new];rfl,hE.below (below1 _ _) (Nat.le_refl _)⟩⟩,
  RG.gw_call fun a W hp=>⟨[(37,a.eval (.tmp 37))],28,#[a.eval (.tmp 37)],⟨rfl,trivial⟩,by kernel_rfl,by
   obtain ⟨k',y,he,h1,h2,h3,h4⟩:=show Two k9 z (a.eval (.tmp 37)) W from hp.n 6 37 (by kernel_rfl) (by kernel_rfl)
   rw [he]
   have hF:=(hp.b.1.at 1 rfl:Row W k9 (bl33 F))
   refine (concat_c k' 2 2 (fun j=>if j=0 then F else bx z) (by decide) (fun j hj=>?_) W h1 (fun j hj=>?_)).mono ?_
   · split
     · rw [HF.out.1];decide
     · rw [bx_size];decide
   · have hj2:j=0∨j=1:=by omega
     rcases hj2 with rfl | rfl
     · exact ⟨_,h2,k9,33,by rw [if_pos rfl,HF.out.1],by rw [if_pos rfl,HF.out.1];exact Nat.le_refl _,rfl,hF.1,row_holds hF⟩
     · refine ⟨_,h3,?_⟩
       show El (bx z).size W y (bx z)
       rw [bx_size];exact h4
   · rintro e W' ⟨u,rfl,hb,ho⟩
     refine ⟨_,rfl,hb,?_⟩
     have e1:catL (fun j=>if j=0 then F else bx z) 2=F.toList++(bx z).toList:=by
      rw [catL_succ,catL_succ];rfl
     rw [e1] at ho
     have e2:(F.toList++(bx z).toList).length=65:=by
      rw [List.length_append,show F.toList.length=33 from HF.out.1,show (bx z).toList.length=32 from bx_size z]
     rw [e2] at ho
     exact ⟨ho.1,ho.2.imp id fun ⟨g,cap,cur,q1,q2,q3⟩=>⟨g,cap,cur,q1,Nat.le_trans hp.b.2 q2,q3⟩⟩⟩,
  RG.gw_val fun a W hp=>⟨[(38,a.eval (.tmp 38))],a.eval (.tmp 38),W,⟨rfl,trivial⟩,by kernel_rfl,Below.refl _ _,hp.n 7 38 (by kernel_rfl) (by kernel_rfl)⟩,
  RG.gw_val fun a W hp=>⟨[],.int .i64 0,W,trivial,by kernel_rfl,Below.refl _ _,rfl⟩,trivial⟩ ⟨Kb.out.drew,Kb.out.bl.size⟩ ?_
 intro V wc hRc hBc
 have hV9:V 9=.int .i64 0:=hRc 9 (Nat.lt_of_succ_le (Nat.le_of_ble_eq_true (by kernel_rfl)))
 have HA8:Hid (Ans z w.heap.size F (V 8) wc):=hRc 8 (Nat.lt_of_succ_le (Nat.le_of_ble_eq_true (by kernel_rfl)))
 have HBc:Hid (Below w.heap.size w wc):=hBc.1.bl
 dsimp only [RG.putV,Nat.reduceAdd]
 simp only [Act.put,List.setIfInBounds_toArray,List.set_cons_succ,List.set_cons_zero]
 rw [hV9]
 generalize V 8=s8 at HA8 ⊢
 clear hRc hBc Kb
 go_wp2
 go_ret2
 exact ⟨_,rfl,HBc.out,s8,rfl,HA8.out⟩
set_option maxHeartbeats 1000000 in
set_option maxRecDepth 100000 in
theorem sign_n (O:Ord N) (p0 p1:Option Addr) (n0 c0 n1 c1:Nat) (sk:Bs) (w:World) (hA:Arg w (.slice p0 n0 c0) sk) (hx:((rq N sk).isSome && !decide ((rq N sk).getD 0=0))=false) :
 Calls Tryz.prog 8 #[.slice p0 n0 c0,.slice p1 n1 c1] w (Ret fun e w'=>Below w.heap.size w w'∧e=.tuple #[.slice none 0 0,.int .i64 3]):=by
 have hR:=rsecret_c O (.slice p0 n0 c0) sk w hA
 rw [hx] at hR
 have HR:=Hid.mk' hR
 obtain ⟨x,hxe⟩:∃ x,Hid ((rq N sk).getD 0=x):=⟨_,rfl⟩
 rw [hxe.out] at HR
 obtain ⟨vx,hvx⟩:∃ v,Hid (nv x=v):=⟨_,rfl⟩
 rw [hvx.out] at HR
 clear O hA hR hx hxe
 go_enter Tryz.func8,Tryz.ntmps8
 go_wp2_with fail
 refine HR.out.mono ?_
 rintro e w1 ⟨vv,rfl,hb1,rfl⟩
 obtain ⟨w2,hw2⟩:∃ w2,Hid (w1.alloc (.cells #[.int .u64 0,.int .u64 0,.int .u64 0,.int .u64 0] 53)=w2):=⟨_,rfl⟩
 obtain ⟨k6,hk6⟩:∃ k6,Hid (w1.heap.size=k6):=⟨_,rfl⟩
 obtain ⟨w3,hw3⟩:∃ w3,Hid (w2.setCells k6 0 (wn x)=w3):=⟨_,rfl⟩
 have F2:Hid (Row w2 k6 [.int .u64 0,.int .u64 0,.int .u64 0,.int .u64 0]∧Below w.heap.size w w2∧w.heap.size≤k6):=by
  rw [← hw2.out,← hk6.out]
  exact ⟨row_new w1 _ _,hb1.alloc hb1.size _,hb1.size⟩
 have K3:Hid (Below w.heap.size w w3):=by
  rw [← hw3.out]
  exact RG.below_setCells F2.out.2.2 _ _ _ F2.out.2.1
 clear hb1 HR
 go_wp2_with (first | (refine wpList_op (v:=.pointer (some ⟨k6,0,none⟩)) (w':=w2) rfl (.alloc 53) rfl ?_ ?_;(rw [← hw2.out,← hk6.out];kernel_rfl)) | (refine wpList_store_mid rfl 53 _ _ rfl k6 0 (wn x).toArray ?_ ?_ ?_ ?_ ?_ ?_;rfl;exact hvx.out.symm;exact F2.out.1.2.2;exact i40;exact wn_one x;rw [show (wn x).toArray.toList=wn x from rfl,hw3.out]) | fail)
 go_ret2
 exact ⟨_,rfl,K3.out,rfl⟩
end Go.Proofs.YtmkllfekhehagadGreat
namespace Go.Proofs.YtmkllfekhehagadGreat
open Go.RowKit Go.Sort Go.Deep
theorem fl3:∃ (P:Nat) (_:NeZero P),Fl3 P:=by
 obtain ⟨P,hz,hP,hc⟩:=EC.cur
 have h0:P=Go.Proofs.YtmkllfekhehagadGreat.p0:=by rw [hP];decide +kernel
 have hg:=gap0
 have hr:=refP0
 have h2:2≤Go.Proofs.YtmkllfekhehagadGreat.p0 % 18446744073709551616:=by decide +kernel
 have h4:Go.Proofs.YtmkllfekhehagadGreat.p0 / 4 % 18446744073709551616 < 18446744073709551615:=by decide +kernel
 have h3:Go.Proofs.YtmkllfekhehagadGreat.p0 % 4=3:=by decide +kernel
 have h7:7 < Go.Proofs.YtmkllfekhehagadGreat.p0:=by decide +kernel
 rw [← h0] at hg hr h2 h4 h3 h7
 exact ⟨P,hz,⟨⟨hg,hc,h2,h4,h3,h7⟩,hr⟩⟩
end Go.Proofs.YtmkllfekhehagadGreat
namespace Go.Proofs.YtmkllfekhehagadGreat
open Go.RowKit Go.Sort Go.Deep
variable {P:Nat} [NeZero P]
theorem str_eqL (a:Bs):((⟨a⟩:ByteArray).toList == (⟨a⟩:ByteArray).toList)=true:=by simp
end Go.Proofs.YtmkllfekhehagadGreat
