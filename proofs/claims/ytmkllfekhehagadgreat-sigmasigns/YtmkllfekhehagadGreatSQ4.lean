import Derived.Deep.LoopGhost
import Derived.Deep.RegionHeld3
import Derived.Deep.CutRange
import Derived.Deep.DeepCutAuto
import Derived.Laws.MakeOwn
import Derived.ChangeKeysEq
import Derived.Deep.AppendSrc
import Derived.Lib.AppendZeros
import Derived.LoopN
import Derived.Deep.RegionWith
import Derived.Test.YtmkllfekhehagadGreatSQ3
set_option linter.unusedVariables false
set_option linter.unusedSimpArgs false
namespace Go.Proofs.YtmkllfekhehagadGreat
open Go.RowKit Go.Sort
variable {P:Nat} [NeZero P]
theorem al117 {P:Nat} [NeZero P] (w:World):(Instr.alloc 199 true (.tuple #[])).run Tryz.prog w=.ok (.pointer (some ⟨w.heap.size,0,none⟩)) (w.alloc (.cells (tw ((0,0,0):T3 P)).toArray 199)):=by
 show _=Result.ok _ (w.alloc (.cells (ws (0:Fin P)++(ws (0:Fin P)++ws (0:Fin P))).toArray 199))
 rw [← ws_zero]
 kernel_rfl
theorem ne8_f (w:World):(binOp .neq 201 (.int .i8 0) (.int .i8 0)).run Tryz.prog w=.ok (.bool false) w:=by kernel_rfl
theorem ne8_t {d:Int} (h:¬ d=0) (w:World):(binOp .neq 201 (.int .i8 d) (.int .i8 0)).run Tryz.prog w=.ok (.bool true) w:=by
 go_simp
theorem sub1' (q:Nat) (hq:q < 1000) (w:World):(binOp .sub 3 (.int .i64 (q:Int)) (.int .i64 1)).run Tryz.prog w=.ok (.int .i64 ((q:Int) - 1)) w:=sub64i _ _ (by omega) (by omega) w
theorem geq0' (i:Nat) (w:World):(binOp .geq 3 (.int .i64 (i:Int)) (.int .i64 0)).run Tryz.prog w=.ok (.bool true) w:=by
 go_simp
def F82a_0:List RG.It:=[.m 4 [] 0]
def F82a_1 (N kn:Nat) (s:T3 P):List RG.It:=[.x 11 [] (.slice (some ⟨kn,0,none⟩) N N),.x 12 [(11,0)] (.int .i64 (N:Int)),⟨some 13,[(12,1)],(.s 1 N N),.make 1⟩,.s 5 [(13,2)] (.s 1 N N)]
def F82a_2 (N:Nat) (s:T3 P):List RG.It:=[.s 14 [] (.s 1 N N),.x 15 [(14,0)] (.int .i64 (N:Int)),.x 16 [] (.int .i64 0)]
def F82b_3:List RG.It:=[.x 17 [] (.bool true)]
def F82b_4 (i:Nat):List RG.It:=[.x 18 [] (.int .i64 (i:Int)),.x 6 [(18,0)] (.int .i64 (i:Int))]
def F82b_5 (N kn ka i:Nat) (ns:Nat→Nat) (xs ys:Nat→Fin P) (s:T3 P):List RG.It:=[.s 19 [] (.s 1 N N),.x 20 [] (.int .i64 (i:Int)),.s 21 [(19,0),(20,1)] (.p 1 (353*i)),.x 22 [] (.slice (some ⟨kn,0,none⟩) N N),.x 23 [] (.int .i64 (i:Int)),.x 24 [(22,3),(23,4)] (.pointer (some ⟨kn,(0+4*i),none⟩)),.x 25 [(24,5)] (nv (ns i)),.x 26 [] (.slice (some ⟨ka,0,none⟩) N N),.x 27 [] (.int .i64 (i:Int)),.x 28 [(26,7),(27,8)] (.pointer (some ⟨ka,(0+8*i),none⟩)),.x 29 [(28,9)] (pv (xs i) (ys i)),⟨some 30,[(21,2),(25,6),(29,10)],(.v (.tuple #[])),.put 1⟩]
def F82b_6 (i:Nat):List RG.It:=[.x 31 [] (.int .i64 ((i+1:Nat):Int)),.x 16 [(31,0)] (.int .i64 ((i+1:Nat):Int))]
def F82c_3:List RG.It:=[.x 17 [] (.bool false)]
def F82c_7:List RG.It:=[.m 7 [] 2]
def F82c_8:List RG.It:=[.x 8 [] (.int .i64 256)]
def F82d_9 (q:Nat):List RG.It:=[.x 32 [] (.int .i64 (q:Int)),.x 33 [(32,0)] (.bool true)]
def F82d_11 (s s2:T3 P):List RG.It:=[.x 36 [] (tv s),.c 37 [(36,0)] (tv s2),.u [(37,1)] 2]
def F82d_12 (N:Nat) (s:T3 P):List RG.It:=[.s 38 [] (.s 1 N N),.x 39 [(38,0)] (.int .i64 (N:Int)),.x 40 [] (.int .i64 0)]
def F82e_9:List RG.It:=[.x 32 [] (.int .i64 (-1)),.x 33 [(32,0)] (.bool false)]
def F82e_19 (s:T3 P):List RG.It:=[.x 60 [] (tv s),.c 61 [(60,0)] (pv (s.1*(EC.inv s.2.2*EC.inv s.2.2)) (s.2.1*(EC.inv s.2.2*EC.inv s.2.2)*EC.inv s.2.2)),.u [(61,1)] 0]
def F82f_13:List RG.It:=[.x 41 [] (.bool true)]
def F82f_14 (i:Nat):List RG.It:=[.x 42 [] (.int .i64 (i:Int)),.x 9 [(42,0)] (.int .i64 (i:Int))]
def F82f_15 (N i q:Nat) (s:T3 P):List RG.It:=[.s 43 [] (.s 1 N N),.x 44 [] (.int .i64 (i:Int)),.x 45 [] (.int .i64 (q:Int)),.s 46 [(43,0),(44,1)] (.p 1 (353*i)),.s 47 [(46,3)] (.p 1 ((353*i)+96)),.s 48 [(47,4),(45,2)] (.p 1 (((353*i)+96)+q)),.x 49 [(48,5)] (.int .i8 0),.x 10 [(49,6)] (.int .i8 0)]
def F82f_16:List RG.It:=[.x 50 [] (.int .i8 0),.x 51 [(50,0)] (.bool false)]
def F82f_18 (i:Nat):List RG.It:=[.x 59 [] (.int .i64 ((i+1:Nat):Int)),.x 40 [(59,0)] (.int .i64 ((i+1:Nat):Int))]
def F82g_13:List RG.It:=[.x 41 [] (.bool true)]
def F82g_14 (i:Nat):List RG.It:=[.x 42 [] (.int .i64 (i:Int)),.x 9 [(42,0)] (.int .i64 (i:Int))]
def F82g_15 (N i q:Nat) (d:Int) (s:T3 P):List RG.It:=[.s 43 [] (.s 1 N N),.x 44 [] (.int .i64 (i:Int)),.x 45 [] (.int .i64 (q:Int)),.s 46 [(43,0),(44,1)] (.p 1 (353*i)),.s 47 [(46,3)] (.p 1 ((353*i)+96)),.s 48 [(47,4),(45,2)] (.p 1 (((353*i)+96)+q)),.x 49 [(48,5)] (.int .i8 d),.x 10 [(49,6)] (.int .i8 d)]
def F82g_16 (d:Int):List RG.It:=[.x 50 [] (.int .i8 d),.x 51 [(50,0)] (.bool true)]
def F82g_17 (N i:Nat) (d:Int) (s s3 s4:T3 P):List RG.It:=[.x 52 [] (tv s),.s 53 [] (.s 1 N N),.x 54 [] (.int .i64 (i:Int)),.s 55 [(53,1),(54,2)] (.p 1 (353*i)),.x 56 [] (.int .i8 d),.c 57 [(55,3),(56,4)] (tv s3),.c 58 [(52,0),(57,5)] (tv s4),.u [(58,6)] 2]
def F82g_18 (i:Nat):List RG.It:=[.x 59 [] (.int .i64 ((i+1:Nat):Int)),.x 40 [(59,0)] (.int .i64 ((i+1:Nat):Int))]
def F82h_13:List RG.It:=[.x 41 [] (.bool false)]
def F82h_10 (q:Nat):List RG.It:=[.x 34 [] (.int .i64 (q:Int)),.x 35 [(34,0)] (.int .i64 ((q:Int) - 1)),.x 8 [(35,1)] (.int .i64 ((q:Int) - 1))]
set_option maxHeartbeats 4000000 in
set_option maxRecDepth 100000 in
theorem sums_c (F:Fld P) (N:Nat) (hN:N≤512) (ns:Nat→Nat) (xs ys:Nat→Fin P) (hns:∀ i,i < N→ns i < top) (kn ka:Nat) (w:World) (hkn:kn < w.heap.size) (hka:ka < w.heap.size)
 (hn:∀ i,i < N→w.rangeAt kn (4*i) (wn (ns i))) (ha:∀ i,i < N→w.rangeAt ka (8*i) (ws (xs i)++ws (ys i))) :
 Calls Tryz.prog 98 #[(.slice (some ⟨kn,0,none⟩) N N),(.slice (some ⟨ka,0,none⟩) N N)] w (Ret fun e w'=>Below w.heap.size w w'∧∃ s,s=sumJ ns xs ys N 257∧e=pv (s.1*(EC.inv s.2.2*EC.inv s.2.2)) (s.2.1*(EC.inv s.2.2*EC.inv s.2.2)*EC.inv s.2.2)):=by
 obtain ⟨C,hCl,hmk⟩:=mk135 N hN
 have hstepC:∀ (i:Nat) (c2:List Value),fc (xs i) (ys i) (digs (ns i)) (cc ns xs ys C i) (353*i) 8=c2→cc ns xs ys C (i+1)=c2:=fun i c2 h=>h
 obtain ⟨i,-⟩:∃ i:Nat,i=0:=⟨_,rfl⟩
 obtain ⟨q,-⟩:∃ i:Nat,i=0:=⟨_,rfl⟩
 obtain ⟨d,-⟩:∃ i:Int,i=0:=⟨_,rfl⟩
 obtain ⟨C2,-⟩:∃ c:List Value,c=C:=⟨_,rfl⟩
 obtain ⟨s,-⟩:∃ s:T3 P,s=(0,0,0):=⟨_,rfl⟩
 obtain ⟨s2,-⟩:∃ s:T3 P,s=(0,0,0):=⟨_,rfl⟩
 obtain ⟨s3,-⟩:∃ s:T3 P,s=(0,0,0):=⟨_,rfl⟩
 obtain ⟨s4,-⟩:∃ s:T3 P,s=(0,0,0):=⟨_,rfl⟩
 go_enter Tryz.func98,Tryz.ntmps98
 refine RG.var2 (v0:=(.slice (some ⟨kn,0,none⟩) N N)) (v1:=(.slice (some ⟨ka,0,none⟩) N N)) (n:=62) (by kernel_rfl) (by kernel_rfl) (by kernel_rfl) (by kernel_rfl) ?_
 intro a0 sl0 f0 f1
 have hS0:=RG.St.begin w
 have M0:RG.M w w.heap.size [] 62 [] [] [(0,(.v (.slice (some ⟨kn,0,none⟩) N N))),(1,(.v (.slice (some ⟨ka,0,none⟩) N N)))] a0 _:=⟨hS0,sl0,⟨f0,f1,trivial⟩⟩
 repeat refine wp_seq ?_
 refine M0.tx F82a_0 [(0,(RG.z 8))] [] [(RG.z 8)] [(0,(.v (.slice (some ⟨kn,0,none⟩) N N))),(1,(.v (.slice (some ⟨ka,0,none⟩) N N))),(4,(.p 0 0))] (by kernel_rfl) (by kernel_rfl) ⟨RG.mk 0 90 fun _ _=>by kernel_rfl,trivial⟩ ?_
 intro j1 a1 w1 M1
 repeat refine wp_seq ?_
 refine M1.tx (F82a_1 N kn s) [(2,C)] [] [(RG.z 8),C] [(0,(.v (.slice (some ⟨kn,0,none⟩) N N))),(1,(.v (.slice (some ⟨ka,0,none⟩) N N))),(4,(.p 0 0)),(5,(.s 1 N N))] (by kernel_rfl) (by kernel_rfl) ⟨RG.st fun _ _=>by kernel_rfl,RG.cert_one rfl 11 (.v (.slice (some ⟨kn,0,none⟩) N N)) (.int .i64 (N:Int)) rfl (RG.sx fun _=>by kernel_rfl) (fun a w=>by kernel_rfl) (fun μ w=>by kernel_rfl),RG.cert_makes 1 rfl _ rfl 196 204 12 12 N rfl rfl (RG.sx fun _=>by kernel_rfl) (RG.sx fun _=>by kernel_rfl) (hmk),RG.st fun _ _=>by kernel_rfl,trivial⟩ ?_
 intro j2 a2 w2 M2
 repeat refine wp_seq ?_
 refine M2.tx0 (F82a_2 N s) [(0,(.v (.slice (some ⟨kn,0,none⟩) N N))),(1,(.v (.slice (some ⟨ka,0,none⟩) N N))),(4,(.p 0 0)),(5,(.s 1 N N)),(15,(.v (.int .i64 (N:Int)))),(16,(.v (.int .i64 0)))] (by kernel_rfl) ⟨RG.st fun _ _=>by kernel_rfl,RG.cert_one rfl 14 (.s 1 N N) (.int .i64 (N:Int)) rfl (RG.sx fun _=>by kernel_rfl) (fun a w=>by kernel_rfl) (fun μ w=>by kernel_rfl),RG.st fun _ _=>by kernel_rfl,trivial⟩ ?_
 intro a3 w3 M3
 have hS3:RG.St w w.heap.size [] [(RG.z 8),C] [j1,j2] _:=M3.st
 have sl3:=M3.sl
 have f0_3:a3.tmps[0]? = some (.slice (some ⟨kn,0,none⟩) N N):=M3.at (s:=(.v (.slice (some ⟨kn,0,none⟩) N N))) (by kernel_rfl)
 have f1_3:a3.tmps[1]? = some (.slice (some ⟨ka,0,none⟩) N N):=M3.at (s:=(.v (.slice (some ⟨ka,0,none⟩) N N))) (by kernel_rfl)
 have f4_3:a3.tmps[4]? = some (.pointer (some ⟨j1,0,none⟩)):=M3.at (s:=(.p 0 0)) (by kernel_rfl)
 have f5_3:a3.tmps[5]? = some (.slice (some ⟨j2,0,none⟩) N N):=M3.at (s:=(.s 1 N N)) (by kernel_rfl)
 have f15_3:a3.tmps[15]? = some (.int .i64 (N:Int)):=M3.at (s:=(.v (.int .i64 (N:Int)))) (by kernel_rfl)
 have f16_3:a3.tmps[16]? = some (.int .i64 0):=M3.at (s:=(.v (.int .i64 0))) (by kernel_rfl)
 repeat refine wp_seq ?_
 refine wp_block ?_
 refine wp_loop_ghost (fun m a wr=>∃ i,i+m=N∧RG.Sl a 62∧a.tmps[0]? = some (.slice (some ⟨kn,0,none⟩) N N)∧a.tmps[1]? = some (.slice (some ⟨ka,0,none⟩) N N)∧a.tmps[4]? = some (.pointer (some ⟨j1,0,none⟩))∧a.tmps[5]? = some (.slice (some ⟨j2,0,none⟩) N N)∧a.tmps[15]? = some (.int .i64 (N:Int))∧a.tmps[16]? = some (.int .i64 (i:Int))∧RG.St w w.heap.size [] [[.int .u64 0,.int .u64 0,.int .u64 0,.int .u64 0,.int .u64 0,.int .u64 0,.int .u64 0,.int .u64 0],cc ns xs ys C i] [j1,j2] wr) N ⟨0,by omega,sl3,f0_3,f1_3,f4_3,f5_3,f15_3,f16_3,hS3⟩ ?_
 intro m a wr
 rintro ⟨i,him,sl,p0,p1,p4,p5,p15,p16,hSp⟩
 generalize j1=kr at p4 hSp
 generalize j2=kt at p5 hSp
 obtain ⟨C,hCe⟩:∃ c,cc ns xs ys C i=c:=⟨_,rfl⟩
 have hcc:=cc_at (ns:=ns) (xs:=xs) (ys:=ys) hCl i (by omega)
 rw [hCe] at hSp hcc
 by_cases hi:i < N
 · obtain ⟨C2,hC2e⟩:∃ c,fc (xs i) (ys i) (digs (ns i)) C (353*i) 8=c:=⟨_,rfl⟩
   have hoff:353*i+353≤C.length:=by rw [hcc.1];omega
   have hcl:C2.length=C.length:=hC2e ▸ (fc_Fi hoff 8 (Nat.le_refl _)).len
   have hfill:∀ (k:Nat) (w:World),w.there k 0 C.length→w.rangeAt k 0 C→Calls Tryz.prog 136 #[.pointer (some ⟨k,353*i,none⟩),nv (ns i),pv (xs i) (ys i)] w (Ret fun r w'=>RG.PutTo k C.length C2 w w'∧r=.tuple #[]):=fun k w ht hr=>hC2e ▸ fill_put F (hns i hi) (xs i) (ys i) C k (353*i) hoff w ht hr
   have hrn:w.rangeAt kn (0+4*i) (wn (ns i)):=by rw [Nat.zero_add];exact hn i hi
   have hra:w.rangeAt ka (0+8*i) (ws (xs i)++ws (ys i)):=by rw [Nat.zero_add];exact ha i hi
   have M10:RG.M w w.heap.size [] 62 [(RG.z 8),C] [kr,kt] [(0,(.v (.slice (some ⟨kn,0,none⟩) N N))),(1,(.v (.slice (some ⟨ka,0,none⟩) N N))),(4,(.p 0 0)),(5,(.s 1 N N)),(15,(.v (.int .i64 (N:Int)))),(16,(.v (.int .i64 (i:Int))))] a _:=⟨hSp,sl,⟨p0,p1,p4,p5,p15,p16,trivial⟩⟩
   repeat refine wp_seq ?_
   refine M10.tx0 F82b_3 [(0,(.v (.slice (some ⟨kn,0,none⟩) N N))),(1,(.v (.slice (some ⟨ka,0,none⟩) N N))),(4,(.p 0 0)),(5,(.s 1 N N)),(15,(.v (.int .i64 (N:Int)))),(16,(.v (.int .i64 (i:Int)))),(17,(.v (.bool true)))] (by kernel_rfl) ⟨RG.cert_bin rfl .lss 3 3 16 15 (.int .i64 (i:Int)) (.int .i64 (N:Int)) (.bool true) rfl rfl (RG.sx fun _=>by kernel_rfl) (RG.sx fun _=>by kernel_rfl) (fun w=>by kernel_rfl) (lssn_t hi),trivial⟩ ?_
   intro a11 w11 M11
   repeat refine wp_seq ?_
   refine wp_cond_true (M11.ev (by kernel_rfl)) ?_
   refine wp_skip ?_
   refine wp_seq ?_
   refine wp_block ?_
   repeat refine wp_seq ?_
   refine M11.tx0 (F82b_4 i) [(0,(.v (.slice (some ⟨kn,0,none⟩) N N))),(1,(.v (.slice (some ⟨ka,0,none⟩) N N))),(4,(.p 0 0)),(5,(.s 1 N N)),(6,(.v (.int .i64 (i:Int)))),(15,(.v (.int .i64 (N:Int)))),(16,(.v (.int .i64 (i:Int))))] (by kernel_rfl) ⟨RG.st fun _ _=>by kernel_rfl,RG.st fun _ _=>by kernel_rfl,trivial⟩ ?_
   intro a12 w12 M12
   repeat refine wp_seq ?_
   refine M12.dr (by kernel_rfl) (F82b_5 N kn ka i ns xs ys s) [] [(1,11,C2)] [(RG.z 8),C2] [(0,(.v (.slice (some ⟨kn,0,none⟩) N N))),(1,(.v (.slice (some ⟨ka,0,none⟩) N N))),(4,(.p 0 0)),(5,(.s 1 N N)),(15,(.v (.int .i64 (N:Int)))),(16,(.v (.int .i64 (i:Int))))] (by kernel_rfl) (congrArg (fun n=>[n]) hcl) ⟨RG.st fun _ _=>by kernel_rfl,RG.st fun _ _=>by kernel_rfl,RG.cert_idx rfl 196 19 20 rfl (.s 1 N N) (.int .i64 (i:Int)) (RG.sx fun _=>by kernel_rfl) (RG.sx fun _=>by kernel_rfl) (fun μ w=>at135 _ _ _ i hi w),RG.st fun _ _=>by kernel_rfl,RG.st fun _ _=>by kernel_rfl,RG.cert_idx rfl 141 22 23 rfl (.v (.slice (some ⟨kn,0,none⟩) N N)) (.int .i64 (i:Int)) (RG.sx fun _=>by kernel_rfl) (RG.sx fun _=>by kernel_rfl) (fun μ w=>at82 _ _ _ _ i hi w),RG.cert_loadB rfl kn (0+4*i) hkn List.not_mem_nil 51 24 rfl (wn (ns i)) rfl (RG.sx fun _=>by kernel_rfl) hrn u85 i85,RG.st fun _ _=>by kernel_rfl,RG.st fun _ _=>by kernel_rfl,RG.cert_idx rfl 144 26 27 rfl (.v (.slice (some ⟨ka,0,none⟩) N N)) (.int .i64 (i:Int)) (RG.sx fun _=>by kernel_rfl) (RG.sx fun _=>by kernel_rfl) (fun μ w=>at112 _ _ _ _ i hi w),RG.cert_loadB rfl ka (0+8*i) hka List.not_mem_nil 90 28 rfl (ws (xs i)++ws (ys i)) rfl (RG.sx fun _=>by kernel_rfl) hra u109 i109,RG.cert_callput3 1 rfl _ rfl 136 21 25 29 (.p 1 (353*i)) (nv (ns i)) (pv (xs i) (ys i)) (.tuple #[]) rfl (fun a w=>by kernel_rfl) (RG.sx fun _=>by kernel_rfl) (RG.sx fun _=>by kernel_rfl) (RG.sx fun _=>by kernel_rfl) (fun μ w ht hr=>hfill (μ 1) w ht hr),trivial⟩ ?_
   intro a13 w13 M13
   repeat refine wp_seq ?_
   refine M13.tx0 (F82b_6 i) [(0,(.v (.slice (some ⟨kn,0,none⟩) N N))),(1,(.v (.slice (some ⟨ka,0,none⟩) N N))),(4,(.p 0 0)),(5,(.s 1 N N)),(15,(.v (.int .i64 (N:Int)))),(16,(.v (.int .i64 ((i+1:Nat):Int))))] (by kernel_rfl) ⟨RG.cert_binc rfl .add 3 3 16 (.int .i64 (i:Int)) (.int .i64 1) (.int .i64 ((i+1:Nat):Int)) rfl rfl (RG.sx fun _=>by kernel_rfl) (fun w=>by kernel_rfl) (addn i 1 (by omega) (by omega)),RG.st fun _ _=>by kernel_rfl,trivial⟩ ?_
   intro a14 w14 M14
   have hS14:RG.St w w.heap.size [] [(RG.z 8),C2] [kr,kt] _:=M14.st
   have sl14:=M14.sl
   have f0_14:a14.tmps[0]? = some (.slice (some ⟨kn,0,none⟩) N N):=M14.at (s:=(.v (.slice (some ⟨kn,0,none⟩) N N))) (by kernel_rfl)
   have f1_14:a14.tmps[1]? = some (.slice (some ⟨ka,0,none⟩) N N):=M14.at (s:=(.v (.slice (some ⟨ka,0,none⟩) N N))) (by kernel_rfl)
   have f4_14:a14.tmps[4]? = some (.pointer (some ⟨kr,0,none⟩)):=M14.at (s:=(.p 0 0)) (by kernel_rfl)
   have f5_14:a14.tmps[5]? = some (.slice (some ⟨kt,0,none⟩) N N):=M14.at (s:=(.s 1 N N)) (by kernel_rfl)
   have f15_14:a14.tmps[15]? = some (.int .i64 (N:Int)):=M14.at (s:=(.v (.int .i64 (N:Int)))) (by kernel_rfl)
   have f16_14:a14.tmps[16]? = some (.int .i64 ((i+1:Nat):Int)):=M14.at (s:=(.v (.int .i64 ((i+1:Nat):Int)))) (by kernel_rfl)
   show ∃ n',_
   refine ⟨m - 1,by omega,i+1,by omega,sl14,f0_14,f1_14,f4_14,f5_14,f15_14,f16_14,?_⟩
   rw [hstepC i C2 (by rw [hCe];exact hC2e)]
   exact hS14
 · have hiN:i=N:=by omega
   rw [hiN] at hcc
   have hcN:=hcc.2
   have M20:RG.M w w.heap.size [] 62 [(RG.z 8),C] [kr,kt] [(0,(.v (.slice (some ⟨kn,0,none⟩) N N))),(1,(.v (.slice (some ⟨ka,0,none⟩) N N))),(4,(.p 0 0)),(5,(.s 1 N N)),(15,(.v (.int .i64 (N:Int)))),(16,(.v (.int .i64 (i:Int))))] a _:=⟨hSp,sl,⟨p0,p1,p4,p5,p15,p16,trivial⟩⟩
   repeat refine wp_seq ?_
   refine M20.tx0 F82c_3 [(4,(.p 0 0)),(5,(.s 1 N N)),(17,(.v (.bool false)))] (by kernel_rfl) ⟨RG.cert_bin rfl .lss 3 3 16 15 (.int .i64 (i:Int)) (.int .i64 (N:Int)) (.bool false) rfl rfl (RG.sx fun _=>by kernel_rfl) (RG.sx fun _=>by kernel_rfl) (fun w=>by kernel_rfl) (lssn_f hi),trivial⟩ ?_
   intro a21 w21 M21
   repeat refine wp_seq ?_
   refine wp_cond_false (M21.ev (by kernel_rfl)) ?_
   refine wp_exit ?_
   dsimp only [Exit.then,Exit.inBlock]
   rw [if_pos rfl]
   repeat refine wp_seq ?_
   refine M21.tx F82c_7 [(0,(tw ((0,0,0):T3 P)))] [] [(RG.z 8),C,(tw ((0,0,0):T3 P))] [(4,(.p 0 0)),(5,(.s 1 N N)),(7,(.p 2 0))] (by kernel_rfl) (by kernel_rfl) ⟨RG.cert_alloc 2 rfl rfl _ rfl 199 rfl (al117),trivial⟩ ?_
   intro j22 a22 w22 M22
   repeat refine wp_seq ?_
   refine M22.tx0 F82c_8 [(4,(.p 0 0)),(5,(.s 1 N N)),(7,(.p 2 0)),(8,(.v (.int .i64 256)))] (by kernel_rfl) ⟨RG.st fun _ _=>by kernel_rfl,trivial⟩ ?_
   intro a23 w23 M23
   have hS23:RG.St w w.heap.size [] [(RG.z 8),C,(tw ((0,0,0):T3 P))] [kr,kt,j22] _:=M23.st
   have sl23:=M23.sl
   have f4_23:a23.tmps[4]? = some (.pointer (some ⟨kr,0,none⟩)):=M23.at (s:=(.p 0 0)) (by kernel_rfl)
   have f5_23:a23.tmps[5]? = some (.slice (some ⟨kt,0,none⟩) N N):=M23.at (s:=(.s 1 N N)) (by kernel_rfl)
   have f7_23:a23.tmps[7]? = some (.pointer (some ⟨j22,0,none⟩)):=M23.at (s:=(.p 2 0)) (by kernel_rfl)
   have f8_23:a23.tmps[8]? = some (.int .i64 256):=M23.at (s:=(.v (.int .i64 256))) (by kernel_rfl)
   repeat refine wp_seq ?_
   refine wp_block ?_
   refine wp_loop_ghost (fun m a wr=>m≤257∧RG.Sl a 62∧a.tmps[4]? = some (.pointer (some ⟨kr,0,none⟩))∧a.tmps[5]? = some (.slice (some ⟨kt,0,none⟩) N N)∧a.tmps[7]? = some (.pointer (some ⟨j22,0,none⟩))∧a.tmps[8]? = some (.int .i64 ((m:Int) - 1))∧RG.St w w.heap.size [] [[.int .u64 0,.int .u64 0,.int .u64 0,.int .u64 0,.int .u64 0,.int .u64 0,.int .u64 0,.int .u64 0],C,tw (sumJ ns xs ys N (257 - m))] [kr,kt,j22] wr) 257 ⟨Nat.le_refl _,sl23,f4_23,f5_23,f7_23,f8_23,?_⟩ ?_
   · rw [Nat.sub_self,sumJ]
     exact hS23
   intro m b wr
   rintro ⟨hm,slb,q4,q5,q7,q8,hSq⟩
   generalize j22=kl at q7 hSq
   by_cases hz:m=0
   · subst hz
     rw [show 257 - 0=257 from rfl] at hSq
     obtain ⟨s,hse⟩:∃ s,sumJ ns xs ys N 257=s:=⟨_,rfl⟩
     rw [hse] at hSq
     have M40:RG.M w w.heap.size [] 62 [(RG.z 8),C,(tw s)] [kr,kt,kl] [(4,(.p 0 0)),(5,(.s 1 N N)),(7,(.p 2 0)),(8,(.v (.int .i64 (-1))))] b _:=⟨hSq,slb,⟨q4,q5,q7,q8,trivial⟩⟩
     repeat refine wp_seq ?_
     refine M40.tx0 F82e_9 [(4,(.p 0 0)),(7,(.p 2 0)),(33,(.v (.bool false)))] (by kernel_rfl) ⟨RG.st fun _ _=>by kernel_rfl,RG.st fun _ _=>by kernel_rfl,trivial⟩ ?_
     intro a41 w41 M41
     repeat refine wp_seq ?_
     refine wp_cond_false (M41.ev (by kernel_rfl)) ?_
     refine wp_exit ?_
     dsimp only [Exit.then,Exit.inBlock]
     rw [if_pos rfl]
     repeat refine wp_seq ?_
     refine M41.tx (F82e_19 s) [] [(0,2,(ws (s.1*(EC.inv s.2.2*EC.inv s.2.2))++(ws (s.2.1*(EC.inv s.2.2*EC.inv s.2.2)*EC.inv s.2.2))))] [(ws (s.1*(EC.inv s.2.2*EC.inv s.2.2))++(ws (s.2.1*(EC.inv s.2.2*EC.inv s.2.2)*EC.inv s.2.2))),C,(tw s)] [(4,(.p 0 0))] (by kernel_rfl) (by kernel_rfl) ⟨RG.ld u117 i117 (by kernel_rfl),RG.cl (ptJ_c F s) fun _ _=>by kernel_rfl,RG.pt i109 (by kernel_rfl),trivial⟩ ?_
     intro a42 w42 M42
     have hS42:RG.St w w.heap.size [] [(ws (s.1*(EC.inv s.2.2*EC.inv s.2.2))++(ws (s.2.1*(EC.inv s.2.2*EC.inv s.2.2)*EC.inv s.2.2))),C,(tw s)] [kr,kt,kl] _:=M42.st
     have sl42:=M42.sl
     have f4_42:a42.tmps[4]? = some (.pointer (some ⟨kr,0,none⟩)):=M42.at (s:=(.p 0 0)) (by kernel_rfl)
     refine wp_ret ?_
     refine bodyPost_ret (v:=pv (s.1*(EC.inv s.2.2*EC.inv s.2.2)) (s.2.1*(EC.inv s.2.2*EC.inv s.2.2)*EC.inv s.2.2)) (RG.results_row hS42 4 90 rfl 0 _ rfl f4_42 u109 i109) sl42.defers ?_
     exact ⟨_,rfl,hS42.bel.below,s,hse.symm,rfl⟩
   · obtain ⟨q,rfl⟩:∃ q,m=q+1:=⟨m - 1,by omega⟩
     have hq:q < 257:=by omega
     replace q8:b.tmps[8]? = some (.int .i64 (q:Int)):=by rw [q8];congr 2;omega
     obtain ⟨s,hse⟩:∃ s,sumJ ns xs ys N (257 - (q+1))=s:=⟨_,rfl⟩
     rw [hse] at hSq
     obtain ⟨s2,hs2e⟩:∃ t,twJ s=t:=⟨_,rfl⟩
     have hs2:Gives 137 #[tv s] (tv s2):=hs2e ▸ twJ_c F s
     have hnext:sumJ ns xs ys N (257 - q)=inn ns xs ys s2 q N:=by
      rw [show 257 - q=257 - (q+1)+1 by omega]
      show inn ns xs ys (twJ (sumJ ns xs ys N (257 - (q+1)))) (256 - (257 - (q+1))) N=_
      rw [hse,hs2e,show 256 - (257 - (q+1))=q by omega]
     have M30:RG.M w w.heap.size [] 62 [(RG.z 8),C,(tw s)] [kr,kt,kl] [(4,(.p 0 0)),(5,(.s 1 N N)),(7,(.p 2 0)),(8,(.v (.int .i64 (q:Int))))] b _:=⟨hSq,slb,⟨q4,q5,q7,q8,trivial⟩⟩
     repeat refine wp_seq ?_
     refine M30.tx0 (F82d_9 q) [(4,(.p 0 0)),(5,(.s 1 N N)),(7,(.p 2 0)),(8,(.v (.int .i64 (q:Int)))),(33,(.v (.bool true)))] (by kernel_rfl) ⟨RG.st fun _ _=>by kernel_rfl,RG.cert_binc rfl .geq 3 3 32 (.int .i64 (q:Int)) (.int .i64 0) (.bool true) rfl rfl (RG.sx fun _=>by kernel_rfl) (fun w=>by kernel_rfl) (geq0' q),trivial⟩ ?_
     intro a31 w31 M31
     repeat refine wp_seq ?_
     refine wp_cond_true (M31.ev (by kernel_rfl)) ?_
     refine wp_skip ?_
     refine wp_seq ?_
     refine wp_block ?_
     repeat refine wp_seq ?_
     refine M31.tx (F82d_11 s s2) [] [(2,2,(tw s2))] [(RG.z 8),C,(tw s2)] [(4,(.p 0 0)),(5,(.s 1 N N)),(7,(.p 2 0)),(8,(.v (.int .i64 (q:Int))))] (by kernel_rfl) (by kernel_rfl) ⟨RG.ld u117 i117 (by kernel_rfl),RG.cl (hs2) fun _ _=>by kernel_rfl,RG.pt i117 (by kernel_rfl),trivial⟩ ?_
     intro a32 w32 M32
     repeat refine wp_seq ?_
     refine M32.tx0 (F82d_12 N s) [(4,(.p 0 0)),(5,(.s 1 N N)),(7,(.p 2 0)),(8,(.v (.int .i64 (q:Int)))),(39,(.v (.int .i64 (N:Int)))),(40,(.v (.int .i64 0)))] (by kernel_rfl) ⟨RG.st fun _ _=>by kernel_rfl,RG.cert_one rfl 38 (.s 1 N N) (.int .i64 (N:Int)) rfl (RG.sx fun _=>by kernel_rfl) (fun a w=>by kernel_rfl) (fun μ w=>by kernel_rfl),RG.st fun _ _=>by kernel_rfl,trivial⟩ ?_
     intro a33 w33 M33
     have hS33:RG.St w w.heap.size [] [(RG.z 8),C,(tw s2)] [kr,kt,kl] _:=M33.st
     have sl33:=M33.sl
     have f4_33:a33.tmps[4]? = some (.pointer (some ⟨kr,0,none⟩)):=M33.at (s:=(.p 0 0)) (by kernel_rfl)
     have f5_33:a33.tmps[5]? = some (.slice (some ⟨kt,0,none⟩) N N):=M33.at (s:=(.s 1 N N)) (by kernel_rfl)
     have f7_33:a33.tmps[7]? = some (.pointer (some ⟨kl,0,none⟩)):=M33.at (s:=(.p 2 0)) (by kernel_rfl)
     have f8_33:a33.tmps[8]? = some (.int .i64 (q:Int)):=M33.at (s:=(.v (.int .i64 (q:Int)))) (by kernel_rfl)
     have f39_33:a33.tmps[39]? = some (.int .i64 (N:Int)):=M33.at (s:=(.v (.int .i64 (N:Int)))) (by kernel_rfl)
     have f40_33:a33.tmps[40]? = some (.int .i64 0):=M33.at (s:=(.v (.int .i64 0))) (by kernel_rfl)
     repeat refine wp_seq ?_
     refine wp_block ?_
     refine wp_loop_ghost (fun m a wr=>∃ i,i+m=N∧RG.Sl a 62∧a.tmps[4]? = some (.pointer (some ⟨kr,0,none⟩))∧a.tmps[5]? = some (.slice (some ⟨kt,0,none⟩) N N)∧a.tmps[7]? = some (.pointer (some ⟨kl,0,none⟩))∧a.tmps[8]? = some (.int .i64 (q:Int))∧a.tmps[39]? = some (.int .i64 (N:Int))∧a.tmps[40]? = some (.int .i64 (i:Int))∧RG.St w w.heap.size [] [[.int .u64 0,.int .u64 0,.int .u64 0,.int .u64 0,.int .u64 0,.int .u64 0,.int .u64 0,.int .u64 0],C,tw (inn ns xs ys s2 q i)] [kr,kt,kl] wr) N ⟨0,by omega,sl33,f4_33,f5_33,f7_33,f8_33,f39_33,f40_33,hS33⟩ ?_
     intro m' c wr
     rintro ⟨i,him,slc,r4,r5,r7,r8,r39,r40,hSr⟩
     obtain ⟨s,hse3⟩:∃ s,inn ns xs ys s2 q i=s:=⟨_,rfl⟩
     rw [hse3] at hSr
     by_cases hi:i < N
     · obtain ⟨h1,h2⟩:=hcN i hi
       obtain ⟨d,hde⟩:∃ d,digs (ns i) q=d:=⟨_,rfl⟩
       have hdig:C[353*i+96+q]? = some (.int .i8 d):=hde ▸ h1 q hq
       have hCne:C≠[]:=by intro h;rw [h] at hdig;simp at hdig
       have hstep:inn ns xs ys s2 q (i+1)=if d=0 then s else plJ s (tmJ (xs i) (ys i) d):=by rw [← hse3,← hde];rfl
       by_cases hdz:d=0
       · rw [if_pos hdz] at hstep
         rw [hdz] at hdig
         have M50:RG.M w w.heap.size [] 62 [(RG.z 8),C,(tw s)] [kr,kt,kl] [(4,(.p 0 0)),(5,(.s 1 N N)),(7,(.p 2 0)),(8,(.v (.int .i64 (q:Int)))),(39,(.v (.int .i64 (N:Int)))),(40,(.v (.int .i64 (i:Int))))] c _:=⟨hSr,slc,⟨r4,r5,r7,r8,r39,r40,trivial⟩⟩
         repeat refine wp_seq ?_
         refine M50.tx0 F82f_13 [(4,(.p 0 0)),(5,(.s 1 N N)),(7,(.p 2 0)),(8,(.v (.int .i64 (q:Int)))),(39,(.v (.int .i64 (N:Int)))),(40,(.v (.int .i64 (i:Int)))),(41,(.v (.bool true)))] (by kernel_rfl) ⟨RG.cert_bin rfl .lss 3 3 40 39 (.int .i64 (i:Int)) (.int .i64 (N:Int)) (.bool true) rfl rfl (RG.sx fun _=>by kernel_rfl) (RG.sx fun _=>by kernel_rfl) (fun w=>by kernel_rfl) (lssn_t hi),trivial⟩ ?_
         intro a51 w51 M51
         repeat refine wp_seq ?_
         refine wp_cond_true (M51.ev (by kernel_rfl)) ?_
         refine wp_skip ?_
         refine wp_seq ?_
         refine wp_block ?_
         repeat refine wp_seq ?_
         refine M51.tx0 (F82f_14 i) [(4,(.p 0 0)),(5,(.s 1 N N)),(7,(.p 2 0)),(8,(.v (.int .i64 (q:Int)))),(9,(.v (.int .i64 (i:Int)))),(39,(.v (.int .i64 (N:Int)))),(40,(.v (.int .i64 (i:Int))))] (by kernel_rfl) ⟨RG.st fun _ _=>by kernel_rfl,RG.st fun _ _=>by kernel_rfl,trivial⟩ ?_
         intro a52 w52 M52
         repeat refine wp_seq ?_
         refine M52.tx0 (F82f_15 N i q s) [(4,(.p 0 0)),(5,(.s 1 N N)),(7,(.p 2 0)),(8,(.v (.int .i64 (q:Int)))),(10,(.v (.int .i8 0))),(39,(.v (.int .i64 (N:Int)))),(40,(.v (.int .i64 (i:Int))))] (by kernel_rfl) ⟨RG.st fun _ _=>by kernel_rfl,RG.st fun _ _=>by kernel_rfl,RG.st fun _ _=>by kernel_rfl,RG.cert_idx rfl 196 43 44 rfl (.s 1 N N) (.int .i64 (i:Int)) (RG.sx fun _=>by kernel_rfl) (RG.sx fun _=>by kernel_rfl) (fun μ w=>at135 _ _ _ i hi w),RG.st fun _ _=>by kernel_rfl,RG.cert_idx rfl 202 47 45 rfl (.p 1 ((353*i)+96)) (.int .i64 (q:Int)) (RG.sx fun _=>by kernel_rfl) (RG.sx fun _=>by kernel_rfl) (fun μ w=>at138 _ _ q hq w),RG.cert_load1 rfl 1 (((353*i)+96)+q) _ rfl rfl (by kernel_rfl) 201 48 rfl (.int .i8 0) rfl (RG.sx fun _=>by kernel_rfl) hdig u137,RG.st fun _ _=>by kernel_rfl,trivial⟩ ?_
         intro a53 w53 M53
         repeat refine wp_seq ?_
         refine M53.tx0 F82f_16 [(4,(.p 0 0)),(5,(.s 1 N N)),(7,(.p 2 0)),(8,(.v (.int .i64 (q:Int)))),(39,(.v (.int .i64 (N:Int)))),(40,(.v (.int .i64 (i:Int)))),(51,(.v (.bool false)))] (by kernel_rfl) ⟨RG.st fun _ _=>by kernel_rfl,RG.cert_binc rfl .neq 201 201 50 (.int .i8 0) (.int .i8 0) (.bool false) rfl rfl (RG.sx fun _=>by kernel_rfl) (fun w=>by kernel_rfl) (ne8_f),trivial⟩ ?_
         intro a54 w54 M54
         repeat refine wp_seq ?_
         refine wp_cond_false (M54.ev (by kernel_rfl)) ?_
         refine wp_skip ?_
         repeat refine wp_seq ?_
         refine M54.tx0 (F82f_18 i) [(4,(.p 0 0)),(5,(.s 1 N N)),(7,(.p 2 0)),(8,(.v (.int .i64 (q:Int)))),(39,(.v (.int .i64 (N:Int)))),(40,(.v (.int .i64 ((i+1:Nat):Int))))] (by kernel_rfl) ⟨RG.cert_binc rfl .add 3 3 40 (.int .i64 (i:Int)) (.int .i64 1) (.int .i64 ((i+1:Nat):Int)) rfl rfl (RG.sx fun _=>by kernel_rfl) (fun w=>by kernel_rfl) (addn i 1 (by omega) (by omega)),RG.st fun _ _=>by kernel_rfl,trivial⟩ ?_
         intro a55 w55 M55
         have hS55:RG.St w w.heap.size [] [(RG.z 8),C,(tw s)] [kr,kt,kl] _:=M55.st
         have sl55:=M55.sl
         have f4_55:a55.tmps[4]? = some (.pointer (some ⟨kr,0,none⟩)):=M55.at (s:=(.p 0 0)) (by kernel_rfl)
         have f5_55:a55.tmps[5]? = some (.slice (some ⟨kt,0,none⟩) N N):=M55.at (s:=(.s 1 N N)) (by kernel_rfl)
         have f7_55:a55.tmps[7]? = some (.pointer (some ⟨kl,0,none⟩)):=M55.at (s:=(.p 2 0)) (by kernel_rfl)
         have f8_55:a55.tmps[8]? = some (.int .i64 (q:Int)):=M55.at (s:=(.v (.int .i64 (q:Int)))) (by kernel_rfl)
         have f39_55:a55.tmps[39]? = some (.int .i64 (N:Int)):=M55.at (s:=(.v (.int .i64 (N:Int)))) (by kernel_rfl)
         have f40_55:a55.tmps[40]? = some (.int .i64 ((i+1:Nat):Int)):=M55.at (s:=(.v (.int .i64 ((i+1:Nat):Int)))) (by kernel_rfl)
         show ∃ n',_
         exact ⟨m' - 1,by omega,i+1,by omega,sl55,f4_55,f5_55,f7_55,f8_55,f39_55,f40_55,by rw [hstep];exact hS55⟩
       · rw [if_neg hdz] at hstep
         have hodd:d % 2=1∧-15≤d∧d≤15:=by
          obtain ⟨_,_,-,hD⟩:=digs_DI (show ns i < 2 ^ 256 from hns i hi)
          rcases hD.ho q with h | h
          · exact absurd (hde ▸ h) hdz
          · exact hde ▸ h
         obtain ⟨s3,hs3e⟩:∃ t,tmJ (xs i) (ys i) d=t:=⟨_,rfl⟩
         obtain ⟨s4,hs4e⟩:∃ t,plJ s s3=t:=⟨_,rfl⟩
         have hs4:Gives 138 #[tv s,tv s3] (tv s4):=hs4e ▸ plJ_c F s s3
         have htm:∀ (k:Nat) (w:World),k < w.heap.size→w.rangeAt k 0 C→Calls Tryz.prog 139 #[.pointer (some ⟨k,353*i,none⟩),.int .i8 d] w (Ret fun r w'=>Below w.heap.size w w'∧r=tv s3):=fun k w hlt hr =>
          hs3e ▸ times_d F k (353*i) (xs i) (ys i) hodd.1 hodd.2 w hlt (fun qq hqq=>RG.range_sub hr (fun j hj=>by rw [Nat.add_zero];exact h2 qq j hqq (by rw [tw_length] at hj;exact hj)))
         rw [hs3e,hs4e] at hstep
         have M50:RG.M w w.heap.size [] 62 [(RG.z 8),C,(tw s)] [kr,kt,kl] [(4,(.p 0 0)),(5,(.s 1 N N)),(7,(.p 2 0)),(8,(.v (.int .i64 (q:Int)))),(39,(.v (.int .i64 (N:Int)))),(40,(.v (.int .i64 (i:Int))))] c _:=⟨hSr,slc,⟨r4,r5,r7,r8,r39,r40,trivial⟩⟩
         repeat refine wp_seq ?_
         refine M50.tx0 F82g_13 [(4,(.p 0 0)),(5,(.s 1 N N)),(7,(.p 2 0)),(8,(.v (.int .i64 (q:Int)))),(39,(.v (.int .i64 (N:Int)))),(40,(.v (.int .i64 (i:Int)))),(41,(.v (.bool true)))] (by kernel_rfl) ⟨RG.cert_bin rfl .lss 3 3 40 39 (.int .i64 (i:Int)) (.int .i64 (N:Int)) (.bool true) rfl rfl (RG.sx fun _=>by kernel_rfl) (RG.sx fun _=>by kernel_rfl) (fun w=>by kernel_rfl) (lssn_t hi),trivial⟩ ?_
         intro a51 w51 M51
         repeat refine wp_seq ?_
         refine wp_cond_true (M51.ev (by kernel_rfl)) ?_
         refine wp_skip ?_
         refine wp_seq ?_
         refine wp_block ?_
         repeat refine wp_seq ?_
         refine M51.tx0 (F82g_14 i) [(4,(.p 0 0)),(5,(.s 1 N N)),(7,(.p 2 0)),(8,(.v (.int .i64 (q:Int)))),(9,(.v (.int .i64 (i:Int)))),(39,(.v (.int .i64 (N:Int)))),(40,(.v (.int .i64 (i:Int))))] (by kernel_rfl) ⟨RG.st fun _ _=>by kernel_rfl,RG.st fun _ _=>by kernel_rfl,trivial⟩ ?_
         intro a52 w52 M52
         repeat refine wp_seq ?_
         refine M52.tx0 (F82g_15 N i q d s) [(4,(.p 0 0)),(5,(.s 1 N N)),(7,(.p 2 0)),(8,(.v (.int .i64 (q:Int)))),(9,(.v (.int .i64 (i:Int)))),(10,(.v (.int .i8 d))),(39,(.v (.int .i64 (N:Int)))),(40,(.v (.int .i64 (i:Int))))] (by kernel_rfl) ⟨RG.st fun _ _=>by kernel_rfl,RG.st fun _ _=>by kernel_rfl,RG.st fun _ _=>by kernel_rfl,RG.cert_idx rfl 196 43 44 rfl (.s 1 N N) (.int .i64 (i:Int)) (RG.sx fun _=>by kernel_rfl) (RG.sx fun _=>by kernel_rfl) (fun μ w=>at135 _ _ _ i hi w),RG.st fun _ _=>by kernel_rfl,RG.cert_idx rfl 202 47 45 rfl (.p 1 ((353*i)+96)) (.int .i64 (q:Int)) (RG.sx fun _=>by kernel_rfl) (RG.sx fun _=>by kernel_rfl) (fun μ w=>at138 _ _ q hq w),RG.cert_load1 rfl 1 (((353*i)+96)+q) _ rfl rfl (by kernel_rfl) 201 48 rfl (.int .i8 d) rfl (RG.sx fun _=>by kernel_rfl) hdig u137,RG.st fun _ _=>by kernel_rfl,trivial⟩ ?_
         intro a53 w53 M53
         repeat refine wp_seq ?_
         refine M53.tx0 (F82g_16 d) [(4,(.p 0 0)),(5,(.s 1 N N)),(7,(.p 2 0)),(8,(.v (.int .i64 (q:Int)))),(9,(.v (.int .i64 (i:Int)))),(10,(.v (.int .i8 d))),(39,(.v (.int .i64 (N:Int)))),(40,(.v (.int .i64 (i:Int)))),(51,(.v (.bool true)))] (by kernel_rfl) ⟨RG.st fun _ _=>by kernel_rfl,RG.cert_binc rfl .neq 201 201 50 (.int .i8 d) (.int .i8 0) (.bool true) rfl rfl (RG.sx fun _=>by kernel_rfl) (fun w=>by kernel_rfl) (ne8_t hdz),trivial⟩ ?_
         intro a54 w54 M54
         repeat refine wp_seq ?_
         refine wp_cond_true (M54.ev (by kernel_rfl)) ?_
         repeat refine wp_seq ?_
         refine M54.dr (by kernel_rfl) (F82g_17 N i d s s3 s4) [] [(2,7,(tw s4))] [(RG.z 8),C,(tw s4)] [(4,(.p 0 0)),(5,(.s 1 N N)),(7,(.p 2 0)),(8,(.v (.int .i64 (q:Int)))),(39,(.v (.int .i64 (N:Int)))),(40,(.v (.int .i64 (i:Int))))] (by kernel_rfl) (by kernel_rfl) ⟨RG.ld u117 i117 (by kernel_rfl),RG.st fun _ _=>by kernel_rfl,RG.st fun _ _=>by kernel_rfl,RG.cert_idx rfl 196 53 54 rfl (.s 1 N N) (.int .i64 (i:Int)) (RG.sx fun _=>by kernel_rfl) (RG.sx fun _=>by kernel_rfl) (fun μ w=>at135 _ _ _ i hi w),RG.st fun _ _=>by kernel_rfl,RG.cert_callM2 rfl 1 _ rfl rfl (by kernel_rfl) hCne 139 55 56 (.p 1 (353*i)) (.int .i8 d) (tv s3) rfl (fun a w=>by kernel_rfl) (RG.sx fun _=>by kernel_rfl) (RG.sx fun _=>by kernel_rfl) (fun μ w hlt hr=>htm (μ 1) w hlt hr),RG.cl (hs4) fun _ _=>by kernel_rfl,RG.pt i117 (by kernel_rfl),trivial⟩ ?_
         intro a55 w55 M55
         repeat refine wp_seq ?_
         refine M55.tx0 (F82g_18 i) [(4,(.p 0 0)),(5,(.s 1 N N)),(7,(.p 2 0)),(8,(.v (.int .i64 (q:Int)))),(39,(.v (.int .i64 (N:Int)))),(40,(.v (.int .i64 ((i+1:Nat):Int))))] (by kernel_rfl) ⟨RG.cert_binc rfl .add 3 3 40 (.int .i64 (i:Int)) (.int .i64 1) (.int .i64 ((i+1:Nat):Int)) rfl rfl (RG.sx fun _=>by kernel_rfl) (fun w=>by kernel_rfl) (addn i 1 (by omega) (by omega)),RG.st fun _ _=>by kernel_rfl,trivial⟩ ?_
         intro a56 w56 M56
         have hS56:RG.St w w.heap.size [] [(RG.z 8),C,(tw s4)] [kr,kt,kl] _:=M56.st
         have sl56:=M56.sl
         have f4_56:a56.tmps[4]? = some (.pointer (some ⟨kr,0,none⟩)):=M56.at (s:=(.p 0 0)) (by kernel_rfl)
         have f5_56:a56.tmps[5]? = some (.slice (some ⟨kt,0,none⟩) N N):=M56.at (s:=(.s 1 N N)) (by kernel_rfl)
         have f7_56:a56.tmps[7]? = some (.pointer (some ⟨kl,0,none⟩)):=M56.at (s:=(.p 2 0)) (by kernel_rfl)
         have f8_56:a56.tmps[8]? = some (.int .i64 (q:Int)):=M56.at (s:=(.v (.int .i64 (q:Int)))) (by kernel_rfl)
         have f39_56:a56.tmps[39]? = some (.int .i64 (N:Int)):=M56.at (s:=(.v (.int .i64 (N:Int)))) (by kernel_rfl)
         have f40_56:a56.tmps[40]? = some (.int .i64 ((i+1:Nat):Int)):=M56.at (s:=(.v (.int .i64 ((i+1:Nat):Int)))) (by kernel_rfl)
         show ∃ n',_
         exact ⟨m' - 1,by omega,i+1,by omega,sl56,f4_56,f5_56,f7_56,f8_56,f39_56,f40_56,by rw [hstep];exact hS56⟩
     · have hiN3:i=N:=by omega
       rw [hiN3] at hse3
       rw [hse3] at hnext
       have M60:RG.M w w.heap.size [] 62 [(RG.z 8),C,(tw s)] [kr,kt,kl] [(4,(.p 0 0)),(5,(.s 1 N N)),(7,(.p 2 0)),(8,(.v (.int .i64 (q:Int)))),(39,(.v (.int .i64 (N:Int)))),(40,(.v (.int .i64 (i:Int))))] c _:=⟨hSr,slc,⟨r4,r5,r7,r8,r39,r40,trivial⟩⟩
       repeat refine wp_seq ?_
       refine M60.tx0 F82h_13 [(4,(.p 0 0)),(5,(.s 1 N N)),(7,(.p 2 0)),(8,(.v (.int .i64 (q:Int)))),(41,(.v (.bool false)))] (by kernel_rfl) ⟨RG.cert_bin rfl .lss 3 3 40 39 (.int .i64 (i:Int)) (.int .i64 (N:Int)) (.bool false) rfl rfl (RG.sx fun _=>by kernel_rfl) (RG.sx fun _=>by kernel_rfl) (fun w=>by kernel_rfl) (lssn_f hi),trivial⟩ ?_
       intro a61 w61 M61
       repeat refine wp_seq ?_
       refine wp_cond_false (M61.ev (by kernel_rfl)) ?_
       refine wp_exit ?_
       dsimp only [Exit.then,Exit.inBlock]
       rw [if_pos rfl]
       repeat refine wp_seq ?_
       refine M61.tx0 (F82h_10 q) [(4,(.p 0 0)),(5,(.s 1 N N)),(7,(.p 2 0)),(8,(.v (.int .i64 ((q:Int) - 1))))] (by kernel_rfl) ⟨RG.st fun _ _=>by kernel_rfl,RG.cert_binc rfl .sub 3 3 34 (.int .i64 (q:Int)) (.int .i64 1) (.int .i64 ((q:Int) - 1)) rfl rfl (RG.sx fun _=>by kernel_rfl) (fun w=>by kernel_rfl) (sub1' q (by omega)),RG.st fun _ _=>by kernel_rfl,trivial⟩ ?_
       intro a62 w62 M62
       have hS62:RG.St w w.heap.size [] [(RG.z 8),C,(tw s)] [kr,kt,kl] _:=M62.st
       have sl62:=M62.sl
       have f4_62:a62.tmps[4]? = some (.pointer (some ⟨kr,0,none⟩)):=M62.at (s:=(.p 0 0)) (by kernel_rfl)
       have f5_62:a62.tmps[5]? = some (.slice (some ⟨kt,0,none⟩) N N):=M62.at (s:=(.s 1 N N)) (by kernel_rfl)
       have f7_62:a62.tmps[7]? = some (.pointer (some ⟨kl,0,none⟩)):=M62.at (s:=(.p 2 0)) (by kernel_rfl)
       have f8_62:a62.tmps[8]? = some (.int .i64 ((q:Int) - 1)):=M62.at (s:=(.v (.int .i64 ((q:Int) - 1)))) (by kernel_rfl)
       show ∃ n',_
       exact ⟨q,Nat.lt_succ_self q,by omega,sl62,f4_62,f5_62,f7_62,f8_62,by rw [hnext];exact hS62⟩
end Go.Proofs.YtmkllfekhehagadGreat
set_option linter.unusedVariables false
set_option linter.unusedSimpArgs false
namespace Go.Proofs.YtmkllfekhehagadGreat
open Go.RowKit Go.Sort
variable {P:Nat} [NeZero P]
theorem ws_one (h:Fld P):([.int .u64 1,.int .u64 0,.int .u64 0,.int .u64 0]:List Value)=ws (1:Fin P):=by
 have h:=one_fv h
 unfold nv at h
 injection h with h
 exact congrArg Array.toList h
def rt (m:Fin P):Option (Fin P):=if m.val ^ (P / 4+1) % P*(m.val ^ (P / 4+1) % P) % P=m.val then some (Fin.ofNat P (even P (m.val ^ (P / 4+1) % P))) else none
omit [NeZero P] in
theorem even_lt {r:Nat} (hP:0 < P) (h:r < P):even P r < P:=by unfold even;split <;> omega
theorem rt_four {m y:Fin P} {v:Value} (h:rt m=some y) (hF:Four v (even P (m.val ^ (P / 4+1) % P))):v=fv y:=by
 unfold rt at h
 split at h
 · obtain rfl:=Option.some.inj h
   have:(Fin.ofNat P (even P (m.val ^ (P / 4+1) % P))).val=even P (m.val ^ (P / 4+1) % P):=Nat.mod_eq_of_lt (even_lt (Nat.pos_of_neZero P) (Nat.mod_lt _ (Nat.pos_of_neZero P)))
   show v=nv _
   rw [this]
   exact hF.nv
 · cases h
theorem rt_yes {m y:Fin P} (h:rt m=some y):m.val ^ (P / 4+1) % P*(m.val ^ (P / 4+1) % P) % P=m.val:=by
 unfold rt at h
 split at h
 · assumption
 · cases h
theorem rt_no {m:Fin P} (h:rt m=none):¬ m.val ^ (P / 4+1) % P*(m.val ^ (P / 4+1) % P) % P=m.val:=by
 unfold rt at h
 split at h
 · cases h
 · assumption
theorem RootR.val {m:Fin P} {e:Value} (h:RootR P m.val (m.val ^ (P / 4+1) % P) e):(∀ y,rt m=some y→e=.tuple #[fv y,.bool true])∧(rt m=none→e=.tuple #[fv (0:Fin P),.bool false]):=by
 obtain ⟨ya,yb,yc,yd,ok,rfl,h1,h2,h3⟩:=h
 refine ⟨fun y hy=>?_,fun hn=>?_⟩
 · cases ok with
   | true=>rw [rt_four hy (h1 rfl).2]
   | false=>exact absurd (rt_yes hy) (h2 rfl)
 · cases ok with
   | true=>exact absurd (h1 rfl).1 (rt_no hn)
   | false =>
    obtain ⟨rfl,rfl,rfl,rfl⟩:=h3 rfl
    rw [← zero_fv]
    rfl
theorem Root_y (h:Fld P) {m y:Fin P} (e:rt m=some y):Gives 189 #[gv0,fv m] (.tuple #[fv y,.bool true]):=fun w =>
 (Root_any 4294968273 0 0 P _ m.val h.gap h.p4 (h.four m) w).mono (by rintro e' w' ⟨v,rfl,hb,hF⟩;exact ⟨_,rfl,hb,hF.val.1 y e⟩)
theorem Root_n (h:Fld P) {m:Fin P} (e:rt m=none):Gives 189 #[gv0,fv m] (.tuple #[fv (0:Fin P),.bool false]):=fun w =>
 (Root_any 4294968273 0 0 P _ m.val h.gap h.p4 (h.four m) w).mono (by rintro e' w' ⟨v,rfl,hb,hF⟩;exact ⟨_,rfl,hb,hF.val.2 e⟩)
end Go.Proofs.YtmkllfekhehagadGreat
namespace Go.Proofs.YtmkllfekhehagadGreat
open Go.RowKit Go.Sort
variable {P:Nat} [NeZero P]
def gl0:List Value:=[.int .u64 4294968273,.int .u64 0,.int .u64 0,.int .u64 0]
def F99y_0 (x:Fin P):List RG.It:=[.m 1 [] 0,.m 2 [] 1,.x 3 [] (.bool false)]
def F99y_1:List RG.It:=[.c 8 [] gv0,.m 4 [] 2,.u [(4,1),(8,0)] 2]
def F99y_2 (x c1 c2 c3:Fin P):List RG.It:=[.x 9 [] gv0,.x 10 [] gv0,.x 11 [] gv0,.x 12 [] (fv x),.x 13 [] (fv x),.c 14 [(11,2),(12,3),(13,4)] (fv c1),.x 15 [] (fv x),.c 16 [(10,1),(14,5),(15,6)] (fv c2),.x 17 [] (fv (7:Fin P)),.c 18 [(9,0),(16,7),(17,8)] (fv c3),.m 5 [] 3,.u [(5,10),(18,9)] 3]
def F99y_3 (x y c3:Fin P):List RG.It:=[.x 20 [] gv0,.x 21 [] (fv c3),.c 22 [(20,0),(21,1)] (.tuple #[(fv y),(.bool true)]),.x 19 [(22,2)] (.tuple #[(fv y),(.bool true)]),.x 23 [(19,3)] (fv y),.x 24 [(19,3)] (.bool true),.m 6 [] 4,.u [(6,6),(23,4)] 4,.x 7 [(24,5)] (.bool true)]
def F99y_4 (x:Fin P):List RG.It:=[.x 25 [] (.bool true),.x 26 [(25,0)] (.bool false)]
def F99y_6 (x y:Fin P):List RG.It:=[.x 28 [] (fv x),.x 29 [] (fv y),.x 30 [(28,0),(29,1)] (pv x y),.u [(30,2)] 1,.x 3 [] (.bool true)]
set_option maxHeartbeats 2000000 in
set_option maxRecDepth 100000 in
theorem above_y_c (C:Fld P) (x y:Fin P)(hr:rt (x*x*x+7)=some y) :Gives 163 #[(fv x)] (.tuple #[pv x y,.bool true]):=by
 intro w
 obtain ⟨c1,hc1⟩:∃ c,c=x*x:=⟨_,rfl⟩
 obtain ⟨c2,hc2⟩:∃ c,c=c1*x:=⟨_,rfl⟩
 obtain ⟨c3,hc3⟩:∃ c,c=c2+(7:Fin P):=⟨_,rfl⟩
 have hfin:((.tuple #[(pv x y),(.bool true)]):Value)=(.tuple #[pv x y,.bool true]):=by
  subst_vars;rfl
 rw [← hfin]
 go_enter Tryz.func163,Tryz.ntmps163
 refine RG.M.enter [(0,(.v (fv x)))] 31 (by kernel_rfl) ?_
 intro a0 M0
 repeat refine wp_seq ?_
 refine M0.tx (F99y_0 x) [(0,(ws x)),(1,(RG.z 8))] [] [(ws x),(RG.z 8)] [(1,(.p 0 0)),(2,(.p 1 0)),(3,(.v (.bool false)))] (by kernel_rfl) (by kernel_rfl) ⟨RG.mk 0 51 fun _ _=>by kernel_rfl,RG.mk 1 90 fun _ _=>by kernel_rfl,RG.st fun _ _=>by kernel_rfl,trivial⟩ ?_
 intro j1 i1 a1 w1 M1
 repeat refine wp_seq ?_
 refine M1.tx F99y_1 [(1,(RG.z 4))] [(2,2,gl0)] [(ws x),(RG.z 8),gl0] [(1,(.p 0 0)),(2,(.p 1 0)),(3,(.v (.bool false))),(4,(.p 2 0))] (by kernel_rfl) (by kernel_rfl) ⟨RG.cl (Coordinates_c) fun _ _=>by kernel_rfl,RG.mk 2 163 fun _ _=>by kernel_rfl,RG.pt i79 (by kernel_rfl),trivial⟩ ?_
 intro j2 a2 w2 M2
 repeat refine wp_seq ?_
 refine M2.dr (by kernel_rfl) (F99y_2 x c1 c2 c3) [(10,(RG.z 4))] [(3,11,(ws c3))] [(ws x),(RG.z 8),gl0,(ws c3)] [(1,(.p 0 0)),(2,(.p 1 0)),(3,(.v (.bool false))),(4,(.p 2 0)),(5,(.p 3 0))] (by kernel_rfl) (by kernel_rfl) ⟨RG.ld u79 i79 (by kernel_rfl),RG.ld u79 i79 (by kernel_rfl),RG.ld u79 i79 (by kernel_rfl),RG.ld u85 i85 (by kernel_rfl),RG.ld u85 i85 (by kernel_rfl),RG.cl ((PTimes_c C x x).e hc1) fun _ _=>by kernel_rfl,RG.ld u85 i85 (by kernel_rfl),RG.cl ((PTimes_c C c1 x).e hc2) fun _ _=>by kernel_rfl,RG.se (seven_fv C) fun _ _=>by kernel_rfl,RG.cl ((PPlus_c C c2 (7:Fin P)).e hc3) fun _ _=>by kernel_rfl,RG.mk 3 51 fun _ _=>by kernel_rfl,RG.pt i85 (by kernel_rfl),trivial⟩ ?_
 intro j3 a3 w3 M3
 repeat refine wp_seq ?_
 refine M3.tx (F99y_3 x y c3) [(6,(RG.z 4))] [(4,7,(ws y))] [(ws x),(RG.z 8),gl0,(ws c3),(ws y)] [(1,(.p 0 0)),(2,(.p 1 0)),(3,(.v (.bool false))),(6,(.p 4 0)),(7,(.v (.bool true)))] (by kernel_rfl) (by kernel_rfl) ⟨RG.ld u79 i79 (by kernel_rfl),RG.ld u85 i85 (by kernel_rfl),RG.cl (f:=189) (args:=#[gv0,(fv c3)]) (v:=(.tuple #[(fv y),(.bool true)])) (Root_y C (by subst_vars;exact hr)) fun _ _=>by kernel_rfl,RG.st fun _ _=>by kernel_rfl,RG.st fun _ _=>by kernel_rfl,RG.st fun _ _=>by kernel_rfl,RG.mk 4 51 fun _ _=>by kernel_rfl,RG.pt i85 (by kernel_rfl),RG.st fun _ _=>by kernel_rfl,trivial⟩ ?_
 intro j4 a4 w4 M4
 repeat refine wp_seq ?_
 refine M4.tx0 (F99y_4 x) [(1,(.p 0 0)),(2,(.p 1 0)),(3,(.v (.bool false))),(6,(.p 4 0)),(26,(.v (.bool false)))] (by kernel_rfl) ⟨RG.st fun _ _=>by kernel_rfl,RG.st fun _ _=>by kernel_rfl,trivial⟩ ?_
 intro a5 w5 M5
 repeat refine wp_seq ?_
 refine wp_cond_false (M5.ev (by kernel_rfl)) ?_
 refine wp_skip ?_
 repeat refine wp_seq ?_
 refine M5.tx (F99y_6 x y) [] [(1,3,(ws x++(ws y)))] [(ws x),(ws x++(ws y)),gl0,(ws c3),(ws y)] [(2,(.p 1 0)),(3,(.v (.bool true)))] (by kernel_rfl) (by kernel_rfl) ⟨RG.ld u85 i85 (by kernel_rfl),RG.ld u85 i85 (by kernel_rfl),RG.st fun _ _=>by kernel_rfl,RG.pt i109 (by kernel_rfl),RG.st fun _ _=>by kernel_rfl,trivial⟩ ?_
 intro a6 w6 M6
 refine wp_ret ?_
 refine bodyPost_ret (v:=(.tuple #[(pv x y),(.bool true)])) (RG.results_rt M6.st 2 3 90 rfl 1 _ rfl (M6.at (s:=(.p 1 0)) (by kernel_rfl)) _ (M6.at (s:=(.v (.bool true))) (by kernel_rfl)) u109 i109) M6.sl.defers ?_
 exact ⟨_,rfl,M6.st.bel.below,rfl⟩
def F99n_0 (x:Fin P):List RG.It:=[.m 1 [] 0,.m 2 [] 1,.x 3 [] (.bool false)]
def F99n_1:List RG.It:=[.c 8 [] gv0,.m 4 [] 2,.u [(4,1),(8,0)] 2]
def F99n_2 (x c1 c2 c3:Fin P):List RG.It:=[.x 9 [] gv0,.x 10 [] gv0,.x 11 [] gv0,.x 12 [] (fv x),.x 13 [] (fv x),.c 14 [(11,2),(12,3),(13,4)] (fv c1),.x 15 [] (fv x),.c 16 [(10,1),(14,5),(15,6)] (fv c2),.x 17 [] (fv (7:Fin P)),.c 18 [(9,0),(16,7),(17,8)] (fv c3),.m 5 [] 3,.u [(5,10),(18,9)] 3]
def F99n_3 (x c3:Fin P):List RG.It:=[.x 20 [] gv0,.x 21 [] (fv c3),.c 22 [(20,0),(21,1)] (.tuple #[(fv (0:Fin P)),(.bool false)]),.x 19 [(22,2)] (.tuple #[(fv (0:Fin P)),(.bool false)]),.x 23 [(19,3)] (fv (0:Fin P)),.x 24 [(19,3)] (.bool false),.m 6 [] 4,.u [(6,6),(23,4)] 4,.x 7 [(24,5)] (.bool false)]
def F99n_4 (x:Fin P):List RG.It:=[.x 25 [] (.bool false),.x 26 [(25,0)] (.bool true)]
def F99n_5 (x:Fin P):List RG.It:=[.x 27 [] (pv (0:Fin P) (0:Fin P)),.u [(27,0)] 1,.x 3 [] (.bool false)]
set_option maxHeartbeats 2000000 in
set_option maxRecDepth 100000 in
theorem above_n_c (C:Fld P) (x:Fin P)(hr:rt (x*x*x+7)=none) :Gives 163 #[(fv x)] (.tuple #[pv (0:Fin P) 0,.bool false]):=by
 intro w
 obtain ⟨c1,hc1⟩:∃ c,c=x*x:=⟨_,rfl⟩
 obtain ⟨c2,hc2⟩:∃ c,c=c1*x:=⟨_,rfl⟩
 obtain ⟨c3,hc3⟩:∃ c,c=c2+(7:Fin P):=⟨_,rfl⟩
 have hfin:((.tuple #[(pv (0:Fin P) (0:Fin P)),(.bool false)]):Value)=(.tuple #[pv (0:Fin P) 0,.bool false]):=by
  subst_vars;rfl
 rw [← hfin]
 go_enter Tryz.func163,Tryz.ntmps163
 refine RG.M.enter [(0,(.v (fv x)))] 31 (by kernel_rfl) ?_
 intro a0 M0
 repeat refine wp_seq ?_
 refine M0.tx (F99n_0 x) [(0,(ws x)),(1,(RG.z 8))] [] [(ws x),(RG.z 8)] [(1,(.p 0 0)),(2,(.p 1 0)),(3,(.v (.bool false)))] (by kernel_rfl) (by kernel_rfl) ⟨RG.mk 0 51 fun _ _=>by kernel_rfl,RG.mk 1 90 fun _ _=>by kernel_rfl,RG.st fun _ _=>by kernel_rfl,trivial⟩ ?_
 intro j1 i1 a1 w1 M1
 repeat refine wp_seq ?_
 refine M1.tx F99n_1 [(1,(RG.z 4))] [(2,2,gl0)] [(ws x),(RG.z 8),gl0] [(1,(.p 0 0)),(2,(.p 1 0)),(3,(.v (.bool false))),(4,(.p 2 0))] (by kernel_rfl) (by kernel_rfl) ⟨RG.cl (Coordinates_c) fun _ _=>by kernel_rfl,RG.mk 2 163 fun _ _=>by kernel_rfl,RG.pt i79 (by kernel_rfl),trivial⟩ ?_
 intro j2 a2 w2 M2
 repeat refine wp_seq ?_
 refine M2.dr (by kernel_rfl) (F99n_2 x c1 c2 c3) [(10,(RG.z 4))] [(3,11,(ws c3))] [(ws x),(RG.z 8),gl0,(ws c3)] [(2,(.p 1 0)),(3,(.v (.bool false))),(4,(.p 2 0)),(5,(.p 3 0))] (by kernel_rfl) (by kernel_rfl) ⟨RG.ld u79 i79 (by kernel_rfl),RG.ld u79 i79 (by kernel_rfl),RG.ld u79 i79 (by kernel_rfl),RG.ld u85 i85 (by kernel_rfl),RG.ld u85 i85 (by kernel_rfl),RG.cl ((PTimes_c C x x).e hc1) fun _ _=>by kernel_rfl,RG.ld u85 i85 (by kernel_rfl),RG.cl ((PTimes_c C c1 x).e hc2) fun _ _=>by kernel_rfl,RG.se (seven_fv C) fun _ _=>by kernel_rfl,RG.cl ((PPlus_c C c2 (7:Fin P)).e hc3) fun _ _=>by kernel_rfl,RG.mk 3 51 fun _ _=>by kernel_rfl,RG.pt i85 (by kernel_rfl),trivial⟩ ?_
 intro j3 a3 w3 M3
 repeat refine wp_seq ?_
 refine M3.tx (F99n_3 x c3) [(6,(RG.z 4))] [(4,7,(ws (0:Fin P)))] [(ws x),(RG.z 8),gl0,(ws c3),(ws (0:Fin P))] [(2,(.p 1 0)),(3,(.v (.bool false))),(7,(.v (.bool false)))] (by kernel_rfl) (by kernel_rfl) ⟨RG.ld u79 i79 (by kernel_rfl),RG.ld u85 i85 (by kernel_rfl),RG.cl (f:=189) (args:=#[gv0,(fv c3)]) (v:=(.tuple #[(fv (0:Fin P)),(.bool false)])) (Root_n C (by subst_vars;exact hr)) fun _ _=>by kernel_rfl,RG.st fun _ _=>by kernel_rfl,RG.st fun _ _=>by kernel_rfl,RG.st fun _ _=>by kernel_rfl,RG.mk 4 51 fun _ _=>by kernel_rfl,RG.pt i85 (by kernel_rfl),RG.st fun _ _=>by kernel_rfl,trivial⟩ ?_
 intro j4 a4 w4 M4
 repeat refine wp_seq ?_
 refine M4.tx0 (F99n_4 x) [(2,(.p 1 0)),(3,(.v (.bool false))),(26,(.v (.bool true)))] (by kernel_rfl) ⟨RG.st fun _ _=>by kernel_rfl,RG.st fun _ _=>by kernel_rfl,trivial⟩ ?_
 intro a5 w5 M5
 repeat refine wp_seq ?_
 refine wp_cond_true (M5.ev (by kernel_rfl)) ?_
 repeat refine wp_seq ?_
 refine M5.tx (F99n_5 x) [] [(1,1,(ws (0:Fin P)++(ws (0:Fin P))))] [(ws x),(ws (0:Fin P)++(ws (0:Fin P))),gl0,(ws c3),(ws (0:Fin P))] [(2,(.p 1 0)),(3,(.v (.bool false)))] (by kernel_rfl) (by kernel_rfl) ⟨RG.se (zero_pv (P:=P)) fun _ _=>by kernel_rfl,RG.pt i109 (by kernel_rfl),RG.st fun _ _=>by kernel_rfl,trivial⟩ ?_
 intro a6 w6 M6
 refine wp_ret ?_
 refine bodyPost_ret (v:=(.tuple #[(pv (0:Fin P) (0:Fin P)),(.bool false)])) (RG.results_rt M6.st 2 3 90 rfl 1 _ rfl (M6.at (s:=(.p 1 0)) (by kernel_rfl)) _ (M6.at (s:=(.v (.bool false))) (by kernel_rfl)) u109 i109) M6.sl.defers ?_
 exact ⟨_,rfl,M6.st.bel.below,rfl⟩
def F77_0:List RG.It:=[.m 1 [] 0,.m 2 [] 1]
def F77_1 (x y c1:Fin P):List RG.It:=[.s 3 [] (.p 0 0),.x 4 [(3,0)] (fv x),.c 5 [] gv0,.x 6 [] (fv (0:Fin P)),.s 7 [] (.p 0 4),.x 8 [(7,4)] (fv y),.c 9 [(5,2),(6,3),(8,5)] (fv c1),.x 10 [(4,1),(9,6)] (pv x c1),.u [(10,7)] 1]
set_option maxHeartbeats 2000000 in
set_option maxRecDepth 100000 in
theorem popp_c (C:Fld P) (x y:Fin P):Gives 164 #[(pv x y)] (pv x (0 - y)):=by
 intro w
 obtain ⟨c1,hc1⟩:∃ c,c=(0:Fin P) - y:=⟨_,rfl⟩
 have hfin:((pv x c1):Value)=(pv x (0 - y)):=by
  subst_vars;rfl
 rw [← hfin]
 go_enter Tryz.func164,Tryz.ntmps164
 refine RG.M.enter [(0,(.v (pv x y)))] 11 (by kernel_rfl) ?_
 intro a0 M0
 repeat refine wp_seq ?_
 refine M0.tx F77_0 [(0,(ws x++(ws y))),(1,(RG.z 8))] [] [(ws x++(ws y)),(RG.z 8)] [(1,(.p 0 0)),(2,(.p 1 0))] (by kernel_rfl) (by kernel_rfl) ⟨RG.mk 0 90 fun _ _=>by kernel_rfl,RG.mk 1 90 fun _ _=>by kernel_rfl,trivial⟩ ?_
 intro j1 i1 a1 w1 M1
 repeat refine wp_seq ?_
 refine M1.dr (by kernel_rfl) (F77_1 x y c1) [] [(1,8,(ws x++(ws c1)))] [(ws x++(ws y)),(ws x++(ws c1))] [(2,(.p 1 0))] (by kernel_rfl) (by kernel_rfl) ⟨RG.st fun _ _=>by kernel_rfl,RG.ld u85 i85 (by kernel_rfl),RG.cl (Coordinates_c) fun _ _=>by kernel_rfl,RG.se (zero_fv (P:=P)) fun _ _=>by kernel_rfl,RG.st fun _ _=>by kernel_rfl,RG.ld u85 i85 (by kernel_rfl),RG.cl ((PMinus_c C (0:Fin P) y).e hc1) fun _ _=>by kernel_rfl,RG.st fun _ _=>by kernel_rfl,RG.pt i109 (by kernel_rfl),trivial⟩ ?_
 intro a2 w2 M2
 refine wp_ret ?_
 refine bodyPost_ret (v:=(pv x c1)) (RG.results_row M2.st 2 90 rfl 1 _ rfl (M2.at (s:=(.p 1 0)) (by kernel_rfl)) u109 i109) M2.sl.defers ?_
 exact ⟨_,rfl,M2.st.bel.below,rfl⟩
end Go.Proofs.YtmkllfekhehagadGreat
namespace Go.Proofs.YtmkllfekhehagadGreat
open Go.RowKit Go.Sort Go.Deep
theorem readS_of {w W:World} {k0 k1 k6 a b c d g0 g1 g2:Nat} (h:Kept w k0 [⟨k6,0,a,b,c,d⟩,⟨k0,0,g0,g1,g2,0⟩,⟨k1,0,0,0,0,0⟩] W):W.cell? ⟨k6,0,none⟩=some (.int .u64 (a:Int))∧W.cell? ⟨k6,1,none⟩=some (.int .u64 (b:Int))∧W.cell? ⟨k6,2,none⟩=some (.int .u64 (c:Int))∧W.cell? ⟨k6,3,none⟩=some (.int .u64 (d:Int))∧W.cell? ⟨k0,0,none⟩=some (.int .u64 (g0:Int))∧W.cell? ⟨k0,1,none⟩=some (.int .u64 (g1:Int))∧W.cell? ⟨k0,2,none⟩=some (.int .u64 (g2:Int))∧W.cell? ⟨k0,3,none⟩=some (.int .u64 0)∧Kept w k0 [⟨k6,0,a,b,c,d⟩,⟨k0,0,g0,g1,g2,0⟩,⟨k1,0,0,0,0,0⟩] W:=⟨h.head.c0,h.head.c1,h.head.c2,h.head.c3,h.tail.head.c0,h.tail.head.c1,h.tail.head.c2,h.tail.head.c3,h⟩
theorem readS_get {w W:World} {k0 k1 k6 a b c d g0 g1 g2:Nat} (h:W.cell? ⟨k6,0,none⟩=some (.int .u64 (a:Int))∧W.cell? ⟨k6,1,none⟩=some (.int .u64 (b:Int))∧W.cell? ⟨k6,2,none⟩=some (.int .u64 (c:Int))∧W.cell? ⟨k6,3,none⟩=some (.int .u64 (d:Int))∧W.cell? ⟨k0,0,none⟩=some (.int .u64 (g0:Int))∧W.cell? ⟨k0,1,none⟩=some (.int .u64 (g1:Int))∧W.cell? ⟨k0,2,none⟩=some (.int .u64 (g2:Int))∧W.cell? ⟨k0,3,none⟩=some (.int .u64 0)∧Kept w k0 [⟨k6,0,a,b,c,d⟩,⟨k0,0,g0,g1,g2,0⟩,⟨k1,0,0,0,0,0⟩] W):Kept w k0 [⟨k6,0,a,b,c,d⟩,⟨k0,0,g0,g1,g2,0⟩,⟨k1,0,0,0,0,0⟩] W:=h.2.2.2.2.2.2.2.2
theorem readS_alloc {w W:World} {k0 k1 k6 a b c d g0 g1 g2:Nat} {o:Obj} (h:W.cell? ⟨k6,0,none⟩=some (.int .u64 (a:Int))∧W.cell? ⟨k6,1,none⟩=some (.int .u64 (b:Int))∧W.cell? ⟨k6,2,none⟩=some (.int .u64 (c:Int))∧W.cell? ⟨k6,3,none⟩=some (.int .u64 (d:Int))∧W.cell? ⟨k0,0,none⟩=some (.int .u64 (g0:Int))∧W.cell? ⟨k0,1,none⟩=some (.int .u64 (g1:Int))∧W.cell? ⟨k0,2,none⟩=some (.int .u64 (g2:Int))∧W.cell? ⟨k0,3,none⟩=some (.int .u64 0)∧Kept w k0 [⟨k6,0,a,b,c,d⟩,⟨k0,0,g0,g1,g2,0⟩,⟨k1,0,0,0,0,0⟩] W):(W.alloc o).cell? ⟨k6,0,none⟩=some (.int .u64 (a:Int))∧(W.alloc o).cell? ⟨k6,1,none⟩=some (.int .u64 (b:Int))∧(W.alloc o).cell? ⟨k6,2,none⟩=some (.int .u64 (c:Int))∧(W.alloc o).cell? ⟨k6,3,none⟩=some (.int .u64 (d:Int))∧(W.alloc o).cell? ⟨k0,0,none⟩=some (.int .u64 (g0:Int))∧(W.alloc o).cell? ⟨k0,1,none⟩=some (.int .u64 (g1:Int))∧(W.alloc o).cell? ⟨k0,2,none⟩=some (.int .u64 (g2:Int))∧(W.alloc o).cell? ⟨k0,3,none⟩=some (.int .u64 0)∧Kept w k0 [⟨k6,0,a,b,c,d⟩,⟨k0,0,g0,g1,g2,0⟩,⟨k1,0,0,0,0,0⟩] (W.alloc o):=readS_of ((readS_get h).alloc o)
theorem readS_allocd {w W:World} {k0 k1 k6 a b c d g0 g1 g2:Nat} {o:Obj} (h:W.drew.cell? ⟨k6,0,none⟩=some (.int .u64 (a:Int))∧W.drew.cell? ⟨k6,1,none⟩=some (.int .u64 (b:Int))∧W.drew.cell? ⟨k6,2,none⟩=some (.int .u64 (c:Int))∧W.drew.cell? ⟨k6,3,none⟩=some (.int .u64 (d:Int))∧W.drew.cell? ⟨k0,0,none⟩=some (.int .u64 (g0:Int))∧W.drew.cell? ⟨k0,1,none⟩=some (.int .u64 (g1:Int))∧W.drew.cell? ⟨k0,2,none⟩=some (.int .u64 (g2:Int))∧W.drew.cell? ⟨k0,3,none⟩=some (.int .u64 0)∧Kept w k0 [⟨k6,0,a,b,c,d⟩,⟨k0,0,g0,g1,g2,0⟩,⟨k1,0,0,0,0,0⟩] W.drew):(W.alloc o).drew.cell? ⟨k6,0,none⟩=some (.int .u64 (a:Int))∧(W.alloc o).drew.cell? ⟨k6,1,none⟩=some (.int .u64 (b:Int))∧(W.alloc o).drew.cell? ⟨k6,2,none⟩=some (.int .u64 (c:Int))∧(W.alloc o).drew.cell? ⟨k6,3,none⟩=some (.int .u64 (d:Int))∧(W.alloc o).drew.cell? ⟨k0,0,none⟩=some (.int .u64 (g0:Int))∧(W.alloc o).drew.cell? ⟨k0,1,none⟩=some (.int .u64 (g1:Int))∧(W.alloc o).drew.cell? ⟨k0,2,none⟩=some (.int .u64 (g2:Int))∧(W.alloc o).drew.cell? ⟨k0,3,none⟩=some (.int .u64 0)∧Kept w k0 [⟨k6,0,a,b,c,d⟩,⟨k0,0,g0,g1,g2,0⟩,⟨k1,0,0,0,0,0⟩] (W.alloc o).drew:=readS_of (((readS_get h).undrew).alloc o).drew
set_option maxHeartbeats 1000000 in
theorem Read_len (pv:Value) (p:Option Addr) (n cap:Nat) (w:World) (g0 g1 g2:Nat) (hp:pv=.agg #[.int .u64 (g0:Int),.int .u64 (g1:Int),.int .u64 (g2:Int),.int .u64 0]) (hn:n≠32) :
 Calls Tryz.prog 110 #[pv,.slice p n cap] w (Ret fun e w'=>Below w.heap.size w w'∧e=.tuple #[.agg #[.int .u64 0,.int .u64 0,.int .u64 0,.int .u64 0],.bool false]):=by
 subst hp
 have h1:¬ (n:Int)=32:=by omega
 go_enter Tryz.func110,Tryz.ntmps110
 go_wp2
 refine bodyPost_ret (v:=?v) ?hr rfl ?hR
 case hr=>simp [results,Tryz.results110,go_sem];rfl
 exact ⟨_,rfl,below2 _ _ _,rfl⟩
set_option maxHeartbeats 4000000 in
set_option maxRecDepth 100000 in
theorem Read_any (g0 g1 g2 P g o cap:Nat) (bs:Bs) (hG:Gap g0 g1 g2 P) (w:World) (hs:bs.size=32) (hc:32≤cap) (hg:g < w.heap.size) (hB:Holds encB w g o bs) :
 Calls Tryz.prog 110 #[.agg #[.int .u64 (g0:Int),.int .u64 (g1:Int),.int .u64 (g2:Int),.int .u64 0],.slice (some ⟨g,o,none⟩) 32 cap] w
  (Ret fun e w'=>Below w.heap.size w w'∧((beV bs.toList < P∧∃ v,e=.tuple #[v,.bool true]∧Four v (beV bs.toList))∨(P≤beV bs.toList∧e=.tuple #[.agg #[.int .u64 0,.int .u64 0,.int .u64 0,.int .u64 0],.bool false]))):=by
 have HG:Hid (Gap g0 g1 g2 P):=hG
 have HBS:Hid (Holds encB w g o bs):=hB
 have HS:Hid (bs.size=32):=hs
 clear hG hB hs
 go_enter Tryz.func110,Tryz.ntmps110
 go_wp2_with fail
 have PR:=(At4.made w 163 g0 g1 g2 0 rfl).alloc (.cells #[.int .u64 0,.int .u64 0,.int .u64 0,.int .u64 0] 51)
 have RE:=At4.made (w.alloc (.cells #[.int .u64 (g0:Int),.int .u64 (g1:Int),.int .u64 (g2:Int),.int .u64 0] 163)) 51 0 0 0 0 (World.size_alloc _ _)
 have KP0:=((Kept.mk1 (below2 w (.cells #[.int .u64 (g0:Int),.int .u64 (g1:Int),.int .u64 (g2:Int),.int .u64 0] 163) (.cells #[.int .u64 0,.int .u64 0,.int .u64 0,.int .u64 0] 51)) (below2 w (.cells #[.int .u64 (g0:Int),.int .u64 (g1:Int),.int .u64 (g2:Int),.int .u64 0] 163) (.cells #[.int .u64 0,.int .u64 0,.int .u64 0,.int .u64 0] 51)).size).cons RE.blk).cons PR.blk
 have HB0:=Holds.below HBS.out (below2 w (.cells #[.int .u64 (g0:Int),.int .u64 (g1:Int),.int .u64 (g2:Int),.int .u64 0] 163) (.cells #[.int .u64 0,.int .u64 0,.int .u64 0,.int .u64 0] 51)) hg
 clear PR RE
 generalize World.alloc _ _=W0 at KP0 HB0 ⊢
 refine (fromBytes_any (some ⟨g,o,none⟩) g o 32 cap bs _ (Nat.le_refl 32) hc HS.out (Or.inr ⟨rfl,HB0⟩)).mono ?_
 rintro e w1 ⟨v,rfl,hb1,hF⟩
 obtain ⟨a,b,c,d,rfl,ha,hb,hc',hd,es⟩:=id hF
 have HF:Hid (Four _ _):=hF
 have K1:=KP0.call hb1
 clear es hF hb1 KP0 HB0
 go_wp2_with fail
 have KP:=(K1.alloc (.cells #[.int .u64 (a:Int),.int .u64 (b:Int),.int .u64 (c:Int),.int .u64 (d:Int)] 51)).cons (At4.made w1 51 a b c d rfl).blk
 have q60:w1.heap.size≠w.heap.size:=Nat.ne_of_gt K1.head.lt
 clear K1
 generalize World.alloc _ _=W1 at KP ⊢
 generalize w1.heap.size=k6 at KP q60 ⊢
 generalize h1:w.heap.size+1=k1 at KP ⊢
 have Q1:Hid (w.heap.size≤k1):=by unfold Hid;omega
 generalize h0:w.heap.size=k0 at KP Q1 hg q60 ⊢
 have H0:Hid (w.heap.size=k0):=h0
 clear h0 h1
 go_cut [8] (fun s8 wx=>∃ k:Nat,s8=.int .u64 (k:Int)∧k≤1∧Hid (∃ t,t < top∧t+top*k=beV bs.toList+val g0 g1 g2 0)∧Kept w k0 [⟨k6,0,a,b,c,d⟩,⟨k0,0,g0,g1,g2,0⟩,⟨k1,0,0,0,0,0⟩] wx)
 case first =>
  go_region_held3 (fun w'=>w'.cell? ⟨k6,0,none⟩=some (.int .u64 (a:Int))∧w'.cell? ⟨k6,1,none⟩=some (.int .u64 (b:Int))∧w'.cell? ⟨k6,2,none⟩=some (.int .u64 (c:Int))∧w'.cell? ⟨k6,3,none⟩=some (.int .u64 (d:Int))∧w'.cell? ⟨k0,0,none⟩=some (.int .u64 (g0:Int))∧w'.cell? ⟨k0,1,none⟩=some (.int .u64 (g1:Int))∧w'.cell? ⟨k0,2,none⟩=some (.int .u64 (g2:Int))∧w'.cell? ⟨k0,3,none⟩=some (.int .u64 0)∧Kept w k0 [⟨k6,0,a,b,c,d⟩,⟨k0,0,g0,g1,g2,0⟩,⟨k1,0,0,0,0,0⟩] w') (first | (with_reducible exact readS_of KP) | (with_reducible exact readS_of KP.drew) | (with_reducible exact readS_allocd (by assumption)) | (with_reducible exact readS_alloc (by assumption)) | (with_reducible exact readS_of (KP.alloc _)) | (with_reducible exact readS_of (KP.set4' M7 (fun x hx=>Nat.ne_of_gt (N7 x hx)) _ _ _ _)) | (with_reducible exact readS_of (KP.alloc _).drew) | (with_reducible exact readS_of (KP.set4' M7 (fun x hx=>Nat.ne_of_gt (N7 x hx)) _ _ _ _).drew) | fail) (first | (go_at_call 151;refine (four_any _ _ HF.out _).mono ?_;rintro e w2 ⟨v,rfl,hb1,rfl⟩;(try (with_reducible have T1:=T.call hb1;clear T;have T:=T1;clear T1));(try (first | (with_reducible have T:=(At4.made _ 161 0 0 0 0 rfl).call hb1) | (with_reducible have T:=(At4.made _ 161 0 0 0 0 rfl).drew.call hb1));have N7:=KP.lts;have M7:=KP.le);have KP1:=Kept.call (readS_get (by assumption)) hb1;clear KP;have KP:=KP1;clear KP1 hb1) | (go_at_call 150;refine (plus_any _ _ _ _ HF.out (Four.mk HG.out.h0 HG.out.h1 HG.out.h2 (by decide) rfl) _).mono ?_;rintro e w2 ⟨v,rfl,hb1,v2,t,k,rfl,hF2,hk,he⟩;obtain ⟨a',b',c',d',rfl,ha',hb',hc',hd',es⟩:=id hF2;have HT:Hid (t < top∧t+top*k=beV bs.toList+val g0 g1 g2 0):=⟨hF2.lt,he⟩;clear es he hF2;(try (with_reducible have T1:=T.call hb1;clear T;have T:=T1;clear T1));(try (first | (with_reducible have T:=(At4.made _ 161 0 0 0 0 rfl).call hb1) | (with_reducible have T:=(At4.made _ 161 0 0 0 0 rfl).drew.call hb1));have N7:=KP.lts;have M7:=KP.le);have KP1:=Kept.call (readS_get (by assumption)) hb1;clear KP;have KP:=KP1;clear KP1 hb1;(try (obtain ⟨tc0,tc1,tc2,tc3,tf⟩:=id T;have zt:=T.lt))))
  all_goals (try go_wp2)
  all_goals (have HX:Hid (∃ t,t < top∧t+top*k=beV bs.toList+val g0 g1 g2 0):=⟨t,HT.out⟩)
  all_goals (go_meet;first | (with_reducible exact ⟨k,rfl,hk,HX,KP.alloc _⟩) | (with_reducible exact ⟨k,rfl,hk,HX,(KP.alloc _).drew⟩) | (with_reducible exact ⟨k,rfl,hk,HX,KP.set4' M7 (fun x hx=>Nat.ne_of_gt (N7 x hx)) _ _ _ _⟩) | (with_reducible exact ⟨k,rfl,hk,HX,(KP.set4' M7 (fun x hx=>Nat.ne_of_gt (N7 x hx)) _ _ _ _).drew⟩) | fail)
 case rest =>
  clear KP
  obtain ⟨k,rfl,hk,HE,KP⟩:=hcut
  have hk':k=0∨k=1:=by omega
  rcases hk' with rfl | rfl
  · obtain ⟨xc0,xc1,xc2,xc3,xf⟩:=KP.head.at4
    obtain ⟨rc0,rc1,rc2,rc3,rf⟩:=KP.tail.tail.head.at4
    have z1:=KP.tail.tail.head.lt
    go_wp2
    have RF:=KP.tail.tail.head.at4.self4 a b c d
    unfold set4 at RF
    refine bodyPost_ret (v:=?v0) ?hr0 rfl ?hR0
    case hr0=>simp [results,Tryz.results110,go_sem,RF.c0,RF.c1,RF.c2,RF.c3];rfl
    refine ⟨_,rfl,?_,Or.inl ⟨?_,_,rfl,HF.out⟩⟩
    · rw [H0.out];exact below_set4 KP.bl Q1.out _ _ _ _
    · obtain ⟨t,h1,h2⟩:=HE.out
      have:=HG.out.hP
      omega
  · obtain ⟨rc0,rc1,rc2,rc3,rf⟩:=KP.tail.tail.head.at4
    have z1:=KP.tail.tail.head.lt
    go_wp2
    have RF:At4 (set4 wc k1 (.int .u64 0) (.int .u64 0) (.int .u64 0) (.int .u64 0)) k1 0 0 0 0:=KP.tail.tail.head.at4.self4 0 0 0 0
    unfold set4 at RF
    refine bodyPost_ret (v:=?v1) ?hr1 rfl ?hR1
    case hr1=>simp [results,Tryz.results110,go_sem,RF.c0,RF.c1,RF.c2,RF.c3];rfl
    refine ⟨_,rfl,?_,Or.inr ⟨?_,rfl⟩⟩
    · rw [H0.out];exact below_set4 KP.bl Q1.out _ _ _ _
    · obtain ⟨t,h1,h2⟩:=HE.out
      have:=HG.out.hP
      omega
end Go.Proofs.YtmkllfekhehagadGreat
namespace Go.Proofs.YtmkllfekhehagadGreat
open Go.RowKit Go.Sort Go.Deep
def Arg (w:World) (v:Value) (bs:Bs):Prop:=∃ (p:Option Addr) (n cap:Nat),v=.slice p n cap∧bs.size=n∧(n=32→∃ g o,p=some ⟨g,o,none⟩∧32≤cap∧g < w.heap.size∧Holds encB w g o bs)
theorem Arg.below {w w1:World} {v:Value} {bs:Bs} (h:Arg w v bs) (hb:Below w.heap.size w w1):Arg w1 v bs:=by
 obtain ⟨p,n,cap,rfl,hs,h1⟩:=h
 refine ⟨p,n,cap,rfl,hs,fun h2=>?_⟩
 obtain ⟨g,o,h3,h4,h6,h7⟩:=h1 h2
 exact ⟨g,o,h3,h4,Nat.lt_of_lt_of_le h6 hb.size,Holds.below h7 hb h6⟩
def IsNum (P:Nat) (bs:Bs):Prop:=bs.size=32∧beV bs.toList < P
end Go.Proofs.YtmkllfekhehagadGreat
namespace Go.Proofs.YtmkllfekhehagadGreat
open Go.RowKit Go.Sort
theorem u131:(Tryz.prog.underlying 57).map (·.isRow)=some true:=by kernel_rfl
theorem i131:(Tryz.prog.info? 57).map (·.size)=some 33:=by kernel_rfl
theorem u5:(Tryz.prog.underlying 5).map (·.isRow)=some false:=by kernel_rfl
theorem und131:Tryz.prog.underlying 57=some (.array 33 5):=by kernel_rfl
theorem und5:Tryz.prog.underlying 5=some (.int .u8):=by kernel_rfl
theorem cells5:Tryz.prog.cellsOf 5=1:=by kernel_rfl
theorem sl33 (g o cap:Nat) (hc:33≤cap) (w:World):(Instr.sliceAt 22 (.slice (some ⟨g,o,none⟩) 33 cap) (some (.int .i64 1)) none none).run Tryz.prog w=.ok (.slice (some ⟨g,o+1,none⟩) 32 (cap - 1)) w:=by
 go_simp
 omega
theorem arr33 (g o cap:Nat) (w:World):(Instr.arrayAt 57 (.slice (some ⟨g,o,none⟩) 33 cap)).run Tryz.prog w=.ok (.pointer (some ⟨g,o,none⟩)) w:=by kernel_rfl
theorem at23 (g o n cap:Nat) (hn:0 < n) (w:World):(Instr.indexAt 22 (.slice (some ⟨g,o,none⟩) n cap) (.int .i64 0)).run Tryz.prog w=.ok (.pointer (some ⟨g,o,none⟩)) w:=by
 have h:(0:Int) < (n:Int):=by omega
 go_simp
theorem part5 (xs:Array Value) (i:Nat) (v:Value) (h:xs[i]? = some v) (w:World):(part 5 xs i).run Tryz.prog w=.ok v w:=by
 go_simp
theorem eqI (xs ys:Array Value) (a b:Nat→Int) (D:Nat) (w:World):∀ (is:List Nat),(∀ i∈is,xs[i]? = some (.int .u8 (a i)))→(∀ i∈is,ys[i]? = some (.int .u8 (b i))) →
 (Op.eqItems (D+1) 5 1 xs ys is).run Tryz.prog w=.ok (decide (∀ i∈is,a i=b i)) w
 | [],_,_=>by
  rw [Op.eqItems]
  simp
 | i :: is,hx,hy=>by
  have ih:=eqI xs ys a b D w is (fun j hj=>hx j (List.mem_cons_of_mem _ hj)) (fun j hj=>hy j (List.mem_cons_of_mem _ hj))
  have p1:=part5 xs (i*1) _ (by rw [Nat.mul_one];exact hx i List.mem_cons_self) w
  have p2:=part5 ys (i*1) _ (by rw [Nat.mul_one];exact hy i List.mem_cons_self) w
  have p3:=run_equalIn_int (P:=Tryz.prog) w D 5 .u8 .u8 (a i) (b i) und5
  rw [Op.eqItems]
  simp only [Sem.run_bind,p1,p2,p3,Result.andThen_ok]
  by_cases h:a i=b i
  · simp only [h,beq_self_eq_true,Bool.not_true,Bool.false_eq_true,if_false,ih,List.forall_mem_cons,true_and]
  · have h2:(a i == b i)=false:=by simpa using h
    simp only [h2,Bool.not_false,if_true,Sem.run_pure,List.forall_mem_cons,h,false_and,decide_false]
def bl33 (bs:Bs):List Value:=bs.toList.map encB
def z33:List Value:=List.replicate 33 (.int .u8 0)
theorem bl33_at (bs:Bs) (i:Nat) (h:i < bs.size):(bl33 bs)[i]? = some (.int .u8 (ub bs[i]!)):=by
 unfold bl33
 rw [List.getElem?_map,Array.getElem?_toList,Array.getElem?_eq_getElem h,getElem!_pos bs i h]
 rfl
theorem eqz (bs:Bs) (h:bs.size=33) (w:World):(binOp .eql 57 (.agg (bl33 bs).toArray) (.agg z33.toArray)).run Tryz.prog w=.ok (.bool (decide (∀ i∈List.range 33,ub bs[i]! = 0))) w:=by
 have hi:(Tryz.prog.info? 5).isSome=true:=by kernel_rfl
 obtain ⟨inf,hinf⟩:=Option.isSome_iff_exists.1 hi
 rw [run_eql_struct,run_equalIn_array w 9999 _ _ und131 hinf,cells5,
  eqI _ _ (fun i=>ub bs[i]!) (fun _=>0) 9998 w (List.range 33) (fun i hi=>by
   rw [List.getElem?_toArray]
   exact bl33_at bs i (by rw [h];exact List.mem_range.1 hi)) (fun i hi=>by
   rw [List.getElem?_toArray]
   unfold z33
   rw [List.getElem?_replicate,if_pos (List.mem_range.1 hi)])]
 rfl
@[reducible] def Zero33 (bs:Bs):Prop:=∀ i∈List.range 33,ub bs[i]! = 0
theorem eqz_t {bs:Bs} (h:bs.size=33) (hz:Zero33 bs) (w:World):(binOp .eql 57 (.agg (bl33 bs).toArray) (.agg z33.toArray)).run Tryz.prog w=.ok (.bool true) w:=by rw [eqz bs h,decide_eq_true (show ∀ i∈List.range 33,ub bs[i]! = 0 from hz)]
theorem eqz_f {bs:Bs} (h:bs.size=33) (hz:¬ Zero33 bs) (w:World):(binOp .eql 57 (.agg (bl33 bs).toArray) (.agg z33.toArray)).run Tryz.prog w=.ok (.bool false) w:=by rw [eqz bs h,decide_eq_false (show ¬ ∀ i∈List.range 33,ub bs[i]! = 0 from hz)]
theorem bl33_length {bs:Bs} (h:bs.size=33):(bl33 bs).length=33:=by unfold bl33;rw [List.length_map,Array.length_toList,h]
theorem bl33_range {bs:Bs} {w:World} {g o:Nat} (hB:Holds encB w g o bs):w.rangeAt g o (bl33 bs):=fun j v hv=>by
 have hj:j < bs.size:=by
  have:=(List.getElem?_eq_some_iff.1 hv).1
  unfold bl33 at this
  rwa [List.length_map,Array.length_toList] at this
 rw [bl33_at bs j hj] at hv
 rw [(hB j hj).1]
 exact hv
def tl33 (bs:Bs):Bs:=bs.extract 1 33
theorem tl33_size {bs:Bs} (h:bs.size=33):(tl33 bs).size=32:=by unfold tl33;rw [Array.size_extract,h];rfl
theorem tl33_holds {bs:Bs} {w:World} {g o:Nat} (h:bs.size=33) (hB:Holds encB w g o bs):Holds encB w g (o+1) (tl33 bs) :=
 Holds.part hB (by rw [tl33_size h,h];decide) (fun j hj=>by
  rw [tl33_size h] at hj
  unfold tl33
  rw [getElem!_pos _ j (by rw [Array.size_extract,h];omega),getElem!_pos _ (1+j) (by rw [h];omega),Array.getElem_extract])
variable {P:Nat} [NeZero P]
theorem Read_y (C:Fld P) {g o cap:Nat} {bs:Bs} (hs:bs.size=32) (hc:32≤cap) {x:Fin P} (hx:beV bs.toList=x.val) {w:World} (hg:g < w.heap.size) (hB:Holds encB w g o bs) :
 Calls Tryz.prog 110 #[gv0,.slice (some ⟨g,o,none⟩) 32 cap] w (Ret fun e w'=>Below w.heap.size w w'∧e=.tuple #[fv x,.bool true]) :=
 (Read_any 4294968273 0 0 P g o cap bs C.gap w hs hc hg hB).mono (by
  rintro e w' ⟨v,rfl,hb,⟨hl,v',rfl,h8⟩ | ⟨hl,rfl⟩⟩
  · refine ⟨_,rfl,hb,?_⟩
    rw [hx] at h8
    rw [h8.nv]
  · have:=x.isLt
    omega)
theorem Read_n (C:Fld P) {g o cap:Nat} {bs:Bs} (hs:bs.size=32) (hc:32≤cap) (hx:¬ beV bs.toList < P) {w:World} (hg:g < w.heap.size) (hB:Holds encB w g o bs) :
 Calls Tryz.prog 110 #[gv0,.slice (some ⟨g,o,none⟩) 32 cap] w (Ret fun e w'=>Below w.heap.size w w'∧e=.tuple #[fv (0:Fin P),.bool false]) :=
 (Read_any 4294968273 0 0 P g o cap bs C.gap w hs hc hg hB).mono (by
  rintro e w' ⟨v,rfl,hb,⟨hl,v',rfl,h8⟩ | ⟨hl,rfl⟩⟩
  · exact absurd hl hx
  · refine ⟨_,rfl,hb,?_⟩
    rw [← zero_fv])
def rdx (P:Nat) [NeZero P] (bs:Bs):Fin P:=Fin.ofNat P (beV (tl33 bs).toList)
def rd (P:Nat) [NeZero P] (bs:Bs):Option (Fin P × Fin P) :=
 if bs.size=33 then
  if Zero33 bs then some (0,0) else
  if ub bs[0]! = 2∨ub bs[0]! = 3 then
   if beV (tl33 bs).toList < P then
    (rt (rdx P bs*rdx P bs*rdx P bs+7)).map (fun y=>(rdx P bs,if ub bs[0]! = 3 then 0 - y else y))
   else none
  else none
 else none
def rdV:Option (Fin P × Fin P)→Value
 | none=>.tuple #[pv (0:Fin P) 0,.bool false]
 | some p=>.tuple #[pv p.1 p.2,.bool true]
end Go.Proofs.YtmkllfekhehagadGreat
namespace Go.Proofs.YtmkllfekhehagadGreat
open Go.RowKit Go.Sort
variable {P:Nat} [NeZero P]
def F71a_0 (x:Fin P):List RG.It:=[.m 2 [] 0,.x 3 [] (.bool false)]
def F71a_1 (q:Option Addr) (n cap:Nat) (x:Fin P):List RG.It:=[.x 7 [] (.slice q n cap),.x 8 [(7,0)] (.int .i64 (n:Int)),.x 9 [(8,1)] (.bool true)]
def F71a_2 (x:Fin P):List RG.It:=[.x 10 [] (pv (0:Fin P) (0:Fin P)),.u [(10,0)] 0,.x 3 [] (.bool false)]
set_option maxHeartbeats 2000000 in
set_option maxRecDepth 100000 in
theorem rp_len (C:Fld P) (q:Option Addr) (n cap:Nat) (x:Fin P) (w:World) (hn:¬ n=33):Calls Tryz.prog 135 #[(.slice q n cap)] w (Ret fun e w'=>Below w.heap.size w w'∧e=(.tuple #[pv (0:Fin P) 0,.bool false])):=by
 have hne:∀ w,(binOp .neq 3 (.int .i64 (n:Int)) (.int .i64 33)).run Tryz.prog w=.ok (.bool true) w:=fun w=>by
  have h:¬ (n:Int)=33:=by omega
  go_simp
 go_enter Tryz.func135,Tryz.ntmps135
 refine RG.var1 (v0:=(.slice q n cap)) (n:=54) (by kernel_rfl) (by kernel_rfl) (by kernel_rfl) ?_
 intro a0 sl0 f0
 have hS0:=RG.St.begin w
 have M0:RG.M w w.heap.size [] 54 [] [] [(0,(.v (.slice q n cap)))] a0 _:=⟨hS0,sl0,⟨f0,trivial⟩⟩
 repeat refine wp_seq ?_
 refine M0.tx (F71a_0 x) [(0,(RG.z 8))] [] [(RG.z 8)] [(0,(.v (.slice q n cap))),(2,(.p 0 0)),(3,(.v (.bool false)))] (by kernel_rfl) (by kernel_rfl) ⟨RG.mk 0 90 fun _ _=>by kernel_rfl,RG.st fun _ _=>by kernel_rfl,trivial⟩ ?_
 intro j1 a1 w1 M1
 repeat refine wp_seq ?_
 refine M1.tx0 (F71a_1 q n cap x) [(2,(.p 0 0)),(3,(.v (.bool false))),(9,(.v (.bool true)))] (by kernel_rfl) ⟨RG.st fun _ _=>by kernel_rfl,RG.cert_one rfl 7 (.v (.slice q n cap)) (.int .i64 (n:Int)) rfl (RG.sx fun _=>by kernel_rfl) (fun a w=>by kernel_rfl) (fun μ w=>by kernel_rfl),RG.cert_binc rfl .neq 3 3 8 (.int .i64 (n:Int)) (.int .i64 33) (.bool true) rfl rfl (RG.sx fun _=>by kernel_rfl) (fun w=>by kernel_rfl) (hne),trivial⟩ ?_
 intro a2 w2 M2
 repeat refine wp_seq ?_
 refine wp_cond_true (M2.ev (by kernel_rfl)) ?_
 repeat refine wp_seq ?_
 refine M2.tx (F71a_2 x) [] [(0,1,(ws (0:Fin P)++(ws (0:Fin P))))] [(ws (0:Fin P)++(ws (0:Fin P)))] [(2,(.p 0 0)),(3,(.v (.bool false)))] (by kernel_rfl) (by kernel_rfl) ⟨RG.se (zero_pv (P:=P)) fun _ _=>by kernel_rfl,RG.pt i109 (by kernel_rfl),RG.st fun _ _=>by kernel_rfl,trivial⟩ ?_
 intro a3 w3 M3
 have hS3:RG.St w w.heap.size [] [(ws (0:Fin P)++(ws (0:Fin P)))] [j1] _:=M3.st
 have sl3:=M3.sl
 have f2_3:a3.tmps[2]? = some (.pointer (some ⟨j1,0,none⟩)):=M3.at (s:=(.p 0 0)) (by kernel_rfl)
 have f3_3:a3.tmps[3]? = some (.bool false):=M3.at (s:=(.v (.bool false))) (by kernel_rfl)
 refine wp_ret ?_
 refine bodyPost_ret (v:=(.tuple #[(pv (0:Fin P) (0:Fin P)),(.bool false)])) (RG.results_rt hS3 2 3 90 rfl 0 _ rfl f2_3 _ f3_3 u109 i109) sl3.defers ?_
 exact ⟨_,rfl,hS3.bel.below,rfl⟩
def F71b_0 (m:Int) (x:Fin P):List RG.It:=[.m 2 [] 0,.x 3 [] (.bool false)]
def F71b_1 (g o cap:Nat) (x:Fin P):List RG.It:=[.x 7 [] (.slice (some ⟨g,o,none⟩) 33 cap),.x 8 [(7,0)] (.int .i64 33),.x 9 [(8,1)] (.bool false)]
def F71b_3 (g o cap:Nat) (bs:Bs) (x:Fin P):List RG.It:=[.x 11 [] (.slice (some ⟨g,o,none⟩) 33 cap),.x 12 [(11,0)] (.pointer (some ⟨g,o,none⟩)),.x 13 [(12,1)] (.agg (bl33 bs).toArray),.x 14 [] (.agg z33.toArray),.x 15 [(13,2),(14,3)] (.bool true)]
def F71b_4 (x:Fin P):List RG.It:=[.x 16 [] (pv (0:Fin P) (0:Fin P)),.u [(16,0)] 0,.x 3 [] (.bool true)]
set_option maxHeartbeats 2000000 in
set_option maxRecDepth 100000 in
theorem rp_zero (C:Fld P) (g o cap:Nat) (m:Int) (bs:Bs) (x y y2:Fin P) (w:World) (hs:bs.size=33) (hc:33≤cap) (hg:g < w.heap.size) (hB:Holds encB w g o bs) (hz:Zero33 bs):Calls Tryz.prog 135 #[(.slice (some ⟨g,o,none⟩) 33 cap)] w (Ret fun e w'=>Below w.heap.size w w'∧e=(.tuple #[pv (0:Fin P) 0,.bool true])):=by
 have hrg:=bl33_range hB
 go_enter Tryz.func135,Tryz.ntmps135
 refine RG.var1 (v0:=(.slice (some ⟨g,o,none⟩) 33 cap)) (n:=54) (by kernel_rfl) (by kernel_rfl) (by kernel_rfl) ?_
 intro a0 sl0 f0
 have hS0:=RG.St.begin w
 have M0:RG.M w w.heap.size [] 54 [] [] [(0,(.v (.slice (some ⟨g,o,none⟩) 33 cap)))] a0 _:=⟨hS0,sl0,⟨f0,trivial⟩⟩
 repeat refine wp_seq ?_
 refine M0.tx (F71b_0 m x) [(0,(RG.z 8))] [] [(RG.z 8)] [(0,(.v (.slice (some ⟨g,o,none⟩) 33 cap))),(2,(.p 0 0)),(3,(.v (.bool false)))] (by kernel_rfl) (by kernel_rfl) ⟨RG.mk 0 90 fun _ _=>by kernel_rfl,RG.st fun _ _=>by kernel_rfl,trivial⟩ ?_
 intro j1 a1 w1 M1
 repeat refine wp_seq ?_
 refine M1.tx0 (F71b_1 g o cap x) [(0,(.v (.slice (some ⟨g,o,none⟩) 33 cap))),(2,(.p 0 0)),(3,(.v (.bool false))),(9,(.v (.bool false)))] (by kernel_rfl) ⟨RG.st fun _ _=>by kernel_rfl,RG.cert_one rfl 7 (.v (.slice (some ⟨g,o,none⟩) 33 cap)) (.int .i64 33) rfl (RG.sx fun _=>by kernel_rfl) (fun a w=>by kernel_rfl) (fun μ w=>by kernel_rfl),RG.st fun _ _=>by kernel_rfl,trivial⟩ ?_
 intro a2 w2 M2
 repeat refine wp_seq ?_
 refine wp_cond_false (M2.ev (by kernel_rfl)) ?_
 refine wp_skip ?_
 repeat refine wp_seq ?_
 refine M2.tx0 (F71b_3 g o cap bs x) [(2,(.p 0 0)),(3,(.v (.bool false))),(15,(.v (.bool true)))] (by kernel_rfl) ⟨RG.st fun _ _=>by kernel_rfl,RG.cert_s2a rfl 57 11 (.slice (some ⟨g,o,none⟩) 33 cap) (.pointer (some ⟨g,o,none⟩)) rfl rfl (RG.sx fun _=>by kernel_rfl) (arr33 g o cap),RG.cert_loadB rfl g o hg List.not_mem_nil 57 12 rfl (bl33 bs) rfl (RG.sx fun _=>by kernel_rfl) hrg u131 (by rw [bl33_length hs];exact i131),RG.st fun _ _=>by kernel_rfl,RG.cert_bin rfl .eql 57 57 13 14 (.agg (bl33 bs).toArray) (.agg z33.toArray) (.bool true) rfl rfl (RG.sx fun _=>by kernel_rfl) (RG.sx fun _=>by kernel_rfl) (fun w=>by kernel_rfl) (eqz_t hs hz),trivial⟩ ?_
 intro a3 w3 M3
 repeat refine wp_seq ?_
 refine wp_cond_true (M3.ev (by kernel_rfl)) ?_
 repeat refine wp_seq ?_
 refine M3.tx (F71b_4 x) [] [(0,1,(ws (0:Fin P)++(ws (0:Fin P))))] [(ws (0:Fin P)++(ws (0:Fin P)))] [(2,(.p 0 0)),(3,(.v (.bool true)))] (by kernel_rfl) (by kernel_rfl) ⟨RG.se (zero_pv (P:=P)) fun _ _=>by kernel_rfl,RG.pt i109 (by kernel_rfl),RG.st fun _ _=>by kernel_rfl,trivial⟩ ?_
 intro a4 w4 M4
 have hS4:RG.St w w.heap.size [] [(ws (0:Fin P)++(ws (0:Fin P)))] [j1] _:=M4.st
 have sl4:=M4.sl
 have f2_4:a4.tmps[2]? = some (.pointer (some ⟨j1,0,none⟩)):=M4.at (s:=(.p 0 0)) (by kernel_rfl)
 have f3_4:a4.tmps[3]? = some (.bool true):=M4.at (s:=(.v (.bool true))) (by kernel_rfl)
 refine wp_ret ?_
 refine bodyPost_ret (v:=(.tuple #[(pv (0:Fin P) (0:Fin P)),(.bool true)])) (RG.results_rt hS4 2 3 90 rfl 0 _ rfl f2_4 _ f3_4 u109 i109) sl4.defers ?_
 exact ⟨_,rfl,hS4.bel.below,rfl⟩
def F71c_0 (m:Int) (x:Fin P):List RG.It:=[.m 2 [] 0,.x 3 [] (.bool false)]
def F71c_1 (g o cap:Nat) (x:Fin P):List RG.It:=[.x 7 [] (.slice (some ⟨g,o,none⟩) 33 cap),.x 8 [(7,0)] (.int .i64 33),.x 9 [(8,1)] (.bool false)]
def F71c_3 (g o cap:Nat) (bs:Bs) (x:Fin P):List RG.It:=[.x 11 [] (.slice (some ⟨g,o,none⟩) 33 cap),.x 12 [(11,0)] (.pointer (some ⟨g,o,none⟩)),.x 13 [(12,1)] (.agg (bl33 bs).toArray),.x 14 [] (.agg z33.toArray),.x 15 [(13,2),(14,3)] (.bool false)]
def F71c_5 (g o cap:Nat) (m:Int) (x:Fin P):List RG.It:=[.x 17 [] (.slice (some ⟨g,o,none⟩) 33 cap),.x 18 [(17,0)] (.pointer (some ⟨g,o,none⟩)),.x 19 [(18,1)] (.int .u8 m),.x 20 [(19,2)] (.bool true),.x 21 [(20,3)] (.bool true),.x 22 [] (.slice (some ⟨g,o,none⟩) 33 cap),.x 23 [(22,5)] (.pointer (some ⟨g,o,none⟩)),.x 24 [(23,6)] (.int .u8 m),.x 25 [(24,7)] (.bool true),.x 26 [(21,4),(25,8)] (.bool true)]
def F71c_6 (x:Fin P):List RG.It:=[.x 27 [] (pv (0:Fin P) (0:Fin P)),.u [(27,0)] 0,.x 3 [] (.bool false)]
set_option maxHeartbeats 2000000 in
set_option maxRecDepth 100000 in
theorem rp_mark (C:Fld P) (g o cap:Nat) (m:Int) (bs:Bs) (x y y2:Fin P) (w:World) (hs:bs.size=33) (hc:33≤cap) (hg:g < w.heap.size) (hB:Holds encB w g o bs) (hz:¬ Zero33 bs) (hm:ub bs[0]! = m) (h2:¬ m=2) (h3:¬ m=3):Calls Tryz.prog 135 #[(.slice (some ⟨g,o,none⟩) 33 cap)] w (Ret fun e w'=>Below w.heap.size w w'∧e=(.tuple #[pv (0:Fin P) 0,.bool false])):=by
 have hrg:=bl33_range hB
 have hb0:w.cell? ⟨g,o,none⟩=some (.int .u8 m):=by
  have:=(hB 0 (by rw [hs];decide)).1
  rw [Nat.add_zero] at this
  rw [this]
  show some (Value.int .u8 (ub bs[0]!))=_
  rw [hm]
 have hm2:∀ w,(binOp .neq 5 (.int .u8 m) (.int .u8 2)).run Tryz.prog w=.ok (.bool true) w:=fun w=>by
  go_simp
 have hm3:∀ w,(binOp .neq 5 (.int .u8 m) (.int .u8 3)).run Tryz.prog w=.ok (.bool true) w:=fun w=>by
  go_simp
 go_enter Tryz.func135,Tryz.ntmps135
 refine RG.var1 (v0:=(.slice (some ⟨g,o,none⟩) 33 cap)) (n:=54) (by kernel_rfl) (by kernel_rfl) (by kernel_rfl) ?_
 intro a0 sl0 f0
 have hS0:=RG.St.begin w
 have M0:RG.M w w.heap.size [] 54 [] [] [(0,(.v (.slice (some ⟨g,o,none⟩) 33 cap)))] a0 _:=⟨hS0,sl0,⟨f0,trivial⟩⟩
 repeat refine wp_seq ?_
 refine M0.tx (F71c_0 m x) [(0,(RG.z 8))] [] [(RG.z 8)] [(0,(.v (.slice (some ⟨g,o,none⟩) 33 cap))),(2,(.p 0 0)),(3,(.v (.bool false)))] (by kernel_rfl) (by kernel_rfl) ⟨RG.mk 0 90 fun _ _=>by kernel_rfl,RG.st fun _ _=>by kernel_rfl,trivial⟩ ?_
 intro j1 a1 w1 M1
 repeat refine wp_seq ?_
 refine M1.tx0 (F71c_1 g o cap x) [(0,(.v (.slice (some ⟨g,o,none⟩) 33 cap))),(2,(.p 0 0)),(3,(.v (.bool false))),(9,(.v (.bool false)))] (by kernel_rfl) ⟨RG.st fun _ _=>by kernel_rfl,RG.cert_one rfl 7 (.v (.slice (some ⟨g,o,none⟩) 33 cap)) (.int .i64 33) rfl (RG.sx fun _=>by kernel_rfl) (fun a w=>by kernel_rfl) (fun μ w=>by kernel_rfl),RG.st fun _ _=>by kernel_rfl,trivial⟩ ?_
 intro a2 w2 M2
 repeat refine wp_seq ?_
 refine wp_cond_false (M2.ev (by kernel_rfl)) ?_
 refine wp_skip ?_
 repeat refine wp_seq ?_
 refine M2.tx0 (F71c_3 g o cap bs x) [(0,(.v (.slice (some ⟨g,o,none⟩) 33 cap))),(2,(.p 0 0)),(3,(.v (.bool false))),(15,(.v (.bool false)))] (by kernel_rfl) ⟨RG.st fun _ _=>by kernel_rfl,RG.cert_s2a rfl 57 11 (.slice (some ⟨g,o,none⟩) 33 cap) (.pointer (some ⟨g,o,none⟩)) rfl rfl (RG.sx fun _=>by kernel_rfl) (arr33 g o cap),RG.cert_loadB rfl g o hg List.not_mem_nil 57 12 rfl (bl33 bs) rfl (RG.sx fun _=>by kernel_rfl) hrg u131 (by rw [bl33_length hs];exact i131),RG.st fun _ _=>by kernel_rfl,RG.cert_bin rfl .eql 57 57 13 14 (.agg (bl33 bs).toArray) (.agg z33.toArray) (.bool false) rfl rfl (RG.sx fun _=>by kernel_rfl) (RG.sx fun _=>by kernel_rfl) (fun w=>by kernel_rfl) (eqz_f hs hz),trivial⟩ ?_
 intro a3 w3 M3
 repeat refine wp_seq ?_
 refine wp_cond_false (M3.ev (by kernel_rfl)) ?_
 refine wp_skip ?_
 repeat refine wp_seq ?_
 refine M3.tx0 (F71c_5 g o cap m x) [(2,(.p 0 0)),(3,(.v (.bool false))),(26,(.v (.bool true)))] (by kernel_rfl) ⟨RG.st fun _ _=>by kernel_rfl,RG.cert_idxc rfl 22 17 (.int .i64 0) rfl (.v (.slice (some ⟨g,o,none⟩) 33 cap)) (RG.sx fun _=>by kernel_rfl) (fun μ w=>at23 g o 33 cap (by decide) w),RG.cert_load1B rfl g o hg List.not_mem_nil 5 18 rfl (.int .u8 m) rfl (RG.sx fun _=>by kernel_rfl) hb0 u5,RG.cert_binc rfl .neq 5 5 19 (.int .u8 m) (.int .u8 2) (.bool true) rfl rfl (RG.sx fun _=>by kernel_rfl) (fun w=>by kernel_rfl) (hm2),RG.st fun _ _=>by kernel_rfl,RG.st fun _ _=>by kernel_rfl,RG.cert_idxc rfl 22 22 (.int .i64 0) rfl (.v (.slice (some ⟨g,o,none⟩) 33 cap)) (RG.sx fun _=>by kernel_rfl) (fun μ w=>at23 g o 33 cap (by decide) w),RG.cert_load1B rfl g o hg List.not_mem_nil 5 23 rfl (.int .u8 m) rfl (RG.sx fun _=>by kernel_rfl) hb0 u5,RG.cert_binc rfl .neq 5 5 24 (.int .u8 m) (.int .u8 3) (.bool true) rfl rfl (RG.sx fun _=>by kernel_rfl) (fun w=>by kernel_rfl) (hm3),RG.st fun _ _=>by kernel_rfl,trivial⟩ ?_
 intro a4 w4 M4
 repeat refine wp_seq ?_
 refine wp_cond_true (M4.ev (by kernel_rfl)) ?_
 repeat refine wp_seq ?_
 refine M4.tx (F71c_6 x) [] [(0,1,(ws (0:Fin P)++(ws (0:Fin P))))] [(ws (0:Fin P)++(ws (0:Fin P)))] [(2,(.p 0 0)),(3,(.v (.bool false)))] (by kernel_rfl) (by kernel_rfl) ⟨RG.se (zero_pv (P:=P)) fun _ _=>by kernel_rfl,RG.pt i109 (by kernel_rfl),RG.st fun _ _=>by kernel_rfl,trivial⟩ ?_
 intro a5 w5 M5
 have hS5:RG.St w w.heap.size [] [(ws (0:Fin P)++(ws (0:Fin P)))] [j1] _:=M5.st
 have sl5:=M5.sl
 have f2_5:a5.tmps[2]? = some (.pointer (some ⟨j1,0,none⟩)):=M5.at (s:=(.p 0 0)) (by kernel_rfl)
 have f3_5:a5.tmps[3]? = some (.bool false):=M5.at (s:=(.v (.bool false))) (by kernel_rfl)
 refine wp_ret ?_
 refine bodyPost_ret (v:=(.tuple #[(pv (0:Fin P) (0:Fin P)),(.bool false)])) (RG.results_rt hS5 2 3 90 rfl 0 _ rfl f2_5 _ f3_5 u109 i109) sl5.defers ?_
 exact ⟨_,rfl,hS5.bel.below,rfl⟩
def F71d2_0 (m:Int) (x:Fin P):List RG.It:=[.m 2 [] 0,.x 3 [] (.bool false)]
def F71d2_1 (g o cap:Nat) (x:Fin P):List RG.It:=[.x 7 [] (.slice (some ⟨g,o,none⟩) 33 cap),.x 8 [(7,0)] (.int .i64 33),.x 9 [(8,1)] (.bool false)]
def F71d2_3 (g o cap:Nat) (bs:Bs) (x:Fin P):List RG.It:=[.x 11 [] (.slice (some ⟨g,o,none⟩) 33 cap),.x 12 [(11,0)] (.pointer (some ⟨g,o,none⟩)),.x 13 [(12,1)] (.agg (bl33 bs).toArray),.x 14 [] (.agg z33.toArray),.x 15 [(13,2),(14,3)] (.bool false)]
def F71d2_5 (g o cap:Nat) (x:Fin P):List RG.It:=[.x 17 [] (.slice (some ⟨g,o,none⟩) 33 cap),.x 18 [(17,0)] (.pointer (some ⟨g,o,none⟩)),.x 19 [(18,1)] (.int .u8 2),.x 20 [(19,2)] (.bool false),.x 21 [(20,3)] (.bool false),⟨some 22,[],(.v undef),.pass⟩,⟨some 23,[],(.v undef),.pass⟩,⟨some 24,[],(.v undef),.pass⟩,⟨some 25,[],(.v undef),.pass⟩,.x 26 [(21,4),(25,8)] (.bool false)]
def F71d2_7 (g o cap:Nat) (m:Int) (x:Fin P):List RG.It:=[.c 29 [] gv0,.x 30 [] (.slice (some ⟨g,o,none⟩) 33 cap),.x 31 [(30,1)] (.slice (some ⟨g,o+1,none⟩) 32 (cap - 1)),.c 32 [(29,0),(31,2)] (.tuple #[(fv (0:Fin P)),(.bool false)]),.x 28 [(32,3)] (.tuple #[(fv (0:Fin P)),(.bool false)]),.x 33 [(28,4)] (fv (0:Fin P)),.x 34 [(28,4)] (.bool false),.m 4 [] 1,.u [(4,7),(33,5)] 1,.x 5 [(34,6)] (.bool false)]
def F71d2_8 (x:Fin P):List RG.It:=[.x 35 [] (.bool false),.x 36 [(35,0)] (.bool true)]
def F71d2_9 (x:Fin P):List RG.It:=[.x 37 [] (pv (0:Fin P) (0:Fin P)),.u [(37,0)] 0,.x 3 [] (.bool false)]
set_option maxHeartbeats 2000000 in
set_option maxRecDepth 100000 in
theorem rp_num2 (C:Fld P) (g o cap:Nat) (m:Int) (bs:Bs) (x y y2:Fin P) (w:World) (hs:bs.size=33) (hc:33≤cap) (hg:g < w.heap.size) (hB:Holds encB w g o bs) (hz:¬ Zero33 bs) (hm:ub bs[0]! = 2) (hx:¬ beV (tl33 bs).toList < P):Calls Tryz.prog 135 #[(.slice (some ⟨g,o,none⟩) 33 cap)] w (Ret fun e w'=>Below w.heap.size w w'∧e=(.tuple #[pv (0:Fin P) 0,.bool false])):=by
 have hrg:=bl33_range hB
 have hb0:w.cell? ⟨g,o,none⟩=some (.int .u8 2):=by
  have:=(hB 0 (by rw [hs];decide)).1
  rw [Nat.add_zero] at this
  rw [this]
  show some (Value.int .u8 (ub bs[0]!))=_
  rw [hm]
 have hrd:∀ w',RG.BelX w.heap.size [] w w'→Calls Tryz.prog 110 #[gv0,.slice (some ⟨g,o+1,none⟩) 32 (cap - 1)] w' (Ret fun e w''=>Below w'.heap.size w' w''∧e=.tuple #[fv (0:Fin P),.bool false]):=fun w' hb=>Read_n C (tl33_size hs) (by omega) hx (Nat.lt_of_lt_of_le hg hb.size) (Holds.below (tl33_holds hs hB) hb.below hg)
 go_enter Tryz.func135,Tryz.ntmps135
 refine RG.var1 (v0:=(.slice (some ⟨g,o,none⟩) 33 cap)) (n:=54) (by kernel_rfl) (by kernel_rfl) (by kernel_rfl) ?_
 intro a0 sl0 f0
 have hS0:=RG.St.begin w
 have M0:RG.M w w.heap.size [] 54 [] [] [(0,(.v (.slice (some ⟨g,o,none⟩) 33 cap)))] a0 _:=⟨hS0,sl0,⟨f0,trivial⟩⟩
 repeat refine wp_seq ?_
 refine M0.tx (F71d2_0 m x) [(0,(RG.z 8))] [] [(RG.z 8)] [(0,(.v (.slice (some ⟨g,o,none⟩) 33 cap))),(2,(.p 0 0)),(3,(.v (.bool false)))] (by kernel_rfl) (by kernel_rfl) ⟨RG.mk 0 90 fun _ _=>by kernel_rfl,RG.st fun _ _=>by kernel_rfl,trivial⟩ ?_
 intro j1 a1 w1 M1
 repeat refine wp_seq ?_
 refine M1.tx0 (F71d2_1 g o cap x) [(0,(.v (.slice (some ⟨g,o,none⟩) 33 cap))),(2,(.p 0 0)),(3,(.v (.bool false))),(9,(.v (.bool false)))] (by kernel_rfl) ⟨RG.st fun _ _=>by kernel_rfl,RG.cert_one rfl 7 (.v (.slice (some ⟨g,o,none⟩) 33 cap)) (.int .i64 33) rfl (RG.sx fun _=>by kernel_rfl) (fun a w=>by kernel_rfl) (fun μ w=>by kernel_rfl),RG.st fun _ _=>by kernel_rfl,trivial⟩ ?_
 intro a2 w2 M2
 repeat refine wp_seq ?_
 refine wp_cond_false (M2.ev (by kernel_rfl)) ?_
 refine wp_skip ?_
 repeat refine wp_seq ?_
 refine M2.tx0 (F71d2_3 g o cap bs x) [(0,(.v (.slice (some ⟨g,o,none⟩) 33 cap))),(2,(.p 0 0)),(3,(.v (.bool false))),(15,(.v (.bool false)))] (by kernel_rfl) ⟨RG.st fun _ _=>by kernel_rfl,RG.cert_s2a rfl 57 11 (.slice (some ⟨g,o,none⟩) 33 cap) (.pointer (some ⟨g,o,none⟩)) rfl rfl (RG.sx fun _=>by kernel_rfl) (arr33 g o cap),RG.cert_loadB rfl g o hg List.not_mem_nil 57 12 rfl (bl33 bs) rfl (RG.sx fun _=>by kernel_rfl) hrg u131 (by rw [bl33_length hs];exact i131),RG.st fun _ _=>by kernel_rfl,RG.cert_bin rfl .eql 57 57 13 14 (.agg (bl33 bs).toArray) (.agg z33.toArray) (.bool false) rfl rfl (RG.sx fun _=>by kernel_rfl) (RG.sx fun _=>by kernel_rfl) (fun w=>by kernel_rfl) (eqz_f hs hz),trivial⟩ ?_
 intro a3 w3 M3
 repeat refine wp_seq ?_
 refine wp_cond_false (M3.ev (by kernel_rfl)) ?_
 refine wp_skip ?_
 repeat refine wp_seq ?_
 refine M3.tx0 (F71d2_5 g o cap x) [(0,(.v (.slice (some ⟨g,o,none⟩) 33 cap))),(2,(.p 0 0)),(3,(.v (.bool false))),(26,(.v (.bool false)))] (by kernel_rfl) ⟨RG.st fun _ _=>by kernel_rfl,RG.cert_idxc rfl 22 17 (.int .i64 0) rfl (.v (.slice (some ⟨g,o,none⟩) 33 cap)) (RG.sx fun _=>by kernel_rfl) (fun μ w=>at23 g o 33 cap (by decide) w),RG.cert_load1B rfl g o hg List.not_mem_nil 5 18 rfl (.int .u8 2) rfl (RG.sx fun _=>by kernel_rfl) hb0 u5,RG.st fun _ _=>by kernel_rfl,RG.st fun _ _=>by kernel_rfl,RG.cert_pass rfl rfl,RG.cert_pass rfl rfl,RG.cert_pass rfl rfl,RG.cert_pass rfl rfl,RG.st fun _ _=>by kernel_rfl,trivial⟩ ?_
 intro a4 w4 M4
 repeat refine wp_seq ?_
 refine wp_cond_false (M4.ev (by kernel_rfl)) ?_
 refine wp_skip ?_
 repeat refine wp_seq ?_
 refine M4.dr (by kernel_rfl) (F71d2_7 g o cap m x) [(7,(RG.z 4))] [(1,8,(ws (0:Fin P)))] [(RG.z 8),(ws (0:Fin P))] [(2,(.p 0 0)),(3,(.v (.bool false))),(5,(.v (.bool false)))] (by kernel_rfl) (by kernel_rfl) ⟨RG.cl (Coordinates_c) fun _ _=>by kernel_rfl,RG.st fun _ _=>by kernel_rfl,RG.cert_slice1 rfl 22 30 (.int .i64 1) (.slice (some ⟨g,o,none⟩) 33 cap) (.slice (some ⟨g,o+1,none⟩) 32 (cap - 1)) rfl rfl (RG.sx fun _=>by kernel_rfl) (sl33 g o cap hc),RG.cert_callB2 rfl 110 29 31 gv0 (.slice (some ⟨g,o+1,none⟩) 32 (cap - 1)) (.tuple #[(fv (0:Fin P)),(.bool false)]) rfl (fun a w=>by kernel_rfl) (RG.sx fun _=>by kernel_rfl) (RG.sx fun _=>by kernel_rfl) hrd,RG.st fun _ _=>by kernel_rfl,RG.st fun _ _=>by kernel_rfl,RG.st fun _ _=>by kernel_rfl,RG.mk 1 51 fun _ _=>by kernel_rfl,RG.pt i85 (by kernel_rfl),RG.st fun _ _=>by kernel_rfl,trivial⟩ ?_
 intro j5 a5 w5 M5
 repeat refine wp_seq ?_
 refine M5.tx0 (F71d2_8 x) [(2,(.p 0 0)),(3,(.v (.bool false))),(36,(.v (.bool true)))] (by kernel_rfl) ⟨RG.st fun _ _=>by kernel_rfl,RG.st fun _ _=>by kernel_rfl,trivial⟩ ?_
 intro a6 w6 M6
 repeat refine wp_seq ?_
 refine wp_cond_true (M6.ev (by kernel_rfl)) ?_
 repeat refine wp_seq ?_
 refine M6.tx (F71d2_9 x) [] [(0,1,(ws (0:Fin P)++(ws (0:Fin P))))] [(ws (0:Fin P)++(ws (0:Fin P))),(ws (0:Fin P))] [(2,(.p 0 0)),(3,(.v (.bool false)))] (by kernel_rfl) (by kernel_rfl) ⟨RG.se (zero_pv (P:=P)) fun _ _=>by kernel_rfl,RG.pt i109 (by kernel_rfl),RG.st fun _ _=>by kernel_rfl,trivial⟩ ?_
 intro a7 w7 M7
 have hS7:RG.St w w.heap.size [] [(ws (0:Fin P)++(ws (0:Fin P))),(ws (0:Fin P))] [j1,j5] _:=M7.st
 have sl7:=M7.sl
 have f2_7:a7.tmps[2]? = some (.pointer (some ⟨j1,0,none⟩)):=M7.at (s:=(.p 0 0)) (by kernel_rfl)
 have f3_7:a7.tmps[3]? = some (.bool false):=M7.at (s:=(.v (.bool false))) (by kernel_rfl)
 refine wp_ret ?_
 refine bodyPost_ret (v:=(.tuple #[(pv (0:Fin P) (0:Fin P)),(.bool false)])) (RG.results_rt hS7 2 3 90 rfl 0 _ rfl f2_7 _ f3_7 u109 i109) sl7.defers ?_
 exact ⟨_,rfl,hS7.bel.below,rfl⟩
def F71e2_0 (m:Int) (x:Fin P):List RG.It:=[.m 2 [] 0,.x 3 [] (.bool false)]
def F71e2_1 (g o cap:Nat) (x:Fin P):List RG.It:=[.x 7 [] (.slice (some ⟨g,o,none⟩) 33 cap),.x 8 [(7,0)] (.int .i64 33),.x 9 [(8,1)] (.bool false)]
def F71e2_3 (g o cap:Nat) (bs:Bs) (x:Fin P):List RG.It:=[.x 11 [] (.slice (some ⟨g,o,none⟩) 33 cap),.x 12 [(11,0)] (.pointer (some ⟨g,o,none⟩)),.x 13 [(12,1)] (.agg (bl33 bs).toArray),.x 14 [] (.agg z33.toArray),.x 15 [(13,2),(14,3)] (.bool false)]
def F71e2_5 (g o cap:Nat) (x:Fin P):List RG.It:=[.x 17 [] (.slice (some ⟨g,o,none⟩) 33 cap),.x 18 [(17,0)] (.pointer (some ⟨g,o,none⟩)),.x 19 [(18,1)] (.int .u8 2),.x 20 [(19,2)] (.bool false),.x 21 [(20,3)] (.bool false),⟨some 22,[],(.v undef),.pass⟩,⟨some 23,[],(.v undef),.pass⟩,⟨some 24,[],(.v undef),.pass⟩,⟨some 25,[],(.v undef),.pass⟩,.x 26 [(21,4),(25,8)] (.bool false)]
def F71e2_7 (g o cap:Nat) (m:Int) (x:Fin P):List RG.It:=[.c 29 [] gv0,.x 30 [] (.slice (some ⟨g,o,none⟩) 33 cap),.x 31 [(30,1)] (.slice (some ⟨g,o+1,none⟩) 32 (cap - 1)),.c 32 [(29,0),(31,2)] (.tuple #[(fv x),(.bool true)]),.x 28 [(32,3)] (.tuple #[(fv x),(.bool true)]),.x 33 [(28,4)] (fv x),.x 34 [(28,4)] (.bool true),.m 4 [] 1,.u [(4,7),(33,5)] 1,.x 5 [(34,6)] (.bool true)]
def F71e2_8 (x:Fin P):List RG.It:=[.x 35 [] (.bool true),.x 36 [(35,0)] (.bool false)]
def F71e2_10 (m:Int) (x:Fin P):List RG.It:=[.x 39 [] (fv x),.c 40 [(39,0)] (.tuple #[(pv (0:Fin P) (0:Fin P)),(.bool false)]),.x 38 [(40,1)] (.tuple #[(pv (0:Fin P) (0:Fin P)),(.bool false)]),.x 41 [(38,2)] (pv (0:Fin P) (0:Fin P)),.x 42 [(38,2)] (.bool false),.m 6 [] 2,.u [(6,5),(41,3)] 2,.x 5 [(42,4)] (.bool false)]
def F71e2_11 (x:Fin P):List RG.It:=[.x 43 [] (.bool false),.x 44 [(43,0)] (.bool false),⟨some 45,[],(.v undef),.pass⟩,⟨some 46,[],(.v undef),.pass⟩,⟨some 47,[],(.v undef),.pass⟩,⟨some 48,[],(.v undef),.pass⟩,.x 49 [(44,1),(48,5)] (.bool false)]
def F71e2_13 (x:Fin P):List RG.It:=[.x 52 [] (pv (0:Fin P) (0:Fin P)),.x 53 [] (.bool false),.u [(52,0)] 0,.x 3 [(53,1)] (.bool false)]
set_option maxHeartbeats 2000000 in
set_option maxRecDepth 100000 in
theorem rp_none2 (C:Fld P) (g o cap:Nat) (m:Int) (bs:Bs) (x y y2:Fin P) (w:World) (hs:bs.size=33) (hc:33≤cap) (hg:g < w.heap.size) (hB:Holds encB w g o bs) (hz:¬ Zero33 bs) (hm:ub bs[0]! = 2) (hx:beV (tl33 bs).toList=x.val) (hr:rt (x*x*x+7)=none):Calls Tryz.prog 135 #[(.slice (some ⟨g,o,none⟩) 33 cap)] w (Ret fun e w'=>Below w.heap.size w w'∧e=(.tuple #[pv (0:Fin P) 0,.bool false])):=by
 have hrg:=bl33_range hB
 have hb0:w.cell? ⟨g,o,none⟩=some (.int .u8 2):=by
  have:=(hB 0 (by rw [hs];decide)).1
  rw [Nat.add_zero] at this
  rw [this]
  show some (Value.int .u8 (ub bs[0]!))=_
  rw [hm]
 have hrd:∀ w',RG.BelX w.heap.size [] w w'→Calls Tryz.prog 110 #[gv0,.slice (some ⟨g,o+1,none⟩) 32 (cap - 1)] w' (Ret fun e w''=>Below w'.heap.size w' w''∧e=.tuple #[fv x,.bool true]):=fun w' hb=>Read_y C (tl33_size hs) (by omega) hx (Nat.lt_of_lt_of_le hg hb.size) (Holds.below (tl33_holds hs hB) hb.below hg)
 go_enter Tryz.func135,Tryz.ntmps135
 refine RG.var1 (v0:=(.slice (some ⟨g,o,none⟩) 33 cap)) (n:=54) (by kernel_rfl) (by kernel_rfl) (by kernel_rfl) ?_
 intro a0 sl0 f0
 have hS0:=RG.St.begin w
 have M0:RG.M w w.heap.size [] 54 [] [] [(0,(.v (.slice (some ⟨g,o,none⟩) 33 cap)))] a0 _:=⟨hS0,sl0,⟨f0,trivial⟩⟩
 repeat refine wp_seq ?_
 refine M0.tx (F71e2_0 m x) [(0,(RG.z 8))] [] [(RG.z 8)] [(0,(.v (.slice (some ⟨g,o,none⟩) 33 cap))),(2,(.p 0 0)),(3,(.v (.bool false)))] (by kernel_rfl) (by kernel_rfl) ⟨RG.mk 0 90 fun _ _=>by kernel_rfl,RG.st fun _ _=>by kernel_rfl,trivial⟩ ?_
 intro j1 a1 w1 M1
 repeat refine wp_seq ?_
 refine M1.tx0 (F71e2_1 g o cap x) [(0,(.v (.slice (some ⟨g,o,none⟩) 33 cap))),(2,(.p 0 0)),(3,(.v (.bool false))),(9,(.v (.bool false)))] (by kernel_rfl) ⟨RG.st fun _ _=>by kernel_rfl,RG.cert_one rfl 7 (.v (.slice (some ⟨g,o,none⟩) 33 cap)) (.int .i64 33) rfl (RG.sx fun _=>by kernel_rfl) (fun a w=>by kernel_rfl) (fun μ w=>by kernel_rfl),RG.st fun _ _=>by kernel_rfl,trivial⟩ ?_
 intro a2 w2 M2
 repeat refine wp_seq ?_
 refine wp_cond_false (M2.ev (by kernel_rfl)) ?_
 refine wp_skip ?_
 repeat refine wp_seq ?_
 refine M2.tx0 (F71e2_3 g o cap bs x) [(0,(.v (.slice (some ⟨g,o,none⟩) 33 cap))),(2,(.p 0 0)),(3,(.v (.bool false))),(15,(.v (.bool false)))] (by kernel_rfl) ⟨RG.st fun _ _=>by kernel_rfl,RG.cert_s2a rfl 57 11 (.slice (some ⟨g,o,none⟩) 33 cap) (.pointer (some ⟨g,o,none⟩)) rfl rfl (RG.sx fun _=>by kernel_rfl) (arr33 g o cap),RG.cert_loadB rfl g o hg List.not_mem_nil 57 12 rfl (bl33 bs) rfl (RG.sx fun _=>by kernel_rfl) hrg u131 (by rw [bl33_length hs];exact i131),RG.st fun _ _=>by kernel_rfl,RG.cert_bin rfl .eql 57 57 13 14 (.agg (bl33 bs).toArray) (.agg z33.toArray) (.bool false) rfl rfl (RG.sx fun _=>by kernel_rfl) (RG.sx fun _=>by kernel_rfl) (fun w=>by kernel_rfl) (eqz_f hs hz),trivial⟩ ?_
 intro a3 w3 M3
 repeat refine wp_seq ?_
 refine wp_cond_false (M3.ev (by kernel_rfl)) ?_
 refine wp_skip ?_
 repeat refine wp_seq ?_
 refine M3.tx0 (F71e2_5 g o cap x) [(0,(.v (.slice (some ⟨g,o,none⟩) 33 cap))),(2,(.p 0 0)),(3,(.v (.bool false))),(26,(.v (.bool false)))] (by kernel_rfl) ⟨RG.st fun _ _=>by kernel_rfl,RG.cert_idxc rfl 22 17 (.int .i64 0) rfl (.v (.slice (some ⟨g,o,none⟩) 33 cap)) (RG.sx fun _=>by kernel_rfl) (fun μ w=>at23 g o 33 cap (by decide) w),RG.cert_load1B rfl g o hg List.not_mem_nil 5 18 rfl (.int .u8 2) rfl (RG.sx fun _=>by kernel_rfl) hb0 u5,RG.st fun _ _=>by kernel_rfl,RG.st fun _ _=>by kernel_rfl,RG.cert_pass rfl rfl,RG.cert_pass rfl rfl,RG.cert_pass rfl rfl,RG.cert_pass rfl rfl,RG.st fun _ _=>by kernel_rfl,trivial⟩ ?_
 intro a4 w4 M4
 repeat refine wp_seq ?_
 refine wp_cond_false (M4.ev (by kernel_rfl)) ?_
 refine wp_skip ?_
 repeat refine wp_seq ?_
 refine M4.dr (by kernel_rfl) (F71e2_7 g o cap m x) [(7,(RG.z 4))] [(1,8,(ws x))] [(RG.z 8),(ws x)] [(2,(.p 0 0)),(3,(.v (.bool false))),(4,(.p 1 0)),(5,(.v (.bool true)))] (by kernel_rfl) (by kernel_rfl) ⟨RG.cl (Coordinates_c) fun _ _=>by kernel_rfl,RG.st fun _ _=>by kernel_rfl,RG.cert_slice1 rfl 22 30 (.int .i64 1) (.slice (some ⟨g,o,none⟩) 33 cap) (.slice (some ⟨g,o+1,none⟩) 32 (cap - 1)) rfl rfl (RG.sx fun _=>by kernel_rfl) (sl33 g o cap hc),RG.cert_callB2 rfl 110 29 31 gv0 (.slice (some ⟨g,o+1,none⟩) 32 (cap - 1)) (.tuple #[(fv x),(.bool true)]) rfl (fun a w=>by kernel_rfl) (RG.sx fun _=>by kernel_rfl) (RG.sx fun _=>by kernel_rfl) hrd,RG.st fun _ _=>by kernel_rfl,RG.st fun _ _=>by kernel_rfl,RG.st fun _ _=>by kernel_rfl,RG.mk 1 51 fun _ _=>by kernel_rfl,RG.pt i85 (by kernel_rfl),RG.st fun _ _=>by kernel_rfl,trivial⟩ ?_
 intro j5 a5 w5 M5
 repeat refine wp_seq ?_
 refine M5.tx0 (F71e2_8 x) [(2,(.p 0 0)),(3,(.v (.bool false))),(4,(.p 1 0)),(5,(.v (.bool true))),(36,(.v (.bool false)))] (by kernel_rfl) ⟨RG.st fun _ _=>by kernel_rfl,RG.st fun _ _=>by kernel_rfl,trivial⟩ ?_
 intro a6 w6 M6
 repeat refine wp_seq ?_
 refine wp_cond_false (M6.ev (by kernel_rfl)) ?_
 refine wp_skip ?_
 repeat refine wp_seq ?_
 refine M6.tx (F71e2_10 m x) [(5,(RG.z 8))] [(2,6,(ws (0:Fin P)++(ws (0:Fin P))))] [(RG.z 8),(ws x),(ws (0:Fin P)++(ws (0:Fin P)))] [(2,(.p 0 0)),(3,(.v (.bool false))),(5,(.v (.bool false))),(6,(.p 2 0))] (by kernel_rfl) (by kernel_rfl) ⟨RG.ld u85 i85 (by kernel_rfl),RG.cert_call1 rfl 163 39 (fv x) (.tuple #[(pv (0:Fin P) (0:Fin P)),(.bool false)]) rfl (fun a w=>by kernel_rfl) (RG.sx fun _=>by kernel_rfl) (above_n_c C x hr),RG.st fun _ _=>by kernel_rfl,RG.st fun _ _=>by kernel_rfl,RG.st fun _ _=>by kernel_rfl,RG.mk 2 90 fun _ _=>by kernel_rfl,RG.pt i109 (by kernel_rfl),RG.st fun _ _=>by kernel_rfl,trivial⟩ ?_
 intro j7 a7 w7 M7
 repeat refine wp_seq ?_
 refine M7.tx0 (F71e2_11 x) [(2,(.p 0 0)),(3,(.v (.bool false))),(5,(.v (.bool false))),(6,(.p 2 0)),(49,(.v (.bool false)))] (by kernel_rfl) ⟨RG.st fun _ _=>by kernel_rfl,RG.st fun _ _=>by kernel_rfl,RG.cert_pass rfl rfl,RG.cert_pass rfl rfl,RG.cert_pass rfl rfl,RG.cert_pass rfl rfl,RG.st fun _ _=>by kernel_rfl,trivial⟩ ?_
 intro a8 w8 M8
 repeat refine wp_seq ?_
 refine wp_cond_false (M8.ev (by kernel_rfl)) ?_
 refine wp_skip ?_
 repeat refine wp_seq ?_
 refine M8.tx (F71e2_13 x) [] [(0,2,(ws (0:Fin P)++(ws (0:Fin P))))] [(ws (0:Fin P)++(ws (0:Fin P))),(ws x),(ws (0:Fin P)++(ws (0:Fin P)))] [(2,(.p 0 0)),(3,(.v (.bool false)))] (by kernel_rfl) (by kernel_rfl) ⟨RG.ld u109 i109 (by kernel_rfl),RG.st fun _ _=>by kernel_rfl,RG.pt i109 (by kernel_rfl),RG.st fun _ _=>by kernel_rfl,trivial⟩ ?_
 intro a9 w9 M9
 have hS9:RG.St w w.heap.size [] [(ws (0:Fin P)++(ws (0:Fin P))),(ws x),(ws (0:Fin P)++(ws (0:Fin P)))] [j1,j5,j7] _:=M9.st
 have sl9:=M9.sl
 have f2_9:a9.tmps[2]? = some (.pointer (some ⟨j1,0,none⟩)):=M9.at (s:=(.p 0 0)) (by kernel_rfl)
 have f3_9:a9.tmps[3]? = some (.bool false):=M9.at (s:=(.v (.bool false))) (by kernel_rfl)
 refine wp_ret ?_
 refine bodyPost_ret (v:=(.tuple #[(pv (0:Fin P) (0:Fin P)),(.bool false)])) (RG.results_rt hS9 2 3 90 rfl 0 _ rfl f2_9 _ f3_9 u109 i109) sl9.defers ?_
 exact ⟨_,rfl,hS9.bel.below,rfl⟩
def F71f_0 (m:Int) (x:Fin P):List RG.It:=[.m 2 [] 0,.x 3 [] (.bool false)]
def F71f_1 (g o cap:Nat) (x:Fin P):List RG.It:=[.x 7 [] (.slice (some ⟨g,o,none⟩) 33 cap),.x 8 [(7,0)] (.int .i64 33),.x 9 [(8,1)] (.bool false)]
def F71f_3 (g o cap:Nat) (bs:Bs) (x:Fin P):List RG.It:=[.x 11 [] (.slice (some ⟨g,o,none⟩) 33 cap),.x 12 [(11,0)] (.pointer (some ⟨g,o,none⟩)),.x 13 [(12,1)] (.agg (bl33 bs).toArray),.x 14 [] (.agg z33.toArray),.x 15 [(13,2),(14,3)] (.bool false)]
def F71f_5 (g o cap:Nat) (x:Fin P):List RG.It:=[.x 17 [] (.slice (some ⟨g,o,none⟩) 33 cap),.x 18 [(17,0)] (.pointer (some ⟨g,o,none⟩)),.x 19 [(18,1)] (.int .u8 2),.x 20 [(19,2)] (.bool false),.x 21 [(20,3)] (.bool false),⟨some 22,[],(.v undef),.pass⟩,⟨some 23,[],(.v undef),.pass⟩,⟨some 24,[],(.v undef),.pass⟩,⟨some 25,[],(.v undef),.pass⟩,.x 26 [(21,4),(25,8)] (.bool false)]
def F71f_7 (g o cap:Nat) (m:Int) (x:Fin P):List RG.It:=[.c 29 [] gv0,.x 30 [] (.slice (some ⟨g,o,none⟩) 33 cap),.x 31 [(30,1)] (.slice (some ⟨g,o+1,none⟩) 32 (cap - 1)),.c 32 [(29,0),(31,2)] (.tuple #[(fv x),(.bool true)]),.x 28 [(32,3)] (.tuple #[(fv x),(.bool true)]),.x 33 [(28,4)] (fv x),.x 34 [(28,4)] (.bool true),.m 4 [] 1,.u [(4,7),(33,5)] 1,.x 5 [(34,6)] (.bool true)]
def F71f_8 (x:Fin P):List RG.It:=[.x 35 [] (.bool true),.x 36 [(35,0)] (.bool false)]
def F71f_10 (m:Int) (x y:Fin P):List RG.It:=[.x 39 [] (fv x),.c 40 [(39,0)] (.tuple #[(pv x y),(.bool true)]),.x 38 [(40,1)] (.tuple #[(pv x y),(.bool true)]),.x 41 [(38,2)] (pv x y),.x 42 [(38,2)] (.bool true),.m 6 [] 2,.u [(6,5),(41,3)] 2,.x 5 [(42,4)] (.bool true)]
def F71f_11 (g o cap:Nat) (x:Fin P):List RG.It:=[.x 43 [] (.bool true),.x 44 [(43,0)] (.bool true),.x 45 [] (.slice (some ⟨g,o,none⟩) 33 cap),.x 46 [(45,2)] (.pointer (some ⟨g,o,none⟩)),.x 47 [(46,3)] (.int .u8 2),.x 48 [(47,4)] (.bool false),.x 49 [(44,1),(48,5)] (.bool false)]
def F71f_13 (x y:Fin P):List RG.It:=[.x 52 [] (pv x y),.x 53 [] (.bool true),.u [(52,0)] 0,.x 3 [(53,1)] (.bool true)]
set_option maxHeartbeats 2000000 in
set_option maxRecDepth 100000 in
theorem rp_even (C:Fld P) (g o cap:Nat) (m:Int) (bs:Bs) (x y y2:Fin P) (w:World) (hs:bs.size=33) (hc:33≤cap) (hg:g < w.heap.size) (hB:Holds encB w g o bs) (hz:¬ Zero33 bs) (hm:ub bs[0]! = 2) (hx:beV (tl33 bs).toList=x.val) (hr:rt (x*x*x+7)=some y):Calls Tryz.prog 135 #[(.slice (some ⟨g,o,none⟩) 33 cap)] w (Ret fun e w'=>Below w.heap.size w w'∧e=(.tuple #[pv x y,.bool true])):=by
 have hrg:=bl33_range hB
 have hb0:w.cell? ⟨g,o,none⟩=some (.int .u8 2):=by
  have:=(hB 0 (by rw [hs];decide)).1
  rw [Nat.add_zero] at this
  rw [this]
  show some (Value.int .u8 (ub bs[0]!))=_
  rw [hm]
 have hrd:∀ w',RG.BelX w.heap.size [] w w'→Calls Tryz.prog 110 #[gv0,.slice (some ⟨g,o+1,none⟩) 32 (cap - 1)] w' (Ret fun e w''=>Below w'.heap.size w' w''∧e=.tuple #[fv x,.bool true]):=fun w' hb=>Read_y C (tl33_size hs) (by omega) hx (Nat.lt_of_lt_of_le hg hb.size) (Holds.below (tl33_holds hs hB) hb.below hg)
 go_enter Tryz.func135,Tryz.ntmps135
 refine RG.var1 (v0:=(.slice (some ⟨g,o,none⟩) 33 cap)) (n:=54) (by kernel_rfl) (by kernel_rfl) (by kernel_rfl) ?_
 intro a0 sl0 f0
 have hS0:=RG.St.begin w
 have M0:RG.M w w.heap.size [] 54 [] [] [(0,(.v (.slice (some ⟨g,o,none⟩) 33 cap)))] a0 _:=⟨hS0,sl0,⟨f0,trivial⟩⟩
 repeat refine wp_seq ?_
 refine M0.tx (F71f_0 m x) [(0,(RG.z 8))] [] [(RG.z 8)] [(0,(.v (.slice (some ⟨g,o,none⟩) 33 cap))),(2,(.p 0 0)),(3,(.v (.bool false)))] (by kernel_rfl) (by kernel_rfl) ⟨RG.mk 0 90 fun _ _=>by kernel_rfl,RG.st fun _ _=>by kernel_rfl,trivial⟩ ?_
 intro j1 a1 w1 M1
 repeat refine wp_seq ?_
 refine M1.tx0 (F71f_1 g o cap x) [(0,(.v (.slice (some ⟨g,o,none⟩) 33 cap))),(2,(.p 0 0)),(3,(.v (.bool false))),(9,(.v (.bool false)))] (by kernel_rfl) ⟨RG.st fun _ _=>by kernel_rfl,RG.cert_one rfl 7 (.v (.slice (some ⟨g,o,none⟩) 33 cap)) (.int .i64 33) rfl (RG.sx fun _=>by kernel_rfl) (fun a w=>by kernel_rfl) (fun μ w=>by kernel_rfl),RG.st fun _ _=>by kernel_rfl,trivial⟩ ?_
 intro a2 w2 M2
 repeat refine wp_seq ?_
 refine wp_cond_false (M2.ev (by kernel_rfl)) ?_
 refine wp_skip ?_
 repeat refine wp_seq ?_
 refine M2.tx0 (F71f_3 g o cap bs x) [(0,(.v (.slice (some ⟨g,o,none⟩) 33 cap))),(2,(.p 0 0)),(3,(.v (.bool false))),(15,(.v (.bool false)))] (by kernel_rfl) ⟨RG.st fun _ _=>by kernel_rfl,RG.cert_s2a rfl 57 11 (.slice (some ⟨g,o,none⟩) 33 cap) (.pointer (some ⟨g,o,none⟩)) rfl rfl (RG.sx fun _=>by kernel_rfl) (arr33 g o cap),RG.cert_loadB rfl g o hg List.not_mem_nil 57 12 rfl (bl33 bs) rfl (RG.sx fun _=>by kernel_rfl) hrg u131 (by rw [bl33_length hs];exact i131),RG.st fun _ _=>by kernel_rfl,RG.cert_bin rfl .eql 57 57 13 14 (.agg (bl33 bs).toArray) (.agg z33.toArray) (.bool false) rfl rfl (RG.sx fun _=>by kernel_rfl) (RG.sx fun _=>by kernel_rfl) (fun w=>by kernel_rfl) (eqz_f hs hz),trivial⟩ ?_
 intro a3 w3 M3
 repeat refine wp_seq ?_
 refine wp_cond_false (M3.ev (by kernel_rfl)) ?_
 refine wp_skip ?_
 repeat refine wp_seq ?_
 refine M3.tx0 (F71f_5 g o cap x) [(0,(.v (.slice (some ⟨g,o,none⟩) 33 cap))),(2,(.p 0 0)),(3,(.v (.bool false))),(26,(.v (.bool false)))] (by kernel_rfl) ⟨RG.st fun _ _=>by kernel_rfl,RG.cert_idxc rfl 22 17 (.int .i64 0) rfl (.v (.slice (some ⟨g,o,none⟩) 33 cap)) (RG.sx fun _=>by kernel_rfl) (fun μ w=>at23 g o 33 cap (by decide) w),RG.cert_load1B rfl g o hg List.not_mem_nil 5 18 rfl (.int .u8 2) rfl (RG.sx fun _=>by kernel_rfl) hb0 u5,RG.st fun _ _=>by kernel_rfl,RG.st fun _ _=>by kernel_rfl,RG.cert_pass rfl rfl,RG.cert_pass rfl rfl,RG.cert_pass rfl rfl,RG.cert_pass rfl rfl,RG.st fun _ _=>by kernel_rfl,trivial⟩ ?_
 intro a4 w4 M4
 repeat refine wp_seq ?_
 refine wp_cond_false (M4.ev (by kernel_rfl)) ?_
 refine wp_skip ?_
 repeat refine wp_seq ?_
 refine M4.dr (by kernel_rfl) (F71f_7 g o cap m x) [(7,(RG.z 4))] [(1,8,(ws x))] [(RG.z 8),(ws x)] [(0,(.v (.slice (some ⟨g,o,none⟩) 33 cap))),(2,(.p 0 0)),(3,(.v (.bool false))),(4,(.p 1 0)),(5,(.v (.bool true)))] (by kernel_rfl) (by kernel_rfl) ⟨RG.cl (Coordinates_c) fun _ _=>by kernel_rfl,RG.st fun _ _=>by kernel_rfl,RG.cert_slice1 rfl 22 30 (.int .i64 1) (.slice (some ⟨g,o,none⟩) 33 cap) (.slice (some ⟨g,o+1,none⟩) 32 (cap - 1)) rfl rfl (RG.sx fun _=>by kernel_rfl) (sl33 g o cap hc),RG.cert_callB2 rfl 110 29 31 gv0 (.slice (some ⟨g,o+1,none⟩) 32 (cap - 1)) (.tuple #[(fv x),(.bool true)]) rfl (fun a w=>by kernel_rfl) (RG.sx fun _=>by kernel_rfl) (RG.sx fun _=>by kernel_rfl) hrd,RG.st fun _ _=>by kernel_rfl,RG.st fun _ _=>by kernel_rfl,RG.st fun _ _=>by kernel_rfl,RG.mk 1 51 fun _ _=>by kernel_rfl,RG.pt i85 (by kernel_rfl),RG.st fun _ _=>by kernel_rfl,trivial⟩ ?_
 intro j5 a5 w5 M5
 repeat refine wp_seq ?_
 refine M5.tx0 (F71f_8 x) [(0,(.v (.slice (some ⟨g,o,none⟩) 33 cap))),(2,(.p 0 0)),(3,(.v (.bool false))),(4,(.p 1 0)),(5,(.v (.bool true))),(36,(.v (.bool false)))] (by kernel_rfl) ⟨RG.st fun _ _=>by kernel_rfl,RG.st fun _ _=>by kernel_rfl,trivial⟩ ?_
 intro a6 w6 M6
 repeat refine wp_seq ?_
 refine wp_cond_false (M6.ev (by kernel_rfl)) ?_
 refine wp_skip ?_
 repeat refine wp_seq ?_
 refine M6.tx (F71f_10 m x y) [(5,(RG.z 8))] [(2,6,(ws x++(ws y)))] [(RG.z 8),(ws x),(ws x++(ws y))] [(0,(.v (.slice (some ⟨g,o,none⟩) 33 cap))),(2,(.p 0 0)),(3,(.v (.bool false))),(5,(.v (.bool true))),(6,(.p 2 0))] (by kernel_rfl) (by kernel_rfl) ⟨RG.ld u85 i85 (by kernel_rfl),RG.cert_call1 rfl 163 39 (fv x) (.tuple #[(pv x y),(.bool true)]) rfl (fun a w=>by kernel_rfl) (RG.sx fun _=>by kernel_rfl) (above_y_c C x y hr),RG.st fun _ _=>by kernel_rfl,RG.st fun _ _=>by kernel_rfl,RG.st fun _ _=>by kernel_rfl,RG.mk 2 90 fun _ _=>by kernel_rfl,RG.pt i109 (by kernel_rfl),RG.st fun _ _=>by kernel_rfl,trivial⟩ ?_
 intro j7 a7 w7 M7
 repeat refine wp_seq ?_
 refine M7.tx0 (F71f_11 g o cap x) [(2,(.p 0 0)),(3,(.v (.bool false))),(5,(.v (.bool true))),(6,(.p 2 0)),(49,(.v (.bool false)))] (by kernel_rfl) ⟨RG.st fun _ _=>by kernel_rfl,RG.st fun _ _=>by kernel_rfl,RG.st fun _ _=>by kernel_rfl,RG.cert_idxc rfl 22 45 (.int .i64 0) rfl (.v (.slice (some ⟨g,o,none⟩) 33 cap)) (RG.sx fun _=>by kernel_rfl) (fun μ w=>at23 g o 33 cap (by decide) w),RG.cert_load1B rfl g o hg List.not_mem_nil 5 46 rfl (.int .u8 2) rfl (RG.sx fun _=>by kernel_rfl) hb0 u5,RG.st fun _ _=>by kernel_rfl,RG.st fun _ _=>by kernel_rfl,trivial⟩ ?_
 intro a8 w8 M8
 repeat refine wp_seq ?_
 refine wp_cond_false (M8.ev (by kernel_rfl)) ?_
 refine wp_skip ?_
 repeat refine wp_seq ?_
 refine M8.tx (F71f_13 x y) [] [(0,2,(ws x++(ws y)))] [(ws x++(ws y)),(ws x),(ws x++(ws y))] [(2,(.p 0 0)),(3,(.v (.bool true)))] (by kernel_rfl) (by kernel_rfl) ⟨RG.ld u109 i109 (by kernel_rfl),RG.st fun _ _=>by kernel_rfl,RG.pt i109 (by kernel_rfl),RG.st fun _ _=>by kernel_rfl,trivial⟩ ?_
 intro a9 w9 M9
 have hS9:RG.St w w.heap.size [] [(ws x++(ws y)),(ws x),(ws x++(ws y))] [j1,j5,j7] _:=M9.st
 have sl9:=M9.sl
 have f2_9:a9.tmps[2]? = some (.pointer (some ⟨j1,0,none⟩)):=M9.at (s:=(.p 0 0)) (by kernel_rfl)
 have f3_9:a9.tmps[3]? = some (.bool true):=M9.at (s:=(.v (.bool true))) (by kernel_rfl)
 refine wp_ret ?_
 refine bodyPost_ret (v:=(.tuple #[(pv x y),(.bool true)])) (RG.results_rt hS9 2 3 90 rfl 0 _ rfl f2_9 _ f3_9 u109 i109) sl9.defers ?_
 exact ⟨_,rfl,hS9.bel.below,rfl⟩
def F71d3_0 (m:Int) (x:Fin P):List RG.It:=[.m 2 [] 0,.x 3 [] (.bool false)]
def F71d3_1 (g o cap:Nat) (x:Fin P):List RG.It:=[.x 7 [] (.slice (some ⟨g,o,none⟩) 33 cap),.x 8 [(7,0)] (.int .i64 33),.x 9 [(8,1)] (.bool false)]
def F71d3_3 (g o cap:Nat) (bs:Bs) (x:Fin P):List RG.It:=[.x 11 [] (.slice (some ⟨g,o,none⟩) 33 cap),.x 12 [(11,0)] (.pointer (some ⟨g,o,none⟩)),.x 13 [(12,1)] (.agg (bl33 bs).toArray),.x 14 [] (.agg z33.toArray),.x 15 [(13,2),(14,3)] (.bool false)]
def F71d3_5 (g o cap:Nat) (x:Fin P):List RG.It:=[.x 17 [] (.slice (some ⟨g,o,none⟩) 33 cap),.x 18 [(17,0)] (.pointer (some ⟨g,o,none⟩)),.x 19 [(18,1)] (.int .u8 3),.x 20 [(19,2)] (.bool true),.x 21 [(20,3)] (.bool true),.x 22 [] (.slice (some ⟨g,o,none⟩) 33 cap),.x 23 [(22,5)] (.pointer (some ⟨g,o,none⟩)),.x 24 [(23,6)] (.int .u8 3),.x 25 [(24,7)] (.bool false),.x 26 [(21,4),(25,8)] (.bool false)]
def F71d3_7 (g o cap:Nat) (m:Int) (x:Fin P):List RG.It:=[.c 29 [] gv0,.x 30 [] (.slice (some ⟨g,o,none⟩) 33 cap),.x 31 [(30,1)] (.slice (some ⟨g,o+1,none⟩) 32 (cap - 1)),.c 32 [(29,0),(31,2)] (.tuple #[(fv (0:Fin P)),(.bool false)]),.x 28 [(32,3)] (.tuple #[(fv (0:Fin P)),(.bool false)]),.x 33 [(28,4)] (fv (0:Fin P)),.x 34 [(28,4)] (.bool false),.m 4 [] 1,.u [(4,7),(33,5)] 1,.x 5 [(34,6)] (.bool false)]
def F71d3_8 (x:Fin P):List RG.It:=[.x 35 [] (.bool false),.x 36 [(35,0)] (.bool true)]
def F71d3_9 (x:Fin P):List RG.It:=[.x 37 [] (pv (0:Fin P) (0:Fin P)),.u [(37,0)] 0,.x 3 [] (.bool false)]
set_option maxHeartbeats 2000000 in
set_option maxRecDepth 100000 in
theorem rp_num3 (C:Fld P) (g o cap:Nat) (m:Int) (bs:Bs) (x y y2:Fin P) (w:World) (hs:bs.size=33) (hc:33≤cap) (hg:g < w.heap.size) (hB:Holds encB w g o bs) (hz:¬ Zero33 bs) (hm:ub bs[0]! = 3) (hx:¬ beV (tl33 bs).toList < P):Calls Tryz.prog 135 #[(.slice (some ⟨g,o,none⟩) 33 cap)] w (Ret fun e w'=>Below w.heap.size w w'∧e=(.tuple #[pv (0:Fin P) 0,.bool false])):=by
 have hrg:=bl33_range hB
 have hb0:w.cell? ⟨g,o,none⟩=some (.int .u8 3):=by
  have:=(hB 0 (by rw [hs];decide)).1
  rw [Nat.add_zero] at this
  rw [this]
  show some (Value.int .u8 (ub bs[0]!))=_
  rw [hm]
 have hrd:∀ w',RG.BelX w.heap.size [] w w'→Calls Tryz.prog 110 #[gv0,.slice (some ⟨g,o+1,none⟩) 32 (cap - 1)] w' (Ret fun e w''=>Below w'.heap.size w' w''∧e=.tuple #[fv (0:Fin P),.bool false]):=fun w' hb=>Read_n C (tl33_size hs) (by omega) hx (Nat.lt_of_lt_of_le hg hb.size) (Holds.below (tl33_holds hs hB) hb.below hg)
 go_enter Tryz.func135,Tryz.ntmps135
 refine RG.var1 (v0:=(.slice (some ⟨g,o,none⟩) 33 cap)) (n:=54) (by kernel_rfl) (by kernel_rfl) (by kernel_rfl) ?_
 intro a0 sl0 f0
 have hS0:=RG.St.begin w
 have M0:RG.M w w.heap.size [] 54 [] [] [(0,(.v (.slice (some ⟨g,o,none⟩) 33 cap)))] a0 _:=⟨hS0,sl0,⟨f0,trivial⟩⟩
 repeat refine wp_seq ?_
 refine M0.tx (F71d3_0 m x) [(0,(RG.z 8))] [] [(RG.z 8)] [(0,(.v (.slice (some ⟨g,o,none⟩) 33 cap))),(2,(.p 0 0)),(3,(.v (.bool false)))] (by kernel_rfl) (by kernel_rfl) ⟨RG.mk 0 90 fun _ _=>by kernel_rfl,RG.st fun _ _=>by kernel_rfl,trivial⟩ ?_
 intro j1 a1 w1 M1
 repeat refine wp_seq ?_
 refine M1.tx0 (F71d3_1 g o cap x) [(0,(.v (.slice (some ⟨g,o,none⟩) 33 cap))),(2,(.p 0 0)),(3,(.v (.bool false))),(9,(.v (.bool false)))] (by kernel_rfl) ⟨RG.st fun _ _=>by kernel_rfl,RG.cert_one rfl 7 (.v (.slice (some ⟨g,o,none⟩) 33 cap)) (.int .i64 33) rfl (RG.sx fun _=>by kernel_rfl) (fun a w=>by kernel_rfl) (fun μ w=>by kernel_rfl),RG.st fun _ _=>by kernel_rfl,trivial⟩ ?_
 intro a2 w2 M2
 repeat refine wp_seq ?_
 refine wp_cond_false (M2.ev (by kernel_rfl)) ?_
 refine wp_skip ?_
 repeat refine wp_seq ?_
 refine M2.tx0 (F71d3_3 g o cap bs x) [(0,(.v (.slice (some ⟨g,o,none⟩) 33 cap))),(2,(.p 0 0)),(3,(.v (.bool false))),(15,(.v (.bool false)))] (by kernel_rfl) ⟨RG.st fun _ _=>by kernel_rfl,RG.cert_s2a rfl 57 11 (.slice (some ⟨g,o,none⟩) 33 cap) (.pointer (some ⟨g,o,none⟩)) rfl rfl (RG.sx fun _=>by kernel_rfl) (arr33 g o cap),RG.cert_loadB rfl g o hg List.not_mem_nil 57 12 rfl (bl33 bs) rfl (RG.sx fun _=>by kernel_rfl) hrg u131 (by rw [bl33_length hs];exact i131),RG.st fun _ _=>by kernel_rfl,RG.cert_bin rfl .eql 57 57 13 14 (.agg (bl33 bs).toArray) (.agg z33.toArray) (.bool false) rfl rfl (RG.sx fun _=>by kernel_rfl) (RG.sx fun _=>by kernel_rfl) (fun w=>by kernel_rfl) (eqz_f hs hz),trivial⟩ ?_
 intro a3 w3 M3
 repeat refine wp_seq ?_
 refine wp_cond_false (M3.ev (by kernel_rfl)) ?_
 refine wp_skip ?_
 repeat refine wp_seq ?_
 refine M3.tx0 (F71d3_5 g o cap x) [(0,(.v (.slice (some ⟨g,o,none⟩) 33 cap))),(2,(.p 0 0)),(3,(.v (.bool false))),(26,(.v (.bool false)))] (by kernel_rfl) ⟨RG.st fun _ _=>by kernel_rfl,RG.cert_idxc rfl 22 17 (.int .i64 0) rfl (.v (.slice (some ⟨g,o,none⟩) 33 cap)) (RG.sx fun _=>by kernel_rfl) (fun μ w=>at23 g o 33 cap (by decide) w),RG.cert_load1B rfl g o hg List.not_mem_nil 5 18 rfl (.int .u8 3) rfl (RG.sx fun _=>by kernel_rfl) hb0 u5,RG.st fun _ _=>by kernel_rfl,RG.st fun _ _=>by kernel_rfl,RG.st fun _ _=>by kernel_rfl,RG.cert_idxc rfl 22 22 (.int .i64 0) rfl (.v (.slice (some ⟨g,o,none⟩) 33 cap)) (RG.sx fun _=>by kernel_rfl) (fun μ w=>at23 g o 33 cap (by decide) w),RG.cert_load1B rfl g o hg List.not_mem_nil 5 23 rfl (.int .u8 3) rfl (RG.sx fun _=>by kernel_rfl) hb0 u5,RG.st fun _ _=>by kernel_rfl,RG.st fun _ _=>by kernel_rfl,trivial⟩ ?_
 intro a4 w4 M4
 repeat refine wp_seq ?_
 refine wp_cond_false (M4.ev (by kernel_rfl)) ?_
 refine wp_skip ?_
 repeat refine wp_seq ?_
 refine M4.dr (by kernel_rfl) (F71d3_7 g o cap m x) [(7,(RG.z 4))] [(1,8,(ws (0:Fin P)))] [(RG.z 8),(ws (0:Fin P))] [(2,(.p 0 0)),(3,(.v (.bool false))),(5,(.v (.bool false)))] (by kernel_rfl) (by kernel_rfl) ⟨RG.cl (Coordinates_c) fun _ _=>by kernel_rfl,RG.st fun _ _=>by kernel_rfl,RG.cert_slice1 rfl 22 30 (.int .i64 1) (.slice (some ⟨g,o,none⟩) 33 cap) (.slice (some ⟨g,o+1,none⟩) 32 (cap - 1)) rfl rfl (RG.sx fun _=>by kernel_rfl) (sl33 g o cap hc),RG.cert_callB2 rfl 110 29 31 gv0 (.slice (some ⟨g,o+1,none⟩) 32 (cap - 1)) (.tuple #[(fv (0:Fin P)),(.bool false)]) rfl (fun a w=>by kernel_rfl) (RG.sx fun _=>by kernel_rfl) (RG.sx fun _=>by kernel_rfl) hrd,RG.st fun _ _=>by kernel_rfl,RG.st fun _ _=>by kernel_rfl,RG.st fun _ _=>by kernel_rfl,RG.mk 1 51 fun _ _=>by kernel_rfl,RG.pt i85 (by kernel_rfl),RG.st fun _ _=>by kernel_rfl,trivial⟩ ?_
 intro j5 a5 w5 M5
 repeat refine wp_seq ?_
 refine M5.tx0 (F71d3_8 x) [(2,(.p 0 0)),(3,(.v (.bool false))),(36,(.v (.bool true)))] (by kernel_rfl) ⟨RG.st fun _ _=>by kernel_rfl,RG.st fun _ _=>by kernel_rfl,trivial⟩ ?_
 intro a6 w6 M6
 repeat refine wp_seq ?_
 refine wp_cond_true (M6.ev (by kernel_rfl)) ?_
 repeat refine wp_seq ?_
 refine M6.tx (F71d3_9 x) [] [(0,1,(ws (0:Fin P)++(ws (0:Fin P))))] [(ws (0:Fin P)++(ws (0:Fin P))),(ws (0:Fin P))] [(2,(.p 0 0)),(3,(.v (.bool false)))] (by kernel_rfl) (by kernel_rfl) ⟨RG.se (zero_pv (P:=P)) fun _ _=>by kernel_rfl,RG.pt i109 (by kernel_rfl),RG.st fun _ _=>by kernel_rfl,trivial⟩ ?_
 intro a7 w7 M7
 have hS7:RG.St w w.heap.size [] [(ws (0:Fin P)++(ws (0:Fin P))),(ws (0:Fin P))] [j1,j5] _:=M7.st
 have sl7:=M7.sl
 have f2_7:a7.tmps[2]? = some (.pointer (some ⟨j1,0,none⟩)):=M7.at (s:=(.p 0 0)) (by kernel_rfl)
 have f3_7:a7.tmps[3]? = some (.bool false):=M7.at (s:=(.v (.bool false))) (by kernel_rfl)
 refine wp_ret ?_
 refine bodyPost_ret (v:=(.tuple #[(pv (0:Fin P) (0:Fin P)),(.bool false)])) (RG.results_rt hS7 2 3 90 rfl 0 _ rfl f2_7 _ f3_7 u109 i109) sl7.defers ?_
 exact ⟨_,rfl,hS7.bel.below,rfl⟩
def F71e3_0 (m:Int) (x:Fin P):List RG.It:=[.m 2 [] 0,.x 3 [] (.bool false)]
def F71e3_1 (g o cap:Nat) (x:Fin P):List RG.It:=[.x 7 [] (.slice (some ⟨g,o,none⟩) 33 cap),.x 8 [(7,0)] (.int .i64 33),.x 9 [(8,1)] (.bool false)]
def F71e3_3 (g o cap:Nat) (bs:Bs) (x:Fin P):List RG.It:=[.x 11 [] (.slice (some ⟨g,o,none⟩) 33 cap),.x 12 [(11,0)] (.pointer (some ⟨g,o,none⟩)),.x 13 [(12,1)] (.agg (bl33 bs).toArray),.x 14 [] (.agg z33.toArray),.x 15 [(13,2),(14,3)] (.bool false)]
def F71e3_5 (g o cap:Nat) (x:Fin P):List RG.It:=[.x 17 [] (.slice (some ⟨g,o,none⟩) 33 cap),.x 18 [(17,0)] (.pointer (some ⟨g,o,none⟩)),.x 19 [(18,1)] (.int .u8 3),.x 20 [(19,2)] (.bool true),.x 21 [(20,3)] (.bool true),.x 22 [] (.slice (some ⟨g,o,none⟩) 33 cap),.x 23 [(22,5)] (.pointer (some ⟨g,o,none⟩)),.x 24 [(23,6)] (.int .u8 3),.x 25 [(24,7)] (.bool false),.x 26 [(21,4),(25,8)] (.bool false)]
def F71e3_7 (g o cap:Nat) (m:Int) (x:Fin P):List RG.It:=[.c 29 [] gv0,.x 30 [] (.slice (some ⟨g,o,none⟩) 33 cap),.x 31 [(30,1)] (.slice (some ⟨g,o+1,none⟩) 32 (cap - 1)),.c 32 [(29,0),(31,2)] (.tuple #[(fv x),(.bool true)]),.x 28 [(32,3)] (.tuple #[(fv x),(.bool true)]),.x 33 [(28,4)] (fv x),.x 34 [(28,4)] (.bool true),.m 4 [] 1,.u [(4,7),(33,5)] 1,.x 5 [(34,6)] (.bool true)]
def F71e3_8 (x:Fin P):List RG.It:=[.x 35 [] (.bool true),.x 36 [(35,0)] (.bool false)]
def F71e3_10 (m:Int) (x:Fin P):List RG.It:=[.x 39 [] (fv x),.c 40 [(39,0)] (.tuple #[(pv (0:Fin P) (0:Fin P)),(.bool false)]),.x 38 [(40,1)] (.tuple #[(pv (0:Fin P) (0:Fin P)),(.bool false)]),.x 41 [(38,2)] (pv (0:Fin P) (0:Fin P)),.x 42 [(38,2)] (.bool false),.m 6 [] 2,.u [(6,5),(41,3)] 2,.x 5 [(42,4)] (.bool false)]
def F71e3_11 (x:Fin P):List RG.It:=[.x 43 [] (.bool false),.x 44 [(43,0)] (.bool false),⟨some 45,[],(.v undef),.pass⟩,⟨some 46,[],(.v undef),.pass⟩,⟨some 47,[],(.v undef),.pass⟩,⟨some 48,[],(.v undef),.pass⟩,.x 49 [(44,1),(48,5)] (.bool false)]
def F71e3_13 (x:Fin P):List RG.It:=[.x 52 [] (pv (0:Fin P) (0:Fin P)),.x 53 [] (.bool false),.u [(52,0)] 0,.x 3 [(53,1)] (.bool false)]
set_option maxHeartbeats 2000000 in
set_option maxRecDepth 100000 in
theorem rp_none3 (C:Fld P) (g o cap:Nat) (m:Int) (bs:Bs) (x y y2:Fin P) (w:World) (hs:bs.size=33) (hc:33≤cap) (hg:g < w.heap.size) (hB:Holds encB w g o bs) (hz:¬ Zero33 bs) (hm:ub bs[0]! = 3) (hx:beV (tl33 bs).toList=x.val) (hr:rt (x*x*x+7)=none):Calls Tryz.prog 135 #[(.slice (some ⟨g,o,none⟩) 33 cap)] w (Ret fun e w'=>Below w.heap.size w w'∧e=(.tuple #[pv (0:Fin P) 0,.bool false])):=by
 have hrg:=bl33_range hB
 have hb0:w.cell? ⟨g,o,none⟩=some (.int .u8 3):=by
  have:=(hB 0 (by rw [hs];decide)).1
  rw [Nat.add_zero] at this
  rw [this]
  show some (Value.int .u8 (ub bs[0]!))=_
  rw [hm]
 have hrd:∀ w',RG.BelX w.heap.size [] w w'→Calls Tryz.prog 110 #[gv0,.slice (some ⟨g,o+1,none⟩) 32 (cap - 1)] w' (Ret fun e w''=>Below w'.heap.size w' w''∧e=.tuple #[fv x,.bool true]):=fun w' hb=>Read_y C (tl33_size hs) (by omega) hx (Nat.lt_of_lt_of_le hg hb.size) (Holds.below (tl33_holds hs hB) hb.below hg)
 go_enter Tryz.func135,Tryz.ntmps135
 refine RG.var1 (v0:=(.slice (some ⟨g,o,none⟩) 33 cap)) (n:=54) (by kernel_rfl) (by kernel_rfl) (by kernel_rfl) ?_
 intro a0 sl0 f0
 have hS0:=RG.St.begin w
 have M0:RG.M w w.heap.size [] 54 [] [] [(0,(.v (.slice (some ⟨g,o,none⟩) 33 cap)))] a0 _:=⟨hS0,sl0,⟨f0,trivial⟩⟩
 repeat refine wp_seq ?_
 refine M0.tx (F71e3_0 m x) [(0,(RG.z 8))] [] [(RG.z 8)] [(0,(.v (.slice (some ⟨g,o,none⟩) 33 cap))),(2,(.p 0 0)),(3,(.v (.bool false)))] (by kernel_rfl) (by kernel_rfl) ⟨RG.mk 0 90 fun _ _=>by kernel_rfl,RG.st fun _ _=>by kernel_rfl,trivial⟩ ?_
 intro j1 a1 w1 M1
 repeat refine wp_seq ?_
 refine M1.tx0 (F71e3_1 g o cap x) [(0,(.v (.slice (some ⟨g,o,none⟩) 33 cap))),(2,(.p 0 0)),(3,(.v (.bool false))),(9,(.v (.bool false)))] (by kernel_rfl) ⟨RG.st fun _ _=>by kernel_rfl,RG.cert_one rfl 7 (.v (.slice (some ⟨g,o,none⟩) 33 cap)) (.int .i64 33) rfl (RG.sx fun _=>by kernel_rfl) (fun a w=>by kernel_rfl) (fun μ w=>by kernel_rfl),RG.st fun _ _=>by kernel_rfl,trivial⟩ ?_
 intro a2 w2 M2
 repeat refine wp_seq ?_
 refine wp_cond_false (M2.ev (by kernel_rfl)) ?_
 refine wp_skip ?_
 repeat refine wp_seq ?_
 refine M2.tx0 (F71e3_3 g o cap bs x) [(0,(.v (.slice (some ⟨g,o,none⟩) 33 cap))),(2,(.p 0 0)),(3,(.v (.bool false))),(15,(.v (.bool false)))] (by kernel_rfl) ⟨RG.st fun _ _=>by kernel_rfl,RG.cert_s2a rfl 57 11 (.slice (some ⟨g,o,none⟩) 33 cap) (.pointer (some ⟨g,o,none⟩)) rfl rfl (RG.sx fun _=>by kernel_rfl) (arr33 g o cap),RG.cert_loadB rfl g o hg List.not_mem_nil 57 12 rfl (bl33 bs) rfl (RG.sx fun _=>by kernel_rfl) hrg u131 (by rw [bl33_length hs];exact i131),RG.st fun _ _=>by kernel_rfl,RG.cert_bin rfl .eql 57 57 13 14 (.agg (bl33 bs).toArray) (.agg z33.toArray) (.bool false) rfl rfl (RG.sx fun _=>by kernel_rfl) (RG.sx fun _=>by kernel_rfl) (fun w=>by kernel_rfl) (eqz_f hs hz),trivial⟩ ?_
 intro a3 w3 M3
 repeat refine wp_seq ?_
 refine wp_cond_false (M3.ev (by kernel_rfl)) ?_
 refine wp_skip ?_
 repeat refine wp_seq ?_
 refine M3.tx0 (F71e3_5 g o cap x) [(0,(.v (.slice (some ⟨g,o,none⟩) 33 cap))),(2,(.p 0 0)),(3,(.v (.bool false))),(26,(.v (.bool false)))] (by kernel_rfl) ⟨RG.st fun _ _=>by kernel_rfl,RG.cert_idxc rfl 22 17 (.int .i64 0) rfl (.v (.slice (some ⟨g,o,none⟩) 33 cap)) (RG.sx fun _=>by kernel_rfl) (fun μ w=>at23 g o 33 cap (by decide) w),RG.cert_load1B rfl g o hg List.not_mem_nil 5 18 rfl (.int .u8 3) rfl (RG.sx fun _=>by kernel_rfl) hb0 u5,RG.st fun _ _=>by kernel_rfl,RG.st fun _ _=>by kernel_rfl,RG.st fun _ _=>by kernel_rfl,RG.cert_idxc rfl 22 22 (.int .i64 0) rfl (.v (.slice (some ⟨g,o,none⟩) 33 cap)) (RG.sx fun _=>by kernel_rfl) (fun μ w=>at23 g o 33 cap (by decide) w),RG.cert_load1B rfl g o hg List.not_mem_nil 5 23 rfl (.int .u8 3) rfl (RG.sx fun _=>by kernel_rfl) hb0 u5,RG.st fun _ _=>by kernel_rfl,RG.st fun _ _=>by kernel_rfl,trivial⟩ ?_
 intro a4 w4 M4
 repeat refine wp_seq ?_
 refine wp_cond_false (M4.ev (by kernel_rfl)) ?_
 refine wp_skip ?_
 repeat refine wp_seq ?_
 refine M4.dr (by kernel_rfl) (F71e3_7 g o cap m x) [(7,(RG.z 4))] [(1,8,(ws x))] [(RG.z 8),(ws x)] [(2,(.p 0 0)),(3,(.v (.bool false))),(4,(.p 1 0)),(5,(.v (.bool true)))] (by kernel_rfl) (by kernel_rfl) ⟨RG.cl (Coordinates_c) fun _ _=>by kernel_rfl,RG.st fun _ _=>by kernel_rfl,RG.cert_slice1 rfl 22 30 (.int .i64 1) (.slice (some ⟨g,o,none⟩) 33 cap) (.slice (some ⟨g,o+1,none⟩) 32 (cap - 1)) rfl rfl (RG.sx fun _=>by kernel_rfl) (sl33 g o cap hc),RG.cert_callB2 rfl 110 29 31 gv0 (.slice (some ⟨g,o+1,none⟩) 32 (cap - 1)) (.tuple #[(fv x),(.bool true)]) rfl (fun a w=>by kernel_rfl) (RG.sx fun _=>by kernel_rfl) (RG.sx fun _=>by kernel_rfl) hrd,RG.st fun _ _=>by kernel_rfl,RG.st fun _ _=>by kernel_rfl,RG.st fun _ _=>by kernel_rfl,RG.mk 1 51 fun _ _=>by kernel_rfl,RG.pt i85 (by kernel_rfl),RG.st fun _ _=>by kernel_rfl,trivial⟩ ?_
 intro j5 a5 w5 M5
 repeat refine wp_seq ?_
 refine M5.tx0 (F71e3_8 x) [(2,(.p 0 0)),(3,(.v (.bool false))),(4,(.p 1 0)),(5,(.v (.bool true))),(36,(.v (.bool false)))] (by kernel_rfl) ⟨RG.st fun _ _=>by kernel_rfl,RG.st fun _ _=>by kernel_rfl,trivial⟩ ?_
 intro a6 w6 M6
 repeat refine wp_seq ?_
 refine wp_cond_false (M6.ev (by kernel_rfl)) ?_
 refine wp_skip ?_
 repeat refine wp_seq ?_
 refine M6.tx (F71e3_10 m x) [(5,(RG.z 8))] [(2,6,(ws (0:Fin P)++(ws (0:Fin P))))] [(RG.z 8),(ws x),(ws (0:Fin P)++(ws (0:Fin P)))] [(2,(.p 0 0)),(3,(.v (.bool false))),(5,(.v (.bool false))),(6,(.p 2 0))] (by kernel_rfl) (by kernel_rfl) ⟨RG.ld u85 i85 (by kernel_rfl),RG.cert_call1 rfl 163 39 (fv x) (.tuple #[(pv (0:Fin P) (0:Fin P)),(.bool false)]) rfl (fun a w=>by kernel_rfl) (RG.sx fun _=>by kernel_rfl) (above_n_c C x hr),RG.st fun _ _=>by kernel_rfl,RG.st fun _ _=>by kernel_rfl,RG.st fun _ _=>by kernel_rfl,RG.mk 2 90 fun _ _=>by kernel_rfl,RG.pt i109 (by kernel_rfl),RG.st fun _ _=>by kernel_rfl,trivial⟩ ?_
 intro j7 a7 w7 M7
 repeat refine wp_seq ?_
 refine M7.tx0 (F71e3_11 x) [(2,(.p 0 0)),(3,(.v (.bool false))),(5,(.v (.bool false))),(6,(.p 2 0)),(49,(.v (.bool false)))] (by kernel_rfl) ⟨RG.st fun _ _=>by kernel_rfl,RG.st fun _ _=>by kernel_rfl,RG.cert_pass rfl rfl,RG.cert_pass rfl rfl,RG.cert_pass rfl rfl,RG.cert_pass rfl rfl,RG.st fun _ _=>by kernel_rfl,trivial⟩ ?_
 intro a8 w8 M8
 repeat refine wp_seq ?_
 refine wp_cond_false (M8.ev (by kernel_rfl)) ?_
 refine wp_skip ?_
 repeat refine wp_seq ?_
 refine M8.tx (F71e3_13 x) [] [(0,2,(ws (0:Fin P)++(ws (0:Fin P))))] [(ws (0:Fin P)++(ws (0:Fin P))),(ws x),(ws (0:Fin P)++(ws (0:Fin P)))] [(2,(.p 0 0)),(3,(.v (.bool false)))] (by kernel_rfl) (by kernel_rfl) ⟨RG.ld u109 i109 (by kernel_rfl),RG.st fun _ _=>by kernel_rfl,RG.pt i109 (by kernel_rfl),RG.st fun _ _=>by kernel_rfl,trivial⟩ ?_
 intro a9 w9 M9
 have hS9:RG.St w w.heap.size [] [(ws (0:Fin P)++(ws (0:Fin P))),(ws x),(ws (0:Fin P)++(ws (0:Fin P)))] [j1,j5,j7] _:=M9.st
 have sl9:=M9.sl
 have f2_9:a9.tmps[2]? = some (.pointer (some ⟨j1,0,none⟩)):=M9.at (s:=(.p 0 0)) (by kernel_rfl)
 have f3_9:a9.tmps[3]? = some (.bool false):=M9.at (s:=(.v (.bool false))) (by kernel_rfl)
 refine wp_ret ?_
 refine bodyPost_ret (v:=(.tuple #[(pv (0:Fin P) (0:Fin P)),(.bool false)])) (RG.results_rt hS9 2 3 90 rfl 0 _ rfl f2_9 _ f3_9 u109 i109) sl9.defers ?_
 exact ⟨_,rfl,hS9.bel.below,rfl⟩
def F71g_0 (m:Int) (x:Fin P):List RG.It:=[.m 2 [] 0,.x 3 [] (.bool false)]
def F71g_1 (g o cap:Nat) (x:Fin P):List RG.It:=[.x 7 [] (.slice (some ⟨g,o,none⟩) 33 cap),.x 8 [(7,0)] (.int .i64 33),.x 9 [(8,1)] (.bool false)]
def F71g_3 (g o cap:Nat) (bs:Bs) (x:Fin P):List RG.It:=[.x 11 [] (.slice (some ⟨g,o,none⟩) 33 cap),.x 12 [(11,0)] (.pointer (some ⟨g,o,none⟩)),.x 13 [(12,1)] (.agg (bl33 bs).toArray),.x 14 [] (.agg z33.toArray),.x 15 [(13,2),(14,3)] (.bool false)]
def F71g_5 (g o cap:Nat) (x:Fin P):List RG.It:=[.x 17 [] (.slice (some ⟨g,o,none⟩) 33 cap),.x 18 [(17,0)] (.pointer (some ⟨g,o,none⟩)),.x 19 [(18,1)] (.int .u8 3),.x 20 [(19,2)] (.bool true),.x 21 [(20,3)] (.bool true),.x 22 [] (.slice (some ⟨g,o,none⟩) 33 cap),.x 23 [(22,5)] (.pointer (some ⟨g,o,none⟩)),.x 24 [(23,6)] (.int .u8 3),.x 25 [(24,7)] (.bool false),.x 26 [(21,4),(25,8)] (.bool false)]
def F71g_7 (g o cap:Nat) (m:Int) (x:Fin P):List RG.It:=[.c 29 [] gv0,.x 30 [] (.slice (some ⟨g,o,none⟩) 33 cap),.x 31 [(30,1)] (.slice (some ⟨g,o+1,none⟩) 32 (cap - 1)),.c 32 [(29,0),(31,2)] (.tuple #[(fv x),(.bool true)]),.x 28 [(32,3)] (.tuple #[(fv x),(.bool true)]),.x 33 [(28,4)] (fv x),.x 34 [(28,4)] (.bool true),.m 4 [] 1,.u [(4,7),(33,5)] 1,.x 5 [(34,6)] (.bool true)]
def F71g_8 (x:Fin P):List RG.It:=[.x 35 [] (.bool true),.x 36 [(35,0)] (.bool false)]
def F71g_10 (m:Int) (x y:Fin P):List RG.It:=[.x 39 [] (fv x),.c 40 [(39,0)] (.tuple #[(pv x y),(.bool true)]),.x 38 [(40,1)] (.tuple #[(pv x y),(.bool true)]),.x 41 [(38,2)] (pv x y),.x 42 [(38,2)] (.bool true),.m 6 [] 2,.u [(6,5),(41,3)] 2,.x 5 [(42,4)] (.bool true)]
def F71g_11 (g o cap:Nat) (x:Fin P):List RG.It:=[.x 43 [] (.bool true),.x 44 [(43,0)] (.bool true),.x 45 [] (.slice (some ⟨g,o,none⟩) 33 cap),.x 46 [(45,2)] (.pointer (some ⟨g,o,none⟩)),.x 47 [(46,3)] (.int .u8 3),.x 48 [(47,4)] (.bool true),.x 49 [(44,1),(48,5)] (.bool true)]
def F71g_12 (x y y2:Fin P):List RG.It:=[.x 50 [] (pv x y),.c 51 [(50,0)] (pv x y2),.u [(51,1)] 2]
def F71g_13 (x y2:Fin P):List RG.It:=[.x 52 [] (pv x y2),.x 53 [] (.bool true),.u [(52,0)] 0,.x 3 [(53,1)] (.bool true)]
set_option maxHeartbeats 2000000 in
set_option maxRecDepth 100000 in
theorem rp_odd (C:Fld P) (g o cap:Nat) (m:Int) (bs:Bs) (x y y2:Fin P) (w:World) (hs:bs.size=33) (hc:33≤cap) (hg:g < w.heap.size) (hB:Holds encB w g o bs) (hz:¬ Zero33 bs) (hm:ub bs[0]! = 3) (hx:beV (tl33 bs).toList=x.val) (hr:rt (x*x*x+7)=some y) (hy2:0 - y=y2):Calls Tryz.prog 135 #[(.slice (some ⟨g,o,none⟩) 33 cap)] w (Ret fun e w'=>Below w.heap.size w w'∧e=(.tuple #[pv x y2,.bool true])):=by
 have hrg:=bl33_range hB
 have hb0:w.cell? ⟨g,o,none⟩=some (.int .u8 3):=by
  have:=(hB 0 (by rw [hs];decide)).1
  rw [Nat.add_zero] at this
  rw [this]
  show some (Value.int .u8 (ub bs[0]!))=_
  rw [hm]
 have hrd:∀ w',RG.BelX w.heap.size [] w w'→Calls Tryz.prog 110 #[gv0,.slice (some ⟨g,o+1,none⟩) 32 (cap - 1)] w' (Ret fun e w''=>Below w'.heap.size w' w''∧e=.tuple #[fv x,.bool true]):=fun w' hb=>Read_y C (tl33_size hs) (by omega) hx (Nat.lt_of_lt_of_le hg hb.size) (Holds.below (tl33_holds hs hB) hb.below hg)
 have popp_y:Gives 164 #[pv x y] (pv x y2):=hy2 ▸ popp_c C x y
 go_enter Tryz.func135,Tryz.ntmps135
 refine RG.var1 (v0:=(.slice (some ⟨g,o,none⟩) 33 cap)) (n:=54) (by kernel_rfl) (by kernel_rfl) (by kernel_rfl) ?_
 intro a0 sl0 f0
 have hS0:=RG.St.begin w
 have M0:RG.M w w.heap.size [] 54 [] [] [(0,(.v (.slice (some ⟨g,o,none⟩) 33 cap)))] a0 _:=⟨hS0,sl0,⟨f0,trivial⟩⟩
 repeat refine wp_seq ?_
 refine M0.tx (F71g_0 m x) [(0,(RG.z 8))] [] [(RG.z 8)] [(0,(.v (.slice (some ⟨g,o,none⟩) 33 cap))),(2,(.p 0 0)),(3,(.v (.bool false)))] (by kernel_rfl) (by kernel_rfl) ⟨RG.mk 0 90 fun _ _=>by kernel_rfl,RG.st fun _ _=>by kernel_rfl,trivial⟩ ?_
 intro j1 a1 w1 M1
 repeat refine wp_seq ?_
 refine M1.tx0 (F71g_1 g o cap x) [(0,(.v (.slice (some ⟨g,o,none⟩) 33 cap))),(2,(.p 0 0)),(3,(.v (.bool false))),(9,(.v (.bool false)))] (by kernel_rfl) ⟨RG.st fun _ _=>by kernel_rfl,RG.cert_one rfl 7 (.v (.slice (some ⟨g,o,none⟩) 33 cap)) (.int .i64 33) rfl (RG.sx fun _=>by kernel_rfl) (fun a w=>by kernel_rfl) (fun μ w=>by kernel_rfl),RG.st fun _ _=>by kernel_rfl,trivial⟩ ?_
 intro a2 w2 M2
 repeat refine wp_seq ?_
 refine wp_cond_false (M2.ev (by kernel_rfl)) ?_
 refine wp_skip ?_
 repeat refine wp_seq ?_
 refine M2.tx0 (F71g_3 g o cap bs x) [(0,(.v (.slice (some ⟨g,o,none⟩) 33 cap))),(2,(.p 0 0)),(3,(.v (.bool false))),(15,(.v (.bool false)))] (by kernel_rfl) ⟨RG.st fun _ _=>by kernel_rfl,RG.cert_s2a rfl 57 11 (.slice (some ⟨g,o,none⟩) 33 cap) (.pointer (some ⟨g,o,none⟩)) rfl rfl (RG.sx fun _=>by kernel_rfl) (arr33 g o cap),RG.cert_loadB rfl g o hg List.not_mem_nil 57 12 rfl (bl33 bs) rfl (RG.sx fun _=>by kernel_rfl) hrg u131 (by rw [bl33_length hs];exact i131),RG.st fun _ _=>by kernel_rfl,RG.cert_bin rfl .eql 57 57 13 14 (.agg (bl33 bs).toArray) (.agg z33.toArray) (.bool false) rfl rfl (RG.sx fun _=>by kernel_rfl) (RG.sx fun _=>by kernel_rfl) (fun w=>by kernel_rfl) (eqz_f hs hz),trivial⟩ ?_
 intro a3 w3 M3
 repeat refine wp_seq ?_
 refine wp_cond_false (M3.ev (by kernel_rfl)) ?_
 refine wp_skip ?_
 repeat refine wp_seq ?_
 refine M3.tx0 (F71g_5 g o cap x) [(0,(.v (.slice (some ⟨g,o,none⟩) 33 cap))),(2,(.p 0 0)),(3,(.v (.bool false))),(26,(.v (.bool false)))] (by kernel_rfl) ⟨RG.st fun _ _=>by kernel_rfl,RG.cert_idxc rfl 22 17 (.int .i64 0) rfl (.v (.slice (some ⟨g,o,none⟩) 33 cap)) (RG.sx fun _=>by kernel_rfl) (fun μ w=>at23 g o 33 cap (by decide) w),RG.cert_load1B rfl g o hg List.not_mem_nil 5 18 rfl (.int .u8 3) rfl (RG.sx fun _=>by kernel_rfl) hb0 u5,RG.st fun _ _=>by kernel_rfl,RG.st fun _ _=>by kernel_rfl,RG.st fun _ _=>by kernel_rfl,RG.cert_idxc rfl 22 22 (.int .i64 0) rfl (.v (.slice (some ⟨g,o,none⟩) 33 cap)) (RG.sx fun _=>by kernel_rfl) (fun μ w=>at23 g o 33 cap (by decide) w),RG.cert_load1B rfl g o hg List.not_mem_nil 5 23 rfl (.int .u8 3) rfl (RG.sx fun _=>by kernel_rfl) hb0 u5,RG.st fun _ _=>by kernel_rfl,RG.st fun _ _=>by kernel_rfl,trivial⟩ ?_
 intro a4 w4 M4
 repeat refine wp_seq ?_
 refine wp_cond_false (M4.ev (by kernel_rfl)) ?_
 refine wp_skip ?_
 repeat refine wp_seq ?_
 refine M4.dr (by kernel_rfl) (F71g_7 g o cap m x) [(7,(RG.z 4))] [(1,8,(ws x))] [(RG.z 8),(ws x)] [(0,(.v (.slice (some ⟨g,o,none⟩) 33 cap))),(2,(.p 0 0)),(3,(.v (.bool false))),(4,(.p 1 0)),(5,(.v (.bool true)))] (by kernel_rfl) (by kernel_rfl) ⟨RG.cl (Coordinates_c) fun _ _=>by kernel_rfl,RG.st fun _ _=>by kernel_rfl,RG.cert_slice1 rfl 22 30 (.int .i64 1) (.slice (some ⟨g,o,none⟩) 33 cap) (.slice (some ⟨g,o+1,none⟩) 32 (cap - 1)) rfl rfl (RG.sx fun _=>by kernel_rfl) (sl33 g o cap hc),RG.cert_callB2 rfl 110 29 31 gv0 (.slice (some ⟨g,o+1,none⟩) 32 (cap - 1)) (.tuple #[(fv x),(.bool true)]) rfl (fun a w=>by kernel_rfl) (RG.sx fun _=>by kernel_rfl) (RG.sx fun _=>by kernel_rfl) hrd,RG.st fun _ _=>by kernel_rfl,RG.st fun _ _=>by kernel_rfl,RG.st fun _ _=>by kernel_rfl,RG.mk 1 51 fun _ _=>by kernel_rfl,RG.pt i85 (by kernel_rfl),RG.st fun _ _=>by kernel_rfl,trivial⟩ ?_
 intro j5 a5 w5 M5
 repeat refine wp_seq ?_
 refine M5.tx0 (F71g_8 x) [(0,(.v (.slice (some ⟨g,o,none⟩) 33 cap))),(2,(.p 0 0)),(3,(.v (.bool false))),(4,(.p 1 0)),(5,(.v (.bool true))),(36,(.v (.bool false)))] (by kernel_rfl) ⟨RG.st fun _ _=>by kernel_rfl,RG.st fun _ _=>by kernel_rfl,trivial⟩ ?_
 intro a6 w6 M6
 repeat refine wp_seq ?_
 refine wp_cond_false (M6.ev (by kernel_rfl)) ?_
 refine wp_skip ?_
 repeat refine wp_seq ?_
 refine M6.tx (F71g_10 m x y) [(5,(RG.z 8))] [(2,6,(ws x++(ws y)))] [(RG.z 8),(ws x),(ws x++(ws y))] [(0,(.v (.slice (some ⟨g,o,none⟩) 33 cap))),(2,(.p 0 0)),(3,(.v (.bool false))),(5,(.v (.bool true))),(6,(.p 2 0))] (by kernel_rfl) (by kernel_rfl) ⟨RG.ld u85 i85 (by kernel_rfl),RG.cert_call1 rfl 163 39 (fv x) (.tuple #[(pv x y),(.bool true)]) rfl (fun a w=>by kernel_rfl) (RG.sx fun _=>by kernel_rfl) (above_y_c C x y hr),RG.st fun _ _=>by kernel_rfl,RG.st fun _ _=>by kernel_rfl,RG.st fun _ _=>by kernel_rfl,RG.mk 2 90 fun _ _=>by kernel_rfl,RG.pt i109 (by kernel_rfl),RG.st fun _ _=>by kernel_rfl,trivial⟩ ?_
 intro j7 a7 w7 M7
 repeat refine wp_seq ?_
 refine M7.tx0 (F71g_11 g o cap x) [(2,(.p 0 0)),(3,(.v (.bool false))),(5,(.v (.bool true))),(6,(.p 2 0)),(49,(.v (.bool true)))] (by kernel_rfl) ⟨RG.st fun _ _=>by kernel_rfl,RG.st fun _ _=>by kernel_rfl,RG.st fun _ _=>by kernel_rfl,RG.cert_idxc rfl 22 45 (.int .i64 0) rfl (.v (.slice (some ⟨g,o,none⟩) 33 cap)) (RG.sx fun _=>by kernel_rfl) (fun μ w=>at23 g o 33 cap (by decide) w),RG.cert_load1B rfl g o hg List.not_mem_nil 5 46 rfl (.int .u8 3) rfl (RG.sx fun _=>by kernel_rfl) hb0 u5,RG.st fun _ _=>by kernel_rfl,RG.st fun _ _=>by kernel_rfl,trivial⟩ ?_
 intro a8 w8 M8
 repeat refine wp_seq ?_
 refine wp_cond_true (M8.ev (by kernel_rfl)) ?_
 repeat refine wp_seq ?_
 refine M8.tx (F71g_12 x y y2) [] [(2,2,(ws x++(ws y2)))] [(RG.z 8),(ws x),(ws x++(ws y2))] [(2,(.p 0 0)),(3,(.v (.bool false))),(5,(.v (.bool true))),(6,(.p 2 0))] (by kernel_rfl) (by kernel_rfl) ⟨RG.ld u109 i109 (by kernel_rfl),RG.cl (popp_y) fun _ _=>by kernel_rfl,RG.pt i109 (by kernel_rfl),trivial⟩ ?_
 intro a9 w9 M9
 repeat refine wp_seq ?_
 refine M9.tx (F71g_13 x y2) [] [(0,2,(ws x++(ws y2)))] [(ws x++(ws y2)),(ws x),(ws x++(ws y2))] [(2,(.p 0 0)),(3,(.v (.bool true)))] (by kernel_rfl) (by kernel_rfl) ⟨RG.ld u109 i109 (by kernel_rfl),RG.st fun _ _=>by kernel_rfl,RG.pt i109 (by kernel_rfl),RG.st fun _ _=>by kernel_rfl,trivial⟩ ?_
 intro a10 w10 M10
 have hS10:RG.St w w.heap.size [] [(ws x++(ws y2)),(ws x),(ws x++(ws y2))] [j1,j5,j7] _:=M10.st
 have sl10:=M10.sl
 have f2_10:a10.tmps[2]? = some (.pointer (some ⟨j1,0,none⟩)):=M10.at (s:=(.p 0 0)) (by kernel_rfl)
 have f3_10:a10.tmps[3]? = some (.bool true):=M10.at (s:=(.v (.bool true))) (by kernel_rfl)
 refine wp_ret ?_
 refine bodyPost_ret (v:=(.tuple #[(pv x y2),(.bool true)])) (RG.results_rt hS10 2 3 90 rfl 0 _ rfl f2_10 _ f3_10 u109 i109) sl10.defers ?_
 exact ⟨_,rfl,hS10.bel.below,rfl⟩
def Arg33 (w:World) (v:Value) (bs:Bs):Prop:=∃ (p:Option Addr) (n cap:Nat),v=.slice p n cap∧bs.size=n∧(n=33→∃ g o,p=some ⟨g,o,none⟩∧33≤cap∧g < w.heap.size∧Holds encB w g o bs)
theorem Arg33.below {w w1:World} {v:Value} {bs:Bs} (h:Arg33 w v bs) (hb:Below w.heap.size w w1):Arg33 w1 v bs:=by
 obtain ⟨p,n,cap,rfl,hs,h1⟩:=h
 refine ⟨p,n,cap,rfl,hs,fun h2=>?_⟩
 obtain ⟨g,o,h3,h4,h6,h7⟩:=h1 h2
 exact ⟨g,o,h3,h4,Nat.lt_of_lt_of_le h6 hb.size,Holds.below h7 hb h6⟩
theorem readPoint_c (C:Fld P) (v:Value) (bs:Bs) (w:World) (hv:Arg33 w v bs):Calls Tryz.prog 135 #[v] w (Ret fun e w'=>Below w.heap.size w w'∧e=rdV (rd P bs)):=by
 obtain ⟨p,n,cap,rfl,hs,h1⟩:=hv
 unfold rd
 by_cases hn:n=33
 · subst hn
   obtain ⟨g,o,rfl,hc,hg,hB⟩:=h1 rfl
   rw [if_pos hs]
   by_cases hz:Zero33 bs
   · rw [if_pos hz]
     exact rp_zero C g o cap 0 bs 0 0 0 w hs hc hg hB hz
   · rw [if_neg hz]
     by_cases hm:ub bs[0]! = 2∨ub bs[0]! = 3
     · rw [if_pos hm]
       by_cases hx:beV (tl33 bs).toList < P
       · rw [if_pos hx]
         have hx':beV (tl33 bs).toList=(rdx P bs).val:=(Nat.mod_eq_of_lt hx).symm
         cases hr:rt (rdx P bs*rdx P bs*rdx P bs+7) with
         | none =>
          rcases hm with hm | hm
          · exact rp_none2 C g o cap 0 bs (rdx P bs) 0 0 w hs hc hg hB hz hm hx' hr
          · exact rp_none3 C g o cap 0 bs (rdx P bs) 0 0 w hs hc hg hB hz hm hx' hr
         | some y =>
          rcases hm with hm | hm
          · rw [Option.map_some,if_neg (by rw [hm];decide)]
            exact rp_even C g o cap 0 bs (rdx P bs) y 0 w hs hc hg hB hz hm hx' hr
          · rw [Option.map_some,if_pos hm]
            exact rp_odd C g o cap 0 bs (rdx P bs) y (0 - y) w hs hc hg hB hz hm hx' hr rfl
       · rw [if_neg hx]
         rcases hm with hm | hm
         · exact rp_num2 C g o cap 0 bs 0 0 0 w hs hc hg hB hz hm hx
         · exact rp_num3 C g o cap 0 bs 0 0 0 w hs hc hg hB hz hm hx
     · rw [if_neg hm]
       exact rp_mark C g o cap _ bs 0 0 0 w hs hc hg hB hz rfl (fun h=>hm (Or.inl h)) (fun h=>hm (Or.inr h))
 · rw [if_neg (by rw [hs];exact hn)]
   exact rp_len C p n cap 0 w hn
end Go.Proofs.YtmkllfekhehagadGreat
namespace Go.Proofs.YtmkllfekhehagadGreat
open Go.RowKit Go.Sort Go.Deep
variable {P:Nat} [NeZero P]
def bx (n:Nat):Bs:=be32 (n % 18446744073709551616) (n / 18446744073709551616 % 18446744073709551616) (n / 340282366920938463463374607431768211456 % 18446744073709551616) (n / 6277101735386680763835789423207666416102355444464034512896 % 18446744073709551616)
theorem bx_size (n:Nat):(bx n).size=32:=by unfold bx;exact be32_size _ _ _ _
def mark (n:Nat):UInt8:=if n % 2=1 then 3 else 2
def by33 (x y:Fin P):Bs:=if x=0∧y=0 then Array.replicate 33 0 else #[mark y.val]++bx x.val
theorem Bytes_c (C:Fld P) (x:Fin P) (w:World):Calls Tryz.prog 78 #[fv x] w (Ret fun e w'=>Below w.heap.size w w'∧∃ g,e=.slice (some ⟨g,0,none⟩) 32 32∧w.heap.size≤g∧Holds encB w' g 0 (bx x.val)) :=
 (Bytes_any _ _ w (C.four x)).mono (by
  rintro e w' ⟨v,rfl,hb,g,a,b,c,d,rfl,hg,he,hH⟩
  refine ⟨_,rfl,hb,g,rfl,hg,?_⟩
  have h2:fv x=.agg #[.int .u64 ((x.val % 18446744073709551616:Nat):Int),.int .u64 ((x.val / 18446744073709551616 % 18446744073709551616:Nat):Int),.int .u64 ((x.val / 340282366920938463463374607431768211456 % 18446744073709551616:Nat):Int),.int .u64 ((x.val / 6277101735386680763835789423207666416102355444464034512896 % 18446744073709551616:Nat):Int)]:=rfl
  rw [h2] at he
  simp only [Value.agg.injEq,Array.mk.injEq,List.cons.injEq,Value.int.injEq,true_and,and_true,Int.ofNat_inj] at he
  obtain ⟨rfl,rfl,rfl,rfl⟩:=he
  exact hH)
theorem Odd_c (C:Fld P) (y:Fin P):Gives 99 #[fv y] (.bool (decide (y.val % 2=1))):=fun w =>
 (Odd_any _ _ (C.four y) w).mono (by rintro e w' ⟨v,rfl,hb,rfl⟩;exact ⟨_,rfl,hb,rfl⟩)
theorem info5b:(Tryz.prog.info? 5).map (fun i=>(i.zero,i.size,i.bytes))=some (some (.int .u8 0),1,1):=by kernel_rfl
theorem und23:Tryz.prog.underlying 22=some (.slice 5):=by kernel_rfl
def BytesR (w:World) (T:Bs) (e:Value) (w':World):Prop:=∃ g cap,e=.slice (some ⟨g,0,none⟩) 33 cap∧33≤cap∧w.heap.size≤g∧g < w'.heap.size∧Holds encB w' g 0 T
theorem mk33 (w:World):(Instr.makeSlice 22 (.int .i64 33) (.int .i64 33)).run Tryz.prog w=.ok (.slice (some ⟨w.heap.size,0,none⟩) 33 33) (w.alloc (.cells (madeCells #[.int .u8 0] 33) 5)) :=
 run_make_row' (P:=Tryz.prog) 22 5 (.int .u8 0) 1 und23 info5b rfl .i64 .i64 33 (by decide) (by decide) w
theorem made33 (w:World) (o:Obj):Holds encB ((w.alloc o).alloc (.cells (madeCells #[.int .u8 0] 33) 5)) (w.heap.size+1) 0 (Array.replicate 33 0):=by
 have h:=Holds.made (enc:=encB) (w.alloc o) 5 33 (0:UInt8)
 rw [World.size_alloc] at h
 exact h
omit [NeZero P] in
theorem pv_words (x y:Fin P):pv x y=.agg #[.int .u64 ((x.val % 18446744073709551616:Nat):Int),.int .u64 ((x.val / 18446744073709551616 % 18446744073709551616:Nat):Int),.int .u64 ((x.val / 340282366920938463463374607431768211456 % 18446744073709551616:Nat):Int),.int .u64 ((x.val / 6277101735386680763835789423207666416102355444464034512896 % 18446744073709551616:Nat):Int),.int .u64 ((y.val % 18446744073709551616:Nat):Int),.int .u64 ((y.val / 18446744073709551616 % 18446744073709551616:Nat):Int),.int .u64 ((y.val / 340282366920938463463374607431768211456 % 18446744073709551616:Nat):Int),.int .u64 ((y.val / 6277101735386680763835789423207666416102355444464034512896 % 18446744073709551616:Nat):Int)]:=rfl
set_option maxHeartbeats 2000000 in
set_option maxRecDepth 100000 in
theorem bytes_zero (C:Fld P) (x y:Fin P) (hz:x=0∧y=0) (w:World):Calls Tryz.prog 49 #[pv x y] w (Ret fun e w'=>Below w.heap.size w w'∧BytesR w (Array.replicate 33 0) e w'):=by
 have heq:=eqPt_t C (x:=x) (y:=y) (z:=0) (t:=0) hz
 rw [← zero_pv,pv_words] at heq
 rw [pv_words]
 generalize ((x.val % 18446744073709551616:Nat):Int)=a at heq ⊢
 generalize ((x.val / 18446744073709551616 % 18446744073709551616:Nat):Int)=b at heq ⊢
 generalize ((x.val / 340282366920938463463374607431768211456 % 18446744073709551616:Nat):Int)=c at heq ⊢
 generalize ((x.val / 6277101735386680763835789423207666416102355444464034512896 % 18446744073709551616:Nat):Int)=d at heq ⊢
 generalize ((y.val % 18446744073709551616:Nat):Int)=p at heq ⊢
 generalize ((y.val / 18446744073709551616 % 18446744073709551616:Nat):Int)=q at heq ⊢
 generalize ((y.val / 340282366920938463463374607431768211456 % 18446744073709551616:Nat):Int)=r at heq ⊢
 generalize ((y.val / 6277101735386680763835789423207666416102355444464034512896 % 18446744073709551616:Nat):Int)=s at heq ⊢
 have hmk:=mk33
 generalize hT:(Array.replicate 33 0:Bs)=T
 go_enter Tryz.func49,Tryz.ntmps49
 go_wp2
 go_ret
 have hM:=made33 w (.cells #[.int .u64 a,.int .u64 b,.int .u64 c,.int .u64 d,.int .u64 p,.int .u64 q,.int .u64 r,.int .u64 s] 90)
 rw [hT] at hM
 exact ⟨_,rfl,below2 _ _ _,_,33,rfl,by omega,by omega,by simp,hM⟩
theorem grow33 (w:World) (k g m:Nat) (B:Bs) (hB:B.size=32) (hc:w.cell? ⟨k,0,none⟩=some (.int .u8 (m:Int))) (hH:Holds encB w g 0 B) (hm:m < 256:=by decide) :
 ∃ (w':World) (cap:Nat),(Builtin.append_ #[22,22] 22 #[.slice (some ⟨k,0,none⟩) 1 1,.slice (some ⟨g,0,none⟩) 32 32]).run Tryz.prog w=.ok (.slice (some ⟨w.heap.size,0,none⟩) 33 cap) w'∧Below w.heap.size w w'∧33≤cap∧w.heap.size < w'.heap.size∧Holds encB w' w.heap.size 0 (#[UInt8.ofNat m]++B):=by
 obtain ⟨i,hi,hzz⟩:=Option.map_eq_some_iff.1 info5b
 simp only [Prod.mk.injEq] at hzz
 obtain ⟨hz,hs,hb⟩:=hzz
 have hap:=run_append_grow (P:=Tryz.prog) w 22 22 5 i (.int .u8 0) und23 hi hz ⟨k,0,none⟩ 1 1 [.int .u8 (m:Int)] (by rw [hs];rfl) (fun j v hj=>by
  cases j with
  | zero =>
   obtain rfl:Value.int .u8 (m:Int)=v:=by simpa using hj
   rw [Addr.add_mid]
   exact hc
  | succ j=>simp at hj) ⟨g,0,none⟩ 32 32 (B.toList.map encB) (by rw [hs,List.length_map,Array.length_toList,hB]) (fun j v hj=>by
  have hj':j < B.size:=by
   have:=(List.getElem?_eq_some_iff.1 hj).1
   rwa [List.length_map,Array.length_toList] at this
  rw [Addr.add_mid,(hH j hj').1]
  rw [List.getElem?_map,Array.getElem?_toList,Array.getElem?_eq_getElem hj'] at hj
  rw [getElem!_pos B j hj']
  exact hj) (by decide) (by decide) (by rw [hb];decide)
 refine ⟨_,_,hap,?_,?_,?_,?_⟩
 · exact (Below.refl _ w).drew.trans (below1 w.drew _)
 · exact grownCap_ge w (1+32) 1 5
 · show w.drew.heap.size < (w.drew.alloc _).heap.size
   rw [World.size_alloc]
   exact Nat.lt_succ_self _
 · intro j hj
   have hsz:(#[UInt8.ofNat m]++B).size=33:=by rw [Array.size_append,hB];rfl
   have hj':j < 33:=by rw [← hsz];exact hj
   refine ⟨?_,World.frozen?_alloc_new w.drew _ _ _⟩
   show (w.drew.alloc _).cell? ⟨w.drew.heap.size,0+j,none⟩=_
   rw [Nat.zero_add,World.cell?_alloc_new,getElem!_pos _ j hj,Array.getElem?_append_left (by
    rw [Array.size_append,List.size_toArray,List.size_toArray,List.length_map,Array.length_toList]
    show j < 1+B.size
    omega)]
   cases j with
   | zero =>
    rw [Array.getElem?_append_left (by simp),Array.getElem_append_left (by simp)]
    show some (Value.int .u8 (m:Int))=some (encB (UInt8.ofNat m))
    unfold encB
    rw [ub_ofNat,Nat.mod_eq_of_lt hm]
   | succ i =>
    rw [Array.getElem?_append_right (by simp),Array.getElem_append_right (by simp),List.getElem?_toArray,List.getElem?_map,Array.getElem?_toList]
    show Option.map encB B[i]? = some (encB B[i])
    rw [Array.getElem?_eq_getElem (by omega)]
    rfl
theorem keptP (w:World) (a b c d p q r s:Nat):Kept w w.heap.size [⟨w.heap.size,0,a,b,c,d⟩,⟨w.heap.size,4,p,q,r,s⟩] (w.alloc (.cells #[.int .u64 (a:Int),.int .u64 (b:Int),.int .u64 (c:Int),.int .u64 (d:Int),.int .u64 (p:Int),.int .u64 (q:Int),.int .u64 (r:Int),.int .u64 (s:Int)] 90)):=by
 have F:=At8.made w 90 a b c d p q r s rfl
 refine ((Kept.mk1 (below1 w _) (below1 w _).size).cons ?_).cons ?_
 · exact ⟨F.c4,F.c5,F.c6,F.c7,F.fz⟩
 · exact ⟨F.c0,F.c1,F.c2,F.c3,F.fz⟩
set_option maxHeartbeats 4000000 in
set_option maxRecDepth 100000 in
theorem bytes_odd (C:Fld P) (x y:Fin P) (hz:¬ (x=0∧y=0)) (ho:y.val % 2=1) (w:World):Calls Tryz.prog 49 #[pv x y] w (Ret fun e w'=>Below w.heap.size w w'∧BytesR w (#[3]++bx x.val) e w'):=by
 have heq:=eqPt_f C (x:=x) (y:=y) (z:=0) (t:=0) hz
 rw [← zero_pv,pv_words] at heq
 rw [pv_words]
 have hO:∀ w,Calls Tryz.prog 99 #[.agg #[.int .u64 ((y.val % 18446744073709551616:Nat):Int),.int .u64 ((y.val / 18446744073709551616 % 18446744073709551616:Nat):Int),.int .u64 ((y.val / 340282366920938463463374607431768211456 % 18446744073709551616:Nat):Int),.int .u64 ((y.val / 6277101735386680763835789423207666416102355444464034512896 % 18446744073709551616:Nat):Int)]] w (Ret fun e w'=>Below w.heap.size w w'∧e=.bool true):=fun w=>by
  have h:=Odd_c C y w
  rw [decide_eq_true ho] at h
  exact h
 have hBy:∀ w,Calls Tryz.prog 78 #[.agg #[.int .u64 ((x.val % 18446744073709551616:Nat):Int),.int .u64 ((x.val / 18446744073709551616 % 18446744073709551616:Nat):Int),.int .u64 ((x.val / 340282366920938463463374607431768211456 % 18446744073709551616:Nat):Int),.int .u64 ((x.val / 6277101735386680763835789423207666416102355444464034512896 % 18446744073709551616:Nat):Int)]] w (Ret fun e w'=>Below w.heap.size w w'∧∃ g,e=.slice (some ⟨g,0,none⟩) 32 32∧w.heap.size≤g∧Holds encB w' g 0 (bx x.val)):=Bytes_c C x
 have hbs:=bx_size x.val
 generalize bx x.val=B at hBy hbs ⊢
 generalize x.val % 18446744073709551616=a at heq hO hBy ⊢
 generalize x.val / 18446744073709551616 % 18446744073709551616=b at heq hO hBy ⊢
 generalize x.val / 340282366920938463463374607431768211456 % 18446744073709551616=c at heq hO hBy ⊢
 generalize x.val / 6277101735386680763835789423207666416102355444464034512896 % 18446744073709551616=d at heq hO hBy ⊢
 generalize y.val % 18446744073709551616=p at heq hO hBy ⊢
 generalize y.val / 18446744073709551616 % 18446744073709551616=q at heq hO hBy ⊢
 generalize y.val / 340282366920938463463374607431768211456 % 18446744073709551616=r at heq hO hBy ⊢
 generalize y.val / 6277101735386680763835789423207666416102355444464034512896 % 18446744073709551616=s at heq hO hBy ⊢
 have HQ:Hid (∀ w,(binOp .eql 90 _ _).run Tryz.prog w=_):=heq
 go_enter Tryz.func49,Tryz.ntmps49
 go_wp2_with fail
 have KP:=keptP w a b c d p q r s
 clear heq
 generalize World.alloc _ _=W0 at KP ⊢
 generalize hk:w.heap.size=k0 at KP ⊢
 refine (hO _).mono ?_
 rintro e w1 ⟨v,rfl,hb1,rfl⟩
 replace KP:=KP.call hb1
 clear hb1 HQ hO
 obtain ⟨xc0,xc1,xc2,xc3,xf⟩:=KP.head
 have zx:=KP.head.lt
 go_wp2_with fail
 refine (hBy _).mono ?_
 rintro e w2 ⟨v,rfl,hb2,g,rfl,hg,hH⟩
 have hc:w2.cell? ⟨w1.heap.size,0,none⟩=some (.int .u8 3):=by
  rw [hb2.cell (p:=⟨w1.heap.size,0,none⟩) (by show w1.heap.size < _;rw [World.size_alloc];omega),World.cell?_alloc_new]
  rfl
 have hle:k0≤w2.heap.size:=Nat.le_trans KP.le (Nat.le_trans (by rw [World.size_alloc];omega) hb2.size)
 have hbl:Hid (Below k0 w w2):=((KP.alloc _).call hb2).bl
 clear KP hb2 xc0 xc1 xc2 xc3 xf zx hg
 obtain ⟨W3,cp,hap,hb3,hcp,hsz3,hH3⟩:=grow33 w2 w1.heap.size g 3 B hbs hc hH
 generalize w1.heap.size=km at hap ⊢
 go_wp2_with (at_builtin;refine Lib.wpList_append_run _ rfl _ _ 22 22 rfl _ _ rfl rfl _ _ hap ?_)
 go_ret
 refine ⟨_,rfl,?_,_,cp,rfl,hcp,?_,hsz3,hH3⟩
 · rw [hk];exact hbl.out.trans (hb3.mono hle)
 · rw [hk];exact hle
set_option maxHeartbeats 4000000 in
set_option maxRecDepth 100000 in
theorem bytes_even (C:Fld P) (x y:Fin P) (hz:¬ (x=0∧y=0)) (ho:¬ y.val % 2=1) (w:World):Calls Tryz.prog 49 #[pv x y] w (Ret fun e w'=>Below w.heap.size w w'∧BytesR w (#[2]++bx x.val) e w'):=by
 have heq:=eqPt_f C (x:=x) (y:=y) (z:=0) (t:=0) hz
 rw [← zero_pv,pv_words] at heq
 rw [pv_words]
 have hO:∀ w,Calls Tryz.prog 99 #[.agg #[.int .u64 ((y.val % 18446744073709551616:Nat):Int),.int .u64 ((y.val / 18446744073709551616 % 18446744073709551616:Nat):Int),.int .u64 ((y.val / 340282366920938463463374607431768211456 % 18446744073709551616:Nat):Int),.int .u64 ((y.val / 6277101735386680763835789423207666416102355444464034512896 % 18446744073709551616:Nat):Int)]] w (Ret fun e w'=>Below w.heap.size w w'∧e=.bool false):=fun w=>by
  have h:=Odd_c C y w
  rw [decide_eq_false ho] at h
  exact h
 have hBy:∀ w,Calls Tryz.prog 78 #[.agg #[.int .u64 ((x.val % 18446744073709551616:Nat):Int),.int .u64 ((x.val / 18446744073709551616 % 18446744073709551616:Nat):Int),.int .u64 ((x.val / 340282366920938463463374607431768211456 % 18446744073709551616:Nat):Int),.int .u64 ((x.val / 6277101735386680763835789423207666416102355444464034512896 % 18446744073709551616:Nat):Int)]] w (Ret fun e w'=>Below w.heap.size w w'∧∃ g,e=.slice (some ⟨g,0,none⟩) 32 32∧w.heap.size≤g∧Holds encB w' g 0 (bx x.val)):=Bytes_c C x
 have hbs:=bx_size x.val
 generalize bx x.val=B at hBy hbs ⊢
 generalize x.val % 18446744073709551616=a at heq hO hBy ⊢
 generalize x.val / 18446744073709551616 % 18446744073709551616=b at heq hO hBy ⊢
 generalize x.val / 340282366920938463463374607431768211456 % 18446744073709551616=c at heq hO hBy ⊢
 generalize x.val / 6277101735386680763835789423207666416102355444464034512896 % 18446744073709551616=d at heq hO hBy ⊢
 generalize y.val % 18446744073709551616=p at heq hO hBy ⊢
 generalize y.val / 18446744073709551616 % 18446744073709551616=q at heq hO hBy ⊢
 generalize y.val / 340282366920938463463374607431768211456 % 18446744073709551616=r at heq hO hBy ⊢
 generalize y.val / 6277101735386680763835789423207666416102355444464034512896 % 18446744073709551616=s at heq hO hBy ⊢
 have HQ:Hid (∀ w,(binOp .eql 90 _ _).run Tryz.prog w=_):=heq
 go_enter Tryz.func49,Tryz.ntmps49
 go_wp2_with fail
 have KP:=keptP w a b c d p q r s
 clear heq
 generalize World.alloc _ _=W0 at KP ⊢
 generalize hk:w.heap.size=k0 at KP ⊢
 refine (hO _).mono ?_
 rintro e w1 ⟨v,rfl,hb1,rfl⟩
 replace KP:=KP.call hb1
 clear hb1 HQ hO
 obtain ⟨xc0,xc1,xc2,xc3,xf⟩:=KP.head
 have zx:=KP.head.lt
 go_wp2_with fail
 refine (hBy _).mono ?_
 rintro e w2 ⟨v,rfl,hb2,g,rfl,hg,hH⟩
 have hc:w2.cell? ⟨w1.heap.size,0,none⟩=some (.int .u8 2):=by
  rw [hb2.cell (p:=⟨w1.heap.size,0,none⟩) (by show w1.heap.size < _;rw [World.size_alloc];omega),World.cell?_alloc_new]
  rfl
 have hle:k0≤w2.heap.size:=Nat.le_trans KP.le (Nat.le_trans (by rw [World.size_alloc];omega) hb2.size)
 have hbl:Hid (Below k0 w w2):=((KP.alloc _).call hb2).bl
 clear KP hb2 xc0 xc1 xc2 xc3 xf zx hg
 obtain ⟨W3,cp,hap,hb3,hcp,hsz3,hH3⟩:=grow33 w2 w1.heap.size g 2 B hbs hc hH
 generalize w1.heap.size=km at hap ⊢
 go_wp2_with (at_builtin;refine Lib.wpList_append_run _ rfl _ _ 22 22 rfl _ _ rfl rfl _ _ hap ?_)
 go_ret
 refine ⟨_,rfl,?_,_,cp,rfl,hcp,?_,hsz3,hH3⟩
 · rw [hk];exact hbl.out.trans (hb3.mono hle)
 · rw [hk];exact hle
theorem bytes_c (C:Fld P) (x y:Fin P) (w:World):Calls Tryz.prog 49 #[pv x y] w (Ret fun e w'=>Below w.heap.size w w'∧BytesR w (by33 x y) e w'):=by
 unfold by33 mark
 by_cases hz:x=0∧y=0
 · rw [if_pos hz]
   exact bytes_zero C x y hz w
 · rw [if_neg hz]
   by_cases ho:y.val % 2=1
   · rw [if_pos ho]
     exact bytes_odd C x y hz ho w
   · rw [if_neg ho]
     exact bytes_even C x y hz ho w
end Go.Proofs.YtmkllfekhehagadGreat
namespace Go.Proofs.YtmkllfekhehagadGreat
open Go.RowKit Go.Sort Go.Deep
theorem u23:(Tryz.prog.underlying 22).map (·.isRow)=some false:=by kernel_rfl
theorem at46 (k o n c i:Nat) (hi:i < n) (w:World):(Instr.indexAt 35 (.slice (some ⟨k,o,none⟩) n c) (.int .i64 (i:Int))).run Tryz.prog w=.ok (.pointer (some ⟨k,o+i,none⟩)) w:=by
 have h1:¬ (i:Int) < 0:=by omega
 have h2:(i:Int) < n:=by omega
 go_simp
theorem mk112 (N:Nat) (hN:N≤512):∃ C0:List Value,C0.length=8*N∧∀ w:World,(Instr.makeSlice 144 (.int .i64 (N:Int)) (.int .i64 (N:Int))).run Tryz.prog w=.ok (.slice (some ⟨w.heap.size,0,none⟩) N N) (w.alloc (.cells C0.toArray 90)):=by
 have hu:Tryz.prog.underlying 144=some (.slice 90):=by kernel_rfl
 have hi:(Tryz.prog.info? 90).map (fun i=>(i.size,decide (i.bytes≤4000),i.zero.isSome))=some (8,true,true):=by kernel_rfl
 obtain ⟨i,hi1,hi2⟩:=Option.map_eq_some_iff.1 hi
 simp only [Prod.mk.injEq,decide_eq_true_eq] at hi2
 obtain ⟨h1,h2,h3⟩:=hi2
 obtain ⟨z,hz⟩:=Option.isSome_iff_exists.1 h3
 refine ⟨(madeCells z.cells (N*8)).toList,by rw [Array.length_toList,size_madeCells,Nat.mul_comm],fun w=>?_⟩
 have hb:(i.bytes:Int)*(N:Int)≤281474976710656:=by
  have:i.bytes*N≤4000*512:=Nat.mul_le_mul h2 hN
  have h5:((i.bytes*N:Nat):Int)≤281474976710656:=by omega
  rwa [Int.natCast_mul] at h5
 have:=run_make (P:=Tryz.prog) w 144 90 i z hu hi1 hz .i64 .i64 (N:Int) (N:Int) (by omega) (by omega) hb (by omega)
 rw [Int.toNat_natCast,h1] at this
 rw [Array.toArray_toList]
 exact this
theorem mk82 (N:Nat) (hN:N≤512):∃ C0:List Value,C0.length=4*N∧∀ w:World,(Instr.makeSlice 141 (.int .i64 (N:Int)) (.int .i64 (N:Int))).run Tryz.prog w=.ok (.slice (some ⟨w.heap.size,0,none⟩) N N) (w.alloc (.cells C0.toArray 51)):=by
 have hu:Tryz.prog.underlying 141=some (.slice 51):=by kernel_rfl
 have hi:(Tryz.prog.info? 51).map (fun i=>(i.size,decide (i.bytes≤4000),i.zero.isSome))=some (4,true,true):=by kernel_rfl
 obtain ⟨i,hi1,hi2⟩:=Option.map_eq_some_iff.1 hi
 simp only [Prod.mk.injEq,decide_eq_true_eq] at hi2
 obtain ⟨h1,h2,h3⟩:=hi2
 obtain ⟨z,hz⟩:=Option.isSome_iff_exists.1 h3
 refine ⟨(madeCells z.cells (N*4)).toList,by rw [Array.length_toList,size_madeCells,Nat.mul_comm],fun w=>?_⟩
 have hb:(i.bytes:Int)*(N:Int)≤281474976710656:=by
  have:i.bytes*N≤4000*512:=Nat.mul_le_mul h2 hN
  have h5:((i.bytes*N:Nat):Int)≤281474976710656:=by omega
  rwa [Int.natCast_mul] at h5
 have:=run_make (P:=Tryz.prog) w 141 51 i z hu hi1 hz .i64 .i64 (N:Int) (N:Int) (by omega) (by omega) hb (by omega)
 rw [Int.toNat_natCast,h1] at this
 rw [Array.toArray_toList]
 exact this
structure Rows (sz N:Nat) (cell:Nat→List Value) (m:Nat) (C:List Value):Prop where
 len:C.length=sz*N
 row:∀ j r,j < m→r < sz→C[sz*j+r]? = (cell j)[r]?
theorem Rows.next {sz N m:Nat} {cell:Nat→List Value} {C:List Value} (h:Rows sz N cell m C) (hm:m < N) (hc:(cell m).length=sz):Rows sz N cell (m+1) (RG.rep C (0+sz*m) (cell m)):=by
 have hlen:=h.len
 have hb:sz*m+sz≤sz*N:=by rw [← Nat.mul_succ];exact Nat.mul_le_mul_left _ hm
 have hl:0+sz*m+(cell m).length≤C.length:=by rw [hc];omega
 refine ⟨by rw [RG.rep_length hl];exact hlen,fun j r hj hr=>?_⟩
 rw [RG.rep_at hl]
 by_cases hjm:j=m
 · subst hjm
   rw [if_pos (by rw [hc];omega),show sz*j+r - (0+sz*j)=r by omega]
 · have h2:sz*j+sz≤sz*m:=by rw [← Nat.mul_succ];exact Nat.mul_le_mul_left _ (by omega)
   rw [if_neg (by rw [hc];omega)]
   exact h.row j r (by omega) hr
def rq (N:Nat) (bs:Bs):Option Nat:=if bs.size=32∧beV bs.toList < N then some (beV bs.toList) else none
def rqV:Option Nat→Value
 | none=>.tuple #[nv 0,.bool false]
 | some n=>.tuple #[nv n,.bool true]
theorem Scalars_c:Gives 109 #[] gv1:=fun w=>(Scalars_any w).mono (by rintro e w' ⟨rfl,rfl⟩;exact ⟨_,rfl,below1 _ _,rfl⟩)
theorem readQ_c {N:Nat} (hG:Gap 4624529908474429119 4994812053365940164 1 N) (v:Value) (bs:Bs) (w:World) (hv:Arg w v bs):Calls Tryz.prog 110 #[gv1,v] w (Ret fun e w'=>Below w.heap.size w w'∧e=rqV (rq N bs)):=by
 obtain ⟨p,n,cap,rfl,hs,h1⟩:=hv
 unfold rq
 by_cases hn:n=32
 · subst hn
   obtain ⟨g,o,rfl,h4,h6,h7⟩:=h1 rfl
   refine (Read_any _ _ _ N g o cap bs hG w hs h4 h6 h7).mono ?_
   rintro e w' ⟨v,rfl,hb,⟨hl,v',rfl,h8⟩ | ⟨hl,rfl⟩⟩
   · rw [if_pos ⟨hs,hl⟩]
     exact ⟨_,rfl,hb,by rw [h8.nv];rfl⟩
   · rw [if_neg (fun h=>by omega)]
     exact ⟨_,rfl,hb,rfl⟩
 · refine (Read_len _ p n cap w _ _ _ rfl hn).mono ?_
   rintro e w' ⟨v,rfl,hb,rfl⟩
   rw [if_neg (fun h=>hn (hs.symm.trans h.1))]
   exact ⟨_,rfl,hb,rfl⟩
end Go.Proofs.YtmkllfekhehagadGreat
namespace Go.Proofs.YtmkllfekhehagadGreat
open Go.RowKit Go.Sort
structure RefP (p0 p1 p2 p3 c0 c1 c2 c3 P:Nat):Prop where
 hp0:p0 < 18446744073709551616
 hp1:p1 < 18446744073709551616
 hp2:p2 < 18446744073709551616
 hp3:p3 < 18446744073709551616
 hc0:c0 < 18446744073709551616
 hc1:c1 < 18446744073709551616
 hc2:c2 < 18446744073709551616
 hc3:c3 < 18446744073709551616
 eP:P=val p0 p1 p2 p3
 hP:P+val c0 c1 c2 c3=top
 hP2:top < 2*P
theorem refP0:RefP 18446744069414583343 18446744073709551615 18446744073709551615 18446744073709551615 4294968273 0 0 0 Go.Proofs.YtmkllfekhehagadGreat.p0 :=
 ⟨by decide,by decide,by decide,by decide,by decide,by decide,by decide,by decide,by decide +kernel,by decide +kernel,by decide +kernel⟩
theorem refP1:RefP 13822214165235122497 13451932020343611451 18446744073709551614 18446744073709551615 4624529908474429119 4994812053365940164 1 0 Go.Proofs.YtmkllfekhehagadGreat.p1 :=
 ⟨by decide,by decide,by decide,by decide,by decide,by decide,by decide,by decide,by decide +kernel,by decide +kernel,by decide +kernel⟩
end Go.Proofs.YtmkllfekhehagadGreat
namespace Go.Proofs.YtmkllfekhehagadGreat
open Go.RowKit Go.Sort
set_option maxHeartbeats 2000000 in
set_option maxRecDepth 100000 in
theorem rless_any (x y:Value) (m n:Nat) (hx:Four x m) (hy:Four y n) (w:World) :
 Calls Tryz.prog 131 #[x,y] w (Ret fun e w'=>Below w.heap.size w w'∧∃ (v:Value) (s k:Nat),e=.tuple #[v,.int .u64 (k:Int)]∧Four v s∧k≤1∧s+n=m+top*k):=by
 obtain ⟨a,b,c,d,rfl,ha,hb,hc,hd,em⟩:=hx
 obtain ⟨p,q,r,s,rfl,hp,hq,hr,hs,en⟩:=hy
 obtain ⟨s0,k0,a0,hs0,hk0,e0⟩:=sub64z a p ha hp
 obtain ⟨s1,k1,a1,hs1,hk1,e1⟩:=sub64 b q k0 hb hq hk0
 obtain ⟨s2,k2,a2,hs2,hk2,e2⟩:=sub64 c r k1 hc hr hk1
 obtain ⟨s3,k3,a3,hs3,hk3,e3⟩:=sub64 d s k2 hd hs hk2
 have hv:val s0 s1 s2 s3+n=m+top*k3:=by rw [em,en];unfold val top;omega
 clear e0 e1 e2 e3 em en
 go_enter Tryz.func131,Tryz.ntmps131
 go_wp2
 refine wp_loop_rounds 5 ?_
 rw [rounds_succ];go_wp2;go_region
 go_wp2;rw [rounds_succ];go_wp2;go_region
 go_wp2;rw [rounds_succ];go_wp2;go_region
 go_wp2;rw [rounds_succ];go_wp2;go_region
 go_wp2;rw [rounds_succ];go_wp2
 refine bodyPost_ret (v:=?v) ?hr rfl ?hR
 case hr=>simp [results,Tryz.results131,go_sem];rfl
 exact ⟨_,rfl,(below4 _ _ _ _ _).drew.drew.drew.drew,_,_,k3,rfl,Four.mk hs0 hs1 hs2 hs3 rfl,hk3,hv⟩
def Eight (v:Value) (n:Nat):Prop:=∃ a b c d a' b' c' d':Nat,v=.agg #[.int .u64 (a:Int),.int .u64 (b:Int),.int .u64 (c:Int),.int .u64 (d:Int),.int .u64 (a':Int),.int .u64 (b':Int),.int .u64 (c':Int),.int .u64 (d':Int)] ∧
 a < 18446744073709551616∧b < 18446744073709551616∧c < 18446744073709551616∧d < 18446744073709551616∧a' < 18446744073709551616∧b' < 18446744073709551616∧c' < 18446744073709551616∧d' < 18446744073709551616 ∧
 n=val a b c d+top*val a' b' c' d'
theorem add_halves {m n a b c d s u k l:Nat} (em:m=a+top*b) (en:n=c+top*d) (h1:s+top*k=a+c) (h2:u+top*l=b+d+k) (hlt:m+n < top*top):m+n=s+top*u:=by
 have h3:top*u+top*top*l=top*b+top*d+top*k:=by rw [Nat.mul_assoc,← Nat.mul_add,h2,Nat.mul_add,Nat.mul_add]
 have h4:m+n=s+top*u+top*top*l:=by omega
 have h5:l=0:=by
  rcases Nat.eq_zero_or_pos l with h | h
  · exact h
  · have:=Nat.le_mul_of_pos_right (top*top) h
    omega
 rw [h4,h5,Nat.mul_zero,Nat.add_zero]
set_option maxHeartbeats 4000000 in
set_option maxRecDepth 100000 in
theorem rplus_any (x y:Value) (m n:Nat) (hx:Eight x m) (hy:Eight y n) (hlt:m+n < top*top) (w:World) :
 Calls Tryz.prog 90 #[x,y] w (Ret fun e w'=>Below w.heap.size w w'∧Eight e (m+n)):=by
 obtain ⟨a,b,c,d,aa,bb,cc,dd,rfl,ha,hb,hc,hd,haa,hbb,hcc,hdd,em⟩:=hx
 obtain ⟨p,q,r,s,pp,qq,rr,ss,rfl,hp,hq,hr,hs,hpp,hqq,hrr,hss,en⟩:=hy
 obtain ⟨s0,k0,a0,hs0,hk0,e0⟩:=add64z a p ha hp
 obtain ⟨s1,k1,a1,hs1,hk1,e1⟩:=add64 b q k0 hb hq hk0
 obtain ⟨s2,k2,a2,hs2,hk2,e2⟩:=add64 c r k1 hc hr hk1
 obtain ⟨s3,k3,a3,hs3,hk3,e3⟩:=add64 d s k2 hd hs hk2
 obtain ⟨s4,k4,a4,hs4,hk4,e4⟩:=add64 aa pp k3 haa hpp hk3
 obtain ⟨s5,k5,a5,hs5,hk5,e5⟩:=add64 bb qq k4 hbb hqq hk4
 obtain ⟨s6,k6,a6,hs6,hk6,e6⟩:=add64 cc rr k5 hcc hrr hk5
 obtain ⟨s7,k7,a7,hs7,hk7,e7⟩:=add64 dd ss k6 hdd hss hk6
 have v1:val s0 s1 s2 s3+top*k3=val a b c d+val p q r s:=by clear em en hlt e4 e5 e6 e7;unfold val top;omega
 have v2:val s4 s5 s6 s7+top*k7=val aa bb cc dd+val pp qq rr ss+k3:=by clear em en hlt e0 e1 e2 e3;unfold val top;omega
 have hv:m+n=val s0 s1 s2 s3+top*val s4 s5 s6 s7:=add_halves em en v1 v2 hlt
 clear e0 e1 e2 e3 e4 e5 e6 e7 em en hlt
 go_enter Tryz.func90,Tryz.ntmps90
 go_wp2
 refine wp_loop_rounds 9 ?_
 rw [rounds_succ];go_wp2;go_region
 go_wp2;rw [rounds_succ];go_wp2;go_region
 go_wp2;rw [rounds_succ];go_wp2;go_region
 go_wp2;rw [rounds_succ];go_wp2;go_region
 go_wp2;rw [rounds_succ];go_wp2;go_region
 go_wp2;rw [rounds_succ];go_wp2;go_region
 go_wp2;rw [rounds_succ];go_wp2;go_region
 go_wp2;rw [rounds_succ];go_wp2;go_region
 go_wp2;rw [rounds_succ];go_wp2
 refine bodyPost_ret (v:=?v) ?hr rfl ?hR
 case hr=>simp [results,Tryz.results90,go_sem];rfl
 exact ⟨_,rfl,(below3 _ _ _ _).drew.drew.drew.drew.drew.drew.drew.drew,s0,s1,s2,s3,s4,s5,s6,s7,rfl,hs0,hs1,hs2,hs3,hs4,hs5,hs6,hs7,hv⟩
end Go.Proofs.YtmkllfekhehagadGreat
namespace Go.Proofs.YtmkllfekhehagadGreat
open Go.RowKit Go.Sort
theorem four_rows {a b c d n r0 r1 r2 r3 s0 s1 s2 s3 t0 t1 t2 t3 u0 u1 u2 u3 h0 h1 h2 h3:Nat}
 (e0:r0+18446744073709551616*val r1 r2 r3 h0=a*n+val 0 0 0 0)
 (e1:s0+18446744073709551616*val s1 s2 s3 h1=b*n+val r1 r2 r3 h0)
 (e2:t0+18446744073709551616*val t1 t2 t3 h2=c*n+val s1 s2 s3 h1)
 (e3:u0+18446744073709551616*val u1 u2 u3 h3=d*n+val t1 t2 t3 h2) :
 val a b c d*n=val r0 s0 t0 u0+top*val u1 u2 u3 h3:=by
 have hm:val a b c d*n=val (a*n) (b*n) (c*n) (d*n):=by
  rw [Nat.mul_comm,mul_val,Nat.mul_comm n a,Nat.mul_comm n b,Nat.mul_comm n c,Nat.mul_comm n d]
 rw [hm]
 generalize a*n=x0 at *
 generalize b*n=x1 at *
 generalize c*n=x2 at *
 generalize d*n=x3 at *
 generalize val r1 r2 r3 h0=y0 at *
 generalize val s1 s2 s3 h1=y1 at *
 generalize val t1 t2 t3 h2=y2 at *
 generalize val u1 u2 u3 h3=y3 at *
 unfold val at *
 unfold top
 omega
set_option maxHeartbeats 16000000 in
set_option maxRecDepth 100000 in
theorem rproduct_any (x y:Value) (m n:Nat) (hx:Four x m) (hy:Four y n) (w:World) :
 Calls Tryz.prog 91 #[x,y] w (Ret fun e w'=>Below w.heap.size w w'∧Eight e (m*n)):=by
 obtain ⟨a,b,c,d,rfl,ha,hb,hc,hd,em⟩:=hx
 obtain ⟨p,q,r,s,rfl,hp,hq,hr,hs,en⟩:=hy
 go_enter Tryz.func91,Tryz.ntmps91
 go_wp2
 refine wp_loop_rounds 5 ?_
 have X:=(((At4.made w 64 a b c d rfl).alloc (.cells #[.int .u64 (p:Int),.int .u64 (q:Int),.int .u64 (r:Int),.int .u64 (s:Int)] 64)).alloc (.cells #[.int .u64 0,.int .u64 0,.int .u64 0,.int .u64 0,.int .u64 0,.int .u64 0,.int .u64 0,.int .u64 0] 137)).alloc (.cells #[.int .u64 0,.int .u64 0,.int .u64 0,.int .u64 0,.int .u64 0,.int .u64 0,.int .u64 0,.int .u64 0] 137)
 have Y:=((At4.made (w.alloc (.cells #[.int .u64 (a:Int),.int .u64 (b:Int),.int .u64 (c:Int),.int .u64 (d:Int)] 64)) 64 p q r s (World.size_alloc _ _)).alloc (.cells #[.int .u64 0,.int .u64 0,.int .u64 0,.int .u64 0,.int .u64 0,.int .u64 0,.int .u64 0,.int .u64 0] 137)).alloc (.cells #[.int .u64 0,.int .u64 0,.int .u64 0,.int .u64 0,.int .u64 0,.int .u64 0,.int .u64 0,.int .u64 0] 137)
 have R:=(At8.made ((w.alloc (.cells #[.int .u64 (a:Int),.int .u64 (b:Int),.int .u64 (c:Int),.int .u64 (d:Int)] 64)).alloc (.cells #[.int .u64 (p:Int),.int .u64 (q:Int),.int .u64 (r:Int),.int .u64 (s:Int)] 64)) 137 0 0 0 0 0 0 0 0 (k:=w.heap.size+1+1) (by simp)).alloc (.cells #[.int .u64 0,.int .u64 0,.int .u64 0,.int .u64 0,.int .u64 0,.int .u64 0,.int .u64 0,.int .u64 0] 137)
 have O:=At8.made (((w.alloc (.cells #[.int .u64 (a:Int),.int .u64 (b:Int),.int .u64 (c:Int),.int .u64 (d:Int)] 64)).alloc (.cells #[.int .u64 (p:Int),.int .u64 (q:Int),.int .u64 (r:Int),.int .u64 (s:Int)] 64)).alloc (.cells #[.int .u64 0,.int .u64 0,.int .u64 0,.int .u64 0,.int .u64 0,.int .u64 0,.int .u64 0,.int .u64 0] 137)) 137 0 0 0 0 0 0 0 0 (k:=w.heap.size+1+1+1) (by simp)
 have BL:Hid (Below w.heap.size w _):=below4 w (.cells #[.int .u64 (a:Int),.int .u64 (b:Int),.int .u64 (c:Int),.int .u64 (d:Int)] 64) (.cells #[.int .u64 (p:Int),.int .u64 (q:Int),.int .u64 (r:Int),.int .u64 (s:Int)] 64) (.cells #[.int .u64 0,.int .u64 0,.int .u64 0,.int .u64 0,.int .u64 0,.int .u64 0,.int .u64 0,.int .u64 0] 137) (.cells #[.int .u64 0,.int .u64 0,.int .u64 0,.int .u64 0,.int .u64 0,.int .u64 0,.int .u64 0,.int .u64 0] 137)
 simp only [Int.natCast_zero] at R O
 generalize World.alloc _ _=W0 at X Y R O BL ⊢
 generalize h3:w.heap.size+1+1+1=k3 at O ⊢
 generalize h2:w.heap.size+1+1=k2 at R ⊢
 generalize h1:w.heap.size+1=k1 at Y ⊢
 have Q3:Hid (w.heap.size≤k3):=by unfold Hid;omega
 have Q2:Hid (w.heap.size≤k2):=by unfold Hid;omega
 generalize h0:w.heap.size=k0 at X BL Q2 Q3 ⊢
 have n03:k0≠k3:=by omega
 have n13:k1≠k3:=by omega
 have n23:k2≠k3:=by omega
 have H0:Hid (w.heap.size=k0):=h0
 clear h0 h1 h2 h3
 obtain ⟨xc0,xc1,xc2,xc3,xf⟩:=id X
 obtain ⟨yc0,yc1,yc2,yc3,yf⟩:=id Y
 obtain ⟨oc0,oc1,oc2,oc3,oc4,oc5,oc6,oc7,of⟩:=id O
 simp only [Int.natCast_zero] at oc0 oc1 oc2 oc3 oc4 oc5 oc6 oc7
 rw [rounds_succ];go_wp2
 refine wp_loop_rounds 5 ?_
 obtain ⟨h00,l00,s00,k00,o00,j00,g00,y00,m00,b00,d00,v00,z00,ho00,hy00,e00⟩:=mulstep a p 0 0 ha hp (by decide) (by decide)
 simp only [Int.natCast_zero] at b00
 simp only [Int.natCast_zero] at d00
 rw [rounds_succ];go_wp2
 go_quiet ((go_at_call 134;exact Calls.quiet_of_same (m00 _)))
 revert nq;intro nq00
 go_wp2_with (first | simp only [b00] | simp only [d00])
 obtain ⟨h01,l01,s01,k01,o01,j01,g01,y01,m01,b01,d01,v01,z01,ho01,hy01,e01⟩:=mulstep a q 0 y00 ha hq (by decide) hy00
 simp only [Int.natCast_zero] at d01
 rw [rounds_succ];go_wp2
 go_quiet ((go_at_call 134;exact Calls.quiet_of_same (m01 _)))
 revert nq;intro nq01
 go_wp2_with (first | simp only [b01] | simp only [d01])
 obtain ⟨h02,l02,s02,k02,o02,j02,g02,y02,m02,b02,d02,v02,z02,ho02,hy02,e02⟩:=mulstep a r 0 y01 ha hr (by decide) hy01
 simp only [Int.natCast_zero] at d02
 rw [rounds_succ];go_wp2
 go_quiet ((go_at_call 134;exact Calls.quiet_of_same (m02 _)))
 revert nq;intro nq02
 go_wp2_with (first | simp only [b02] | simp only [d02])
 obtain ⟨h03,l03,s03,k03,o03,j03,g03,y03,m03,b03,d03,v03,z03,ho03,hy03,e03⟩:=mulstep a s 0 y02 ha hs (by decide) hy02
 simp only [Int.natCast_zero] at d03
 rw [rounds_succ];go_wp2
 go_quiet ((go_at_call 134;exact Calls.quiet_of_same (m03 _)))
 revert nq;intro nq03
 go_wp2_with (first | simp only [b03] | simp only [d03])
 rw [rounds_succ];go_wp2
 have R0:=row_sum (n:=val 0 0 0 0) (p:=0) (q:=0) (r:=0) (s:=0) (x:=a) (l0:=o00) (l1:=o01) (l2:=o02) (l3:=o03) en rfl e00 e01 e02 e03
 have HR0:Hid _:=R0
 clear R0
 clear e00 e01 e02 e03 m00 b00 d00 v00 z00 m01 b01 d01 v01 z01 m02 b02 d02 v02 z02 m03 b03 d03 v03 z03
 clear xc0 xc1 xc2 xc3 xf yc0 yc1 yc2 yc3 yf oc0 oc1 oc2 oc3 oc4 oc5 oc6 oc7 of
 have X0:=(((((((((X).drewN nq00).other (o:=0) n03.symm (.int .u64 (o00:Int))).drewN nq01).other (o:=1) n03.symm (.int .u64 (o01:Int))).drewN nq02).other (o:=2) n03.symm (.int .u64 (o02:Int))).drewN nq03).other (o:=3) n03.symm (.int .u64 (o03:Int))).other (o:=4) n03.symm (.int .u64 (y03:Int))
 have Y0:=(((((((((Y).drewN nq00).other (o:=0) n13.symm (.int .u64 (o00:Int))).drewN nq01).other (o:=1) n13.symm (.int .u64 (o01:Int))).drewN nq02).other (o:=2) n13.symm (.int .u64 (o02:Int))).drewN nq03).other (o:=3) n13.symm (.int .u64 (o03:Int))).other (o:=4) n13.symm (.int .u64 (y03:Int))
 have RR0:=(((((((((R).drewN nq00).other (o:=0) n23.symm (.int .u64 (o00:Int))).drewN nq01).other (o:=1) n23.symm (.int .u64 (o01:Int))).drewN nq02).other (o:=2) n23.symm (.int .u64 (o02:Int))).drewN nq03).other (o:=3) n23.symm (.int .u64 (o03:Int))).other (o:=4) n23.symm (.int .u64 (y03:Int))
 have O0:=(((((((((O).drewN nq00).set0 o00).drewN nq01).set1 o01).drewN nq02).set2 o02).drewN nq03).set3 o03).set4 y03
 have BL0:Hid (Below k0 w _):=((belowDrewN ((belowDrewN ((belowDrewN ((belowDrewN (BL.out) nq00).setCell (p:=⟨k3,0,none⟩) Q3.out (.int .u64 (o00:Int))) nq01).setCell (p:=⟨k3,1,none⟩) Q3.out (.int .u64 (o01:Int))) nq02).setCell (p:=⟨k3,2,none⟩) Q3.out (.int .u64 (o02:Int))) nq03).setCell (p:=⟨k3,3,none⟩) Q3.out (.int .u64 (o03:Int))).setCell (p:=⟨k3,4,none⟩) Q3.out (.int .u64 (y03:Int))
 generalize World.setCell _ _ _=W1 at X0 Y0 RR0 O0 BL0 ⊢
 clear X Y R O BL
 have X:=X0
 have Y:=Y0
 have R:=RR0
 have O:=O0
 have BL:=BL0
 clear X0 Y0 RR0 O0 BL0
 obtain ⟨xc0,xc1,xc2,xc3,xf⟩:=id X
 obtain ⟨yc0,yc1,yc2,yc3,yf⟩:=id Y
 obtain ⟨oc0,oc1,oc2,oc3,oc4,oc5,oc6,oc7,of⟩:=id O
 simp only [Int.natCast_zero] at oc5 oc6 oc7
 rw [rounds_succ];go_wp2
 refine wp_loop_rounds 5 ?_
 obtain ⟨h10,l10,s10,k10,o10,j10,g10,y10,m10,b10,d10,v10,z10,ho10,hy10,e10⟩:=mulstep b p o01 0 hb hp ho01 (by decide)
 simp only [Int.natCast_zero] at b10
 rw [rounds_succ];go_wp2
 go_quiet ((go_at_call 134;exact Calls.quiet_of_same (m10 _)))
 revert nq;intro nq10
 go_wp2_with (first | simp only [b10] | simp only [d10])
 obtain ⟨h11,l11,s11,k11,o11,j11,g11,y11,m11,b11,d11,v11,z11,ho11,hy11,e11⟩:=mulstep b q o02 y10 hb hq ho02 hy10
 rw [rounds_succ];go_wp2
 go_quiet ((go_at_call 134;exact Calls.quiet_of_same (m11 _)))
 revert nq;intro nq11
 go_wp2_with (first | simp only [b11] | simp only [d11])
 obtain ⟨h12,l12,s12,k12,o12,j12,g12,y12,m12,b12,d12,v12,z12,ho12,hy12,e12⟩:=mulstep b r o03 y11 hb hr ho03 hy11
 rw [rounds_succ];go_wp2
 go_quiet ((go_at_call 134;exact Calls.quiet_of_same (m12 _)))
 revert nq;intro nq12
 go_wp2_with (first | simp only [b12] | simp only [d12])
 obtain ⟨h13,l13,s13,k13,o13,j13,g13,y13,m13,b13,d13,v13,z13,ho13,hy13,e13⟩:=mulstep b s y03 y12 hb hs hy03 hy12
 rw [rounds_succ];go_wp2
 go_quiet ((go_at_call 134;exact Calls.quiet_of_same (m13 _)))
 revert nq;intro nq13
 go_wp2_with (first | simp only [b13] | simp only [d13])
 rw [rounds_succ];go_wp2
 have R1:=row_sum (n:=val o01 o02 o03 y03) (p:=o01) (q:=o02) (r:=o03) (s:=y03) (x:=b) (l0:=o10) (l1:=o11) (l2:=o12) (l3:=o13) en rfl e10 e11 e12 e13
 have HR1:Hid _:=R1
 clear R1
 clear e10 e11 e12 e13 m10 b10 d10 v10 z10 m11 b11 d11 v11 z11 m12 b12 d12 v12 z12 m13 b13 d13 v13 z13
 clear xc0 xc1 xc2 xc3 xf yc0 yc1 yc2 yc3 yf oc0 oc1 oc2 oc3 oc4 oc5 oc6 oc7 of
 have X1:=(((((((((X).drewN nq10).other (o:=1) n03.symm (.int .u64 (o10:Int))).drewN nq11).other (o:=2) n03.symm (.int .u64 (o11:Int))).drewN nq12).other (o:=3) n03.symm (.int .u64 (o12:Int))).drewN nq13).other (o:=4) n03.symm (.int .u64 (o13:Int))).other (o:=5) n03.symm (.int .u64 (y13:Int))
 have Y1:=(((((((((Y).drewN nq10).other (o:=1) n13.symm (.int .u64 (o10:Int))).drewN nq11).other (o:=2) n13.symm (.int .u64 (o11:Int))).drewN nq12).other (o:=3) n13.symm (.int .u64 (o12:Int))).drewN nq13).other (o:=4) n13.symm (.int .u64 (o13:Int))).other (o:=5) n13.symm (.int .u64 (y13:Int))
 have RR1:=(((((((((R).drewN nq10).other (o:=1) n23.symm (.int .u64 (o10:Int))).drewN nq11).other (o:=2) n23.symm (.int .u64 (o11:Int))).drewN nq12).other (o:=3) n23.symm (.int .u64 (o12:Int))).drewN nq13).other (o:=4) n23.symm (.int .u64 (o13:Int))).other (o:=5) n23.symm (.int .u64 (y13:Int))
 have O1:=(((((((((O).drewN nq10).set1 o10).drewN nq11).set2 o11).drewN nq12).set3 o12).drewN nq13).set4 o13).set5 y13
 have BL1:Hid (Below k0 w _):=((belowDrewN ((belowDrewN ((belowDrewN ((belowDrewN (BL.out) nq10).setCell (p:=⟨k3,1,none⟩) Q3.out (.int .u64 (o10:Int))) nq11).setCell (p:=⟨k3,2,none⟩) Q3.out (.int .u64 (o11:Int))) nq12).setCell (p:=⟨k3,3,none⟩) Q3.out (.int .u64 (o12:Int))) nq13).setCell (p:=⟨k3,4,none⟩) Q3.out (.int .u64 (o13:Int))).setCell (p:=⟨k3,5,none⟩) Q3.out (.int .u64 (y13:Int))
 generalize World.setCell _ _ _=W2 at X1 Y1 RR1 O1 BL1 ⊢
 clear X Y R O BL
 have X:=X1
 have Y:=Y1
 have R:=RR1
 have O:=O1
 have BL:=BL1
 clear X1 Y1 RR1 O1 BL1
 obtain ⟨xc0,xc1,xc2,xc3,xf⟩:=id X
 obtain ⟨yc0,yc1,yc2,yc3,yf⟩:=id Y
 obtain ⟨oc0,oc1,oc2,oc3,oc4,oc5,oc6,oc7,of⟩:=id O
 simp only [Int.natCast_zero] at oc6 oc7
 rw [rounds_succ];go_wp2
 refine wp_loop_rounds 5 ?_
 obtain ⟨h20,l20,s20,k20,o20,j20,g20,y20,m20,b20,d20,v20,z20,ho20,hy20,e20⟩:=mulstep c p o11 0 hc hp ho11 (by decide)
 simp only [Int.natCast_zero] at b20
 rw [rounds_succ];go_wp2
 go_quiet ((go_at_call 134;exact Calls.quiet_of_same (m20 _)))
 revert nq;intro nq20
 go_wp2_with (first | simp only [b20] | simp only [d20])
 obtain ⟨h21,l21,s21,k21,o21,j21,g21,y21,m21,b21,d21,v21,z21,ho21,hy21,e21⟩:=mulstep c q o12 y20 hc hq ho12 hy20
 rw [rounds_succ];go_wp2
 go_quiet ((go_at_call 134;exact Calls.quiet_of_same (m21 _)))
 revert nq;intro nq21
 go_wp2_with (first | simp only [b21] | simp only [d21])
 obtain ⟨h22,l22,s22,k22,o22,j22,g22,y22,m22,b22,d22,v22,z22,ho22,hy22,e22⟩:=mulstep c r o13 y21 hc hr ho13 hy21
 rw [rounds_succ];go_wp2
 go_quiet ((go_at_call 134;exact Calls.quiet_of_same (m22 _)))
 revert nq;intro nq22
 go_wp2_with (first | simp only [b22] | simp only [d22])
 obtain ⟨h23,l23,s23,k23,o23,j23,g23,y23,m23,b23,d23,v23,z23,ho23,hy23,e23⟩:=mulstep c s y13 y22 hc hs hy13 hy22
 rw [rounds_succ];go_wp2
 go_quiet ((go_at_call 134;exact Calls.quiet_of_same (m23 _)))
 revert nq;intro nq23
 go_wp2_with (first | simp only [b23] | simp only [d23])
 rw [rounds_succ];go_wp2
 have R2:=row_sum (n:=val o11 o12 o13 y13) (p:=o11) (q:=o12) (r:=o13) (s:=y13) (x:=c) (l0:=o20) (l1:=o21) (l2:=o22) (l3:=o23) en rfl e20 e21 e22 e23
 have HR2:Hid _:=R2
 clear R2
 clear e20 e21 e22 e23 m20 b20 d20 v20 z20 m21 b21 d21 v21 z21 m22 b22 d22 v22 z22 m23 b23 d23 v23 z23
 clear xc0 xc1 xc2 xc3 xf yc0 yc1 yc2 yc3 yf oc0 oc1 oc2 oc3 oc4 oc5 oc6 oc7 of
 have X2:=(((((((((X).drewN nq20).other (o:=2) n03.symm (.int .u64 (o20:Int))).drewN nq21).other (o:=3) n03.symm (.int .u64 (o21:Int))).drewN nq22).other (o:=4) n03.symm (.int .u64 (o22:Int))).drewN nq23).other (o:=5) n03.symm (.int .u64 (o23:Int))).other (o:=6) n03.symm (.int .u64 (y23:Int))
 have Y2:=(((((((((Y).drewN nq20).other (o:=2) n13.symm (.int .u64 (o20:Int))).drewN nq21).other (o:=3) n13.symm (.int .u64 (o21:Int))).drewN nq22).other (o:=4) n13.symm (.int .u64 (o22:Int))).drewN nq23).other (o:=5) n13.symm (.int .u64 (o23:Int))).other (o:=6) n13.symm (.int .u64 (y23:Int))
 have RR2:=(((((((((R).drewN nq20).other (o:=2) n23.symm (.int .u64 (o20:Int))).drewN nq21).other (o:=3) n23.symm (.int .u64 (o21:Int))).drewN nq22).other (o:=4) n23.symm (.int .u64 (o22:Int))).drewN nq23).other (o:=5) n23.symm (.int .u64 (o23:Int))).other (o:=6) n23.symm (.int .u64 (y23:Int))
 have O2:=(((((((((O).drewN nq20).set2 o20).drewN nq21).set3 o21).drewN nq22).set4 o22).drewN nq23).set5 o23).set6 y23
 have BL2:Hid (Below k0 w _):=((belowDrewN ((belowDrewN ((belowDrewN ((belowDrewN (BL.out) nq20).setCell (p:=⟨k3,2,none⟩) Q3.out (.int .u64 (o20:Int))) nq21).setCell (p:=⟨k3,3,none⟩) Q3.out (.int .u64 (o21:Int))) nq22).setCell (p:=⟨k3,4,none⟩) Q3.out (.int .u64 (o22:Int))) nq23).setCell (p:=⟨k3,5,none⟩) Q3.out (.int .u64 (o23:Int))).setCell (p:=⟨k3,6,none⟩) Q3.out (.int .u64 (y23:Int))
 generalize World.setCell _ _ _=W3 at X2 Y2 RR2 O2 BL2 ⊢
 clear X Y R O BL
 have X:=X2
 have Y:=Y2
 have R:=RR2
 have O:=O2
 have BL:=BL2
 clear X2 Y2 RR2 O2 BL2
 obtain ⟨xc0,xc1,xc2,xc3,xf⟩:=id X
 obtain ⟨yc0,yc1,yc2,yc3,yf⟩:=id Y
 obtain ⟨oc0,oc1,oc2,oc3,oc4,oc5,oc6,oc7,of⟩:=id O
 simp only [Int.natCast_zero] at oc7
 rw [rounds_succ];go_wp2
 refine wp_loop_rounds 5 ?_
 obtain ⟨h30,l30,s30,k30,o30,j30,g30,y30,m30,b30,d30,v30,z30,ho30,hy30,e30⟩:=mulstep d p o21 0 hd hp ho21 (by decide)
 simp only [Int.natCast_zero] at b30
 rw [rounds_succ];go_wp2
 go_quiet ((go_at_call 134;exact Calls.quiet_of_same (m30 _)))
 revert nq;intro nq30
 go_wp2_with (first | simp only [b30] | simp only [d30])
 obtain ⟨h31,l31,s31,k31,o31,j31,g31,y31,m31,b31,d31,v31,z31,ho31,hy31,e31⟩:=mulstep d q o22 y30 hd hq ho22 hy30
 rw [rounds_succ];go_wp2
 go_quiet ((go_at_call 134;exact Calls.quiet_of_same (m31 _)))
 revert nq;intro nq31
 go_wp2_with (first | simp only [b31] | simp only [d31])
 obtain ⟨h32,l32,s32,k32,o32,j32,g32,y32,m32,b32,d32,v32,z32,ho32,hy32,e32⟩:=mulstep d r o23 y31 hd hr ho23 hy31
 rw [rounds_succ];go_wp2
 go_quiet ((go_at_call 134;exact Calls.quiet_of_same (m32 _)))
 revert nq;intro nq32
 go_wp2_with (first | simp only [b32] | simp only [d32])
 obtain ⟨h33,l33,s33,k33,o33,j33,g33,y33,m33,b33,d33,v33,z33,ho33,hy33,e33⟩:=mulstep d s y23 y32 hd hs hy23 hy32
 rw [rounds_succ];go_wp2
 go_quiet ((go_at_call 134;exact Calls.quiet_of_same (m33 _)))
 revert nq;intro nq33
 go_wp2_with (first | simp only [b33] | simp only [d33])
 rw [rounds_succ];go_wp2
 have R3:=row_sum (n:=val o21 o22 o23 y23) (p:=o21) (q:=o22) (r:=o23) (s:=y23) (x:=d) (l0:=o30) (l1:=o31) (l2:=o32) (l3:=o33) en rfl e30 e31 e32 e33
 have HR3:Hid _:=R3
 clear R3
 clear e30 e31 e32 e33 m30 b30 d30 v30 z30 m31 b31 d31 v31 z31 m32 b32 d32 v32 z32 m33 b33 d33 v33 z33
 clear xc0 xc1 xc2 xc3 xf yc0 yc1 yc2 yc3 yf oc0 oc1 oc2 oc3 oc4 oc5 oc6 oc7 of
 have X3:=(((((((((X).drewN nq30).other (o:=3) n03.symm (.int .u64 (o30:Int))).drewN nq31).other (o:=4) n03.symm (.int .u64 (o31:Int))).drewN nq32).other (o:=5) n03.symm (.int .u64 (o32:Int))).drewN nq33).other (o:=6) n03.symm (.int .u64 (o33:Int))).other (o:=7) n03.symm (.int .u64 (y33:Int))
 have Y3:=(((((((((Y).drewN nq30).other (o:=3) n13.symm (.int .u64 (o30:Int))).drewN nq31).other (o:=4) n13.symm (.int .u64 (o31:Int))).drewN nq32).other (o:=5) n13.symm (.int .u64 (o32:Int))).drewN nq33).other (o:=6) n13.symm (.int .u64 (o33:Int))).other (o:=7) n13.symm (.int .u64 (y33:Int))
 have RR3:=(((((((((R).drewN nq30).other (o:=3) n23.symm (.int .u64 (o30:Int))).drewN nq31).other (o:=4) n23.symm (.int .u64 (o31:Int))).drewN nq32).other (o:=5) n23.symm (.int .u64 (o32:Int))).drewN nq33).other (o:=6) n23.symm (.int .u64 (o33:Int))).other (o:=7) n23.symm (.int .u64 (y33:Int))
 have O3:=(((((((((O).drewN nq30).set3 o30).drewN nq31).set4 o31).drewN nq32).set5 o32).drewN nq33).set6 o33).set7 y33
 have BL3:Hid (Below k0 w _):=((belowDrewN ((belowDrewN ((belowDrewN ((belowDrewN (BL.out) nq30).setCell (p:=⟨k3,3,none⟩) Q3.out (.int .u64 (o30:Int))) nq31).setCell (p:=⟨k3,4,none⟩) Q3.out (.int .u64 (o31:Int))) nq32).setCell (p:=⟨k3,5,none⟩) Q3.out (.int .u64 (o32:Int))) nq33).setCell (p:=⟨k3,6,none⟩) Q3.out (.int .u64 (o33:Int))).setCell (p:=⟨k3,7,none⟩) Q3.out (.int .u64 (y33:Int))
 generalize World.setCell _ _ _=W4 at X3 Y3 RR3 O3 BL3 ⊢
 clear X Y R O BL
 have X:=X3
 have Y:=Y3
 have R:=RR3
 have O:=O3
 have BL:=BL3
 clear X3 Y3 RR3 O3 BL3
 obtain ⟨oc0,oc1,oc2,oc3,oc4,oc5,oc6,oc7,of⟩:=id O
 obtain ⟨rc0,rc1,rc2,rc3,rc4,rc5,rc6,rc7,rf⟩:=id R
 have z3:=O.lt
 have z2:=R.lt
 rw [rounds_succ];go_wp2
 have RF:=R.self8 o00 o10 o20 o30 o31 o32 o33 y33
 unfold set8c at RF
 refine bodyPost_ret (v:=?v) ?hr rfl ?hR
 case hr=>simp [results,Tryz.results91,go_sem,RF.c0,RF.c1,RF.c2,RF.c3,RF.c4,RF.c5,RF.c6,RF.c7];rfl
 refine ⟨_,rfl,?_,o00,o10,o20,o30,o31,o32,o33,y33,rfl,ho00,ho10,ho20,ho30,ho31,ho32,ho33,hy33,?_⟩
 · rw [H0.out];exact below_set8c BL.out Q2.out _ _ _ _ _ _ _ _
 · rw [em];exact four_rows HR0.out HR1.out HR2.out HR3.out
end Go.Proofs.YtmkllfekhehagadGreat
