import Derived.Deep.LoopGhost
import Derived.Deep.RegionHeld3
import Derived.Lib.LazyBuf
import Derived.RangeFuncNested
import Derived.RangeFuncBound
import Derived.RangeFuncCalls
import Derived.RangeFuncLeaves
import Derived.Shelf.Abstract
import Derived.Shelf.RegionOpen
import Derived.WalkKit
import Derived.OwnWalkIn
import Derived.TacticsInMore
import Derived.LoopNIn
import Derived.LoopIn
import Derived.Deep.RegionWith
import Derived.Deep.CutRange
import Derived.Deep.DeepCutAuto
import Derived.Deep.OwnRows
import Derived.Test.YtmkllfekhehagagGreatVQ5
set_option linter.unusedVariables false
set_option linter.unusedSimpArgs false
namespace Go.Proofs.YtmkllfekhehagagGreat
open Go.RowKit Go.Sort
variable {P:Nat} [NeZero P]
def F72a_0 (x:Fin P):List RG.It:=[.x 2 [] (.slice none 0 0),.x 3 [] (.int .i64 0)]
def F72a_1 (q:Option Addr) (n cap:Nat) (x:Fin P):List RG.It:=[.x 9 [] (.slice q n cap),.x 10 [(9,0)] (.int .i64 (n:Int)),⟨some 11,[(10,1)],(.s 0 n n),.make 0⟩,.s 4 [(11,2)] (.s 0 n n)]
def F72a_2 (q:Option Addr) (n cap:Nat) (x:Fin P):List RG.It:=[.x 12 [] (.slice q n cap),.x 13 [(12,0)] (.int .i64 (n:Int)),.x 14 [] (.int .i64 0)]
def F72b_3 (x:Fin P):List RG.It:=[.x 15 [] (.bool true)]
def F72b_4 (gg i:Nat) (v:Value) (x:Fin P):List RG.It:=[.x 16 [] (.int .i64 (i:Int)),.x 17 [] (.pointer (some ⟨gg,(0+i),none⟩)),.x 18 [(17,1)] v,.x 5 [(16,0)] (.int .i64 (i:Int)),.x 6 [(18,2)] v]
def F72b_5 (m:Nat) (v:Value) (x y:Fin P):List RG.It:=[.x 20 [] v,.c 21 [(20,0)] (.tuple #[(pv x y),(.bool true)]),.x 19 [(21,1)] (.tuple #[(pv x y),(.bool true)]),.x 22 [(19,2)] (pv x y),.x 23 [(19,2)] (.bool true),.m 7 [] 1,.u [(7,5),(22,3)] 1,.x 8 [(23,4)] (.bool true)]
def F72b_6 (x:Fin P):List RG.It:=[.x 24 [] (.bool true),.x 25 [(24,0)] (.bool false)]
def F72b_8 (n i:Nat) (x y:Fin P):List RG.It:=[.s 26 [] (.s 0 n n),.x 27 [] (.int .i64 (i:Int)),.x 28 [] (pv x y),.s 29 [(26,0),(27,1)] (.p 0 (0+8*i)),.u [(29,3),(28,2)] 0]
def F72b_9 (i:Nat) (x:Fin P):List RG.It:=[.x 30 [] (.int .i64 ((i+1:Nat):Int)),.x 14 [(30,0)] (.int .i64 ((i+1:Nat):Int))]
def F72f_3 (x:Fin P):List RG.It:=[.x 15 [] (.bool true)]
def F72f_4 (gg i:Nat) (v:Value) (x:Fin P):List RG.It:=[.x 16 [] (.int .i64 (i:Int)),.x 17 [] (.pointer (some ⟨gg,(0+i),none⟩)),.x 18 [(17,1)] v,.x 5 [(16,0)] (.int .i64 (i:Int)),.x 6 [(18,2)] v]
def F72f_5 (m:Nat) (v:Value) (x:Fin P):List RG.It:=[.x 20 [] v,.c 21 [(20,0)] (.tuple #[(pv (0:Fin P) (0:Fin P)),(.bool false)]),.x 19 [(21,1)] (.tuple #[(pv (0:Fin P) (0:Fin P)),(.bool false)]),.x 22 [(19,2)] (pv (0:Fin P) (0:Fin P)),.x 23 [(19,2)] (.bool false),.m 7 [] 1,.u [(7,5),(22,3)] 1,.x 8 [(23,4)] (.bool false)]
def F72f_6 (x:Fin P):List RG.It:=[.x 24 [] (.bool false),.x 25 [(24,0)] (.bool true)]
def F72f_7 (x:Fin P):List RG.It:=[.x 2 [] (.slice none 0 0),.x 3 [] (.int .i64 4)]
def F72e_3 (x:Fin P):List RG.It:=[.x 15 [] (.bool false)]
def F72e_10 (n:Nat) (x:Fin P):List RG.It:=[.s 31 [] (.s 0 n n),.s 2 [(31,0)] (.s 0 n n),.x 3 [] (.int .i64 0)]
def ArgsPts (w:World) (q:Option Addr) (n:Nat) (L:Nat→Bs):Prop:=0 < n→∃ gg,q=some ⟨gg,0,none⟩∧gg < w.heap.size∧∀ j,j < n→∃ v,w.cell? ⟨gg,j,none⟩=some v∧Arg33 w v (L j)
def PtsR (P:Nat) [NeZero P] (w:World) (n:Nat) (L:Nat→Bs) (e:Value) (w':World):Prop :=
 (∃ k,w.heap.size≤k∧k < w'.heap.size∧e=.tuple #[.slice (some ⟨k,0,none⟩) n n,.int .i64 0]∧∀ j,j < n→∃ p,rd P (L j)=some p∧w'.rangeAt k (8*j) (ws p.1++ws p.2)) ∨
 ((∃ j,j < n∧rd P (L j)=none)∧e=.tuple #[.slice none 0 0,.int .i64 4])
set_option maxHeartbeats 4000000 in
set_option maxRecDepth 100000 in
theorem Pts_c (F:Fld P) (n cap:Nat) (hn:n≤512) (q:Option Addr) (L:Nat→Bs) (w:World) (hA:ArgsPts w q n L):Calls Tryz.prog 96 #[.slice q n cap] w (Ret fun e w'=>Below w.heap.size w w'∧PtsR P w n L e w'):=by
 obtain ⟨C,hCl,hmk⟩:=mk112 n hn
 obtain ⟨i,-⟩:∃ i:Nat,i=0:=⟨_,rfl⟩
 obtain ⟨gg,-⟩:∃ i:Nat,i=0:=⟨_,rfl⟩
 obtain ⟨m,-⟩:∃ i:Nat,i=0:=⟨_,rfl⟩
 obtain ⟨v,-⟩:∃ v:Value,v=.bool true:=⟨_,rfl⟩
 obtain ⟨x,-⟩:∃ x:Fin P,x=0:=⟨_,rfl⟩
 obtain ⟨y,-⟩:∃ x:Fin P,x=0:=⟨_,rfl⟩
 obtain ⟨C2,-⟩:∃ c:List Value,c=C:=⟨_,rfl⟩
 go_enter Tryz.func96,Tryz.ntmps96
 refine RG.var1 (v0:=.slice q n cap) (n:=32) (by kernel_rfl) (by kernel_rfl) (by kernel_rfl) ?_
 intro a0 sl0 f0
 have hS0:=RG.St.begin w
 have M0:RG.M w w.heap.size [] 32 [] [] [(0,(.v (.slice q n cap)))] a0 _:=⟨hS0,sl0,⟨f0,trivial⟩⟩
 repeat refine wp_seq ?_
 refine M0.tx0 (F72a_0 x) [(0,(.v (.slice q n cap))),(2,(.v (.slice none 0 0))),(3,(.v (.int .i64 0)))] (by kernel_rfl) ⟨RG.st fun _ _=>by kernel_rfl,RG.st fun _ _=>by kernel_rfl,trivial⟩ ?_
 intro a1 w1 M1
 repeat refine wp_seq ?_
 refine M1.tx (F72a_1 q n cap x) [(2,C)] [] [C] [(0,(.v (.slice q n cap))),(2,(.v (.slice none 0 0))),(3,(.v (.int .i64 0))),(4,(.s 0 n n))] (by kernel_rfl) (by kernel_rfl) ⟨RG.st fun _ _=>by kernel_rfl,RG.cert_one rfl 9 (.v (.slice q n cap)) (.int .i64 (n:Int)) rfl (RG.sx fun _=>by kernel_rfl) (fun a w=>by kernel_rfl) (fun μ w=>by kernel_rfl),RG.cert_makes 0 rfl _ rfl 133 57 10 10 n rfl rfl (RG.sx fun _=>by kernel_rfl) (RG.sx fun _=>by kernel_rfl) (hmk),RG.st fun _ _=>by kernel_rfl,trivial⟩ ?_
 intro j2 a2 w2 M2
 repeat refine wp_seq ?_
 refine M2.tx0 (F72a_2 q n cap x) [(2,(.v (.slice none 0 0))),(3,(.v (.int .i64 0))),(4,(.s 0 n n)),(12,(.v (.slice q n cap))),(13,(.v (.int .i64 (n:Int)))),(14,(.v (.int .i64 0)))] (by kernel_rfl) ⟨RG.st fun _ _=>by kernel_rfl,RG.cert_one rfl 12 (.v (.slice q n cap)) (.int .i64 (n:Int)) rfl (RG.sx fun _=>by kernel_rfl) (fun a w=>by kernel_rfl) (fun μ w=>by kernel_rfl),RG.st fun _ _=>by kernel_rfl,trivial⟩ ?_
 intro a3 w3 M3
 have hS3:RG.St w w.heap.size [] [C] [j2] _:=M3.st
 have sl3:=M3.sl
 have f2_3:a3.tmps[2]? = some (.slice none 0 0):=M3.at (s:=(.v (.slice none 0 0))) (by kernel_rfl)
 have f3_3:a3.tmps[3]? = some (.int .i64 0):=M3.at (s:=(.v (.int .i64 0))) (by kernel_rfl)
 have f4_3:a3.tmps[4]? = some (.slice (some ⟨j2,0,none⟩) n n):=M3.at (s:=(.s 0 n n)) (by kernel_rfl)
 have f12_3:a3.tmps[12]? = some (.slice q n cap):=M3.at (s:=(.v (.slice q n cap))) (by kernel_rfl)
 have f13_3:a3.tmps[13]? = some (.int .i64 (n:Int)):=M3.at (s:=(.v (.int .i64 (n:Int)))) (by kernel_rfl)
 have f14_3:a3.tmps[14]? = some (.int .i64 0):=M3.at (s:=(.v (.int .i64 0))) (by kernel_rfl)
 repeat refine wp_seq ?_
 refine wp_block ?_
 refine wp_loop_ghost (fun m a wr=>∃ (i:Nat) (C:List Value),i+m=n∧(∀ j,j < i→(rd P (L j)).isSome=true)∧Rows 8 n (fun j=>match rd P (L j) with | some p=>ws p.1++ws p.2 | none=>[]) i C∧RG.Sl a 32∧a.tmps[4]? = some (.slice (some ⟨j2,0,none⟩) n n)∧a.tmps[12]? = some (.slice q n cap)∧a.tmps[13]? = some (.int .i64 (n:Int))∧a.tmps[14]? = some (.int .i64 (i:Int))∧RG.St w w.heap.size [] [C] [j2] wr) n ⟨0,C,by omega,fun j hj=>by omega,⟨hCl,fun j r hj=>by omega⟩,sl3,f4_3,f12_3,f13_3,f14_3,hS3⟩ ?_
 intro m' a wr
 rintro ⟨i,C,him,hall,hR,sl,p4,p12,p13,p14,hSp⟩
 generalize j2=kt at p4 hSp
 by_cases hi:i < n
 · obtain ⟨gg,hqe,hgg,hc⟩:=hA (by omega)
   rw [hqe] at p12
   obtain ⟨v,hv,harg⟩:=hc i hi
   have hcell:w.cell? ⟨gg,0+i,none⟩=some v:=by rw [Nat.zero_add];exact hv
   cases hrdv:rd P (L i) with
   | some pp =>
    obtain ⟨x,y⟩:=pp
    have hrd:∀ w',RG.BelX w.heap.size [] w w'→Calls Tryz.prog 128 #[v] w' (Ret fun e w''=>Below w'.heap.size w' w''∧e=.tuple #[pv x y,.bool true]):=fun w' hb=>by
     have:=readPoint_c F v (L i) w' (harg.below hb.below)
     rw [hrdv] at this
     exact this
    have hlen:=hR.len
    have hoff:0+8*i+(ws x++ws y).length≤C.length:=by rw [hlen];show 0+8*i+8≤8*n;omega
    obtain ⟨C2,hC2e⟩:∃ c,RG.rep C (0+8*i) (ws x++ws y)=c:=⟨_,rfl⟩
    have hC2:=hC2e ▸ RG.rep_at hoff
    have hcl:C2.length=C.length:=hC2e ▸ RG.rep_length hoff
    have hR2:Rows 8 n (fun j=>match rd P (L j) with | some p=>ws p.1++ws p.2 | none=>[]) (i+1) C2:=by
     have:=hR.next hi (by show List.length (match rd P (L i) with | some p=>_ | none=>_)=_;rw [hrdv];rfl)
     rw [← hC2e]
     have e:(fun j=>match rd P (L j) with | some p=>ws p.1++ws p.2 | none=>[]) i=(ws x++ws y):=by show (match rd P (L i) with | some p=>_ | none=>_)=_;rw [hrdv]
     rw [← e]
     exact this
    have M10:RG.M w w.heap.size [] 32 [C] [kt] [(4,(.s 0 n n)),(12,(.v (.slice (some ⟨gg,0,none⟩) n cap))),(13,(.v (.int .i64 (n:Int)))),(14,(.v (.int .i64 (i:Int))))] a _:=⟨hSp,sl,⟨p4,p12,p13,p14,trivial⟩⟩
    repeat refine wp_seq ?_
    refine M10.tx0 (F72b_3 x) [(4,(.s 0 n n)),(12,(.v (.slice (some ⟨gg,0,none⟩) n cap))),(13,(.v (.int .i64 (n:Int)))),(14,(.v (.int .i64 (i:Int)))),(15,(.v (.bool true)))] (by kernel_rfl) ⟨RG.cert_bin rfl .lss 3 3 14 13 (.int .i64 (i:Int)) (.int .i64 (n:Int)) (.bool true) rfl rfl (RG.sx fun _=>by kernel_rfl) (RG.sx fun _=>by kernel_rfl) (fun w=>by kernel_rfl) (lssn_t hi),trivial⟩ ?_
    intro a11 w11 M11
    repeat refine wp_seq ?_
    refine wp_cond_true (M11.ev (by kernel_rfl)) ?_
    refine wp_skip ?_
    refine wp_seq ?_
    refine wp_block ?_
    repeat refine wp_seq ?_
    refine M11.tx0 (F72b_4 gg i v x) [(4,(.s 0 n n)),(5,(.v (.int .i64 (i:Int)))),(6,(.v v)),(12,(.v (.slice (some ⟨gg,0,none⟩) n cap))),(13,(.v (.int .i64 (n:Int)))),(14,(.v (.int .i64 (i:Int))))] (by kernel_rfl) ⟨RG.st fun _ _=>by kernel_rfl,RG.cert_idx rfl 31 12 14 rfl (.v (.slice (some ⟨gg,0,none⟩) n cap)) (.int .i64 (i:Int)) (RG.sx fun _=>by kernel_rfl) (RG.sx fun _=>by kernel_rfl) (fun μ w=>at46 _ 0 _ _ i hi w),RG.cert_load1B rfl gg (0+i) hgg List.not_mem_nil 22 17 rfl v rfl (RG.sx fun _=>by kernel_rfl) hcell u23,RG.st fun _ _=>by kernel_rfl,RG.st fun _ _=>by kernel_rfl,trivial⟩ ?_
    intro a12 w12 M12
    repeat refine wp_seq ?_
    refine M12.tx (F72b_5 m v x y) [(5,(RG.z 8))] [(1,6,(ws x++(ws y)))] [C,(ws x++(ws y))] [(4,(.s 0 n n)),(5,(.v (.int .i64 (i:Int)))),(7,(.p 1 0)),(8,(.v (.bool true))),(12,(.v (.slice (some ⟨gg,0,none⟩) n cap))),(13,(.v (.int .i64 (n:Int)))),(14,(.v (.int .i64 (i:Int))))] (by kernel_rfl) (by kernel_rfl) ⟨RG.st fun _ _=>by kernel_rfl,RG.cert_callB1 rfl 128 20 v (.tuple #[(pv x y),(.bool true)]) rfl (fun a w=>by kernel_rfl) (RG.sx fun _=>by kernel_rfl) hrd,RG.st fun _ _=>by kernel_rfl,RG.st fun _ _=>by kernel_rfl,RG.st fun _ _=>by kernel_rfl,RG.mk 1 57 fun _ _=>by kernel_rfl,RG.pt i109 (by kernel_rfl),RG.st fun _ _=>by kernel_rfl,trivial⟩ ?_
    intro j13 a13 w13 M13
    repeat refine wp_seq ?_
    refine M13.tx0 (F72b_6 x) [(4,(.s 0 n n)),(5,(.v (.int .i64 (i:Int)))),(7,(.p 1 0)),(12,(.v (.slice (some ⟨gg,0,none⟩) n cap))),(13,(.v (.int .i64 (n:Int)))),(14,(.v (.int .i64 (i:Int)))),(25,(.v (.bool false)))] (by kernel_rfl) ⟨RG.st fun _ _=>by kernel_rfl,RG.st fun _ _=>by kernel_rfl,trivial⟩ ?_
    intro a14 w14 M14
    repeat refine wp_seq ?_
    refine wp_cond_false (M14.ev (by kernel_rfl)) ?_
    refine wp_skip ?_
    repeat refine wp_seq ?_
    refine M14.tx (F72b_8 n i x y) [] [(0,4,C2)] [C2,(ws x++(ws y))] [(4,(.s 0 n n)),(12,(.v (.slice (some ⟨gg,0,none⟩) n cap))),(13,(.v (.int .i64 (n:Int)))),(14,(.v (.int .i64 (i:Int))))] (by kernel_rfl) (congrArg (fun n=>[n]) hcl) ⟨RG.st fun _ _=>by kernel_rfl,RG.st fun _ _=>by kernel_rfl,RG.ld u109 i109 (by kernel_rfl),RG.cert_idx rfl 133 26 27 rfl (.s 0 n n) (.int .i64 (i:Int)) (RG.sx fun _=>by kernel_rfl) (RG.sx fun _=>by kernel_rfl) (fun μ w=>at112 _ 0 _ _ i hi w),RG.cert_putAt 0 (0+8*i) rfl _ rfl 57 (.tmp 29) (.tmp 28) (ws x++ws y) rfl rfl (RG.sx fun _=>by kernel_rfl) (RG.sx fun _=>by kernel_rfl) hoff hC2 i109 rfl,trivial⟩ ?_
    intro a15 w15 M15
    repeat refine wp_seq ?_
    refine M15.tx0 (F72b_9 i x) [(4,(.s 0 n n)),(12,(.v (.slice (some ⟨gg,0,none⟩) n cap))),(13,(.v (.int .i64 (n:Int)))),(14,(.v (.int .i64 ((i+1:Nat):Int))))] (by kernel_rfl) ⟨RG.cert_binc rfl .add 3 3 14 (.int .i64 (i:Int)) (.int .i64 1) (.int .i64 ((i+1:Nat):Int)) rfl rfl (RG.sx fun _=>by kernel_rfl) (fun w=>by kernel_rfl) (addn i 1 (by omega) (by omega)),RG.st fun _ _=>by kernel_rfl,trivial⟩ ?_
    intro a16 w16 M16
    have hS16:RG.St w w.heap.size [] [C2,(ws x++(ws y))] [kt,j13] _:=M16.st
    have sl16:=M16.sl
    have f4_16:a16.tmps[4]? = some (.slice (some ⟨kt,0,none⟩) n n):=M16.at (s:=(.s 0 n n)) (by kernel_rfl)
    have f12_16:a16.tmps[12]? = some (.slice (some ⟨gg,0,none⟩) n cap):=M16.at (s:=(.v (.slice (some ⟨gg,0,none⟩) n cap))) (by kernel_rfl)
    have f13_16:a16.tmps[13]? = some (.int .i64 (n:Int)):=M16.at (s:=(.v (.int .i64 (n:Int)))) (by kernel_rfl)
    have f14_16:a16.tmps[14]? = some (.int .i64 ((i+1:Nat):Int)):=M16.at (s:=(.v (.int .i64 ((i+1:Nat):Int)))) (by kernel_rfl)
    show ∃ n',_
    exact ⟨m' - 1,by omega,i+1,C2,by omega,fun j hj=>(by
     by_cases hji:j=i
     · rw [hji,hrdv];rfl
     · exact hall j (by omega)),hR2,sl16,f4_16,(by rw [hqe];exact f12_16),f13_16,f14_16,RG.St.init (cs:=[C2]) (ks:=[kt]) hS16⟩
   | none =>
    have hrd:∀ w',RG.BelX w.heap.size [] w w'→Calls Tryz.prog 128 #[v] w' (Ret fun e w''=>Below w'.heap.size w' w''∧e=.tuple #[pv (0:Fin P) 0,.bool false]):=fun w' hb=>by
     have:=readPoint_c F v (L i) w' (harg.below hb.below)
     rw [hrdv] at this
     exact this
    have M20:RG.M w w.heap.size [] 32 [C] [kt] [(4,(.s 0 n n)),(12,(.v (.slice (some ⟨gg,0,none⟩) n cap))),(13,(.v (.int .i64 (n:Int)))),(14,(.v (.int .i64 (i:Int))))] a _:=⟨hSp,sl,⟨p4,p12,p13,p14,trivial⟩⟩
    repeat refine wp_seq ?_
    refine M20.tx0 (F72f_3 x) [(12,(.v (.slice (some ⟨gg,0,none⟩) n cap))),(14,(.v (.int .i64 (i:Int)))),(15,(.v (.bool true)))] (by kernel_rfl) ⟨RG.cert_bin rfl .lss 3 3 14 13 (.int .i64 (i:Int)) (.int .i64 (n:Int)) (.bool true) rfl rfl (RG.sx fun _=>by kernel_rfl) (RG.sx fun _=>by kernel_rfl) (fun w=>by kernel_rfl) (lssn_t hi),trivial⟩ ?_
    intro a21 w21 M21
    repeat refine wp_seq ?_
    refine wp_cond_true (M21.ev (by kernel_rfl)) ?_
    refine wp_skip ?_
    refine wp_seq ?_
    refine wp_block ?_
    repeat refine wp_seq ?_
    refine M21.tx0 (F72f_4 gg i v x) [(6,(.v v))] (by kernel_rfl) ⟨RG.st fun _ _=>by kernel_rfl,RG.cert_idx rfl 31 12 14 rfl (.v (.slice (some ⟨gg,0,none⟩) n cap)) (.int .i64 (i:Int)) (RG.sx fun _=>by kernel_rfl) (RG.sx fun _=>by kernel_rfl) (fun μ w=>at46 _ 0 _ _ i hi w),RG.cert_load1B rfl gg (0+i) hgg List.not_mem_nil 22 17 rfl v rfl (RG.sx fun _=>by kernel_rfl) hcell u23,RG.st fun _ _=>by kernel_rfl,RG.st fun _ _=>by kernel_rfl,trivial⟩ ?_
    intro a22 w22 M22
    repeat refine wp_seq ?_
    refine M22.tx (F72f_5 m v x) [(5,(RG.z 8))] [(1,6,(ws (0:Fin P)++(ws (0:Fin P))))] [C,(ws (0:Fin P)++(ws (0:Fin P)))] [(8,(.v (.bool false)))] (by kernel_rfl) (by kernel_rfl) ⟨RG.st fun _ _=>by kernel_rfl,RG.cert_callB1 rfl 128 20 v (.tuple #[(pv (0:Fin P) (0:Fin P)),(.bool false)]) rfl (fun a w=>by kernel_rfl) (RG.sx fun _=>by kernel_rfl) hrd,RG.st fun _ _=>by kernel_rfl,RG.st fun _ _=>by kernel_rfl,RG.st fun _ _=>by kernel_rfl,RG.mk 1 57 fun _ _=>by kernel_rfl,RG.pt i109 (by kernel_rfl),RG.st fun _ _=>by kernel_rfl,trivial⟩ ?_
    intro j23 a23 w23 M23
    repeat refine wp_seq ?_
    refine M23.tx0 (F72f_6 x) [(25,(.v (.bool true)))] (by kernel_rfl) ⟨RG.st fun _ _=>by kernel_rfl,RG.st fun _ _=>by kernel_rfl,trivial⟩ ?_
    intro a24 w24 M24
    repeat refine wp_seq ?_
    refine wp_cond_true (M24.ev (by kernel_rfl)) ?_
    repeat refine wp_seq ?_
    refine M24.tx0 (F72f_7 x) [(2,(.v (.slice none 0 0))),(3,(.v (.int .i64 4)))] (by kernel_rfl) ⟨RG.st fun _ _=>by kernel_rfl,RG.st fun _ _=>by kernel_rfl,trivial⟩ ?_
    intro a25 w25 M25
    have hS25:RG.St w w.heap.size [] [C,(ws (0:Fin P)++(ws (0:Fin P)))] [kt,j23] _:=M25.st
    have sl25:=M25.sl
    have f2_25:a25.tmps[2]? = some (.slice none 0 0):=M25.at (s:=(.v (.slice none 0 0))) (by kernel_rfl)
    have f3_25:a25.tmps[3]? = some (.int .i64 4):=M25.at (s:=(.v (.int .i64 4))) (by kernel_rfl)
    refine wp_ret ?_
    refine bodyPost_ret (v:=.tuple #[.slice none 0 0,.int .i64 4]) (RG.results_tt 2 3 rfl _ _ f2_25 f3_25) sl25.defers ?_
    exact ⟨_,rfl,hS25.bel.below,Or.inr ⟨⟨i,hi,hrdv⟩,rfl⟩⟩
 · have hiN:i=n:=by omega
   have M30:RG.M w w.heap.size [] 32 [C] [kt] [(4,(.s 0 n n)),(12,(.v (.slice q n cap))),(13,(.v (.int .i64 (n:Int)))),(14,(.v (.int .i64 (i:Int))))] a _:=⟨hSp,sl,⟨p4,p12,p13,p14,trivial⟩⟩
   repeat refine wp_seq ?_
   refine M30.tx0 (F72e_3 x) [(4,(.s 0 n n)),(15,(.v (.bool false)))] (by kernel_rfl) ⟨RG.cert_bin rfl .lss 3 3 14 13 (.int .i64 (i:Int)) (.int .i64 (n:Int)) (.bool false) rfl rfl (RG.sx fun _=>by kernel_rfl) (RG.sx fun _=>by kernel_rfl) (fun w=>by kernel_rfl) (lssn_f hi),trivial⟩ ?_
   intro a31 w31 M31
   repeat refine wp_seq ?_
   refine wp_cond_false (M31.ev (by kernel_rfl)) ?_
   refine wp_exit ?_
   dsimp only [Exit.then,Exit.inBlock]
   rw [if_pos rfl]
   repeat refine wp_seq ?_
   refine M31.tx0 (F72e_10 n x) [(2,(.s 0 n n)),(3,(.v (.int .i64 0)))] (by kernel_rfl) ⟨RG.st fun _ _=>by kernel_rfl,RG.st fun _ _=>by kernel_rfl,RG.st fun _ _=>by kernel_rfl,trivial⟩ ?_
   intro a32 w32 M32
   have hS32:RG.St w w.heap.size [] [C] [kt] _:=M32.st
   have sl32:=M32.sl
   have f2_32:a32.tmps[2]? = some (.slice (some ⟨kt,0,none⟩) n n):=M32.at (s:=(.s 0 n n)) (by kernel_rfl)
   have f3_32:a32.tmps[3]? = some (.int .i64 0):=M32.at (s:=(.v (.int .i64 0))) (by kernel_rfl)
   refine wp_ret ?_
   refine bodyPost_ret (v:=.tuple #[.slice (some ⟨kt,0,none⟩) n n,.int .i64 0]) (RG.results_tt 2 3 rfl _ _ f2_32 f3_32) sl32.defers ?_
   refine ⟨_,rfl,hS32.bel.below,Or.inl ⟨kt,?_,?_,rfl,fun j hj=>?_⟩⟩
   · exact (hS32.has 0 C rfl).2.2.2.elim id (fun h=>absurd h List.not_mem_nil)
   · exact (hS32.has 0 C rfl).2.2.1
   · obtain ⟨pp,hpp⟩:=Option.isSome_iff_exists.1 (hall j (by omega))
     refine ⟨pp,hpp,RG.range_sub (hS32.has 0 C rfl).1 (fun r hr=>?_)⟩
     have h5:=hR.row j r (by omega) hr
     rw [h5]
     show (match rd P (L j) with | some p=>_ | none=>_)[r]? = _
     rw [hpp]
def F81a_0:List RG.It:=[.x 2 [] (.slice none 0 0),.x 3 [] (.int .i64 0)]
def F81a_1 (q:Option Addr) (n cap:Nat):List RG.It:=[.x 9 [] (.slice q n cap),.x 10 [(9,0)] (.int .i64 (n:Int)),⟨some 11,[(10,1)],(.s 0 n n),.make 0⟩,.s 4 [(11,2)] (.s 0 n n)]
def F81a_2 (q:Option Addr) (n cap:Nat):List RG.It:=[.x 12 [] (.slice q n cap),.x 13 [(12,0)] (.int .i64 (n:Int)),.x 14 [] (.int .i64 0)]
def F81b_3:List RG.It:=[.x 15 [] (.bool true)]
def F81b_4 (gg i:Nat) (v:Value):List RG.It:=[.x 16 [] (.int .i64 (i:Int)),.x 17 [] (.pointer (some ⟨gg,(0+i),none⟩)),.x 18 [(17,1)] v,.x 5 [(16,0)] (.int .i64 (i:Int)),.x 6 [(18,2)] v]
def F81b_5 (m:Nat) (v:Value):List RG.It:=[.c 20 [] gv1,.x 21 [] v,.c 22 [(20,0),(21,1)] (.tuple #[(nv m),(.bool true)]),.x 19 [(22,2)] (.tuple #[(nv m),(.bool true)]),.x 23 [(19,3)] (nv m),.x 24 [(19,3)] (.bool true),.m 7 [] 1,.u [(7,6),(23,4)] 1,.x 8 [(24,5)] (.bool true)]
def F81b_6:List RG.It:=[.x 25 [] (.bool true),.x 26 [(25,0)] (.bool false)]
def F81b_8 (n i m:Nat):List RG.It:=[.s 27 [] (.s 0 n n),.x 28 [] (.int .i64 (i:Int)),.x 29 [] (nv m),.s 30 [(27,0),(28,1)] (.p 0 (0+4*i)),.u [(30,3),(29,2)] 0]
def F81b_9 (i:Nat):List RG.It:=[.x 31 [] (.int .i64 ((i+1:Nat):Int)),.x 14 [(31,0)] (.int .i64 ((i+1:Nat):Int))]
def F81f_3:List RG.It:=[.x 15 [] (.bool true)]
def F81f_4 (gg i:Nat) (v:Value):List RG.It:=[.x 16 [] (.int .i64 (i:Int)),.x 17 [] (.pointer (some ⟨gg,(0+i),none⟩)),.x 18 [(17,1)] v,.x 5 [(16,0)] (.int .i64 (i:Int)),.x 6 [(18,2)] v]
def F81f_5 (m:Nat) (v:Value):List RG.It:=[.c 20 [] gv1,.x 21 [] v,.c 22 [(20,0),(21,1)] (.tuple #[(nv 0),(.bool false)]),.x 19 [(22,2)] (.tuple #[(nv 0),(.bool false)]),.x 23 [(19,3)] (nv 0),.x 24 [(19,3)] (.bool false),.m 7 [] 1,.u [(7,6),(23,4)] 1,.x 8 [(24,5)] (.bool false)]
def F81f_6:List RG.It:=[.x 25 [] (.bool false),.x 26 [(25,0)] (.bool true)]
def F81f_7:List RG.It:=[.x 2 [] (.slice none 0 0),.x 3 [] (.int .i64 3)]
def F81e_3:List RG.It:=[.x 15 [] (.bool false)]
def F81e_10 (n:Nat):List RG.It:=[.s 32 [] (.s 0 n n),.s 2 [(32,0)] (.s 0 n n),.x 3 [] (.int .i64 0)]
def ArgsScs (w:World) (q:Option Addr) (n:Nat) (L:Nat→Bs):Prop:=0 < n→∃ gg,q=some ⟨gg,0,none⟩∧gg < w.heap.size∧∀ j,j < n→∃ v,w.cell? ⟨gg,j,none⟩=some v∧Arg w v (L j)
def ScsR (N:Nat) (w:World) (n:Nat) (L:Nat→Bs) (e:Value) (w':World):Prop :=
 (∃ k,w.heap.size≤k∧k < w'.heap.size∧e=.tuple #[.slice (some ⟨k,0,none⟩) n n,.int .i64 0]∧∀ j,j < n→∃ p,rq N (L j)=some p∧w'.rangeAt k (4*j) (wn p)) ∨
 ((∃ j,j < n∧rq N (L j)=none)∧e=.tuple #[.slice none 0 0,.int .i64 3])
set_option maxHeartbeats 4000000 in
set_option maxRecDepth 100000 in
theorem Scs_c {N:Nat} (hG:Gap 4624529908474429119 4994812053365940164 1 N) (n cap:Nat) (hn:n≤512) (q:Option Addr) (L:Nat→Bs) (w:World) (hA:ArgsScs w q n L):Calls Tryz.prog 95 #[.slice q n cap] w (Ret fun e w'=>Below w.heap.size w w'∧ScsR N w n L e w'):=by
 obtain ⟨C,hCl,hmk⟩:=mk82 n hn
 obtain ⟨i,-⟩:∃ i:Nat,i=0:=⟨_,rfl⟩
 obtain ⟨gg,-⟩:∃ i:Nat,i=0:=⟨_,rfl⟩
 obtain ⟨m,-⟩:∃ i:Nat,i=0:=⟨_,rfl⟩
 obtain ⟨v,-⟩:∃ v:Value,v=.bool true:=⟨_,rfl⟩
 obtain ⟨C2,-⟩:∃ c:List Value,c=C:=⟨_,rfl⟩
 go_enter Tryz.func95,Tryz.ntmps95
 refine RG.var1 (v0:=.slice q n cap) (n:=33) (by kernel_rfl) (by kernel_rfl) (by kernel_rfl) ?_
 intro a0 sl0 f0
 have hS0:=RG.St.begin w
 have M0:RG.M w w.heap.size [] 33 [] [] [(0,(.v (.slice q n cap)))] a0 _:=⟨hS0,sl0,⟨f0,trivial⟩⟩
 repeat refine wp_seq ?_
 refine M0.tx0 F81a_0 [(0,(.v (.slice q n cap))),(2,(.v (.slice none 0 0))),(3,(.v (.int .i64 0)))] (by kernel_rfl) ⟨RG.st fun _ _=>by kernel_rfl,RG.st fun _ _=>by kernel_rfl,trivial⟩ ?_
 intro a1 w1 M1
 repeat refine wp_seq ?_
 refine M1.tx (F81a_1 q n cap) [(2,C)] [] [C] [(0,(.v (.slice q n cap))),(2,(.v (.slice none 0 0))),(3,(.v (.int .i64 0))),(4,(.s 0 n n))] (by kernel_rfl) (by kernel_rfl) ⟨RG.st fun _ _=>by kernel_rfl,RG.cert_one rfl 9 (.v (.slice q n cap)) (.int .i64 (n:Int)) rfl (RG.sx fun _=>by kernel_rfl) (fun a w=>by kernel_rfl) (fun μ w=>by kernel_rfl),RG.cert_makes 0 rfl _ rfl 130 55 10 10 n rfl rfl (RG.sx fun _=>by kernel_rfl) (RG.sx fun _=>by kernel_rfl) (hmk),RG.st fun _ _=>by kernel_rfl,trivial⟩ ?_
 intro j2 a2 w2 M2
 repeat refine wp_seq ?_
 refine M2.tx0 (F81a_2 q n cap) [(2,(.v (.slice none 0 0))),(3,(.v (.int .i64 0))),(4,(.s 0 n n)),(12,(.v (.slice q n cap))),(13,(.v (.int .i64 (n:Int)))),(14,(.v (.int .i64 0)))] (by kernel_rfl) ⟨RG.st fun _ _=>by kernel_rfl,RG.cert_one rfl 12 (.v (.slice q n cap)) (.int .i64 (n:Int)) rfl (RG.sx fun _=>by kernel_rfl) (fun a w=>by kernel_rfl) (fun μ w=>by kernel_rfl),RG.st fun _ _=>by kernel_rfl,trivial⟩ ?_
 intro a3 w3 M3
 have hS3:RG.St w w.heap.size [] [C] [j2] _:=M3.st
 have sl3:=M3.sl
 have f2_3:a3.tmps[2]? = some (.slice none 0 0):=M3.at (s:=(.v (.slice none 0 0))) (by kernel_rfl)
 have f3_3:a3.tmps[3]? = some (.int .i64 0):=M3.at (s:=(.v (.int .i64 0))) (by kernel_rfl)
 have f4_3:a3.tmps[4]? = some (.slice (some ⟨j2,0,none⟩) n n):=M3.at (s:=(.s 0 n n)) (by kernel_rfl)
 have f12_3:a3.tmps[12]? = some (.slice q n cap):=M3.at (s:=(.v (.slice q n cap))) (by kernel_rfl)
 have f13_3:a3.tmps[13]? = some (.int .i64 (n:Int)):=M3.at (s:=(.v (.int .i64 (n:Int)))) (by kernel_rfl)
 have f14_3:a3.tmps[14]? = some (.int .i64 0):=M3.at (s:=(.v (.int .i64 0))) (by kernel_rfl)
 repeat refine wp_seq ?_
 refine wp_block ?_
 refine wp_loop_ghost (fun m a wr=>∃ (i:Nat) (C:List Value),i+m=n∧(∀ j,j < i→(rq N (L j)).isSome=true)∧Rows 4 n (fun j=>match rq N (L j) with | some k=>wn k | none=>[]) i C∧RG.Sl a 33∧a.tmps[4]? = some (.slice (some ⟨j2,0,none⟩) n n)∧a.tmps[12]? = some (.slice q n cap)∧a.tmps[13]? = some (.int .i64 (n:Int))∧a.tmps[14]? = some (.int .i64 (i:Int))∧RG.St w w.heap.size [] [C] [j2] wr) n ⟨0,C,by omega,fun j hj=>by omega,⟨hCl,fun j r hj=>by omega⟩,sl3,f4_3,f12_3,f13_3,f14_3,hS3⟩ ?_
 intro m' a wr
 rintro ⟨i,C,him,hall,hR,sl,p4,p12,p13,p14,hSp⟩
 generalize j2=kt at p4 hSp
 by_cases hi:i < n
 · obtain ⟨gg,hqe,hgg,hc⟩:=hA (by omega)
   rw [hqe] at p12
   obtain ⟨v,hv,harg⟩:=hc i hi
   have hcell:w.cell? ⟨gg,0+i,none⟩=some v:=by rw [Nat.zero_add];exact hv
   cases hrdv:rq N (L i) with
   | some pp =>
    obtain ⟨m,rfl⟩:∃ m,m=pp:=⟨_,rfl⟩
    have hrd:∀ w',RG.BelX w.heap.size [] w w'→Calls Tryz.prog 85 #[gv1,v] w' (Ret fun e w''=>Below w'.heap.size w' w''∧e=.tuple #[nv m,.bool true]):=fun w' hb=>by
     have:=readQ_c hG v (L i) w' (harg.below hb.below)
     rw [hrdv] at this
     exact this
    have hlen:=hR.len
    have hoff:0+4*i+(wn m).length≤C.length:=by rw [hlen];show 0+4*i+4≤4*n;omega
    obtain ⟨C2,hC2e⟩:∃ c,RG.rep C (0+4*i) (wn m)=c:=⟨_,rfl⟩
    have hC2:=hC2e ▸ RG.rep_at hoff
    have hcl:C2.length=C.length:=hC2e ▸ RG.rep_length hoff
    have hR2:Rows 4 n (fun j=>match rq N (L j) with | some k=>wn k | none=>[]) (i+1) C2:=by
     have:=hR.next hi (by show List.length (match rq N (L i) with | some p=>_ | none=>_)=_;rw [hrdv];rfl)
     rw [← hC2e]
     have e:(fun j=>match rq N (L j) with | some k=>wn k | none=>[]) i=(wn m):=by show (match rq N (L i) with | some p=>_ | none=>_)=_;rw [hrdv]
     rw [← e]
     exact this
    have M10:RG.M w w.heap.size [] 33 [C] [kt] [(4,(.s 0 n n)),(12,(.v (.slice (some ⟨gg,0,none⟩) n cap))),(13,(.v (.int .i64 (n:Int)))),(14,(.v (.int .i64 (i:Int))))] a _:=⟨hSp,sl,⟨p4,p12,p13,p14,trivial⟩⟩
    repeat refine wp_seq ?_
    refine M10.tx0 F81b_3 [(4,(.s 0 n n)),(12,(.v (.slice (some ⟨gg,0,none⟩) n cap))),(13,(.v (.int .i64 (n:Int)))),(14,(.v (.int .i64 (i:Int)))),(15,(.v (.bool true)))] (by kernel_rfl) ⟨RG.cert_bin rfl .lss 3 3 14 13 (.int .i64 (i:Int)) (.int .i64 (n:Int)) (.bool true) rfl rfl (RG.sx fun _=>by kernel_rfl) (RG.sx fun _=>by kernel_rfl) (fun w=>by kernel_rfl) (lssn_t hi),trivial⟩ ?_
    intro a11 w11 M11
    repeat refine wp_seq ?_
    refine wp_cond_true (M11.ev (by kernel_rfl)) ?_
    refine wp_skip ?_
    refine wp_seq ?_
    refine wp_block ?_
    repeat refine wp_seq ?_
    refine M11.tx0 (F81b_4 gg i v) [(4,(.s 0 n n)),(5,(.v (.int .i64 (i:Int)))),(6,(.v v)),(12,(.v (.slice (some ⟨gg,0,none⟩) n cap))),(13,(.v (.int .i64 (n:Int)))),(14,(.v (.int .i64 (i:Int))))] (by kernel_rfl) ⟨RG.st fun _ _=>by kernel_rfl,RG.cert_idx rfl 31 12 14 rfl (.v (.slice (some ⟨gg,0,none⟩) n cap)) (.int .i64 (i:Int)) (RG.sx fun _=>by kernel_rfl) (RG.sx fun _=>by kernel_rfl) (fun μ w=>at46 _ 0 _ _ i hi w),RG.cert_load1B rfl gg (0+i) hgg List.not_mem_nil 22 17 rfl v rfl (RG.sx fun _=>by kernel_rfl) hcell u23,RG.st fun _ _=>by kernel_rfl,RG.st fun _ _=>by kernel_rfl,trivial⟩ ?_
    intro a12 w12 M12
    repeat refine wp_seq ?_
    refine M12.tx (F81b_5 m v) [(6,(RG.z 4))] [(1,7,(wn m))] [C,(wn m)] [(4,(.s 0 n n)),(5,(.v (.int .i64 (i:Int)))),(7,(.p 1 0)),(8,(.v (.bool true))),(12,(.v (.slice (some ⟨gg,0,none⟩) n cap))),(13,(.v (.int .i64 (n:Int)))),(14,(.v (.int .i64 (i:Int))))] (by kernel_rfl) (by kernel_rfl) ⟨RG.cl (Scalars_c) fun _ _=>by kernel_rfl,RG.st fun _ _=>by kernel_rfl,RG.cert_callB2 rfl 85 20 21 gv1 v (.tuple #[(nv m),(.bool true)]) rfl (fun a w=>by kernel_rfl) (RG.sx fun _=>by kernel_rfl) (RG.sx fun _=>by kernel_rfl) hrd,RG.st fun _ _=>by kernel_rfl,RG.st fun _ _=>by kernel_rfl,RG.st fun _ _=>by kernel_rfl,RG.mk 1 55 fun _ _=>by kernel_rfl,RG.pt i85 (by kernel_rfl),RG.st fun _ _=>by kernel_rfl,trivial⟩ ?_
    intro j13 a13 w13 M13
    repeat refine wp_seq ?_
    refine M13.tx0 F81b_6 [(4,(.s 0 n n)),(5,(.v (.int .i64 (i:Int)))),(7,(.p 1 0)),(12,(.v (.slice (some ⟨gg,0,none⟩) n cap))),(13,(.v (.int .i64 (n:Int)))),(14,(.v (.int .i64 (i:Int)))),(26,(.v (.bool false)))] (by kernel_rfl) ⟨RG.st fun _ _=>by kernel_rfl,RG.st fun _ _=>by kernel_rfl,trivial⟩ ?_
    intro a14 w14 M14
    repeat refine wp_seq ?_
    refine wp_cond_false (M14.ev (by kernel_rfl)) ?_
    refine wp_skip ?_
    repeat refine wp_seq ?_
    refine M14.tx (F81b_8 n i m) [] [(0,4,C2)] [C2,(wn m)] [(4,(.s 0 n n)),(12,(.v (.slice (some ⟨gg,0,none⟩) n cap))),(13,(.v (.int .i64 (n:Int)))),(14,(.v (.int .i64 (i:Int))))] (by kernel_rfl) (congrArg (fun n=>[n]) hcl) ⟨RG.st fun _ _=>by kernel_rfl,RG.st fun _ _=>by kernel_rfl,RG.ld u85 i85 (by kernel_rfl),RG.cert_idx rfl 130 27 28 rfl (.s 0 n n) (.int .i64 (i:Int)) (RG.sx fun _=>by kernel_rfl) (RG.sx fun _=>by kernel_rfl) (fun μ w=>at82 _ 0 _ _ i hi w),RG.cert_putAt 0 (0+4*i) rfl _ rfl 55 (.tmp 30) (.tmp 29) (wn m) rfl rfl (RG.sx fun _=>by kernel_rfl) (RG.sx fun _=>by kernel_rfl) hoff hC2 i85 rfl,trivial⟩ ?_
    intro a15 w15 M15
    repeat refine wp_seq ?_
    refine M15.tx0 (F81b_9 i) [(4,(.s 0 n n)),(12,(.v (.slice (some ⟨gg,0,none⟩) n cap))),(13,(.v (.int .i64 (n:Int)))),(14,(.v (.int .i64 ((i+1:Nat):Int))))] (by kernel_rfl) ⟨RG.cert_binc rfl .add 3 3 14 (.int .i64 (i:Int)) (.int .i64 1) (.int .i64 ((i+1:Nat):Int)) rfl rfl (RG.sx fun _=>by kernel_rfl) (fun w=>by kernel_rfl) (addn i 1 (by omega) (by omega)),RG.st fun _ _=>by kernel_rfl,trivial⟩ ?_
    intro a16 w16 M16
    have hS16:RG.St w w.heap.size [] [C2,(wn m)] [kt,j13] _:=M16.st
    have sl16:=M16.sl
    have f4_16:a16.tmps[4]? = some (.slice (some ⟨kt,0,none⟩) n n):=M16.at (s:=(.s 0 n n)) (by kernel_rfl)
    have f12_16:a16.tmps[12]? = some (.slice (some ⟨gg,0,none⟩) n cap):=M16.at (s:=(.v (.slice (some ⟨gg,0,none⟩) n cap))) (by kernel_rfl)
    have f13_16:a16.tmps[13]? = some (.int .i64 (n:Int)):=M16.at (s:=(.v (.int .i64 (n:Int)))) (by kernel_rfl)
    have f14_16:a16.tmps[14]? = some (.int .i64 ((i+1:Nat):Int)):=M16.at (s:=(.v (.int .i64 ((i+1:Nat):Int)))) (by kernel_rfl)
    show ∃ n',_
    exact ⟨m' - 1,by omega,i+1,C2,by omega,fun j hj=>(by
     by_cases hji:j=i
     · rw [hji,hrdv];rfl
     · exact hall j (by omega)),hR2,sl16,f4_16,(by rw [hqe];exact f12_16),f13_16,f14_16,RG.St.init (cs:=[C2]) (ks:=[kt]) hS16⟩
   | none =>
    have hrd:∀ w',RG.BelX w.heap.size [] w w'→Calls Tryz.prog 85 #[gv1,v] w' (Ret fun e w''=>Below w'.heap.size w' w''∧e=.tuple #[nv 0,.bool false]):=fun w' hb=>by
     have:=readQ_c hG v (L i) w' (harg.below hb.below)
     rw [hrdv] at this
     exact this
    have M20:RG.M w w.heap.size [] 33 [C] [kt] [(4,(.s 0 n n)),(12,(.v (.slice (some ⟨gg,0,none⟩) n cap))),(13,(.v (.int .i64 (n:Int)))),(14,(.v (.int .i64 (i:Int))))] a _:=⟨hSp,sl,⟨p4,p12,p13,p14,trivial⟩⟩
    repeat refine wp_seq ?_
    refine M20.tx0 F81f_3 [(12,(.v (.slice (some ⟨gg,0,none⟩) n cap))),(14,(.v (.int .i64 (i:Int)))),(15,(.v (.bool true)))] (by kernel_rfl) ⟨RG.cert_bin rfl .lss 3 3 14 13 (.int .i64 (i:Int)) (.int .i64 (n:Int)) (.bool true) rfl rfl (RG.sx fun _=>by kernel_rfl) (RG.sx fun _=>by kernel_rfl) (fun w=>by kernel_rfl) (lssn_t hi),trivial⟩ ?_
    intro a21 w21 M21
    repeat refine wp_seq ?_
    refine wp_cond_true (M21.ev (by kernel_rfl)) ?_
    refine wp_skip ?_
    refine wp_seq ?_
    refine wp_block ?_
    repeat refine wp_seq ?_
    refine M21.tx0 (F81f_4 gg i v) [(6,(.v v))] (by kernel_rfl) ⟨RG.st fun _ _=>by kernel_rfl,RG.cert_idx rfl 31 12 14 rfl (.v (.slice (some ⟨gg,0,none⟩) n cap)) (.int .i64 (i:Int)) (RG.sx fun _=>by kernel_rfl) (RG.sx fun _=>by kernel_rfl) (fun μ w=>at46 _ 0 _ _ i hi w),RG.cert_load1B rfl gg (0+i) hgg List.not_mem_nil 22 17 rfl v rfl (RG.sx fun _=>by kernel_rfl) hcell u23,RG.st fun _ _=>by kernel_rfl,RG.st fun _ _=>by kernel_rfl,trivial⟩ ?_
    intro a22 w22 M22
    repeat refine wp_seq ?_
    refine M22.tx (F81f_5 m v) [(6,(RG.z 4))] [(1,7,(wn 0))] [C,(wn 0)] [(8,(.v (.bool false)))] (by kernel_rfl) (by kernel_rfl) ⟨RG.cl (Scalars_c) fun _ _=>by kernel_rfl,RG.st fun _ _=>by kernel_rfl,RG.cert_callB2 rfl 85 20 21 gv1 v (.tuple #[(nv 0),(.bool false)]) rfl (fun a w=>by kernel_rfl) (RG.sx fun _=>by kernel_rfl) (RG.sx fun _=>by kernel_rfl) hrd,RG.st fun _ _=>by kernel_rfl,RG.st fun _ _=>by kernel_rfl,RG.st fun _ _=>by kernel_rfl,RG.mk 1 55 fun _ _=>by kernel_rfl,RG.pt i85 (by kernel_rfl),RG.st fun _ _=>by kernel_rfl,trivial⟩ ?_
    intro j23 a23 w23 M23
    repeat refine wp_seq ?_
    refine M23.tx0 F81f_6 [(26,(.v (.bool true)))] (by kernel_rfl) ⟨RG.st fun _ _=>by kernel_rfl,RG.st fun _ _=>by kernel_rfl,trivial⟩ ?_
    intro a24 w24 M24
    repeat refine wp_seq ?_
    refine wp_cond_true (M24.ev (by kernel_rfl)) ?_
    repeat refine wp_seq ?_
    refine M24.tx0 F81f_7 [(2,(.v (.slice none 0 0))),(3,(.v (.int .i64 3)))] (by kernel_rfl) ⟨RG.st fun _ _=>by kernel_rfl,RG.st fun _ _=>by kernel_rfl,trivial⟩ ?_
    intro a25 w25 M25
    have hS25:RG.St w w.heap.size [] [C,(wn 0)] [kt,j23] _:=M25.st
    have sl25:=M25.sl
    have f2_25:a25.tmps[2]? = some (.slice none 0 0):=M25.at (s:=(.v (.slice none 0 0))) (by kernel_rfl)
    have f3_25:a25.tmps[3]? = some (.int .i64 3):=M25.at (s:=(.v (.int .i64 3))) (by kernel_rfl)
    refine wp_ret ?_
    refine bodyPost_ret (v:=.tuple #[.slice none 0 0,.int .i64 3]) (RG.results_tt 2 3 rfl _ _ f2_25 f3_25) sl25.defers ?_
    exact ⟨_,rfl,hS25.bel.below,Or.inr ⟨⟨i,hi,hrdv⟩,rfl⟩⟩
 · have hiN:i=n:=by omega
   have M30:RG.M w w.heap.size [] 33 [C] [kt] [(4,(.s 0 n n)),(12,(.v (.slice q n cap))),(13,(.v (.int .i64 (n:Int)))),(14,(.v (.int .i64 (i:Int))))] a _:=⟨hSp,sl,⟨p4,p12,p13,p14,trivial⟩⟩
   repeat refine wp_seq ?_
   refine M30.tx0 F81e_3 [(4,(.s 0 n n)),(15,(.v (.bool false)))] (by kernel_rfl) ⟨RG.cert_bin rfl .lss 3 3 14 13 (.int .i64 (i:Int)) (.int .i64 (n:Int)) (.bool false) rfl rfl (RG.sx fun _=>by kernel_rfl) (RG.sx fun _=>by kernel_rfl) (fun w=>by kernel_rfl) (lssn_f hi),trivial⟩ ?_
   intro a31 w31 M31
   repeat refine wp_seq ?_
   refine wp_cond_false (M31.ev (by kernel_rfl)) ?_
   refine wp_exit ?_
   dsimp only [Exit.then,Exit.inBlock]
   rw [if_pos rfl]
   repeat refine wp_seq ?_
   refine M31.tx0 (F81e_10 n) [(2,(.s 0 n n)),(3,(.v (.int .i64 0)))] (by kernel_rfl) ⟨RG.st fun _ _=>by kernel_rfl,RG.st fun _ _=>by kernel_rfl,RG.st fun _ _=>by kernel_rfl,trivial⟩ ?_
   intro a32 w32 M32
   have hS32:RG.St w w.heap.size [] [C] [kt] _:=M32.st
   have sl32:=M32.sl
   have f2_32:a32.tmps[2]? = some (.slice (some ⟨kt,0,none⟩) n n):=M32.at (s:=(.s 0 n n)) (by kernel_rfl)
   have f3_32:a32.tmps[3]? = some (.int .i64 0):=M32.at (s:=(.v (.int .i64 0))) (by kernel_rfl)
   refine wp_ret ?_
   refine bodyPost_ret (v:=.tuple #[.slice (some ⟨kt,0,none⟩) n n,.int .i64 0]) (RG.results_tt 2 3 rfl _ _ f2_32 f3_32) sl32.defers ?_
   refine ⟨_,rfl,hS32.bel.below,Or.inl ⟨kt,?_,?_,rfl,fun j hj=>?_⟩⟩
   · exact (hS32.has 0 C rfl).2.2.2.elim id (fun h=>absurd h List.not_mem_nil)
   · exact (hS32.has 0 C rfl).2.2.1
   · obtain ⟨pp,hpp⟩:=Option.isSome_iff_exists.1 (hall j (by omega))
     refine ⟨pp,hpp,RG.range_sub (hS32.has 0 C rfl).1 (fun r hr=>?_)⟩
     have h5:=hR.row j r (by omega) hr
     rw [h5]
     show (match rq N (L j) with | some p=>_ | none=>_)[r]? = _
     rw [hpp]
end Go.Proofs.YtmkllfekhehagagGreat
set_option linter.unusedVariables false
set_option linter.unusedSimpArgs false
namespace Go.Proofs.YtmkllfekhehagagGreat
open Go.RowKit Go.Sort Go.Deep
variable {P:Nat} [NeZero P]
omit [NeZero P] in
theorem words2 (x y:Fin P):∃ a b c d p q r s:Nat,pv x y=.agg #[.int .u64 (a:Int),.int .u64 (b:Int),.int .u64 (c:Int),.int .u64 (d:Int),.int .u64 (p:Int),.int .u64 (q:Int),.int .u64 (r:Int),.int .u64 (s:Int)]∧ws x++ws y=[.int .u64 (a:Int),.int .u64 (b:Int),.int .u64 (c:Int),.int .u64 (d:Int),.int .u64 (p:Int),.int .u64 (q:Int),.int .u64 (r:Int),.int .u64 (s:Int)] :=
 ⟨_,_,_,_,_,_,_,_,rfl,rfl⟩
def OutE (c:Int) (e:Value):Prop:=e=.tuple #[.slice none 0 0,.int .i64 c]
def OutP (w:World) (T:Bs) (e:Value) (w':World):Prop:=∃ g cap,e=.tuple #[.slice (some ⟨g,0,none⟩) 33 cap,.int .i64 0]∧33≤cap∧w.heap.size≤g∧g < w'.heap.size∧Holds encB w' g 0 T
set_option maxHeartbeats 2000000 in
theorem gPoint_c (C:Fld P) (v:Value) (bs:Bs) (w:World) (hv:Arg33 w v bs):Calls Tryz.prog 86 #[v] w (Ret fun e w'=>Below w.heap.size w w'∧e=.bool (rd P bs).isSome):=by
 have hc:∃ (a1 b1 c1 d1 p1 q1 r1 s1:Nat),Calls Tryz.prog 128 #[v] w (Ret fun e w'=>Below w.heap.size w w'∧e=.tuple #[.agg #[.int .u64 (a1:Int),.int .u64 (b1:Int),.int .u64 (c1:Int),.int .u64 (d1:Int),.int .u64 (p1:Int),.int .u64 (q1:Int),.int .u64 (r1:Int),.int .u64 (s1:Int)],.bool (rd P bs).isSome]):=by
  have h:=readPoint_c C v bs w hv
  cases hrd:rd P bs with
  | none =>
   obtain ⟨a1,b1,c1,d1,p1,q1,r1,s1,e1,-⟩:=words2 (0:Fin P) 0
   refine ⟨a1,b1,c1,d1,p1,q1,r1,s1,?_⟩
   rw [hrd] at h
   rw [← e1]
   exact h
  | some p =>
   obtain ⟨a1,b1,c1,d1,p1,q1,r1,s1,e1,-⟩:=words2 p.1 p.2
   refine ⟨a1,b1,c1,d1,p1,q1,r1,s1,?_⟩
   rw [hrd] at h
   rw [← e1]
   exact h
 obtain ⟨a1,b1,c1,d1,p1,q1,r1,s1,hc⟩:=hc
 generalize (rd P bs).isSome=bb at hc ⊢
 obtain ⟨q,n,cap,rfl,-⟩:=hv
 go_enter Tryz.func86,Tryz.ntmps86
 go_wp2_with fail
 refine hc.mono ?_
 rintro e w1 ⟨v,rfl,hb1,rfl⟩
 have HB:Hid (Below w.heap.size w w1):=hb1
 clear hb1 hc
 go_wp2
 go_ret
 exact ⟨_,rfl,HB.out.alloc HB.out.size _,rfl⟩
def ptP (s:T3 P):Fin P × Fin P:=(s.1*(EC.inv s.2.2*EC.inv s.2.2),s.2.1*(EC.inv s.2.2*EC.inv s.2.2)*EC.inv s.2.2)
end Go.Proofs.YtmkllfekhehagagGreat
namespace Go.Proofs.YtmkllfekhehagagGreat
open Go.RowKit Go.Sort Go.Deep
variable {P:Nat} [NeZero P]
theorem cell_below {w w1:World} {k j:Nat} {v:Value} (h:w.cell? ⟨k,j,none⟩=some v) (hb:Below w.heap.size w w1) (hk:k < w.heap.size):w1.cell? ⟨k,j,none⟩=some v:=by
 have h1:w.rangeAt k j [v]:=fun i u hu=>by
  cases i with
  | zero =>
   obtain rfl:v=u:=Option.some.inj hu
   exact h
  | succ i=>exact absurd hu (by simp)
 exact RG.range_below h1 hb hk 0 v rfl
theorem ArgsPts.below {w w1:World} {q:Option Addr} {n:Nat} {L:Nat→Bs} (h:ArgsPts w q n L) (hb:Below w.heap.size w w1):ArgsPts w1 q n L:=fun hn=>by
 obtain ⟨gg,hq,hlt,hc⟩:=h hn
 refine ⟨gg,hq,Nat.lt_of_lt_of_le hlt hb.size,fun j hj=>?_⟩
 obtain ⟨v,hv,ha⟩:=hc j hj
 exact ⟨v,cell_below hv hb hlt,ha.below hb⟩
def SumR (P:Nat) [NeZero P] (N:Nat) (w:World) (n a:Nat) (L M:Nat→Bs) (e:Value) (w':World):Prop :=
 (n≠a∧OutE 2 e)∨(n=a∧512 < n∧OutE 1 e)∨(n=a∧n≤512∧(((∃ j,j < n∧rq N (L j)=none)∧OutE 3 e) ∨
  ∃ ns:Nat→Nat,(∀ j,j < n→rq N (L j)=some (ns j))∧(((∃ j,j < n∧rd P (M j)=none)∧OutE 4 e) ∨
   ∃ xs ys:Nat→Fin P,(∀ j,j < n→rd P (M j)=some (xs j,ys j))∧OutP w (by33 (ptP (sumJ ns xs ys n 257)).1 (ptP (sumJ ns xs ys n 257)).2) e w')))
theorem choose_nat {A:Type} [Inhabited A] {n:Nat} {p:Nat→A→Prop} (h:∀ j,j < n→∃ a,p j a):∃ f:Nat→A,∀ j,j < n→p j (f j) :=
 ⟨fun j=>if hj:j < n then (h j hj).choose else default,fun j hj=>by
  show p j (if hj:j < n then (h j hj).choose else default)
  rw [dif_pos hj]
  exact (h j hj).choose_spec⟩
theorem rq_top {N:Nat} (hN:N≤top) {bs:Bs} {m:Nat} (h:rq N bs=some m):m < top:=by
 unfold rq at h
 split at h
 · rename_i h1
   obtain rfl:beV bs.toList=m:=Option.some.inj h
   exact Nat.lt_of_lt_of_le h1.2 hN
 · exact absurd h (by simp)
set_option maxHeartbeats 4000000 in
set_option maxRecDepth 100000 in
theorem gSum_c {N:Nat} (C:Fld P) (hG:Gap 4624529908474429119 4994812053365940164 1 N) (hN:N≤top) (q q':Option Addr) (n cap a cap':Nat) (L M:Nat→Bs) (w:World) (hL:ArgsScs w q n L) (hM:ArgsPts w q' a M) :
 Calls Tryz.prog 50 #[.slice q n cap,.slice q' a cap'] w (Ret fun e w'=>Below w.heap.size w w'∧SumR P N w n a L M e w'):=by
 have HL:Hid (ArgsScs w q n L):=hL
 have HM:Hid (ArgsPts w q' a M):=hM
 clear hL hM
 by_cases hna:n=a
 · subst hna
   by_cases h512:512 < n
   · go_enter Tryz.func50,Tryz.ntmps50
     go_wp2
     go_ret2
     exact ⟨_,rfl,RowKit.Below.refl _ _,Or.inr (Or.inl ⟨rfl,h512,rfl⟩)⟩
   · have H5:n≤512:=by omega
     go_enter Tryz.func50,Tryz.ntmps50
     go_wp2_with fail
     refine (Scs_c hG n cap H5 q L w HL.out).mono ?_
     rintro e w1 ⟨v,rfl,hb1,⟨k,hk1,hk2,rfl,hrow⟩ | ⟨hno,rfl⟩⟩
     · obtain ⟨ns,hns⟩:=choose_nat hrow
       have HB:Hid (Below w.heap.size w w1):=hb1
       have HS:Hid (k < w1.heap.size∧∀ j,j < n→w1.rangeAt k (4*j) (wn (ns j))):=⟨hk2,fun j hj=>(hns j hj).2⟩
       have HN:Hid (∀ j,j < n→rq N (L j)=some (ns j)):=fun j hj=>(hns j hj).1
       clear hrow hns hk1 hk2 hb1
       go_wp2_with fail
       refine (Pts_c C n cap' H5 q' M w1 (HM.out.below HB.out)).mono ?_
       rintro e w2 ⟨v,rfl,hb2,⟨k',hk1,hk2,rfl,hrow⟩ | ⟨hno,rfl⟩⟩
       · obtain ⟨ps,hps⟩:=choose_nat hrow
         have HB2:Hid (Below w.heap.size w w2):=HB.out.trans (hb2.mono HB.out.size)
         have HS2:Hid (k < w2.heap.size∧∀ j,j < n→w2.rangeAt k (4*j) (wn (ns j))):=⟨Nat.lt_of_lt_of_le HS.out.1 hb2.size,fun j hj=>RG.range_below (HS.out.2 j hj) hb2 HS.out.1⟩
         have HP:Hid (k' < w2.heap.size∧∀ j,j < n→w2.rangeAt k' (8*j) (ws (ps j).1++ws (ps j).2)):=⟨hk2,fun j hj=>(hps j hj).2⟩
         have HM2:Hid (∀ j,j < n→rd P (M j)=some ((ps j).1,(ps j).2)):=fun j hj=>(hps j hj).1
         clear hrow hps hk1 hk2 hb2
         have hBt:∀ w,Calls Tryz.prog 27 #[pv (ptP (sumJ ns (fun j=>(ps j).1) (fun j=>(ps j).2) n 257)).1 (ptP (sumJ ns (fun j=>(ps j).1) (fun j=>(ps j).2) n 257)).2] w (Ret fun e w'=>Below w.heap.size w w'∧BytesR w (by33 (ptP (sumJ ns (fun j=>(ps j).1) (fun j=>(ps j).2) n 257)).1 (ptP (sumJ ns (fun j=>(ps j).1) (fun j=>(ps j).2) n 257)).2) e w'):=bytes_c C _ _
         have hS:Calls Tryz.prog 97 #[.slice (some ⟨k,0,none⟩) n n,.slice (some ⟨k',0,none⟩) n n] w2 (Ret fun e w'=>Below w2.heap.size w2 w'∧e=pv (ptP (sumJ ns (fun j=>(ps j).1) (fun j=>(ps j).2) n 257)).1 (ptP (sumJ ns (fun j=>(ps j).1) (fun j=>(ps j).2) n 257)).2):=by
          refine (sums_c C n H5 ns (fun j=>(ps j).1) (fun j=>(ps j).2) (fun i hi=>rq_top hN (HN.out i hi)) k k' w2 HS2.out.1 HP.out.1 HS2.out.2 HP.out.2).mono ?_
          rintro e w' ⟨v,rfl,hb,s,rfl,rfl⟩
          exact ⟨_,rfl,hb,rfl⟩
         generalize hz:ptP (sumJ ns (fun j=>(ps j).1) (fun j=>(ps j).2) n 257)=z at hS hBt
         have HZ:Hid (ptP (sumJ ns (fun j=>(ps j).1) (fun j=>(ps j).2) n 257)=z):=hz
         clear hz
         generalize pv z.1 z.2=v4 at hS hBt
         go_wp2_with fail
         refine hS.mono ?_
         rintro e w3 ⟨v,rfl,hb3,rfl⟩
         have HB3:Hid (Below w.heap.size w w3):=HB2.out.trans (hb3.mono HB2.out.size)
         clear hb3
         go_wp2_with fail
         refine (hBt _).mono ?_
         rintro e w4 ⟨v,rfl,hb4,g,cap3,rfl,hc3,hg3,hlt3,hH3⟩
         have HB4:Hid (Below w.heap.size w w4):=HB3.out.trans (hb4.mono HB3.out.size)
         have HO:Hid (OutP w (by33 z.1 z.2) (.tuple #[.slice (some ⟨g,0,none⟩) 33 cap3,.int .i64 0]) w4):=⟨g,cap3,rfl,hc3,Nat.le_trans HB3.out.size hg3,hlt3,hH3⟩
         clear hb4 hH3
         go_wp2
         go_ret2
         refine ⟨_,rfl,HB4.out,Or.inr (Or.inr ⟨rfl,H5,Or.inr ⟨ns,HN.out,Or.inr ⟨_,_,HM2.out,?_⟩⟩⟩)⟩
         rw [HZ.out]
         exact HO.out
       · have HB2:Hid (Below w.heap.size w w2):=HB.out.trans (hb2.mono HB.out.size)
         have HO:Hid (∃ j,j < n∧rd P (M j)=none):=hno
         clear hb2 hno
         go_wp2
         go_ret2
         exact ⟨_,rfl,HB2.out,Or.inr (Or.inr ⟨rfl,H5,Or.inr ⟨ns,HN.out,Or.inl ⟨HO.out,rfl⟩⟩⟩)⟩
     · have HB:Hid (Below w.heap.size w w1):=hb1
       have HO:Hid (∃ j,j < n∧rq N (L j)=none):=hno
       clear hb1 hno
       go_wp2
       go_ret2
       exact ⟨_,rfl,HB.out,Or.inr (Or.inr ⟨rfl,H5,Or.inl ⟨HO.out,rfl⟩⟩)⟩
 · go_enter Tryz.func50,Tryz.ntmps50
   go_wp2
   go_ret2
   exact ⟨_,rfl,RowKit.Below.refl _ _,Or.inl ⟨hna,rfl⟩⟩
end Go.Proofs.YtmkllfekhehagagGreat
namespace Go.Proofs.YtmkllfekhehagagGreat
open Go.RowKit Go.Sort Go.Deep
variable {P:Nat} [NeZero P]
def zs33:Bs:=Array.replicate 33 0
theorem sq_mod (r d:Nat):d*d % (r+d)=r*r % (r+d):=by
 have h:d*d+(r+d)*r=r*r+(r+d)*d:=by
  rw [Nat.add_mul,Nat.add_mul,Nat.mul_comm d r]
  omega
 have h1:=congrArg (· % (r+d)) h
 simp only [Nat.add_mul_mod_self_left] at h1
 exact h1
theorem rt_sq {m y:Fin P} (h:rt m=some y):y*y=m:=by
 have h0:=rt_yes h
 unfold rt at h
 rw [if_pos h0] at h
 obtain rfl:=Option.some.inj h
 have hP:=Nat.pos_of_neZero P
 have hr:m.val ^ (P / 4+1) % P < P:=Nat.mod_lt _ hP
 generalize m.val ^ (P / 4+1) % P=r at h0 hr
 apply Fin.ext
 rw [Fin.val_mul]
 show (even P r % P)*(even P r % P) % P=m.val
 rw [Nat.mod_eq_of_lt (even_lt hP hr),← h0]
 unfold even
 split
 · have h2:=sq_mod r (P - r)
   rw [show r+(P - r)=P by omega] at h2
   exact h2
 · rfl
theorem zero33_iff {bs:Bs} (hs:bs.size=33):Zero33 bs↔bs=zs33:=by
 constructor
 · intro h
   apply Array.ext
   · rw [hs];rfl
   · intro i h1 h2
     have:=h i (List.mem_range.2 (by omega))
     rw [getElem!_pos bs i h1] at this
     have h3:bs[i].toNat=0:=by
      have h4:ub bs[i]=(bs[i].toNat:Int):=rfl
      rw [h4] at this
      omega
     have h5:(zs33)[i]=0:=by
      have h6:(Array.replicate 33 (0:UInt8))[i]'h2=0:=Array.getElem_replicate _
      exact h6
     rw [h5]
     exact UInt8.toNat_inj.1 h3
 · rintro rfl i hi
   have hi:=List.mem_range.1 hi
   unfold zs33
   rw [getElem!_pos _ i (by rw [Array.size_replicate];exact hi),Array.getElem_replicate]
   rfl
theorem on_of {x y:Fin P} (h:y*y=x*x*x+7):EC.On (.some (x,y):EC.Pt P):=by
 show y ^ 2=x ^ 3+7
 grobner
theorem on_neg {x y:Fin P} (h:y*y=x*x*x+7):EC.On (.some (x,0 - y):EC.Pt P):=by
 show (0 - y) ^ 2=x ^ 3+7
 grobner
def wr:EC.Pt P→Bs
 | none=>zs33
 | some (x,y)=>#[mark y.val]++bx x.val
theorem by33_wr (C:Fld P) {x y:Fin P} {p:EC.Pt P} (h:EC.Pair x y p) (ho:EC.On p):by33 x y=wr p:=by
 unfold by33
 match p,h,ho with
 | none,h,_=>rw [if_pos (show x=0∧y=0 from h)];rfl
 | some (a,b),h,ho =>
  obtain ⟨rfl,rfl⟩:=h
  rw [if_neg (fun e=>C.cur.y_ne ho e.2)]
  rfl
def pt (p:Fin P × Fin P):EC.Pt P:=if p.1=0∧p.2=0 then none else some p
theorem pair_pt (C:Fld P) {x y:Fin P} {q:EC.Pt P} (h:EC.Pair x y q) (ho:EC.On q):q=pt (x,y):=by
 unfold pt
 match q,h,ho with
 | none,h,_=>rw [if_pos (show x=0∧y=0 from h)]
 | some (a,b),h,ho =>
  obtain ⟨rfl,rfl⟩:=h
  rw [if_neg (fun e=>C.cur.y_ne ho e.2)]
theorem rd_on (C:Fld P) {bs:Bs} {p:Fin P × Fin P} (h:rd P bs=some p):EC.Pair p.1 p.2 (pt p)∧EC.On (pt p):=by
 have key:∃ q:EC.Pt P,EC.Pair p.1 p.2 q∧EC.On q:=by
  unfold rd at h
  split at h
  · split at h
    · obtain rfl:=Option.some.inj h
      exact ⟨none,⟨rfl,rfl⟩,EC.none_on⟩
    · split at h
      · split at h
        · obtain ⟨y,hr,rfl⟩:=Option.map_eq_some_iff.1 h
          have hsq:=rt_sq hr
          refine ⟨some (rdx P bs,if ub bs[0]! = 3 then 0 - y else y),⟨rfl,rfl⟩,?_⟩
          split
          · exact on_neg hsq
          · exact on_of hsq
        · cases h
      · cases h
  · cases h
 obtain ⟨q,h1,h2⟩:=key
 have:=pair_pt C h1 h2
 rw [show pt p=q from this.symm]
 exact ⟨h1,h2⟩
omit [NeZero P] in
theorem wr_size (p:EC.Pt P):(wr p).size=33:=by
 match p with
 | none=>rfl
 | some (x,y) =>
  show (#[mark y.val]++bx x.val).size=33
  rw [Array.size_append,bx_size]
  rfl
end Go.Proofs.YtmkllfekhehagagGreat
namespace Go.Proofs.YtmkllfekhehagagGreat
theorem root_mod {a P:Nat} (h:NT.IsP P) (h4:P % 4=3):(a*a % P) ^ (P / 4+1) % P*((a*a % P) ^ (P / 4+1) % P) % P=a*a % P:=by
 rw [← Nat.mul_mod,← Nat.pow_add,← Nat.pow_mod,← Nat.pow_two,← Nat.pow_mul,show 2*(P / 4+1+(P / 4+1))=P+1 by omega,Nat.pow_succ,Nat.mul_mod,h.fermat a,← Nat.mul_mod,Nat.pow_two]
theorem root_is {a R P:Nat} (h:NT.IsP P) (ha:a < P) (hR:R < P) (he:R*R % P=a*a % P):R=a∨R+a=P:=by
 have key:∀ x y:Nat,x < P→y < P→y≤x→x*x % P=y*y % P→x=y∨x+y=P:=by
  intro x y hx hy hxy hxe
  have hd:P ∣ x*x - y*y:=by
   refine Nat.dvd_of_mod_eq_zero ?_
   exact Nat.sub_mod_eq_zero_of_mod_eq hxe
  have hf:x*x - y*y=(x - y)*(x+y):=by
   rw [Nat.mul_comm (x - y),Nat.mul_self_sub_mul_self_eq]
  rw [hf] at hd
  rcases h.euclid hd with h1 | h1
  · left
    have:=Nat.eq_zero_of_dvd_of_lt h1 (by omega)
    omega
  · obtain ⟨k,hk⟩:=h1
    have:k=0∨k=1∨2≤k:=by omega
    rcases this with rfl | rfl | h2
    · left;omega
    · right;omega
    · have:=Nat.mul_le_mul_left P h2
      omega
 rcases Nat.le_total a R with h1 | h1
 · exact key R a hR ha h1 he
 · rcases key a R ha hR h1 he.symm with h2 | h2
   · left;exact h2.symm
   · right;omega
end Go.Proofs.YtmkllfekhehagagGreat
namespace Go.Proofs.YtmkllfekhehagagGreat
open Go.RowKit Go.Sort Go.Deep
theorem w8_be8 (x:Nat) (hx:x < 18446744073709551616) :
 w8 (UInt8.ofNat (x / 72057594037927936)) (UInt8.ofNat (x / 281474976710656)) (UInt8.ofNat (x / 1099511627776)) (UInt8.ofNat (x / 4294967296)) (UInt8.ofNat (x / 16777216)) (UInt8.ofNat (x / 65536)) (UInt8.ofNat (x / 256)) (UInt8.ofNat x)=x:=by
 unfold w8
 simp only [UInt8.toNat_ofNat']
 omega
theorem be32_list (a b c d:Nat):(be32 a b c d).toList=[UInt8.ofNat (d / 72057594037927936),UInt8.ofNat (d / 281474976710656),UInt8.ofNat (d / 1099511627776),UInt8.ofNat (d / 4294967296),UInt8.ofNat (d / 16777216),UInt8.ofNat (d / 65536),UInt8.ofNat (d / 256),UInt8.ofNat d,UInt8.ofNat (c / 72057594037927936),UInt8.ofNat (c / 281474976710656),UInt8.ofNat (c / 1099511627776),UInt8.ofNat (c / 4294967296),UInt8.ofNat (c / 16777216),UInt8.ofNat (c / 65536),UInt8.ofNat (c / 256),UInt8.ofNat c,UInt8.ofNat (b / 72057594037927936),UInt8.ofNat (b / 281474976710656),UInt8.ofNat (b / 1099511627776),UInt8.ofNat (b / 4294967296),UInt8.ofNat (b / 16777216),UInt8.ofNat (b / 65536),UInt8.ofNat (b / 256),UInt8.ofNat b,UInt8.ofNat (a / 72057594037927936),UInt8.ofNat (a / 281474976710656),UInt8.ofNat (a / 1099511627776),UInt8.ofNat (a / 4294967296),UInt8.ofNat (a / 16777216),UInt8.ofNat (a / 65536),UInt8.ofNat (a / 256),UInt8.ofNat a]:=by
 simp only [be32,be8,Array.toList_append,List.cons_append,List.nil_append]
theorem val_congr {a b c d p q r s:Nat} (h1:a=p) (h2:b=q) (h3:c=r) (h4:d=s):val a b c d=val p q r s:=by subst h1 h2 h3 h4;rfl
theorem beV_be32 (a b c d:Nat) (ha:a < 18446744073709551616) (hb:b < 18446744073709551616) (hc:c < 18446744073709551616) (hd:d < 18446744073709551616):beV (be32 a b c d).toList=val a b c d :=
 (congrArg beV (be32_list a b c d)).trans ((beV_32 _ _ _ _ _ _ _ _ _ _ _ _ _ _ _ _ _ _ _ _ _ _ _ _ _ _ _ _ _ _ _ _).trans (val_congr (w8_be8 a ha) (w8_be8 b hb) (w8_be8 c hc) (w8_be8 d hd)))
theorem bx_val {n:Nat} (hn:n < top):beV (bx n).toList=n:=by
 unfold bx
 rw [beV_be32 _ _ _ _ (by omega) (by omega) (by omega) (by omega)]
 unfold val
 unfold top at hn
 omega
variable {P:Nat} [NeZero P]
theorem rt_of (C:Fld P) {y m:Fin P} (h:y*y=m):rt m=some (if y.val % 2=1 then 0 - y else y):=by
 have hm:y.val*y.val % P=m.val:=by rw [← h,Fin.val_mul]
 have h1:=root_mod (a:=y.val) C.cur.pr C.p3
 rw [hm] at h1
 unfold rt
 rw [if_pos h1]
 have hP:=Nat.pos_of_neZero P
 have hr:m.val ^ (P / 4+1) % P < P:=Nat.mod_lt _ hP
 generalize m.val ^ (P / 4+1) % P=r at h1 hr
 have hy:=y.isLt
 have h3:=C.p3
 have hor:=root_is C.cur.pr hy hr (h1.trans hm.symm)
 congr 1
 apply Fin.ext
 show even P r % P=_
 unfold even
 have h0:(0 - y:Fin P).val=(P - y.val) % P:=by rw [← sub_fin,EC.val_zero,Nat.zero_add]
 by_cases ho:y.val % 2=1
 · rw [if_pos ho,h0]
   rcases hor with e | e
   · rw [e,if_pos ho]
   · rw [if_neg (by omega),show P - y.val=r by omega]
 · rw [if_neg ho]
   rcases hor with e | e
   · rw [e,if_neg ho,Nat.mod_eq_of_lt hy]
   · by_cases hz:y.val=0
     · omega
     · rw [if_pos (by omega),show P - r=y.val by omega,Nat.mod_eq_of_lt hy]
theorem ub_mark (n:Nat):ub (mark n)=if n % 2=1 then 3 else 2:=by
 unfold mark
 split <;> rfl
theorem tl_mark {m:UInt8} {b:Bs} (h:b.size=32):tl33 (#[m]++b)=b:=by
 unfold tl33
 rw [Array.extract_append]
 have h1:(#[m]:Bs).extract 1 33=#[]:=by rfl
 rw [h1]
 simp [h]
theorem mark_0 (m:UInt8) (b:Bs):(#[m]++b)[0]! = m:=by
 rw [getElem!_pos _ 0 (by rw [Array.size_append];simp;omega),Array.getElem_append_left (by simp)]
 rfl
theorem rd_of (C:Fld P) {b:Bs} (hs:b.size=33) {x y:Fin P} (hm:ub b[0]! = if y.val % 2=1 then 3 else 2) (hv:beV (tl33 b).toList=x.val) (h:EC.On (some (x,y):EC.Pt P)):rd P b=some (x,y):=by
 have hz:¬ Zero33 b:=fun hz=>by
  have:=hz 0 (List.mem_range.2 (by decide))
  rw [hm] at this
  split at this <;> omega
 have hx:rdx P b=x:=by
  unfold rdx
  rw [hv]
  exact Fin.ext (Nat.mod_eq_of_lt x.isLt)
 have hy:y*y=x*x*x+7:=by
  have:y ^ 2=x ^ 3+7:=h
  grobner
 unfold rd
 rw [if_pos hs,if_neg hz,hm,hv,if_pos x.isLt,hx,rt_of C hy]
 by_cases ho:y.val % 2=1
 · rw [if_pos ho,if_pos (Or.inr rfl),if_pos ho,Option.map_some,if_pos rfl]
   have e:0 - (0 - y)=y:=by grobner
   rw [e]
 · rw [if_neg ho,if_pos (Or.inl rfl),if_neg ho,Option.map_some,if_neg (by decide)]
theorem rd_wr (C:Fld P) {X:EC.Pt P} (h:EC.On X):∃ p,rd P (wr X)=some p∧pt p=X:=by
 match X,h with
 | none,_ =>
  refine ⟨(0,0),?_,by unfold pt;rw [if_pos ⟨rfl,rfl⟩]⟩
  have h1:(wr (none:EC.Pt P)).size=33:=wr_size _
  have h2:Zero33 (wr (none:EC.Pt P)):=(zero33_iff h1).2 rfl
  generalize wr (none:EC.Pt P)=b at h1 h2
  unfold rd
  rw [if_pos h1,if_pos h2]
 | some (x,y),h =>
  have hs:=wr_size (P:=P) (some (x,y))
  have hb0:(wr (some (x,y):EC.Pt P))[0]! = mark y.val:=mark_0 _ _
  have ht:tl33 (wr (some (x,y):EC.Pt P))=bx x.val:=tl_mark (bx_size _)
  refine ⟨(x,y),rd_of C hs (by rw [hb0,ub_mark]) (by rw [ht,bx_val (C.top x)]) h,by unfold pt;rw [if_neg (fun e=>C.cur.y_ne h e.2)]⟩
end Go.Proofs.YtmkllfekhehagagGreat
namespace Go.Proofs.YtmkllfekhehagagGreat
open Go.RowKit Go.Sort Go.Deep
variable {P:Nat} [NeZero P]
def gxl:List Value:=[.int .u64 6481385041966929816,.int .u64 188021827762530521,.int .u64 6170039885052185351,.int .u64 8772561819708210092]
def gyl:List Value:=[.int .u64 11261198710074299576,.int .u64 18237243440184513561,.int .u64 6747795201694173352,.int .u64 5204712524664259685]
def gX (P:Nat) [NeZero P]:Fin P:=Fin.ofNat P 55066263022277343669578718895168534326250603453777594175500187360389116729240
def gY (P:Nat) [NeZero P]:Fin P:=Fin.ofNat P 32670510020758816978083085130507043184471273380659243275938904335757337482424
def gG (P:Nat) [NeZero P]:EC.Pt P:=some (gX P,gY P)
theorem Fld.eq (C:Fld P):P=115792089237316195423570985008687907853269984665640564039457584007908834671663:=by
 have h:=C.gap.hP
 have e:val 4294968273 0 0 0=4294968273:=by decide
 rw [e] at h
 unfold Go.Proofs.YtmkllfekhehagagGreat.top at h
 omega
theorem gX_val (C:Fld P):(gX P).val=55066263022277343669578718895168534326250603453777594175500187360389116729240:=by
 have h:=C.eq
 exact Nat.mod_eq_of_lt (by omega)
theorem gY_val (C:Fld P):(gY P).val=32670510020758816978083085130507043184471273380659243275938904335757337482424:=by
 have h:=C.eq
 exact Nat.mod_eq_of_lt (by omega)
theorem gxl_ws (C:Fld P):gxl=ws (gX P):=by
 show _=wn (gX P).val
 rw [gX_val C]
 kernel_rfl
theorem gyl_ws (C:Fld P):gyl=ws (gY P):=by
 show _=wn (gY P).val
 rw [gY_val C]
 kernel_rfl
theorem gG_on (C:Fld P):EC.On (gG P):=by
 refine on_of (Fin.ext ?_)
 have h7:(7:Fin P).val=7:=Nat.mod_eq_of_lt C.p7
 rw [Fin.val_mul,Fin.val_add,Fin.val_mul,Fin.val_mul,gX_val C,gY_val C,h7]
 have h:=C.eq
 rw [h]
set_option maxHeartbeats 2000000 in
set_option maxRecDepth 100000 in
theorem base_v:Gives 26 #[] (.agg (gxl++gyl).toArray):=by
 intro w
 go_enter Tryz.func26,Tryz.ntmps26
 refine RG.M.enter [] 4 (by kernel_rfl) ?_
 intro a0 M0
 repeat refine wp_seq ?_
 refine M0.tx [.m 0 [] 0] [(0,RG.z 8)] [] [RG.z 8] [(0,.p 0 0)] (by kernel_rfl) (by kernel_rfl) ⟨RG.mk 0 57 fun _ _=>by kernel_rfl,trivial⟩ ?_
 intro j1 a1 w1 M1
 repeat refine wp_seq ?_
 refine M1.tx [.x 1 [] (.agg gxl.toArray),.x 2 [] (.agg gyl.toArray),.x 3 [(1,0),(2,1)] (.agg (gxl++gyl).toArray),.u [(3,2)] 0] [] [(0,3,gxl++gyl)] [gxl++gyl] [(0,.p 0 0)] (by kernel_rfl) (by kernel_rfl) ⟨RG.st fun _ _=>by kernel_rfl,RG.st fun _ _=>by kernel_rfl,RG.st fun _ _=>by kernel_rfl,RG.pt i109 (by kernel_rfl),trivial⟩ ?_
 intro a2 w2 M2
 refine wp_ret ?_
 refine bodyPost_ret (v:=.agg (gxl++gyl).toArray) (RG.results_row M2.st 0 57 rfl 0 _ rfl (M2.at (s:=.p 0 0) (by kernel_rfl)) u109 i109) M2.sl.defers ?_
 exact ⟨_,rfl,M2.st.bel.below,rfl⟩
theorem base_c (C:Fld P):Gives 26 #[] (pv (gX P) (gY P)):=by
 unfold pv
 rw [← gxl_ws C,← gyl_ws C]
 exact base_v
end Go.Proofs.YtmkllfekhehagagGreat
namespace Go.Proofs.YtmkllfekhehagagGreat
open Go.RowKit Go.Sort Go.Deep Go.Shelf
attribute [local go_sem] Oper.semAt_some
section
variable {F:Fence} {n:Nat} {P:Program} {ops:Array Oper} {rest:List Oper} {op:Oper} {a:Act} {w:World} {Q:Exit→Act→World→Prop}
theorem wpListIn_load_mid (hgd:op.guard=none) (ty:TypeId) (x:Operand) (ho:op.op=.load ty x) (b o:Nat) (hx:a.eval x=.pointer (some ⟨b,o,none⟩)) (cs:List Value) (d:TypeDesc) (hc:w.rangeAt b o cs)
 (hu:P.underlying ty=some d) (hd:d.isRow=true) (hi:(P.info? ty).map (·.size)=some cs.length) (h:wpListIn F n P ops Q rest (a.put op.dst (.agg cs.toArray)) w):wpListIn F n P ops Q (op :: rest) a w :=
 wpListIn_plain hgd fun K hK=>by
  refine ⟨fun f hf=>(by unfold Oper.about at hf;rw [ho] at hf;cases hf),?_⟩
  rw [Oper.semAt_eq _ _ _ (fun c=>by rw [ho];intro e;cases e)]
  unfold execOp
  simp only [ho,hx,Instr.loadAt,Instr.sureAddr,Sem.run_bind,Sem.run_pure,Result.andThen_ok,run_loadVar_mid w b o ty cs d hc hu hd hi]
  exact hK _ _ h
theorem wpListIn_store_mid (hgd:op.guard=none) (ty:TypeId) (x y:Operand) (ho:op.op=.store ty x y) (b o:Nat) (cells:Array Value) (hx:a.eval x=.pointer (some ⟨b,o,none⟩)) (hy:a.eval y=.agg cells)
 (ht:w.there b o cells.size) (hi:(P.info? ty).map (·.size)=some cells.size) (h1:cells.all (·.oneCell')=true)
 (h:wpListIn F n P ops Q rest (a.put op.dst undef) (w.setCells b o cells.toList)):wpListIn F n P ops Q (op :: rest) a w :=
 wpListIn_plain hgd fun K hK=>by
  refine ⟨fun f hf=>(by unfold Oper.about at hf;rw [ho] at hf;cases hf),?_⟩
  rw [Oper.semAt_eq _ _ _ (fun c=>by rw [ho];intro e;cases e)]
  unfold execOp
  simp only [ho,hx,hy,Instr.storeAt,Instr.sureAddr,Sem.run_bind,Sem.run_pure,Result.andThen_ok,run_storeVar_mid w b o ty cells ht hi h1]
  exact hK _ _ h
end
def Row (W:World) (k:Nat) (vs:List Value):Prop:=k < W.heap.size∧W.rangeAt k 0 vs∧W.there k 0 vs.length
theorem row_own (k:Nat) (vs:List Value):Own (fun (_:Unit) W=>Row W k vs):=fun s A B row hs hg hr=>by
 refine ⟨Nat.lt_of_lt_of_le hs.1 hg.size,fun j v hj=>?_,fun j hj=>?_⟩
 · exact cell_kept (hs.2.1 j v hj) hg hr
 · have h1:=hs.2.1 j vs[j] (List.getElem?_eq_getElem hj)
   have h2:=cell_kept h1 hg hr
   exact ⟨by rw [h2];rfl,(frozen_kept h1 hg hr).trans (hs.2.2 j hj).2⟩
theorem ko_setCells (k:Nat):∀ (vs:List Value) (o:Nat) (W:World),KeepsOthers W (W.setCells k o vs)
 | [],_,W=>KeepsOthers.refl W
 | v :: vs,o,W=>(KeepsOthers.setCell W ⟨k,o,none⟩ v).trans (ko_setCells k vs (o+1) _)
theorem Row.alloc {W:World} {k:Nat} {vs:List Value} (h:Row W k vs) (o:Obj):Row (W.alloc o) k vs :=
 row_own k vs () W (W.alloc o) none h (World.grownBy_alloc W o none) (fun _ e=>by cases e)
theorem Row.putObj {W:World} {k D:Nat} {vs:List Value} (h:Row W k vs) {o:Obj} (hD:W.heap[D]? = some o) (ho:o.isCells=false) (o':Obj):Row (W.putObj D o') k vs :=
 row_own k vs () W (W.putObj D o') (some D) h (grownBy_putObj' W D o') (fun r e=>by cases e;exact ⟨_,hD,ho⟩)
theorem Row.below {W W':World} {k:Nat} {vs:List Value} (h:Row W k vs) (hb:Below W.heap.size W W'):Row W' k vs:=by
 have e:=hb.block k h.1
 refine ⟨Nat.lt_of_lt_of_le h.1 hb.size,fun j v hj=>?_,fun j hj=>?_⟩
 · exact (World.cell?_of_block e).trans (h.2.1 j v hj)
 · have h1:=h.2.2 j hj
   exact ⟨by rw [World.cell?_of_block e];exact h1.1,(World.frozen?_of_block e).trans h1.2⟩
theorem results_cell {P:Program} {fn:Func} {tmps:Array Value} {W:World} {k:Nat} {vs:List Value} (t:Tmp) (T:TypeId) (hr:fn.results=#[.cell t T]) (h:Row W k vs) (ht:tmps[t]? = some (.pointer (some ⟨k,0,none⟩)))
 (hu:(P.underlying T).map (·.isRow)=some true) (hi:(P.info? T).map (·.size)=some vs.length):(results fn tmps).run P W=.ok (.agg vs.toArray) W:=by
 obtain ⟨d,hu,hd⟩:=Option.map_eq_some_iff.1 hu
 have h1:=run_loadVar_mid (P:=P) W k 0 T vs d h.2.1 hu hd hi
 have h2:tmps.getD t undef=.pointer (some ⟨k,0,none⟩):=by rw [Array.getD_eq_getD_getElem?,ht];rfl
 unfold results
 rw [hr]
 simp only [Array.mapM_eq_mapM_toList,List.mapM_cons,List.mapM_nil,h2,asAddr]
 simp [Sem.run_bind,h1]
theorem Row.put {W:World} {k:Nat} {vs us:List Value} (h:Row W k vs) (hl:us.length=vs.length):Row (W.setCells k 0 us) k us :=
 ⟨by rw [RG.setCells_size];exact h.1,World.rangeAt_setCells_same W k 0 us (by rw [hl];exact h.2.2),by rw [hl];exact World.there_setCells h.2.2 _ _ _⟩
theorem Row.other {W:World} {k j:Nat} {vs us:List Value} (h:Row W k vs) (hne:k≠j):Row (W.setCells j 0 us) k vs :=
 ⟨by rw [RG.setCells_size];exact h.1,World.rangeAt_setCells_apart h.2.1 j 0 us (Or.inl hne),World.there_setCells h.2.2 _ _ _⟩
variable {P:Nat} [NeZero P]
set_option maxHeartbeats 4000000 in
set_option maxRecDepth 100000 in
theorem first_c (C:Fld P) (lb:Array Value) (L:List (Fin P × Fin P)) (N:Nat) (w:World)
 (hseq:∀ n,SeqStopsK Fence.wide n Tryz.prog 189 lb (fun x:Fin P × Fin P=>#[pv x.1 x.2]) (Below w.heap.size) (fun xs=>xs=L) (fun pre=>pre <+: L) N w) :
 Calls Tryz.prog 166 #[.func (.func 189) #[] lb] w (Ret fun e w'=>Below w.heap.size w w'∧e=pv (L.headD (gX P,gY P)).1 (L.headD (gX P,gY P)).2):=by
 refine (callsIn_wide (n:=5)).1 ?_
 refine callsIn_of_wp_marks Tryz.func166 rfl trivial ?_ rfl
 simp only [Tryz.ntmps166,List.size_toArray,List.length_cons,List.length_nil,Nat.reduceAdd,Nat.reduceSub,Array.replicate_succ,Array.replicate_zero,List.push_toArray,List.append_toArray,List.nil_append,List.cons_append]
 gi_wp2
 have hM:=RG.Made.alloc w [.int .u64 0,.int .u64 0,.int .u64 0,.int .u64 0,.int .u64 0,.int .u64 0,.int .u64 0,.int .u64 0] 57
 have hR0:Row (w.alloc (.cells #[.int .u64 0,.int .u64 0,.int .u64 0,.int .u64 0,.int .u64 0,.int .u64 0,.int .u64 0,.int .u64 0] 57)) w.heap.size [.int .u64 0,.int .u64 0,.int .u64 0,.int .u64 0,.int .u64 0,.int .u64 0,.int .u64 0,.int .u64 0]:=⟨hM.lt,hM.range,hM.there⟩
 have hB0:Below w.heap.size w (w.alloc (.cells #[.int .u64 0,.int .u64 0,.int .u64 0,.int .u64 0,.int .u64 0,.int .u64 0,.int .u64 0,.int .u64 0] 57)):=hM.bel
 clear hM
 obtain ⟨W0,hW0⟩:∃ W0,W0=w.alloc (.cells #[.int .u64 0,.int .u64 0,.int .u64 0,.int .u64 0,.int .u64 0,.int .u64 0,.int .u64 0,.int .u64 0] 57):=⟨_,rfl⟩
 have hsz:W0.heap.size=w.heap.size+1:=by rw [hW0,World.size_alloc]
 rw [← hW0] at hR0 hB0 ⊢
 clear hW0
 refine wpIn_rangeFunc_ownH (α:=Fin P × Fin P) rfl (by decide) (gf:=189) (lb:=lb) rfl trivial (enters_of Tryz.func189 (by kernel_rfl) rfl) (hseq 4) belowK_t (belowK_b (by omega)) hB0 (fun _=>rfl)
  (fun pre W=>(pre=[]∧Row W w.heap.size [.int .u64 0,.int .u64 0,.int .u64 0,.int .u64 0,.int .u64 0,.int .u64 0,.int .u64 0,.int .u64 0])∧Below w.heap.size w W)
  (fun c pre W=>(c=.ret∧∃ x:Fin P × Fin P,pre=[x]∧Row W w.heap.size (ws x.1++ws x.2))∧Below w.heap.size w W)
  (OwnFrom.and (Own.from (fun s A B row hs hg hr=>⟨hs.1,row_own _ _ () A B row hs.2 hg hr⟩) _) (ownFrom_below (Nat.le_refl _) (by omega)))
  (fun c=>OwnFrom.and (Own.from (fun s A B row hs hg hr=>⟨hs.1,hs.2.imp fun x hx=>⟨hx.1,row_own _ _ () A B row hx.2 hg hr⟩⟩) _) (ownFrom_below (Nat.le_refl _) (by omega)))
  ⟨⟨rfl,hR0⟩,hB0⟩
  (fun x a' W=>∃ Bx,w.heap.size < Bx∧Row W Bx (ws x.1++ws x.2)∧a' = { tmps:=#[.func (.func 189) #[] lb,undef,.pointer (some ⟨w.heap.size,0,none⟩),.pointer (some ⟨Bx,0,none⟩),.func (.func 189) #[] lb,pv x.1 x.2,undef,undef],defers:=[] })
  (fun x a'=>Own.from (fun s A B row hs hg hr=>hs.imp fun Bx hx=>⟨hx.1,row_own _ _ () A B row hx.2.1 hg hr,hx.2.2⟩) _) ?assign ?body ?done ?stop
 case assign =>
  intro l pre x W K hI hK
  have hMx:=RG.Made.alloc W [.int .u64 0,.int .u64 0,.int .u64 0,.int .u64 0,.int .u64 0,.int .u64 0,.int .u64 0,.int .u64 0] 57
  have hth:=hMx.there
  gi_wp2_with (refine wpListIn_store_mid rfl 57 _ _ rfl W.heap.size 0 (ws x.1++ws x.2).toArray rfl rfl hth i109 (by kernel_rfl) ?_)
  have hle:=hI.1.2.1
  have hbl:Below w.heap.size W ((W.alloc (.cells #[.int .u64 0,.int .u64 0,.int .u64 0,.int .u64 0,.int .u64 0,.int .u64 0,.int .u64 0,.int .u64 0] 57)).setCells W.heap.size 0 (ws x.1++ws x.2)) :=
   RG.below_setCells (Nat.le_of_lt hle) _ _ _ ((Below.refl _ W).alloc (Nat.le_of_lt hle) _)
  exact hK _ _ (((KeepsOthers.alloc W _).trans (ko_setCells _ _ _ _)).from _) hbl ⟨⟨hI.1.1,(hI.1.2.alloc _).other (Nat.ne_of_lt hle)⟩,hI.2.trans hbl⟩
   ⟨W.heap.size,hle,Row.put (vs:=[.int .u64 0,.int .u64 0,.int .u64 0,.int .u64 0,.int .u64 0,.int .u64 0,.int .u64 0,.int .u64 0]) ⟨hMx.lt,hMx.range,hMx.there⟩ rfl,rfl⟩
 case body =>
  rintro l pre x a' W hl ⟨r,hr⟩ ⟨⟨rfl,hRow⟩,hB⟩ ⟨Bx,hBx,hX,rfl⟩ hlt
  obtain ⟨d,hd1,hd2⟩:=Option.map_eq_some_iff.1 u109
  have hXr:=hX.2.1
  have hth:=hRow.2.2
  gi_wp2_with (first | refine wpListIn_load_mid rfl 57 _ rfl Bx 0 rfl (ws x.1++ws x.2) d hXr hd1 hd2 i109 ?_ | refine wpListIn_store_mid rfl 57 _ _ rfl w.heap.size 0 (ws x.1++ws x.2).toArray rfl rfl hth i109 (by kernel_rfl) ?_)
  exact ⟨(ko_setCells _ _ _ _).from _,⟨rfl,x,rfl,hRow.put rfl⟩,RG.below_setCells (Nat.le_refl _) _ _ _ hB⟩
 case done =>
  rintro D ys W hD rfl ⟨⟨rfl,hRow⟩,hB⟩ hK
  have hth:=hRow.2.2
  gi_wp2_with fail
  refine ⟨trivial,(callsIn_wide.2 (base_c C _)).mono ?_⟩
  rintro e w2 ⟨v,rfl,hb2,rfl⟩
  have hRow2:Row w2 w.heap.size [.int .u64 0,.int .u64 0,.int .u64 0,.int .u64 0,.int .u64 0,.int .u64 0,.int .u64 0,.int .u64 0]:=hRow.below hb2
  have hth2:=hRow2.2.2
  gi_wp2_with (refine wpListIn_store_mid rfl 57 _ _ rfl w.heap.size 0 (ws (gX P)++ws (gY P)).toArray rfl rfl hth2 i109 (by kernel_rfl) ?_)
  have hK2:(w2.setCells w.heap.size 0 (ws (gX P)++ws (gY P))).heap[D]? = some (.deferred (some [])):=by
   rw [RG.setCells_other _ _ _ _ _ (by omega),hb2.block D (Array.getElem?_eq_some_iff.1 hK).1]
   exact hK
  have hB2:Below w.heap.size w (w2.setCells w.heap.size 0 (ws (gX P)++ws (gY P))):=RG.below_setCells (Nat.le_refl _) _ _ _ (hB.trans (hb2.mono hB.size))
  have hRow3:Row (w2.setCells w.heap.size 0 (ws (gX P)++ws (gY P))) w.heap.size (ws (gX P)++ws (gY P)):=hRow2.put rfl
  refine ⟨by simp,.inl ⟨_,_,rfl,run_takeDeferred hK2,?_⟩⟩
  exact ⟨_,results_cell 2 57 rfl (hRow3.putObj hK2 rfl _) rfl u109 i109,_,rfl,hB2.trans (belowK_b (w:=W0) (by omega) _ D _ _ hD hK2 rfl rfl),rfl⟩
 case stop =>
  rintro D c pre W hD hpre ⟨⟨rfl,x,rfl,hRow⟩,hB⟩ hK
  gi_wp2
  obtain ⟨L',hL⟩:=hpre
  have hL2:L=x :: L':=hL.symm
  rw [hL2]
  refine ⟨by simp,.inl ⟨_,_,rfl,run_takeDeferred hK,?_⟩⟩
  exact ⟨_,results_cell 2 57 rfl (hRow.putObj hK rfl _) rfl u109 i109,_,rfl,hB.trans (belowK_b (w:=W0) (by omega) _ D _ _ hD hK rfl rfl),rfl⟩
end Go.Proofs.YtmkllfekhehagagGreat
namespace Go.Proofs.YtmkllfekhehagagGreat
open Go.RowKit Go.Sort Go.Deep
end Go.Proofs.YtmkllfekhehagagGreat
namespace Go.Proofs.YtmkllfekhehagagGreat
open Go.RowKit Go.Sort Go.Deep
variable {N:Nat}
def sPl (N a b:Nat):Nat:=(a+b) % N
theorem row_new (w:World) (c:List Value) (T:TypeId):Row (w.alloc (.cells c.toArray T)) w.heap.size c :=
 have h:=RG.Made.alloc w c T
 ⟨h.lt,h.range,h.there⟩
theorem wn_one (n:Nat):(wn n).toArray.all (·.oneCell')=true:=by kernel_rfl
end Go.Proofs.YtmkllfekhehagagGreat
namespace Go.Proofs.YtmkllfekhehagagGreat
open Go.RowKit Go.Sort Go.Deep
section
variable {P:Program} {ops:Array Oper} {rest:List Oper} {op:Oper} {a:Act} {w w':World} {v:Value} {Q:Exit→Act→World→Prop}
theorem wpList_op (hgd:op.guard=none) (X:Op) (_:op.op=X) (hr:(execOp a.eval op).run P w=.ok (.value v) w') (h:wpList P ops Q rest (a.put op.dst v) w'):wpList P ops Q (op :: rest) a w :=
 wpList_plain hgd fun K hK=>by
  unfold Oper.wp
  rw [hr]
  exact hK _ _ h
end
variable {N:Nat}
theorem Hid.mk' {p:Prop} (h:p):Hid p:=h
end Go.Proofs.YtmkllfekhehagagGreat
namespace Go.Proofs.YtmkllfekhehagagGreat.SP
open Go.RowKit Go.Sort Go.Deep
attribute [local go_sem] bits_xor64 bits_and64 bits_or64 wrap_u
theorem place_any (a b:Int) (n:Nat) (w:World) (ha:0≤a∧a≤1000) (hb:0≤b∧b≤1000) (h:a % 5+5*(b % 5)=(n:Int)) :
 Calls Tryz.prog 207 #[.int .i64 a,.int .i64 b] w fun e w'=>e=.returned (.int .i64 (n:Int))∧w'=w:=by
 obtain ⟨a1,a2⟩:=ha
 obtain ⟨b1,b2⟩:=hb
 rw [← h]
 clear h
 go_enter Tryz.func207,Tryz.ntmps207
 go_wp2
 go_ret
 exact ⟨rfl,rfl⟩
theorem left_any (x:BitVec 64) (k:Nat) (w:World) (hk:k < 64) :
 Calls Tryz.prog 208 #[.int .u64 (u x),.int .i64 (k:Int)] w fun e w'=>e=.returned (.int .u64 (u (rol x k)))∧∃ n,w'=w.drewN n:=by
 have h1:(0:Int)≤64 - (k:Int):=by omega
 have h2:(64:Int) - (k:Int)≤64:=by omega
 have h3:(k:Int)≤64:=by omega
 have h4:IntKind.i64.wrap (64 - (k:Int))=64 - (k:Int):=IntWalk.i64_in _ (by omega)
 have h5:((64:Int) - (k:Int)).toNat=64 - k:=by omega
 have s1:=shl64 x k
 have s2:=shr64 x (64 - k)
 go_enter Tryz.func208,Tryz.ntmps208
 go_wp2
 go_quiet (fail)
 go_wp2
 go_ret
 refine ⟨ret_int ?_,_,rfl⟩
 rfl
set_option maxHeartbeats 1000000 in
theorem bit_any (t:Nat) (w:World) (ht:t≤1000) :
 Calls Tryz.prog 209 #[.int .i64 (t:Int)] w fun e w'=>e=.returned (.int .u64 (u (bitL t)))∧w'=w:=by
 go_enter Tryz.func209,Tryz.ntmps209
 go_wp2
 go_loop [3,4] (fun s3 s4=>∃ (i q:Nat),i≤t∧s4=.int .i64 i∧s3=.int .i64 q∧q < 256∧Hid (regTo i=q)) (fun _ s4=>t - (intOf s4).toNat)
 case atStart=>exact ⟨0,1,by omega,rfl,rfl,by decide,rfl⟩
 case round =>
  obtain ⟨i,q,hi,rfl,rfl,hq,HE⟩:=hrel
  by_cases hlt:i < t
  · have a2:=rc_xor q hq
    rw [Int.mul_comm] at a2
    have hlt2:=rcReg_lt q hq
    have HC:Hid (regTo (i+1)=rcReg q):=by show rcReg (regTo i)=_;rw [HE.out]
    by_cases h255:255 < 2*q
    · have HR:Hid (rcReg q=2*q ^^^ 369):=if_pos h255
      rw [HR.out] at hlt2
      generalize 2*q ^^^ 369=q2 at *
      go_wp2
      go_round
      case rel=>exact ⟨i+1,q2,by omega,by go_num,rfl,hlt2,by rw [HC.out,HR.out];rfl⟩
      case measure=>simp [intOf];omega
    · have HR:Hid (rcReg q=2*q):=if_neg h255
      go_wp2
      go_round
      case rel=>exact ⟨i+1,2*q,by omega,by go_num,by go_num,by omega,by rw [HC.out,HR.out];rfl⟩
      case measure=>simp [intOf];omega
  · have a1:=rc_and q hq
    have hit:i=t:=by omega
    subst hit
    go_wp2
    go_ret
    unfold bitL
    rw [HE.out]
    exact ⟨rfl,rfl⟩
end Go.Proofs.YtmkllfekhehagagGreat.SP
namespace Go.Proofs.YtmkllfekhehagagGreat.SP
open Go.RowKit Go.Sort Go.Deep
attribute [local go_sem] bits_xor64 bits_and64 bits_or64 wrap_u
theorem place_uint (j:Nat) (hj:j < 7):min (IntKind.u64.wrap (IntKind.u64.wrap ((2:Int) ^ j) - 1)).toNat 64=2 ^ j - 1:=by
 have H:∀ j:Fin 7,min (IntKind.u64.wrap (IntKind.u64.wrap ((2:Int) ^ j.val) - 1)).toNat 64=2 ^ j.val - 1:=by decide +kernel
 exact H ⟨j,hj⟩
set_option maxHeartbeats 1000000 in
theorem constant_any (r:Nat) (w:World) (hr:r < 24) :
 Calls Tryz.prog 201 #[.int .i64 (r:Int)] w fun e w'=>e=.returned (.int .u64 (u (conL r)))∧w'=w:=by
 go_enter Tryz.func201,Tryz.ntmps201
 go_wp2
 go_loop [3,4] (fun s3 s4=>∃ (j:Nat) (c:BitVec 64),j≤7∧s4=.int .i64 j∧s3=.int .u64 (u c)∧Hid (conTo r j=c)) (fun _ s4=>7 - (intOf s4).toNat)
 case atStart=>exact ⟨0,0,by omega,rfl,rfl,rfl⟩
 case round =>
  obtain ⟨j,c,hj,rfl,rfl,HE⟩:=hrel
  by_cases hlt:j < 7
  · have hj6:(j:Int)≤6:=by omega
    go_wp2_with fail
    rw [show (j:Int)+7*(r:Int)=((j+7*r:Nat):Int) from by omega]
    refine (bit_any (j+7*r) _ (by omega)).mono ?_
    rintro e w' ⟨rfl,rfl⟩
    go_wp2
    go_round
    case rel =>
     refine ⟨j+1,conTo r (j+1),by omega,by go_num,?_,rfl⟩
     rw [place_uint j hlt,shl64,bits_or64]
     show _=Value.int .u64 (u (conTo r j ||| bitL (j+7*r) <<< (2 ^ j - 1)))
     rw [HE.out]
    case measure=>simp [intOf];omega
  · have hj6:¬ (j:Int)≤6:=by omega
    have hj7:j=7:=by omega
    subst hj7
    go_wp2
    go_ret
    unfold conL
    rw [HE.out]
    exact ⟨rfl,rfl⟩
theorem slice62:Tryz.prog.underlying 246=some (.slice 3):=by kernel_rfl
theorem info3:(Tryz.prog.info? 3).map (fun i=>(i.zero,i.size,i.bytes))=some (some (.int .i64 0),1,8):=by kernel_rfl
theorem at_int {w:World} {b off:Nat} {d:Array Nat} (h:Holds encI w b off d) (i:Nat) (hi:i < d.size) {x:Nat} (hx:d[i]! = x) :
 w.cell? ⟨b,off+i,none⟩=some (.int .i64 (x:Int))∧w.frozen? ⟨b,off+i,none⟩=false:=by
 rw [← hx];exact h i hi
theorem offs_int' (t:Nat) (h:t < 24):(wrap64 ((wrap64 (((t:Int)+1)*((t:Int)+2))).tdiv 2)).tmod 64=(offs t:Int):=by
 have H:∀ j:Fin 24,(wrap64 ((wrap64 (((j.val:Int)+1)*((j.val:Int)+2))).tdiv 2)).tmod 64=(offs j.val:Int):=by decide +kernel
 exact H ⟨t,h⟩
set_option maxHeartbeats 1000000 in
set_option maxRecDepth 100000 in
theorem offsets_any (w:World) :
 Calls Tryz.prog 199 #[] w fun e w'=>e=.returned (.slice (some ⟨w.heap.size,0,none⟩) 25 25)∧Below w.heap.size w w'∧Holds encI w' w.heap.size 0 offsetsL:=by
 have hmk:∀ w:World,(Instr.makeSlice 246 (.int .i64 25) (.int .i64 25)).run Tryz.prog w=.ok (.slice (some ⟨w.heap.size,0,none⟩) 25 25) (w.alloc (.cells (madeCells #[.int .i64 0] 25) 3)) :=
  run_make_row' (P:=Tryz.prog) 246 3 (.int .i64 0) 8 slice62 info3 rfl .i64 .i64 25 (by omega) (by omega)
 go_enter Tryz.func199,Tryz.ntmps199
 go_wp2
 generalize hW1:(w.alloc _)=W1
 go_loopg [2,3,4] 24 (fun g sx sy st wr=>∃ t T,t+g=24∧st=.int .i64 (t:Nat)∧sx=.int .i64 (T.x:Nat)∧sy=.int .i64 (T.y:Nat)∧Holds encI wr w.heap.size 0 T.o∧Only w.heap.size 0 25 W1 wr∧Hid (T=ofTo t))
 case atStart =>
  refine ⟨0,ofTo 0,rfl,rfl,rfl,rfl,?_,Only.refl _ _ _ _,rfl⟩
  rw [← hW1]
  exact Holds.made (enc:=encI) w 3 25 0
 case round =>
  obtain ⟨t,⟨x,y,o⟩,ht,rfl,rfl,rfl,hD,hO,HE⟩:=hrel
  have hok:=ofTo_ok t
  rw [← HE.out] at hok
  obtain ⟨hx,hy,hs⟩:=hok
  dsimp only at hx hy hs hD
  by_cases hlt:t < 24
  · obtain ⟨i,hi⟩:∃ i,x % 5+5*(y % 5)=i:=⟨_,rfl⟩
    have hib:i < 25:=by omega
    obtain ⟨c,f⟩:=hD i (by omega)
    rw [Nat.zero_add] at c f
    have Hi:Hid (x % 5+5*(y % 5)=i):=hi
    have l24:(t:Int) < 24:=by omega
    clear hi
    go_wp2_with fail
    refine (place_any (x:Int) (y:Int) i _ (by omega) (by omega) (by have:=Hi.out;omega)).mono ?_
    rintro e w' ⟨rfl,rfl⟩
    have hoff:=offs_int' t hlt
    have i25:(i:Int) < 25:=by omega
    go_wp2
    go_roundg (gk - 1)
    case measure=>omega
    case rel =>
     refine ⟨t+1,⟨y,(2*x+3*y) % 5,o.setIfInBounds i (offs t)⟩,by omega,by go_num,rfl,by go_num,?_,?_,?_⟩
     · have:=Holds.set hD (i:=i) (by omega) (offs t)
       rw [Nat.zero_add] at this
       exact this
     · exact hO.setCell (o:=i) (by omega) (by omega) _
     · show _=(Of.mk (ofTo t).y ((2*(ofTo t).x+3*(ofTo t).y) % 5) ((ofTo t).o.setIfInBounds ((ofTo t).x % 5+5*((ofTo t).y % 5)) (offs t)))
       rw [← HE.out]
       dsimp only
       rw [Hi.out]
  · have ht24:t=24:=by omega
    subst ht24
    go_wp2
    go_ret
    refine ⟨rfl,?_,?_⟩
    · rw [← hW1] at hO
      exact hO.fresh
    · unfold offsetsL
      rw [← HE.out]
      exact hD
end Go.Proofs.YtmkllfekhehagagGreat.SP
namespace Go.Proofs.YtmkllfekhehagagGreat.SP
open Go.RowKit Go.Sort Go.Deep
attribute [local go_sem] bits_xor64 bits_and64 bits_or64 bits_not64 wrap_u
theorem slice61:Tryz.prog.underlying 245=some (.slice 53):=by kernel_rfl
theorem info56:(Tryz.prog.info? 53).map (fun i=>(i.zero,i.size,i.bytes))=some (some (.int .u64 0),1,8):=by kernel_rfl
set_option maxHeartbeats 2000000 in
set_option maxRecDepth 100000 in
theorem round_any (ab tb:Nat) (a:St) (tn:Array Nat) (c:BitVec 64) (w:World) (ha:a.size=25) (ht:tn.size=25) (hA:Holds enc w ab 0 a) (hT:Holds encI w tb 0 tn) (h64:∀ i,i < 25→tn[i]! < 64) :
 Calls Tryz.prog 200 #[.slice (some ⟨ab,0,none⟩) 25 25,.slice (some ⟨tb,0,none⟩) 25 25,.int .u64 (u c)] w fun e w'=>∃ r,e=.returned (.slice (some ⟨r,0,none⟩) 25 25)∧w.heap.size≤r∧Below w.heap.size w w'∧Holds enc w' r 0 (refRound a tn c):=by
 have hab:=Holds.lt hA (by omega)
 have htb:=Holds.lt hT (by omega)
 have hmk5:∀ w:World,(Instr.makeSlice 245 (.int .i64 5) (.int .i64 5)).run Tryz.prog w=.ok (.slice (some ⟨w.heap.size,0,none⟩) 5 5) (w.alloc (.cells (madeCells #[.int .u64 0] 5) 53)) :=
  run_make_row' (P:=Tryz.prog) 245 53 (.int .u64 0) 8 slice61 info56 rfl .i64 .i64 5 (by omega) (by omega)
 have hmk25:∀ w:World,(Instr.makeSlice 245 (.int .i64 25) (.int .i64 25)).run Tryz.prog w=.ok (.slice (some ⟨w.heap.size,0,none⟩) 25 25) (w.alloc (.cells (madeCells #[.int .u64 0] 25) 53)) :=
  run_make_row' (P:=Tryz.prog) 245 53 (.int .u64 0) 8 slice61 info56 rfl .i64 .i64 25 (by omega) (by omega)
 have HM25:Hid _:=hmk25
 clear hmk25
 go_enter Tryz.func200,Tryz.ntmps200
 go_wp2
 clear hmk5
 have hC1:Holds enc (w.alloc (.cells (madeCells #[.int .u64 0] 5) 53)) w.heap.size 0 (colTo a 0):=Holds.made (enc:=enc) w 53 5 0
 have hb1:Below w.heap.size w (w.alloc (.cells (madeCells #[.int .u64 0] 5) 53)):=(Below.refl _ _).alloc (Nat.le_refl _) _
 generalize hW1:(w.alloc _)=W1 at hC1 hb1 ⊢
 have hs1:w.heap.size < W1.heap.size:=by rw [← hW1];simp
 have hA1:=Holds.below hA hb1 hab
 have hT1:=Holds.below hT hb1 htb
 clear hW1
 go_loopg [8] 5 (fun g s8 wr=>∃ (x:Nat) (ck:St),x+g=5∧s8=.int .i64 x∧Holds enc wr w.heap.size 0 ck∧Only w.heap.size 0 5 W1 wr∧Hid (ck=colTo a x))
 case atStart=>exact ⟨0,_,rfl,rfl,hC1,Only.refl _ _ _ _,rfl⟩
 case round =>
  obtain ⟨x,ck,hx,rfl,hC,hO,HE⟩:=hrel
  have hcs:ck.size=5:=by rw [HE.out,colTo_size]
  by_cases hlt:x < 5
  · have l5:(x:Int) < 5:=by omega
    go_wp2
    go_loopg [9] 5 (fun g s9 wq=>∃ (y:Nat) (cy:St),y+g=5∧s9=.int .i64 y∧Holds enc wq w.heap.size 0 cy∧Only w.heap.size 0 5 W1 wq∧Hid (cy=colIn a x ck y))
    case atStart=>exact ⟨0,ck,rfl,rfl,hC,hO,rfl⟩
    case round =>
     obtain ⟨y,cy,hy,rfl,hCy,hOy,HEy⟩:=hrel
     have hcys:cy.size=5:=by rw [HEy.out,colIn_size,hcs]
     by_cases hlty:y < 5
     · have hAy:=Holds.other hA1 hOy (by omega) (by omega)
       obtain ⟨z,hz⟩:∃ z,a[x+5*y]! = z:=⟨_,rfl⟩
       obtain ⟨v,hv⟩:∃ z,cy[x]! = z:=⟨_,rfl⟩
       obtain ⟨c0,f0⟩:=at_word hAy (x+5*y) (by omega) hz
       obtain ⟨c1,f1⟩:=at_word hCy x (by omega) hv
       rw [Nat.zero_add] at c0 c1 f1
       have HZ:Hid (a[x+5*y]! = z):=hz
       have HV:Hid (cy[x]! = v):=hv
       obtain ⟨i,hi⟩:∃ i,x+5*y=i:=⟨_,rfl⟩
       rw [hi] at c0
       have Hi:Hid (x+5*y=i):=hi
       have i25:i < 25:=by omega
       have i25':(i:Int) < 25:=by omega
       have y5:(y:Int) < 5:=by omega
       clear hz hv hi f0
       go_wp2_with fail
       refine wp_region_still_tail 14 mixed (by kernel_rfl) ?_
       simp only [List.take_succ_cons,List.take_zero,List.drop_succ_cons,List.drop_zero]
       repeat still_step
       still_call (place_any (x:Int) (y:Int) i _ (by omega) (by omega) (by have:=Hi.out;omega))
       repeat still_step
       refine wpStill_nil ?_
       go_wp2
       go_roundg (gk - 1)
       case measure=>omega
       case rel =>
        refine ⟨y+1,xorAt cy x z,by omega,by go_num,?_,?_,?_⟩
        · have:=Holds.xor hCy (i:=x) (by omega) HV.out z
          rw [Nat.zero_add] at this
          exact Holds.drew this
        · exact (hOy.setCell (o:=x) (by omega) (by omega) _).drew
        · show _=xorAt (colIn a x ck y) x a[x+5*y]!
          rw [HZ.out,HEy.out]
     · have hy5:y=5:=by omega
       subst hy5
       go_wp2
       go_roundg (4 - x)
       case measure=>omega
       case rel =>
        refine ⟨x+1,cy,by omega,by go_num,hCy,hOy,?_⟩
        show _=colIn a x (colTo a x) 5
        rw [HEy.out,HE.out]
  · have hx5:x=5:=by omega
    subst hx5
    have hb2:Below w.heap.size w wr:=hb1.trans (hO.below (by omega) (Nat.le_refl _))
    have hs2:w.heap.size < wr.heap.size:=Nat.lt_of_lt_of_le hs1 hO.size
    clear hlt hx hC1 hb1 hs1 hA1 hT1 hO
    have hmk:=HM25.out
    go_wp2
    clear hmk
    have hM3:Holds enc (wr.alloc (.cells (madeCells #[.int .u64 0] 25) 53)) wr.heap.size 0 (movTo a tn ck 0):=Holds.made (enc:=enc) wr 53 25 0
    have hb3':Below wr.heap.size wr (wr.alloc (.cells (madeCells #[.int .u64 0] 25) 53)):=(Below.refl _ _).alloc (Nat.le_refl _) _
    generalize hW3:(wr.alloc _)=W3 at hM3 hb3' ⊢
    have hs3:wr.heap.size < W3.heap.size:=by rw [← hW3];simp
    have hC3:=Holds.below hC hb3' hs2
    have hb3:=hb2.trans (hb3'.mono (by omega))
    have hA3:=Holds.below hA hb3 hab
    have hT3:=Holds.below hT hb3 htb
    clear hW3 hb3' hb2 hC
    generalize hMB:wr.heap.size=MB at *
    go_loopg [11] 5 (fun g s11 wr=>∃ (x:Nat) (mk:St),x+g=5∧s11=.int .i64 x∧Holds enc wr MB 0 mk∧Only MB 0 25 W3 wr∧Hid (mk=movTo a tn ck x))
    case atStart=>exact ⟨0,_,rfl,rfl,hM3,Only.refl _ _ _ _,rfl⟩
    case round =>
     obtain ⟨x,mk,hx,rfl,hM,hO,HEx⟩:=hrel
     have hms:mk.size=25:=by rw [HEx.out,movTo_size]
     by_cases hlt:x < 5
     · have hCw:=Holds.other hC3 hO (by omega) (by omega)
       obtain ⟨y0,hy0⟩:∃ z,ck[(x+4) % 5]! = z:=⟨_,rfl⟩
       obtain ⟨y1,hy1⟩:∃ z,ck[(x+1) % 5]! = z:=⟨_,rfl⟩
       obtain ⟨c0,f0⟩:=at_word hCw ((x+4) % 5) (by omega) hy0
       obtain ⟨c1,f1⟩:=at_word hCw ((x+1) % 5) (by omega) hy1
       rw [Nat.zero_add] at c0 c1
       have HD:Hid (dcol ck x=y0 ^^^ rol y1 1):=by rw [← hy0,← hy1];rfl
       clear hy0 hy1 f0 f1
       have l5:(x:Int) < 5:=by omega
       have q1:0≤((x:Int)+4) % 5:=by omega
       have q2:((x:Int)+4) % 5 < 5:=by omega
       have q3:(((x:Int)+4) % 5).toNat=(x+4) % 5:=by omega
       have q4:0≤((x:Int)+1) % 5:=by omega
       have q5:((x:Int)+1) % 5 < 5:=by omega
       have q6:(((x:Int)+1) % 5).toNat=(x+1) % 5:=by omega
       go_wp2_with fail
       go_quiet ((go_at_call 208;exact Calls.quiet_of (left_any _ 1 _ (by decide))))
       clear c0 c1 q1 q2 q3 q4 q5 q6
       go_wp2
       have hM1:=Holds.drewN hM nq
       have hO1:=hO.drewN nq
       generalize y0 ^^^ rol y1 1=dv at *
       go_loopg [13] 5 (fun g s13 wq=>∃ (y:Nat) (my:St),y+g=5∧s13=.int .i64 y∧Holds enc wq MB 0 my∧Only MB 0 25 W3 wq∧Hid (my=movIn a tn x dv mk y))
       case atStart=>exact ⟨0,mk,rfl,rfl,hM1,hO1,rfl⟩
       case round =>
        obtain ⟨y,my,hy,rfl,hMy,hOy,HEy⟩:=hrel
        have hmys:my.size=25:=by rw [HEy.out,movIn_size,hms]
        by_cases hlty:y < 5
        · have hAy:=Holds.other hA3 hOy (by omega) (by omega)
          have hTy:=Holds.other hT3 hOy (by omega) (by omega)
          obtain ⟨z,hz⟩:∃ z,a[x+5*y]! = z:=⟨_,rfl⟩
          obtain ⟨tv,htv⟩:∃ z,tn[x+5*y]! = z:=⟨_,rfl⟩
          obtain ⟨c0,f0⟩:=at_word hAy (x+5*y) (by omega) hz
          obtain ⟨c1,f1⟩:=at_int hTy (x+5*y) (by omega) htv
          have t64:tv < 64:=by rw [← htv];exact h64 _ (by omega)
          obtain ⟨i,hi⟩:∃ i,x+5*y=i:=⟨_,rfl⟩
          obtain ⟨j,hj⟩:∃ j,y % 5+5*((2*x+3*y) % 5)=j:=⟨_,rfl⟩
          obtain ⟨c2,f2⟩:=hMy j (by omega)
          rw [Nat.zero_add] at c0 c1 c2 f2
          rw [hi] at c0 c1
          have Hi:Hid (x+5*y=i):=hi
          have Hj:Hid (y % 5+5*((2*x+3*y) % 5)=j):=hj
          have HZ:Hid (a[x+5*y]! = z):=hz
          have HT:Hid (tn[x+5*y]! = tv):=htv
          have i25:i < 25:=by omega
          have j25:j < 25:=by omega
          have i25':(i:Int) < 25:=by omega
          have j25':(j:Int) < 25:=by omega
          have y5:(y:Int) < 5:=by omega
          have s1:IntKind.i64.wrap (2*(x:Int))=2*(x:Int):=IntWalk.i64_in _ (by omega)
          have s2:IntKind.i64.wrap (3*(y:Int))=3*(y:Int):=IntWalk.i64_in _ (by omega)
          have s3:IntKind.i64.wrap (2*(x:Int)+3*(y:Int))=2*(x:Int)+3*(y:Int):=IntWalk.i64_in _ (by omega)
          clear hz htv hi hj f0 f1
          go_wp2_with fail
          have P1:∀ w,Hid (Calls Tryz.prog 207 #[.int .i64 (y:Int),.int .i64 (2*(x:Int)+3*(y:Int))] w fun e w'=>e=.returned (.int .i64 (j:Int))∧w'=w):=fun w=>place_any _ _ j w (by omega) (by omega) (by have:=Hj.out;omega)
          have P2:∀ w,Hid (Calls Tryz.prog 207 #[.int .i64 (x:Int),.int .i64 (y:Int)] w fun e w'=>e=.returned (.int .i64 (i:Int))∧w'=w):=fun w=>place_any _ _ i w (by omega) (by omega) (by have:=Hi.out;omega)
          go_region_with (first | (go_at_call_of 207 (Value.int IntKind.i64 (x:Int));refine Calls.mono (P2 _).out ?_;rintro e w2 ⟨rfl,rfl⟩) | (go_at_call 207;refine Calls.mono (P1 _).out ?_;rintro e w2 ⟨rfl,rfl⟩) | (go_at_call 208;refine (left_any (z ^^^ dv) tv _ t64).mono ?_;rintro e w2 ⟨rfl,n2,rfl⟩))
          all_goals
           go_wp2
           go_roundg (gk - 1)
           case measure=>omega
           case rel =>
            refine ⟨y+1,my.setIfInBounds j (rol (z ^^^ dv) tv),by omega,by go_num,?_,?_,?_⟩
            · have:=Holds.set (Holds.drewN hMy (1+n2)) (i:=j) (by omega) (rol (z ^^^ dv) tv)
              rw [Nat.zero_add] at this
              exact this
            · exact (hOy.drewN (1+n2)).setCell (o:=j) (by omega) (by omega) _
            · show _=(movIn a tn x dv mk y).setIfInBounds (y % 5+5*((2*x+3*y) % 5)) (rol (a[x+5*y]! ^^^ dv) tn[x+5*y]!)
              rw [HZ.out,HT.out,Hj.out,HEy.out]
        · have hy5:y=5:=by omega
          subst hy5
          go_wp2
          go_roundg (4 - x)
          case measure=>omega
          case rel =>
           refine ⟨x+1,my,by omega,by go_num,hMy,hOy,?_⟩
           show _=movIn a tn x (dcol ck x) (movTo a tn ck x) 5
           rw [HEy.out,HEx.out,HD.out]
     · have hx5:x=5:=by omega
       subst hx5
       have hb4:Below w.heap.size w wr:=hb3.trans (hO.below (by omega) (by omega))
       have hs4:MB < wr.heap.size:=Nat.lt_of_lt_of_le hs3 hO.size
       clear hlt hx hb3 hs3 hA3 hT3 hC3 hM3 hO
       have hmk:=HM25.out
       go_wp2
       clear hmk
       have hU5:Holds enc (wr.alloc (.cells (madeCells #[.int .u64 0] 25) 53)) wr.heap.size 0 (outTo mk 0):=Holds.made (enc:=enc) wr 53 25 0
       have hb5':Below wr.heap.size wr (wr.alloc (.cells (madeCells #[.int .u64 0] 25) 53)):=(Below.refl _ _).alloc (Nat.le_refl _) _
       generalize hW5:(wr.alloc _)=W5 at hU5 hb5' ⊢
       have hs5:wr.heap.size < W5.heap.size:=by rw [← hW5];simp
       have hM5:=Holds.below hM hb5' hs4
       have hb5:=hb4.trans (hb5'.mono (by omega))
       clear hW5 hb5' hb4 hM
       generalize hOB:wr.heap.size=OB at *
       go_loopg [15] 5 (fun g s15 wr=>∃ (x:Nat) (ok:St),x+g=5∧s15=.int .i64 x∧Holds enc wr OB 0 ok∧Only OB 0 25 W5 wr∧Hid (ok=outTo mk x))
       case atStart=>exact ⟨0,_,rfl,rfl,hU5,Only.refl _ _ _ _,rfl⟩
       case round =>
        obtain ⟨x,ok,hx,rfl,hU,hO,HEu⟩:=hrel
        have hus:ok.size=25:=by rw [HEu.out,outTo_size]
        by_cases hlt:x < 5
        · have l5:(x:Int) < 5:=by omega
          go_wp2
          go_loopg [16] 5 (fun g s16 wq=>∃ (y:Nat) (oy:St),y+g=5∧s16=.int .i64 y∧Holds enc wq OB 0 oy∧Only OB 0 25 W5 wq∧Hid (oy=outIn mk x ok y))
          case atStart=>exact ⟨0,ok,rfl,rfl,hU,hO,rfl⟩
          case round =>
           obtain ⟨y,oy,hy,rfl,hUy,hOy,HEy⟩:=hrel
           have hoys:oy.size=25:=by rw [HEy.out,outIn_size,hus]
           by_cases hlty:y < 5
           · have hMy:=Holds.other hM5 hOy (by omega) (by omega)
             obtain ⟨i0,hi0⟩:∃ i,x+5*y=i:=⟨_,rfl⟩
             obtain ⟨i1,hi1⟩:∃ i,(x+1) % 5+5*y=i:=⟨_,rfl⟩
             obtain ⟨i2,hi2⟩:∃ i,(x+2) % 5+5*y=i:=⟨_,rfl⟩
             obtain ⟨z0,hz0⟩:∃ z,mk[i0]! = z:=⟨_,rfl⟩
             obtain ⟨z1,hz1⟩:∃ z,mk[i1]! = z:=⟨_,rfl⟩
             obtain ⟨z2,hz2⟩:∃ z,mk[i2]! = z:=⟨_,rfl⟩
             obtain ⟨c0,f0⟩:=at_word hMy i0 (by omega) hz0
             obtain ⟨c1,f1⟩:=at_word hMy i1 (by omega) hz1
             obtain ⟨c2,f2⟩:=at_word hMy i2 (by omega) hz2
             obtain ⟨c3,f3⟩:=hUy i0 (by omega)
             rw [Nat.zero_add] at c0 c1 c2 c3 f3
             have H0:Hid (x+5*y=i0):=hi0
             have H1:Hid ((x+1) % 5+5*y=i1):=hi1
             have H2:Hid ((x+2) % 5+5*y=i2):=hi2
             have HV:Hid (mk[x+5*y]! ^^^ (~~~mk[(x+1) % 5+5*y]! &&& mk[(x+2) % 5+5*y]!)=z0 ^^^ (~~~z1 &&& z2)):=by
              show _=_
              rw [hi0,hi1,hi2,hz0,hz1,hz2]
             have b0:i0 < 25:=by omega
             have b0':(i0:Int) < 25:=by omega
             have b1':(i1:Int) < 25:=by omega
             have b2':(i2:Int) < 25:=by omega
             have y5:(y:Int) < 5:=by omega
             have s1:IntKind.i64.wrap ((x:Int)+1)=(x:Int)+1:=IntWalk.i64_in _ (by omega)
             have s2:IntKind.i64.wrap ((x:Int)+2)=(x:Int)+2:=IntWalk.i64_in _ (by omega)
             clear hz0 hz1 hz2 hi0 hi1 hi2 f0 f1 f2
             go_wp2_with fail
             refine wp_region_still_tail 28 mixed (by kernel_rfl) ?_
             simp only [List.take_succ_cons,List.take_zero,List.drop_succ_cons,List.drop_zero]
             repeat still_step
             still_call (place_any (x:Int) (y:Int) i0 _ (by omega) (by omega) (by have:=H0.out;omega))
             repeat still_step
             still_call (place_any (x:Int) (y:Int) i0 _ (by omega) (by omega) (by have:=H0.out;omega))
             repeat still_step
             still_call (place_any ((x:Int)+1) (y:Int) i1 _ (by omega) (by omega) (by have:=H1.out;omega))
             repeat still_step
             still_call (place_any ((x:Int)+2) (y:Int) i2 _ (by omega) (by omega) (by have:=H2.out;omega))
             repeat still_step
             refine wpStill_nil ?_
             go_wp2
             go_roundg (gk - 1)
             case measure=>omega
             case rel =>
              refine ⟨y+1,oy.setIfInBounds i0 (z0 ^^^ (~~~z1 &&& z2)),by omega,by go_num,?_,?_,?_⟩
              · have:=Holds.set hUy (i:=i0) (by omega) (z0 ^^^ (~~~z1 &&& z2))
                rw [Nat.zero_add] at this
                exact Holds.drew this
              · exact (hOy.setCell (o:=i0) (by omega) (by omega) _).drew
              · show _=(outIn mk x ok y).setIfInBounds (x+5*y) (mk[x+5*y]! ^^^ (~~~mk[(x+1) % 5+5*y]! &&& mk[(x+2) % 5+5*y]!))
                rw [HV.out,H0.out,HEy.out]
           · have hy5:y=5:=by omega
             subst hy5
             go_wp2
             go_roundg (4 - x)
             case measure=>omega
             case rel =>
              refine ⟨x+1,oy,by omega,by go_num,hUy,hOy,?_⟩
              show _=outIn mk x (outTo mk x) 5
              rw [HEy.out,HEu.out]
        · have hx5:x=5:=by omega
          subst hx5
          obtain ⟨z,hz⟩:∃ z,ok[0]! = z:=⟨_,rfl⟩
          obtain ⟨c0,f0⟩:=at_word hU 0 (by omega) hz
          rw [Nat.zero_add] at c0 f0
          have HZ:Hid (ok[0]! = z):=hz
          clear hz
          go_wp2
          go_ret
          refine ⟨OB,rfl,by omega,?_,?_⟩
          · exact (hb5.trans (hO.below (by omega) (by omega))).setCell (p:=⟨OB,0,none⟩) (by show _≤OB;omega) _
          · have e:refRound a tn c=xorAt ok 0 c:=by unfold refRound;rw [HEu.out,HEx.out,HE.out]
            rw [e]
            exact Holds.xor (i:=0) hU (by omega) HZ.out c
end Go.Proofs.YtmkllfekhehagagGreat.SP
namespace Go.Proofs.YtmkllfekhehagagGreat.SP
open Go.RowKit Go.Sort Go.Deep
attribute [local go_sem] bits_xor64 bits_and64 bits_or64 bits_not64 wrap_u wrap_ub low_u
set_option maxHeartbeats 2000000 in
set_option maxRecDepth 100000 in
theorem refPermute_any (s:ByteArray) (w:World) (hs:s.size=200) :
 Calls Tryz.prog 186 #[.string s] w fun e w'=>e=.returned (.string ⟨permB s.data⟩)∧Below w.heap.size w w':=by
 have hmk25:∀ w:World,(Instr.makeSlice 245 (.int .i64 25) (.int .i64 25)).run Tryz.prog w=.ok (.slice (some ⟨w.heap.size,0,none⟩) 25 25) (w.alloc (.cells (madeCells #[.int .u64 0] 25) 53)) :=
  run_make_row' (P:=Tryz.prog) 245 53 (.int .u64 0) 8 slice61 info56 rfl .i64 .i64 25 (by omega) (by omega)
 have hmk200:∀ w:World,(Instr.makeSlice 22 (.int .i64 200) (.int .i64 200)).run Tryz.prog w=.ok (.slice (some ⟨w.heap.size,0,none⟩) 200 200) (w.alloc (.cells (madeCells #[.int .u8 0] 200) 5)) :=
  run_make_row' (P:=Tryz.prog) 22 5 (.int .u8 0) 1 slice22 info5 rfl .i64 .i64 200 (by omega) (by omega)
 have HM200:Hid _:=hmk200
 clear hmk200
 go_enter Tryz.func186,Tryz.ntmps186
 go_wp2
 clear hmk25
 have hA1:Holds enc (w.alloc (.cells (madeCells #[.int .u64 0] 25) 53)) w.heap.size 0 (orTo s.data 0):=Holds.made (enc:=enc) w 53 25 0
 have hb1:Below w.heap.size w (w.alloc (.cells (madeCells #[.int .u64 0] 25) 53)):=(Below.refl _ _).alloc (Nat.le_refl _) _
 generalize hW1:(w.alloc _)=W1 at hA1 hb1 ⊢
 have hs1:w.heap.size < W1.heap.size:=by rw [← hW1];simp
 clear hW1
 go_loopg [4] 200 (fun g s4 wr=>∃ (i:Nat) (dk:St),i+g=200∧s4=.int .i64 i∧Holds enc wr w.heap.size 0 dk∧Only w.heap.size 0 25 W1 wr∧Hid (dk=orTo s.data i))
 case atStart=>exact ⟨0,_,rfl,rfl,hA1,Only.refl _ _ _ _,rfl⟩
 case round =>
  obtain ⟨i,dk,hi,rfl,hD,hO,HE⟩:=hrel
  have hds:dk.size=25:=by rw [HE.out,orTo_size]
  by_cases hlt:i < 200
  · obtain ⟨x,hx⟩:∃ x,dk[i / 8]! = x:=⟨_,rfl⟩
    obtain ⟨c0,f0⟩:=at_word hD (i / 8) (by omega) hx
    rw [Nat.zero_add] at c0 f0
    have HX:Hid (dk[i / 8]! = x):=hx
    clear hx
    have l200:(i:Int) < 200:=by omega
    have p0:0≤(i:Int) / 8:=by omega
    have p1:(i:Int) / 8 < 25:=by omega
    have p2:((i:Int) / 8).toNat=i / 8:=by omega
    have s1:IntKind.i64.wrap ((i:Int) / 8)=(i:Int) / 8:=IntWalk.i64_in _ (by omega)
    have s2:IntKind.i64.wrap (8*((i:Int) % 8))=8*((i:Int) % 8):=IntWalk.i64_in _ (by omega)
    have s3:0≤8*((i:Int) % 8):=by omega
    have s4:8*((i:Int) % 8)≤64:=by omega
    have s5:(8*((i:Int) % 8)).toNat=8*(i % 8):=by omega
    have his:(i:Int) < (s.size:Int):=by omega
    have his':i < s.size:=by omega
    have tm:(i:Int).tmod 8=(i:Int) % 8:=Int.tmod_eq_emod_of_nonneg (by omega)
    obtain ⟨y,hy⟩:∃ y,wide s.data[i]! = y:=⟨_,rfl⟩
    have hsb:IntKind.u64.wrap (s[i].toNat:Int)=u y:=by
     have e:s.data[i]! = s[i]:=getElem!_pos s.data i his'
     rw [← hy,e]
     exact wrap_ub s[i]
    have HY:Hid (wide s.data[i]! = y):=hy
    clear hy
    have sh:=shl64 y (8*(i % 8))
    go_wp2_with fail
    go_still_tail 18,mixed
    go_wp2
    go_roundg (gk - 1)
    case measure=>omega
    case rel =>
     refine ⟨i+1,dk.setIfInBounds (i / 8) (x ||| y <<< (8*(i % 8))),by omega,by go_num,?_,?_,?_⟩
     · have:=Holds.set hD (i:=i / 8) (by omega) (x ||| y <<< (8*(i % 8)))
       rw [Nat.zero_add] at this
       exact Holds.drew this
     · exact (hO.setCell (o:=i / 8) (by omega) (by omega) _).drew
     · show _=(orTo s.data i).setIfInBounds (i / 8) ((orTo s.data i)[i / 8]! ||| wide s.data[i]! <<< (8*(i % 8)))
       rw [HY.out,← HE.out,HX.out]
  · have hi200:i=200:=by omega
    subst hi200
    have hb2:Below w.heap.size w wr:=hb1.trans (hO.below (by omega) (Nat.le_refl _))
    have hs2:w.heap.size < wr.heap.size:=Nat.lt_of_lt_of_le hs1 hO.size
    clear hlt hi hA1 hb1 hs1 hO
    go_wp2_with fail
    refine (offsets_any _).mono ?_
    rintro e w3 ⟨rfl,hb3,hT⟩
    have hD3:=Holds.below hD hb3 hs2
    have hb4:=hb2.trans (hb3.mono (by omega))
    have hs3:wr.heap.size < w3.heap.size:=Holds.lt hT (by rw [offsets_size];omega)
    generalize hTB:wr.heap.size=TB at *
    clear hb2 hb3 hD
    go_wp2
    go_loopg [3,6] 24 (fun g s3 s6 wr=>∃ (k ab:Nat) (dk:St),k+g=24∧s6=.int .i64 k∧s3=.slice (some ⟨ab,0,none⟩) 25 25∧Holds enc wr ab 0 dk∧w.heap.size≤ab∧Holds encI wr TB 0 offsetsL∧Below w.heap.size w wr∧Hid (dk=refTo (orTo s.data 200) k))
    case atStart=>exact ⟨0,w.heap.size,dk,rfl,rfl,rfl,hD3,Nat.le_refl _,hT,hb4,HE⟩
    case round =>
     clear hT hb4 hD3 HE hds dk
     obtain ⟨k,ab,dk,hk,rfl,rfl,hD,hab,hT,hb,HE⟩:=hrel
     have hds:dk.size=25:=by
      rw [HE.out]
      cases k with
      | zero=>exact orTo_size _ _
      | succ k=>exact refRound_size _ _ _
     by_cases hlt:k < 24
     · have l24:(k:Int) < 24:=by omega
       go_wp2_with fail
       refine (constant_any k _ hlt).mono ?_
       rintro e w4 ⟨rfl,rfl⟩
       go_wp2_with fail
       refine (round_any ab TB dk offsetsL (conL k) _ hds offsets_size hD hT offsets_lt).mono ?_
       rintro e w5 ⟨r,rfl,hr,hb5,hR⟩
       have hTl:=Holds.lt hT (by rw [offsets_size];omega)
       have hsz:=hb.size
       go_wp2
       go_roundg (gk - 1)
       case measure=>omega
       case rel =>
        refine ⟨k+1,r,refRound dk offsetsL (conL k),by omega,by go_num,rfl,hR,by omega,Holds.below hT hb5 hTl,hb.trans (hb5.mono (by omega)),?_⟩
        rw [HE.out];rfl
     · have hk24:k=24:=by omega
       subst hk24
       have hmk:=HM200.out
       go_wp2
       clear hmk
       have hsz:=hb.size
       have hal:=Holds.lt hD (by omega)
       have hF1:Holds encB (wr.alloc (.cells (madeCells #[.int .u8 0] 200) 5)) wr.heap.size 0 (frontTo dk 200 0):=Holds.made (enc:=encB) wr 5 200 0
       have hb6:Below wr.heap.size wr (wr.alloc (.cells (madeCells #[.int .u8 0] 200) 5)):=(Below.refl _ _).alloc (Nat.le_refl _) _
       generalize hW6:(wr.alloc _)=W6 at hF1 hb6 ⊢
       have hs6:wr.heap.size < W6.heap.size:=by rw [← hW6];simp
       have hD6:=Holds.below hD hb6 hal
       have hb7:=hb.trans (hb6.mono hsz)
       clear hW6 hb6 hb hD hT
       generalize hFB:wr.heap.size=FB at *
       go_loopg [8] 200 (fun g s8 wr=>∃ (i:Nat) (bs:Bs),i+g=200∧s8=.int .i64 i∧Holds encB wr FB 0 bs∧Only FB 0 200 W6 wr∧Hid (bs=frontTo dk 200 i))
       case atStart=>exact ⟨0,_,rfl,rfl,hF1,Only.refl _ _ _ _,rfl⟩
       case round =>
        obtain ⟨i,bs,hi,rfl,hB,hO,HEb⟩:=hrel
        have hbs:bs.size=200:=by rw [HEb.out,frontTo_size]
        by_cases hlt:i < 200
        · have hDw:=Holds.other hD6 hO (by omega) (by omega)
          obtain ⟨x,hx⟩:∃ x,dk[i / 8]! = x:=⟨_,rfl⟩
          obtain ⟨c0,f0⟩:=at_word hDw (i / 8) (by omega) hx
          obtain ⟨c1,f1⟩:=hB i (by omega)
          rw [Nat.zero_add] at c0 c1 f1
          have HX:Hid (byteOf dk i=low (x >>> (8*(i % 8)))):=by show low _=_;rw [hx]
          clear hx f0
          have p1:(i:Int) / 8 < 25:=by omega
          have l200:(i:Int) < 200:=by omega
          have hsr:=shr64 x (8*(i % 8))
          go_wp2
          go_roundg (gk - 1)
          case measure=>omega
          case rel =>
           refine ⟨i+1,bs.setIfInBounds i (low (x >>> (8*(i % 8)))),by omega,by go_num,?_,?_,?_⟩
           · have:=Holds.set hB (i:=i) (by omega) (low (x >>> (8*(i % 8))))
             rw [Nat.zero_add] at this
             exact this
           · exact hO.setCell (o:=i) (by omega) (by omega) _
           · show _=(frontTo dk 200 i).setIfInBounds i (byteOf dk i)
             rw [HX.out,HEb.out]
        · have hi200:i=200:=by omega
          subst hi200
          have kc:=conv_str Tryz.prog 22 9 5 slice22 int5 str9 wr FB 0 200 200 bs hB hbs
          go_wp2
          go_ret
          have e1:bs=permB s.data:=by rw [HEb.out,HE.out];exact ref_permB s.data
          rw [e1]
          exact ⟨rfl,hb7.trans (hO.below (by omega) (by omega))⟩
end Go.Proofs.YtmkllfekhehagagGreat.SP
namespace Go.Proofs.YtmkllfekhehagagGreat.SP
open Go.RowKit Go.Sort Go.Deep
attribute [local go_sem] bits_xor8
theorem holds_one (w:World) (x:UInt8):Holds encB (w.alloc (.cells #[.int .u8 (ub x)] 5)) w.heap.size 0 #[x]:=by
 have h:=Holds.new (enc:=encB) w 5 #[x]
 have e:Array.map encB #[x]=#[.int .u8 (ub x)]:=by simp [encB]
 rw [e] at h
 exact h
def padT (l:List UInt8) (e:UInt8) (k:Nat):List UInt8:=l++e :: List.replicate k 0
theorem padT_length (l:List UInt8) (e:UInt8) (k:Nat):(padT l e k).length=l.length+1+k:=by
 unfold padT
 rw [List.length_append,List.length_cons,List.length_replicate]
 omega
theorem padT_next (l:List UInt8) (e:UInt8) (k:Nat):padT l e k++[0]=padT l e (k+1):=by
 unfold padT
 rw [List.append_assoc,List.cons_append,List.replicate_succ']
theorem padT_total (l:List UInt8) (e:UInt8):(padT l e (135 - l.length % 136)).set (l.length+(135 - l.length % 136)) ((padT l e (135 - l.length % 136))[l.length+(135 - l.length % 136)]! ^^^ 128)=total l e:=by
 unfold padT total tailpad
 rw [List.set_append_right _ _ (by omega),Nat.add_sub_cancel_left,list_app_back _ _ _ (by omega) (by rw [List.length_cons,List.length_replicate];omega),Nat.add_sub_cancel_left]
theorem list_set_at (l:List UInt8) (i j:Nat) (x:UInt8) (hj:j < l.length):(l.set i x)[j]! = if i=j then x else l[j]!:=by
 rw [getElem!_pos (l.set i x) j (by rw [List.length_set];exact hj),List.getElem_set,getElem!_pos l j hj]
theorem total_at (l:List UInt8) (e:UInt8) (cur:Bs) (L k:Nat) (hk:k=135 - l.length % 136) (hL:L=l.length+1+k) (hc:L≤cur.size) (hT:∀ j,j < L→cur[j]! = (padT l e k)[j]!) :
 ∀ j,j < L→(cur.setIfInBounds (L - 1) (cur[L - 1]! ^^^ 128))[j]! = (total l e)[j]!:=by
 intro j hj
 have hpl:=padT_length l e k
 rw [← padT_total,← hk,list_set_at _ _ _ _ (by omega),show l.length+k=L - 1 by omega]
 by_cases h:j=L - 1
 · rw [if_pos h.symm,h,getElem!_set_same _ _ _ (by omega),hT _ (by omega)]
 · rw [if_neg (by omega),getElem!_set_other _ _ _ _ h,hT _ hj]
theorem stream_bytes (o:ByteArray) (d:St) (n m:Nat) (ho:o.size=136*m) (hnm:n≤136*m) (h:∀ j,j < 136*m→o.data[j]! = streamAt d j):o.extract 0 n=⟨streamL d n⟩:=by
 apply ByteArray.ext
 have hd:(o.extract 0 n).data=o.data.extract 0 n:=ByteArray.data_extract
 have hs:o.data.size=136*m:=ho
 rw [hd]
 refine bs_ext _ _ n (by rw [Array.size_extract,hs];omega) (streamL_size _ _) (fun j hj=>?_)
 have h1:j < (o.data.extract 0 n).size:=by rw [Array.size_extract,hs];omega
 have h2:j < o.data.size:=by omega
 have h3:=h j (by omega)
 rw [getElem!_pos o.data j h2] at h3
 rw [streamL_at _ _ _ hj,← h3,getElem!_pos (o.data.extract 0 n) j h1,Array.getElem_extract]
 simp only [Nat.zero_add]
theorem out_next (o:ByteArray) (d:St) (m:Nat) (p:Bs) (hp:p.size=136) (hpa:∀ j,j < 136→p[j]! = byteOf (permN d m) j) (ho:o.size=136*m) (h:∀ j,j < 136*m→o.data[j]! = streamAt d j) :
 (o++⟨p⟩).size=136*(m+1)∧∀ j,j < 136*(m+1)→(o++(⟨p⟩:ByteArray)).data[j]! = streamAt d j:=by
 have hd:(o++(⟨p⟩:ByteArray)).data=o.data++p:=ByteArray.data_append
 have hs:o.data.size=136*m:=ho
 refine ⟨?_,fun j hj=>?_⟩
 · show (o++(⟨p⟩:ByteArray)).data.size=_
   rw [hd,Array.size_append,hp,hs]
   omega
 · rw [hd]
   by_cases h1:j < 136*m
   · have h2:j < o.data.size:=by omega
     have h3:=h j h1
     rw [getElem!_pos o.data j h2] at h3
     rw [app_front _ _ j h2,h3]
   · rw [app_back _ _ j (by omega) (by omega),hs,hpa _ (by omega)]
     unfold streamAt
     rw [show j / 136=m by omega,show j % 136=j - 136*m by omega]
theorem conv200 (w:World) (p:Bs) (h:p.size=200) :
 ∃ sc w',(convert 9 22 (.string ⟨p⟩)).run Tryz.prog w=.ok (.slice (some ⟨w.heap.size,0,none⟩) 200 sc) w'∧200≤sc∧Holds encB w' w.heap.size 0 p∧Below w.heap.size w w':=by
 obtain ⟨v,w',hcv,own,hb,hv⟩:=conv_bytes (w:=w) (B:=0) ⟨p⟩ (Nat.zero_le _)
 have hps:(ByteArray.mk p).size=200:=h
 have hpl:(ByteArray.mk p).data.toList.length=200:=by rw [Array.length_toList];exact h
 rw [hv] at hcv own
 rw [hps] at hcv own
 obtain ⟨_,_,hle,hH⟩:=own.holds
 exact ⟨_,_,hcv,by omega,by simpa using hH,hb⟩
theorem front_front (d:St):Array.size (front d 136)≤Array.size (front d 200)∧∀ j,j < (front d 136).size→(front d 136)[j]! = (front d 200)[j]!:=by
 refine ⟨by rw [front_size,front_size];omega,fun j hj=>?_⟩
 rw [front_size] at hj
 rw [front_at _ _ _ hj,front_at _ _ _ (by omega)]
set_option maxHeartbeats 2000000 in
set_option maxRecDepth 100000 in
theorem refSponge_any (s:ByteArray) (e:UInt8) (n:Nat) (w:World) (hs:s.size≤1048576) (hn:n≤16384) :
 Calls Tryz.prog 154 #[.string s,.int .u8 (ub e),.int .i64 (n:Int)] w fun r w'=>r=.returned (.string ⟨streamL (absorb s.data.toList e) n⟩)∧Below w.heap.size w w':=by
 obtain ⟨v0,w0,hcv,own0,hb0,hv0⟩:=conv_bytes (w:=w) (B:=w.heap.size) s (Nat.le_refl _)
 rw [hv0] at hcv own0
 have hsz0:w.heap.size≤w0.heap.size:=hb0.size
 have hX:=holds_one w0 e
 have hbx:Below w0.heap.size w0 (w0.alloc (.cells #[.int .u8 (ub e)] 5)):=(Below.refl _ _).alloc (Nat.le_refl _) _
 have hl:s.data.toList.length=s.size:=Array.length_toList
 obtain ⟨v1,w1,hap,own1,hb1⟩:=append_own (c:=1) (own0.below hbx) hX (by rw [World.size_alloc];omega) (by rw [hl];simp;omega) 1 rfl
 have hbb1:Below w.heap.size w w1:=(hb0.trans (hbx.mono hsz0)).trans hb1
 have own1':Own w.heap.size w1 v1 (padT s.data.toList e 0):=own1
 clear hv0 own0 hX own1 hb1 hbx
 have hmk200:∀ w:World,(Instr.makeSlice 22 (.int .i64 200) (.int .i64 200)).run Tryz.prog w=.ok (.slice (some ⟨w.heap.size,0,none⟩) 200 200) (w.alloc (.cells (madeCells #[.int .u8 0] 200) 5)) :=
  run_make_row' (P:=Tryz.prog) 22 5 (.int .u8 0) 1 slice22 info5 rfl .i64 .i64 200 (by omega) (by omega)
 have HM200:Hid _:=hmk200
 clear hmk200
 go_enter Tryz.func154,Tryz.ntmps154
 go_wp2_with (at_builtin;refine Lib.wpList_append_run _ rfl _ _ 22 22 rfl _ _ rfl rfl _ _ hap ?_)
 clear hap hcv hb0
 obtain ⟨h,hh⟩:∃ h,s.data.toList.length % 136=h:=⟨_,rfl⟩
 have h136:h < 136:=by rw [← hh];exact Nat.mod_lt _ (by decide)
 have Hh:Hid (s.data.toList.length % 136=h):=hh
 clear hh
 go_loopg [7] (135 - h) (fun g s7 wr=>∃ k,k+g=135 - h∧Own w.heap.size wr s7 (padT s.data.toList e k)∧Below w.heap.size w wr)
 case atStart=>exact ⟨0,by omega,own1',hbb1⟩
 case round =>
  clear own1' hbb1
  obtain ⟨k,hk,own,hb⟩:=hrel
  have own':=own
  obtain ⟨g,cap,cur,rfl,hg,hgl,hcs,hlc,hH,hT⟩:=own'
  have hL:=padT_length s.data.toList e k
  generalize hLL:(padT s.data.toList e k).length=L at *
  have hL':L=s.size+1+k:=by rw [hL,hl]
  have HL':Hid (L=s.size+1+k):=hL'
  have hLb:L≤1048900:=by omega
  have hL0:1≤L:=by omega
  have tm:(L:Int).tmod 136=(L:Int) % 136:=Int.tmod_eq_emod_of_nonneg (by omega)
  by_cases hlt:k < 135 - h
  · have hb2:((L:Int) % 136 != 0)=true:=by rw [bne_iff_ne];have:=Hh.out;rw [hl] at this;omega
    have hX:=holds_one wr 0
    have hbx:Below wr.heap.size wr (wr.alloc (.cells #[.int .u8 (ub 0)] 5)):=(Below.refl _ _).alloc (Nat.le_refl _) _
    obtain ⟨v2,w2,hap,own2,hbb⟩:=append_own (c:=1) (own.below hbx) hX (by rw [World.size_alloc];have:=hb.size;omega) (by rw [hLL];simp;omega) 1 rfl
    have own3:Own w.heap.size w2 v2 (padT s.data.toList e (k+1)):=by rw [← padT_next];exact own2
    have hb3:Below w.heap.size w w2:=(hb.trans (hbx.mono hb.size)).trans hbb
    clear hL hL' hLL own own2 hX hbb hbx hH hT
    go_wp2_with (at_builtin;refine Lib.wpList_append_run _ rfl _ _ 22 22 rfl _ _ rfl rfl _ _ hap ?_)
    go_roundg (gk - 1)
    case measure=>omega
    case rel=>exact ⟨k+1,by omega,own3,hb3⟩
  · have hb2:((L:Int) % 136 != 0)=false:=by
     rw [bne_eq_false_iff_eq];have:=Hh.out;rw [hl] at this;omega
    have hk0:k=135 - s.data.toList.length % 136:=by have:=Hh.out;omega
    obtain ⟨x,hx⟩:∃ x,cur[L - 1]! = x:=⟨_,rfl⟩
    obtain ⟨c0,f0⟩:=at_byte hH (L - 1) (by omega) hx
    rw [Nat.zero_add] at c0 f0
    have hx80:=xor80 x
    have hTot:=total_at s.data.toList e cur L k hk0 hL (by omega) hT
    rw [hx] at hTot
    have hH2:=Holds.set hH (i:=L - 1) (by omega) (x ^^^ 128)
    rw [Nat.zero_add] at hH2
    have htl:(total s.data.toList e).length=L:=by rw [total_length];omega
    have hTA:Holds encB (wr.setCell ⟨g,L - 1,none⟩ (.int .u8 (ub (x ^^^ 128)))) g 0 (total s.data.toList e).toArray :=
     Holds.front hH2 (by rw [Array.size_setIfInBounds,List.size_toArray,htl];omega) (fun j hj=>by rw [list_arr_at];exact (hTot j (by simpa [htl] using hj)).symm)
    have hb4:Below w.heap.size w (wr.setCell ⟨g,L - 1,none⟩ (.int .u8 (ub (x ^^^ 128)))):=hb.setCell (p:=⟨g,L - 1,none⟩) hg _
    have hg4:g < (wr.setCell ⟨g,L - 1,none⟩ (.int .u8 (ub (x ^^^ 128)))).heap.size:=by rw [World.size_setCell];exact hgl
    obtain ⟨M,hM⟩:∃ M,s.data.toList.length / 136+1=M:=⟨_,rfl⟩
    have hLM:L=136*M:=by have:=Hh.out;omega
    have HLM:Hid (L=136*M):=hLM
    have HM:Hid (s.data.toList.length / 136+1=M):=hM
    have z1:(0:Int)≤(L:Int) - 1:=by omega
    have z2:(L:Int) - 1 < (L:Int):=by omega
    have z3:((L:Int) - 1).toNat=L - 1:=by omega
    have hmk:=HM200.out
    clear hM hLM hTot hH2 hH hT hx hL hL' hLL own hk0
    go_wp2
    clear hmk c0 f0 hb2 tm hx80
    have hW2:(wr.setCell ⟨g,L - 1,none⟩ (.int .u8 (ub (x ^^^ 128)))).heap.size=wr.heap.size:=by rw [World.size_setCell]
    generalize wr.setCell ⟨g,L - 1,none⟩ (.int .u8 (ub (x ^^^ 128)))=W2 at hTA hb4 hg4 hW2 ⊢
    have hS0:Holds encB (W2.alloc (.cells (madeCells #[.int .u8 0] 200) 5)) W2.heap.size 0 (refSt (total s.data.toList e) 0):=Holds.made (enc:=encB) W2 5 200 0
    have hb5':Below W2.heap.size W2 (W2.alloc (.cells (madeCells #[.int .u8 0] 200) 5)):=(Below.refl _ _).alloc (Nat.le_refl _) _
    have hs5:W2.heap.size < (W2.alloc (.cells (madeCells #[.int .u8 0] 200) 5)).heap.size:=by simp
    have hTA5:=Holds.below hTA hb5' hg4
    have hb5:=hb4.trans (hb5'.mono hb4.size)
    have hz4:=hb4.size
    rw [hW2] at hS0 hs5 hg4 hz4
    generalize hSG:wr.heap.size=SG at *
    generalize (W2.alloc _)=W3 at hS0 hb5 hs5 hTA5 ⊢
    clear hTA hb4 hb5' hSG hW2
    go_loopg [8,9] M (fun g2 s8 s9 wr=>∃ (i sg sc:Nat),i+g2=M∧s9=.int .i64 ((136*i:Nat):Int)∧s8=.slice (some ⟨sg,0,none⟩) 200 sc∧200≤sc∧w.heap.size≤sg∧sg≠g∧Holds encB wr sg 0 (refSt (total s.data.toList e) i)∧Holds encB wr g 0 (total s.data.toList e).toArray∧Below w.heap.size w wr)
    case atStart=>exact ⟨0,SG,200,by omega,rfl,rfl,Nat.le_refl _,by omega,by omega,hS0,hTA5,hb5⟩
    case round =>
     clear hS0 hTA5 hb5 hs5
     obtain ⟨i,sg,sc,hi,rfl,rfl,hsc,hsg,hne,hS,hTA,hb⟩:=hrel
     have hrs:(refSt (total s.data.toList e) i).size=200:=by
      cases i with
      | zero=>rw [refSt,Array.size_replicate]
      | succ i=>rw [refSt,permB,front_size]
     have hgz:g < wr.heap.size:=Holds.lt hTA (by rw [List.size_toArray,htl];omega)
     by_cases hlt:i < M
     · have hlt':((136*i:Nat):Int) < (L:Int):=by have:=HLM.out;omega
       have hii:136*i+136≤L:=by have:=HLM.out;omega
       generalize hI:136*i=I at *
       have HI:Hid (136*i=I):=hI
       clear hI
       go_wp2
       have hD0:Holds encB wr sg 0 (xorB (refSt (total s.data.toList e) i) (total s.data.toList e) I 0):=hS
       generalize hR:refSt (total s.data.toList e) i=R at *
       have HR:Hid (R=refSt (total s.data.toList e) i):=hR.symm
       clear hR
       go_loopg [10] 136 (fun g3 s10 wq=>∃ (k:Nat) (st:Bs),k+g3=136∧s10=.int .i64 k∧Holds encB wq sg 0 st∧Only sg 0 200 wr wq∧Hid (st=xorB R (total s.data.toList e) I k))
       case atStart=>exact ⟨0,_,rfl,rfl,hD0,Only.refl _ _ _ _,rfl⟩
       case round =>
        clear hD0
        obtain ⟨k,st,hk,rfl,hSt,hO,HE⟩:=hrel
        have hsts:st.size=200:=by rw [HE.out,xorB_size];exact hrs
        have hTq:=Holds.other hTA hO (Ne.symm hne) (by rw [List.size_toArray,htl];omega)
        by_cases hltk:k < 136
        · obtain ⟨y,hy⟩:∃ y,(total s.data.toList e)[I+k]! = y:=⟨_,rfl⟩
          obtain ⟨c0,f0⟩:=at_byte (x:=y) hTq (I+k) (by rw [List.size_toArray,htl];omega) (by rw [list_arr_at];exact hy)
          obtain ⟨z,hz⟩:∃ z,st[k]! = z:=⟨_,rfl⟩
          obtain ⟨c1,f1⟩:=at_byte hSt k (by omega) hz
          rw [Nat.zero_add] at c0 c1 f1
          have HY:Hid ((total s.data.toList e)[I+k]! = y):=hy
          have HZ:Hid (st[k]! = z):=hz
          have k136:(k:Int) < 136:=by omega
          have k200:(k:Int) < 200:=by omega
          have ik0:(0:Int)≤(I:Int)+(k:Int):=by omega
          have ik1:(I:Int)+(k:Int) < (L:Int):=by omega
          have ik2:((I:Int)+(k:Int)).toNat=I+k:=by omega
          have ik3:IntKind.i64.wrap ((I:Int)+(k:Int))=(I:Int)+(k:Int):=IntWalk.i64_in _ (by omega)
          clear hy hz f0 hTq
          go_wp2_with fail
          go_still_tail 14,mixed
          go_wp2
          go_roundg (gk - 1)
          case measure=>omega
          case rel =>
           refine ⟨k+1,st.setIfInBounds k (z ^^^ y),by omega,by go_num,?_,?_,?_⟩
           · have:=Holds.set hSt (i:=k) (by omega) (z ^^^ y)
             rw [Nat.zero_add] at this
             exact Holds.drew this
           · exact (hO.setCell (o:=k) (by omega) (by omega) _).drew
           · show _=(xorB R (total s.data.toList e) I k).setIfInBounds k ((xorB R (total s.data.toList e) I k)[k]! ^^^ (total s.data.toList e)[I+k]!)
             rw [← HE.out,HZ.out,HY.out]
        · have hk136:k=136:=by omega
          subst hk136
          have hgz2:=Holds.lt hSt (by omega)
          have kc:=conv_str Tryz.prog 22 9 5 slice22 int5 str9 _ sg 0 200 sc st hSt hsts
          have hbq:=hb.trans (hO.below hb.size hsg)
          obtain ⟨PB,hPB⟩:∃ x,permB st=x:=⟨_,rfl⟩
          have hps:PB.size=200:=by rw [← hPB,permB,front_size]
          have HE2:Hid (PB=refSt (total s.data.toList e) (i+1)):=by
           show PB=permB (xorB (refSt (total s.data.toList e) i) (total s.data.toList e) (136*i) 136)
           rw [← HR.out,HI.out,← HE.out,hPB]
          have HPB:Hid (PB=permB st):=hPB.symm
          clear hPB HE
          go_wp2_with fail
          refine (refPermute_any ⟨st⟩ _ hsts).mono ?_
          rintro r w5 ⟨rfl,hb5⟩
          have e5:(ByteArray.mk (permB (ByteArray.mk st).data))=ByteArray.mk PB:=congrArg ByteArray.mk HPB.out.symm
          rw [e5]
          clear e5
          obtain ⟨sc6,w6,hcv6,hle6,hH6,hb6⟩:=conv200 w5 PB hps
          have hgq:=Holds.lt hTq (by rw [List.size_toArray,htl];omega)
          have hg5:g < w5.heap.size:=Nat.lt_of_lt_of_le hgq hb5.size
          have hT6:=Holds.below (Holds.below hTq hb5 hgq) hb6 hg5
          have hb8:Below w.heap.size w w6:=(hbq.trans (hb5.mono hbq.size)).trans (hb6.mono (by have:=hb5.size;have:=hbq.size;omega))
          rw [HE2.out] at hH6
          have hz5:w.heap.size≤w5.heap.size:=by have:=hb5.size;have:=hbq.size;omega
          go_wp2
          go_roundg (M - (i+1))
          case measure=>omega
          case rel=>exact ⟨i+1,w5.heap.size,sc6,by omega,by rw [← HI.out];go_num,rfl,hle6,hz5,by omega,hH6,hT6,hb8⟩
     · have hiM:i=M:=by omega
       have hge:(L:Int)≤((136*i:Nat):Int):=by have:=HLM.out;omega
       obtain ⟨d,hd⟩:∃ d,absorb s.data.toList e=d:=⟨_,rfl⟩
       obtain ⟨F,hF⟩:∃ F,front (permN d 0) 200=F:=⟨_,rfl⟩
       have hSf:Holds encB wr sg 0 F:=by
        have:=refSt_total s.data.toList e
        rw [HM.out,← hiM,hd] at this
        rw [this] at hS
        rw [← hF,permN]
        exact hS
       have hab:d.size=25:=by rw [← hd];exact absorb_size s.data.toList e
       have HDD:Hid (d=absorb s.data.toList e):=hd.symm
       have HFF:Hid (F=front (permN d 0) 200):=hF.symm
       clear hS hrs hTA hgz hiM hlt hi hd hF
       generalize hI:136*i=I at *
       clear hI
       have hdec:decide ((I:Int) < (L:Int))=false:=decide_eq_false (by omega)
       have hdec2:decide (I < L)=false:=decide_eq_false (by omega)
       go_wp2
       go_loopg [8,11] (n+136) (fun g4 s8 s11 wq=>∃ (m sg sc:Nat) (o:ByteArray) (Fm:Bs),136*m+g4=n+136∧1≤g4∧s11=.string o∧o.size=136*m∧s8=.slice (some ⟨sg,0,none⟩) 200 sc∧200≤sc∧Holds encB wq sg 0 Fm∧Fm.size=200∧Below w.heap.size w wq∧Hid (Fm=front (permN d m) 200)∧Hid (∀ j,j < 136*m→o.data[j]! = streamAt d j))
       case atStart=>exact ⟨0,sg,sc,ByteArray.empty,F,by omega,by omega,rfl,rfl,rfl,hsc,hSf,by rw [HFF.out,front_size],hb,HFF,fun j hj=>by omega⟩
       case round =>
        clear hSf HFF hsc
        obtain ⟨m,sg,sc,o,Fm,hg4,hg41,rfl,ho,rfl,hsc,hF,hFs,hb,HF,HO⟩:=hrel
        have Ho:Hid (o.size=136*m):=ho
        have hob:o.size≤n+136:=by omega
        by_cases hlt:o.size < n
        · have hlt':(o.size:Int) < (n:Int):=by omega
          obtain ⟨Q,hQ⟩:∃ Q,front (permN d m) 136=Q:=⟨_,rfl⟩
          have hQs:Q.size=136:=by rw [← hQ,front_size]
          have hQa:∀ j,j < 136→Q[j]! = byteOf (permN d m) j:=fun j hj=>by rw [← hQ,front_at _ _ _ hj]
          have hHQ:Holds encB wr sg 0 Q:=by
           have h1:=front_front (permN d m)
           rw [← HF.out,hQ] at h1
           exact Holds.front hF h1.1 h1.2
          have hnx:=out_next o d m Q hQs hQa ho HO
          have HNX:Hid ((o++⟨Q⟩).size=136*(m+1)∧∀ j,j < 136*(m+1)→(o++(⟨Q⟩:ByteArray)).data[j]! = streamAt d j):=hnx
          obtain ⟨PB,hPB⟩:∃ x,permB Fm=x:=⟨_,rfl⟩
          have hps:PB.size=200:=by rw [← hPB,permB,front_size]
          have HN:Hid (PB=front (permN d (m+1)) 200):=by
           show PB=front (perm (permN d m)) 200
           rw [← hPB,HF.out,permB_front _ (permN_size d hab m)]
          have HPB:Hid (PB=permB Fm):=hPB.symm
          have kc1:=conv_str Tryz.prog 22 9 5 slice22 int5 str9 wr sg 0 136 sc Q hHQ hQs
          have kc2:=conv_str Tryz.prog 22 9 5 slice22 int5 str9 wr sg 0 200 sc Fm hF hFs
          have hsc0:(sc=0)=False:=eq_false (by omega)
          have hsc1:(136:Int)≤(sc:Int):=by omega
          clear hQ hQa hHQ hnx hPB HO ho
          go_wp2_with fail
          refine (refPermute_any ⟨Fm⟩ _ hFs).mono ?_
          rintro r w5 ⟨rfl,hb5⟩
          have e5:(ByteArray.mk (permB (ByteArray.mk Fm).data))=ByteArray.mk PB:=congrArg ByteArray.mk HPB.out.symm
          rw [e5]
          clear e5
          obtain ⟨sc6,w6,hcv6,hle6,hH6,hb6⟩:=conv200 w5 PB hps
          have hb8:Below w.heap.size w w6:=(hb.trans (hb5.mono hb.size)).trans (hb6.mono (by have:=hb5.size;have:=hb.size;omega))
          go_wp2
          go_roundg (gk - 136)
          case measure=>have:=Ho.out;omega
          case rel=>exact ⟨m+1,w5.heap.size,sc6,o++(ByteArray.mk Q),PB,by have:=Ho.out;omega,by have:=Ho.out;omega,rfl,HNX.out.1,rfl,hle6,hH6,hps,hb8,HN,HNX.out.2⟩
        · have hge:(n:Int)≤(o.size:Int):=by omega
          have hex:=stream_bytes o d n m ho (by omega) HO
          have HEX:Hid (o.extract 0 n=⟨streamL d n⟩):=hex
          clear hex ho HO
          go_wp2
          go_ret
          rw [← HDD.out,← HEX.out]
          exact ⟨rfl,hb⟩
end Go.Proofs.YtmkllfekhehagagGreat.SP
namespace Go.Proofs.YtmkllfekhehagagGreat.SP
open Go.RowKit Go.Sort Go.Deep
end Go.Proofs.YtmkllfekhehagagGreat.SP
namespace Go.Proofs.YtmkllfekhehagagGreat.SP
open Go.RowKit Go.Sort Go.Deep
set_option maxHeartbeats 1000000 in
theorem refHash_any (s:ByteArray) (w:World) (hs:s.size≤1048576) :
 Calls Tryz.prog 156 #[.string s] w fun r w'=>r=.returned (.string ⟨hashL s.data.toList⟩)∧Below w.heap.size w w':=by
 go_enter Tryz.func156,Tryz.ntmps156
 go_wp2_with fail
 refine (refSponge_any s 6 32 _ hs (by decide)).mono ?_
 rintro r w1 ⟨rfl,hb⟩
 rw [← hash_stream]
 go_wp2
 go_ret
 exact ⟨rfl,hb⟩
end Go.Proofs.YtmkllfekhehagagGreat.SP
namespace Go.Proofs.YtmkllfekhehagagGreat.SP
open Go.RowKit Go.Sort Go.Deep
set_option maxHeartbeats 2000000 in
set_option maxRecDepth 100000 in
theorem refTag_any (label:ByteArray) (pa:Option Addr) (pcap:Nat) (ps:List ByteArray) (w:World) (hlab:label.size≤1048576) (hpl:ps.length≤1048576)
 (hP:ps.length=0∨∃ pb po,pa=some ⟨pb,po,none⟩∧∀ j,j < ps.length→w.cell? ⟨pb,po+j,none⟩=some (.string ps[j]!)) (hsz:∀ j,j < ps.length→(ps[j]!).size≤1048576)
 (htot:(framesL label.data.toList (ps.map fun s=>s.data.toList)).length≤1048576) :
 Calls Tryz.prog 117 #[.string label,.slice pa ps.length pcap] w fun e w'=>e=.returned (.string ⟨tagL label.data.toList (ps.map fun s=>s.data.toList)⟩)∧Below w.heap.size w w':=by
 obtain ⟨n,hn⟩:∃ n,ps.length=n:=⟨_,rfl⟩
 rw [hn]
 have Hn:Hid (ps.length=n):=hn
 have hn20:n≤1048576:=by omega
 clear hn
 go_enter Tryz.func117,Tryz.ntmps117
 go_wp2_with fail
 refine (Frame_any label _ hlab).mono ?_
 rintro e w1 ⟨o1,rfl,ho1,hb1⟩
 go_wp2
 go_loopg [5,6] n (fun g s5 s6 wr=>∃ (k:Nat) (o:ByteArray),k+g=n∧s6=.int .i64 k∧s5=.string o∧Below w.heap.size w wr∧Hid (o.data.toList=framesL label.data.toList ((ps.map fun s=>s.data.toList).take k)))
 case atStart =>
  refine ⟨0,o1,by omega,rfl,rfl,hb1,?_⟩
  rw [List.take_zero]
  unfold framesL
  rw [List.flatMap_nil,List.append_nil]
  exact ho1
 case round =>
  clear ho1 hb1
  obtain ⟨k,o,hk,rfl,rfl,hb,HE⟩:=hrel
  by_cases hlt:k < n
  · obtain ⟨pb,po,rfl,hPj⟩:∃ pb po,pa=some ⟨pb,po,none⟩∧∀ j,j < ps.length→w.cell? ⟨pb,po+j,none⟩=some (.string ps[j]!):=by
     rcases hP with h | h
     · have:=Hn.out;omega
     · exact h
    have hvc:=hPj k (by have:=Hn.out;omega)
    have hszk:=hsz k (by have:=Hn.out;omega)
    obtain ⟨s,hs⟩:∃ s,ps[k]! = s:=⟨_,rfl⟩
    rw [hs] at hvc hszk
    have HS:Hid (s=ps[k]!):=hs.symm
    have hvc':wr.cell? ⟨pb,po+k,none⟩=some (.string s):=by rw [hb.cell (p:=⟨pb,po+k,none⟩) (World.block_lt_of_cell? _ _ hvc)];exact hvc
    have l1:(k:Int) < (n:Int):=by omega
    clear hs hvc hPj
    go_wp2_with fail
    refine (Frame_any s _ hszk).mono ?_
    rintro e w2 ⟨o2,rfl,ho2,hb2⟩
    have HO2:Hid (o2.data.toList=frameL s.data.toList):=ho2
    have hos:o.size≤1048576:=by
     have h1:o.data.toList.length=o.size:=Array.length_toList
     rw [HE.out] at h1
     have:=framesL_take label.data.toList (ps.map fun s=>s.data.toList) k
     omega
    have ho2s:o2.size≤1048580:=by
     have h1:o2.data.toList.length=o2.size:=Array.length_toList
     have h2:s.data.toList.length=s.size:=Array.length_toList
     rw [ho2,frameL_length] at h1
     omega
    clear ho2
    go_wp2
    go_roundg (gk - 1)
    case measure=>omega
    case rel =>
     refine ⟨k+1,o++o2,by omega,by go_num,rfl,hb.trans (hb2.mono hb.size),?_⟩
     have hkl:k < (ps.map fun s=>s.data.toList).length:=by rw [List.length_map];have:=Hn.out;omega
     have hkl2:k < ps.length:=by have:=Hn.out;omega
     rw [take_snoc_getD _ k hkl,framesL_snoc,ByteArray.data_append,Array.toList_append,HE.out,HO2.out,getElem!_pos (ps.map fun s=>s.data.toList) k hkl,List.getElem_map,HS.out,getElem!_pos ps k hkl2]
     rfl
  · have l1:(n:Int)≤(k:Int):=by omega
    have HE2:Hid (o.data.toList=framesL label.data.toList (ps.map fun s=>s.data.toList)):=by
     have e1:(ps.map fun s=>s.data.toList).take k=ps.map fun s=>s.data.toList:=List.take_of_length_le (by rw [List.length_map];have:=Hn.out;omega)
     rw [e1] at HE
     exact HE
    have hos:o.size≤1048576:=by
     have h1:o.data.toList.length=o.size:=Array.length_toList
     rw [HE2.out] at h1
     omega
    clear HE
    go_wp2_with fail
    refine (refHash_any o _ hos).mono ?_
    rintro e w3 ⟨rfl,hb3⟩
    rw [HE2.out]
    go_wp2
    go_ret
    exact ⟨rfl,hb.trans (hb3.mono hb.size)⟩
end Go.Proofs.YtmkllfekhehagagGreat.SP
namespace Go.Proofs.YtmkllfekhehagagGreat.SP
open Go.RowKit Go.Sort Go.Deep
end Go.Proofs.YtmkllfekhehagagGreat.SP
namespace Go.Proofs.YtmkllfekhehagagGreat
open Go.RowKit Go.Sort Go.Deep
end Go.Proofs.YtmkllfekhehagagGreat
set_option linter.unusedVariables false
set_option linter.unusedSimpArgs false
namespace Go.Proofs.YtmkllfekhehagagGreat
open Go.RowKit Go.Sort
variable {P:Nat} [NeZero P]
def rl0:List Value:=[.int .u64 18446744069414583343,.int .u64 18446744073709551615,.int .u64 18446744073709551615,.int .u64 18446744073709551615,.int .u64 4294968273,.int .u64 0,.int .u64 0,.int .u64 0]
def rv0:Value:=.agg rl0.toArray
structure Fl3 (P:Nat) [NeZero P]:Prop extends Fld P where
 ref:RefP 18446744069414583343 18446744073709551615 18446744073709551615 18446744073709551615 4294968273 0 0 0 P
theorem rMake_c:Gives 112 #[.int .i64 0] rv0:=fun w=>(rMake0 w).mono (by rintro e w' ⟨v,rfl,hb,rfl⟩;exact ⟨_,rfl,hb,rfl⟩)
theorem rAdd_c (h:Fl3 P) (x y:Fin P):Gives 70 #[rv0,fv x,fv y] (fv (x+y)):=fun w =>
 (rAdd_R h.ref (h.four x) (h.four y) w).mono (by rintro e w' ⟨v,rfl,hb,hF⟩;exact ⟨_,rfl,hb,hF.nv⟩)
theorem rMul_c (h:Fl3 P) (x y:Fin P):Gives 71 #[rv0,fv x,fv y] (fv (x*y)):=fun w =>
 (rMul_R h.ref (h.four x) (h.four y) w).mono (by rintro e w' ⟨v,rfl,hb,hF⟩;exact ⟨_,rfl,hb,hF.nv⟩)
theorem rSub_c (h:Fl3 P) (x y:Fin P):Gives 78 #[rv0,fv x,fv y] (fv (x - y)):=fun w =>
 (rSub_any _ _ _ _ _ _ _ _ P _ _ x.val y.val h.ref (h.four x) (h.four y) y.isLt w).mono (by rintro e w' ⟨v,rfl,hb,hF⟩;rw [sub_fin] at hF;exact ⟨_,rfl,hb,hF.nv⟩)
theorem rInv_c (h:Fl3 P) (x:Fin P):Gives 76 #[rv0,fv x] (fv (EC.inv x)):=fun w =>
 (rInv_any _ _ _ _ _ _ _ _ P _ x.val h.ref (h.four x) w).mono (by rintro e w' ⟨v,rfl,hb,hF⟩;exact ⟨_,rfl,hb,hF.nv⟩)
theorem rZero_t (h:Fl3 P) {x:Fin P} (e:x=0):Gives 67 #[fv x] (.bool true):=fun w =>
 (rZero_any _ _ (h.four x) w).mono (by
  rintro e w' ⟨v,rfl,hb,rfl⟩
  refine ⟨_,rfl,hb,?_⟩
  rw [decide_eq_true (by rw [e,EC.val_zero])])
theorem rZero_f (h:Fl3 P) {x:Fin P} (e:¬ x=0):Gives 67 #[fv x] (.bool false):=fun w =>
 (rZero_any _ _ (h.four x) w).mono (by
  rintro e w' ⟨v,rfl,hb,rfl⟩
  refine ⟨_,rfl,hb,?_⟩
  rw [decide_eq_false (fun h=>e (Fin.ext (by rw [EC.val_zero];exact h)))])
theorem rSmall1_c (h:Fl3 P):Gives 121 #[.int .u64 1] (fv (1:Fin P)):=fun w =>
 (rSmall_any 1 (by decide) w).mono (by rintro e w' ⟨v,rfl,hb,rfl⟩;exact ⟨_,rfl,hb,one_fv h.toFld⟩)
theorem rSmall7_c (h:Fl3 P):Gives 121 #[.int .u64 7] (fv (7:Fin P)):=fun w =>
 (rSmall_any 7 (by decide) w).mono (by rintro e w' ⟨v,rfl,hb,rfl⟩;exact ⟨_,rfl,hb,seven_fv h.toFld⟩)
theorem eqR (h:Fld P) (x y:Fin P) (w:World):(binOp .eql 59 (fv x) (fv y)).run Tryz.prog w=.ok (.bool (decide (x=y))) w:=by
 have h1:(binOp .eql 59 (fv x) (fv y)).run Tryz.prog w=.ok (.bool (decide (x.val % 18446744073709551616=y.val % 18446744073709551616∧x.val / 18446744073709551616 % 18446744073709551616=y.val / 18446744073709551616 % 18446744073709551616∧x.val / 340282366920938463463374607431768211456 % 18446744073709551616=y.val / 340282366920938463463374607431768211456 % 18446744073709551616∧x.val / 6277101735386680763835789423207666416102355444464034512896 % 18446744073709551616=y.val / 6277101735386680763835789423207666416102355444464034512896 % 18446744073709551616))) w:=by
  show (binOp .eql 59 (.agg _) (.agg _)).run Tryz.prog w=_
  rw [run_eql_struct]
  have h2:=eqR_d 9998 (x.val % 18446744073709551616) (x.val / 18446744073709551616 % 18446744073709551616) (x.val / 340282366920938463463374607431768211456 % 18446744073709551616) (x.val / 6277101735386680763835789423207666416102355444464034512896 % 18446744073709551616) (y.val % 18446744073709551616) (y.val / 18446744073709551616 % 18446744073709551616) (y.val / 340282366920938463463374607431768211456 % 18446744073709551616) (y.val / 6277101735386680763835789423207666416102355444464034512896 % 18446744073709551616) w
  unfold wn
  rw [h2,Result.andThen_ok]
 rw [h1]
 simp only [wn_inj (h.top x) (h.top y),← Fin.ext_iff]
theorem eqR_t (h:Fld P) {x y:Fin P} (e:x=y) (w:World):(binOp .eql 59 (fv x) (fv y)).run Tryz.prog w=.ok (.bool true) w:=by rw [eqR h,decide_eq_true e]
theorem eqR_f (h:Fld P) {x y:Fin P} (e:¬ x=y) (w:World):(binOp .eql 59 (fv x) (fv y)).run Tryz.prog w=.ok (.bool false) w:=by rw [eqR h,decide_eq_false e]
theorem neR (h:Fld P) (x y:Fin P) (w:World):(binOp .neq 59 (fv x) (fv y)).run Tryz.prog w=.ok (.bool (!decide (x=y))) w:=by
 have h1:(binOp .neq 59 (fv x) (fv y)).run Tryz.prog w=.ok (.bool (!decide (x.val % 18446744073709551616=y.val % 18446744073709551616∧x.val / 18446744073709551616 % 18446744073709551616=y.val / 18446744073709551616 % 18446744073709551616∧x.val / 340282366920938463463374607431768211456 % 18446744073709551616=y.val / 340282366920938463463374607431768211456 % 18446744073709551616∧x.val / 6277101735386680763835789423207666416102355444464034512896 % 18446744073709551616=y.val / 6277101735386680763835789423207666416102355444464034512896 % 18446744073709551616))) w:=neqR _ _ _ _ _ _ _ _ w
 rw [h1]
 simp only [wn_inj (h.top x) (h.top y),← Fin.ext_iff]
theorem neR_f (h:Fld P) {x y:Fin P} (e:x=y) (w:World):(binOp .neq 59 (fv x) (fv y)).run Tryz.prog w=.ok (.bool false) w:=by rw [neR h,decide_eq_true e];rfl
theorem neR_t (h:Fld P) {x y:Fin P} (e:¬ x=y) (w:World):(binOp .neq 59 (fv x) (fv y)).run Tryz.prog w=.ok (.bool true) w:=by rw [neR h,decide_eq_false e];rfl
theorem ws_none:Value.agg #[.int .u64 0,.int .u64 0,.int .u64 0,.int .u64 0,.int .u64 1,.int .u64 0,.int .u64 0,.int .u64 0,.int .u64 0,.int .u64 0,.int .u64 0,.int .u64 0]=.agg (([.int .u64 0,.int .u64 0,.int .u64 0,.int .u64 0]:List Value)++(([.int .u64 1,.int .u64 0,.int .u64 0,.int .u64 0]:List Value)++([.int .u64 0,.int .u64 0,.int .u64 0,.int .u64 0]:List Value))).toArray:=rfl
theorem build_none (h:Fld P) (w:World):(Instr.build 63 #[(1,fv (1:Fin P))]).run Tryz.prog w=.ok (rv (0:Fin P) 1 0) w:=by
 unfold rv
 rw [← ws_zero,← ws_one h,← one_fv h,← ws_none]
 kernel_rfl
theorem rSqrt_y (h:Fl3 P) {m y:Fin P} (e:rt m=some y):Gives 133 #[rv0,fv m] (.tuple #[fv y,.bool true]):=fun w =>
 (rSqrt_any _ _ _ _ _ _ _ _ P _ m.val h.ref h.p4 (h.four m) w).mono (by rintro e' w' ⟨v,rfl,hb,hF⟩;exact ⟨_,rfl,hb,hF.val.1 y e⟩)
theorem rSqrt_n (h:Fl3 P) {m:Fin P} (e:rt m=none):Gives 133 #[rv0,fv m] (.tuple #[fv (0:Fin P),.bool false]):=fun w =>
 (rSqrt_any _ _ _ _ _ _ _ _ P _ m.val h.ref h.p4 (h.four m) w).mono (by rintro e' w' ⟨v,rfl,hb,hF⟩;exact ⟨_,rfl,hb,hF.val.2 e⟩)
end Go.Proofs.YtmkllfekhehagagGreat
namespace Go.Proofs.YtmkllfekhehagagGreat
open Go.RowKit Go.Sort
variable {P:Nat} [NeZero P]
theorem u33:(Tryz.prog.underlying 59).map (·.isRow)=some true:=by kernel_rfl
theorem i33:(Tryz.prog.info? 59).map (·.size)=some 4:=by kernel_rfl
theorem u56:(Tryz.prog.underlying 63).map (·.isRow)=some true:=by kernel_rfl
theorem i56:(Tryz.prog.info? 63).map (·.size)=some 12:=by kernel_rfl
theorem u35:(Tryz.prog.underlying 103).map (·.isRow)=some true:=by kernel_rfl
theorem i35:(Tryz.prog.info? 103).map (·.size)=some 8:=by kernel_rfl
def F69_0:List RG.It:=[.m 0 [] 0]
def F69_1:List RG.It:=[.c 1 [] rv0,.u [(1,0)] 0]
set_option maxHeartbeats 2000000 in
set_option maxRecDepth 100000 in
theorem F3_c :Gives 75 #[] rv0:=by
 intro w
 go_enter Tryz.func75,Tryz.ntmps75
 refine RG.M.enter [] 2 (by kernel_rfl) ?_
 intro a0 M0
 repeat refine wp_seq ?_
 refine M0.tx F69_0 [(0,(RG.z 8))] [] [(RG.z 8)] [(0,(.p 0 0))] (by kernel_rfl) (by kernel_rfl) ⟨RG.mk 0 103 fun _ _=>by kernel_rfl,trivial⟩ ?_
 intro j1 a1 w1 M1
 repeat refine wp_seq ?_
 refine M1.tx F69_1 [] [(0,1,rl0)] [rl0] [(0,(.p 0 0))] (by kernel_rfl) (by kernel_rfl) ⟨RG.cl (rMake_c) fun _ _=>by kernel_rfl,RG.pt i35 (by kernel_rfl),trivial⟩ ?_
 intro a2 w2 M2
 refine wp_ret ?_
 refine bodyPost_ret (v:=rv0) (RG.results_row M2.st 0 103 rfl 0 _ rfl (M2.at (s:=(.p 0 0)) (by kernel_rfl)) u35 i35) M2.sl.defers ?_
 exact ⟨_,rfl,M2.st.bel.below,rfl⟩
def F68_0:List RG.It:=[.m 0 [] 0]
def F68_1:List RG.It:=[.c 1 [] (fv (1:Fin P)),.x 2 [(1,0)] (rv (0:Fin P) (1:Fin P) (0:Fin P)),.u [(2,1)] 0]
set_option maxHeartbeats 2000000 in
set_option maxRecDepth 100000 in
theorem None_c (C:Fl3 P) :Gives 73 #[] (rv (0:Fin P) 1 0):=by
 intro w
 have hfin:((rv (0:Fin P) (1:Fin P) (0:Fin P)):Value)=(rv (0:Fin P) 1 0):=by
  subst_vars;rfl
 rw [← hfin]
 go_enter Tryz.func73,Tryz.ntmps73
 refine RG.M.enter [] 3 (by kernel_rfl) ?_
 intro a0 M0
 repeat refine wp_seq ?_
 refine M0.tx F68_0 [(0,(RG.z 12))] [] [(RG.z 12)] [(0,(.p 0 0))] (by kernel_rfl) (by kernel_rfl) ⟨RG.mk 0 63 fun _ _=>by kernel_rfl,trivial⟩ ?_
 intro j1 a1 w1 M1
 repeat refine wp_seq ?_
 refine M1.tx (F68_1 (P:=P)) [] [(0,2,(ws (0:Fin P)++(ws (1:Fin P)++(ws (0:Fin P)))))] [(ws (0:Fin P)++(ws (1:Fin P)++(ws (0:Fin P))))] [(0,(.p 0 0))] (by kernel_rfl) (by kernel_rfl) ⟨RG.cl (rSmall1_c C) fun _ _=>by kernel_rfl,RG.cert_build1 rfl 63 1 1 rfl (fv (1:Fin P)) (rv (0:Fin P) (1:Fin P) (0:Fin P)) rfl (RG.sx fun _=>by kernel_rfl) (build_none C.toFld),RG.pt i56 (by kernel_rfl),trivial⟩ ?_
 intro a2 w2 M2
 refine wp_ret ?_
 refine bodyPost_ret (v:=(rv (0:Fin P) (1:Fin P) (0:Fin P))) (RG.results_row M2.st 0 63 rfl 0 _ rfl (M2.at (s:=(.p 0 0)) (by kernel_rfl)) u56 i56) M2.sl.defers ?_
 exact ⟨_,rfl,M2.st.bel.below,rfl⟩
def F78t_0 (x:Fin P):List RG.It:=[.m 1 [] 0,.x 2 [] (.bool false)]
def F78t_1 (x z:Fin P):List RG.It:=[.s 3 [] (.p 0 8),.x 4 [(3,0)] (fv z),.c 5 [(4,1)] (.bool true),.x 2 [(5,2)] (.bool true)]
set_option maxHeartbeats 2000000 in
set_option maxRecDepth 100000 in
theorem Is_t_c (C:Fl3 P) (x y z:Fin P)(hz:z=0) :Gives 68 #[(rv x y z)] (.bool true):=by
 intro w
 go_enter Tryz.func68,Tryz.ntmps68
 refine RG.M.enter [(0,(.v (rv x y z)))] 6 (by kernel_rfl) ?_
 intro a0 M0
 repeat refine wp_seq ?_
 refine M0.tx (F78t_0 x) [(0,(ws x++(ws y++(ws z))))] [] [(ws x++(ws y++(ws z)))] [(1,(.p 0 0)),(2,(.v (.bool false)))] (by kernel_rfl) (by kernel_rfl) ⟨RG.mk 0 63 fun _ _=>by kernel_rfl,RG.st fun _ _=>by kernel_rfl,trivial⟩ ?_
 intro j1 a1 w1 M1
 repeat refine wp_seq ?_
 refine M1.tx0 (F78t_1 x z) [(2,(.v (.bool true)))] (by kernel_rfl) ⟨RG.st fun _ _=>by kernel_rfl,RG.ld u33 i33 (by kernel_rfl),RG.cl (rZero_t C hz) fun _ _=>by kernel_rfl,RG.st fun _ _=>by kernel_rfl,trivial⟩ ?_
 intro a2 w2 M2
 refine wp_ret ?_
 refine bodyPost_ret (v:=(.bool true)) (RG.results_t 2 rfl _ (M2.at (s:=(.v (.bool true))) (by kernel_rfl))) M2.sl.defers ?_
 exact ⟨_,rfl,M2.st.bel.below,rfl⟩
def F78f_0 (x:Fin P):List RG.It:=[.m 1 [] 0,.x 2 [] (.bool false)]
def F78f_1 (x z:Fin P):List RG.It:=[.s 3 [] (.p 0 8),.x 4 [(3,0)] (fv z),.c 5 [(4,1)] (.bool false),.x 2 [(5,2)] (.bool false)]
set_option maxHeartbeats 2000000 in
set_option maxRecDepth 100000 in
theorem Is_f_c (C:Fl3 P) (x y z:Fin P)(hz:¬ z=0) :Gives 68 #[(rv x y z)] (.bool false):=by
 intro w
 go_enter Tryz.func68,Tryz.ntmps68
 refine RG.M.enter [(0,(.v (rv x y z)))] 6 (by kernel_rfl) ?_
 intro a0 M0
 repeat refine wp_seq ?_
 refine M0.tx (F78f_0 x) [(0,(ws x++(ws y++(ws z))))] [] [(ws x++(ws y++(ws z)))] [(1,(.p 0 0)),(2,(.v (.bool false)))] (by kernel_rfl) (by kernel_rfl) ⟨RG.mk 0 63 fun _ _=>by kernel_rfl,RG.st fun _ _=>by kernel_rfl,trivial⟩ ?_
 intro j1 a1 w1 M1
 repeat refine wp_seq ?_
 refine M1.tx0 (F78f_1 x z) [(2,(.v (.bool false)))] (by kernel_rfl) ⟨RG.st fun _ _=>by kernel_rfl,RG.ld u33 i33 (by kernel_rfl),RG.cl (rZero_f C hz) fun _ _=>by kernel_rfl,RG.st fun _ _=>by kernel_rfl,trivial⟩ ?_
 intro a2 w2 M2
 refine wp_ret ?_
 refine bodyPost_ret (v:=(.bool false)) (RG.results_t 2 rfl _ (M2.at (s:=(.v (.bool false))) (by kernel_rfl))) M2.sl.defers ?_
 exact ⟨_,rfl,M2.st.bel.below,rfl⟩
def F80_0:List RG.It:=[.m 1 [] 0,.m 2 [] 1]
def F80_1 (x c1:Fin P):List RG.It:=[.c 11 [] rv0,.s 12 [] (.p 0 0),.x 13 [(12,1)] (fv x),.s 14 [] (.p 0 0),.x 15 [(14,3)] (fv x),.c 16 [(11,0),(13,2),(15,4)] (fv c1),.m 3 [] 2,.u [(3,6),(16,5)] 2]
def F80_2 (x c1 c2 c3:Fin P):List RG.It:=[.c 17 [] rv0,.c 18 [] rv0,.x 19 [] (fv c1),.x 20 [] (fv c1),.c 21 [(18,1),(19,2),(20,3)] (fv c2),.x 22 [] (fv c1),.c 23 [(17,0),(21,4),(22,5)] (fv c3),.m 4 [] 3,.u [(4,7),(23,6)] 3]
def F80_3 (x y z c4 c5:Fin P):List RG.It:=[.c 24 [] rv0,.c 25 [] rv0,.s 26 [] (.p 0 4),.x 27 [(26,2)] (fv y),.s 28 [] (.p 0 4),.x 29 [(28,4)] (fv y),.c 30 [(25,1),(27,3),(29,5)] (fv c4),.s 31 [] (.p 0 8),.x 32 [(31,7)] (fv z),.c 33 [(24,0),(30,6),(32,8)] (fv c5),.m 5 [] 4,.u [(5,10),(33,9)] 4]
def F80_4 (x c5 c6:Fin P):List RG.It:=[.c 34 [] rv0,.x 35 [] (fv c5),.x 36 [] (fv c5),.c 37 [(34,0),(35,1),(36,2)] (fv c6),.m 6 [] 5,.u [(6,4),(37,3)] 5]
def F80_5 (x c5 c6 c7:Fin P):List RG.It:=[.c 38 [] rv0,.x 39 [] (fv c6),.x 40 [] (fv c5),.c 41 [(38,0),(39,1),(40,2)] (fv c7),.m 7 [] 6,.u [(7,4),(41,3)] 6]
def F80_6 (x z c3 c6 c8 c9 c10 c11 c12:Fin P):List RG.It:=[.c 42 [] rv0,.c 43 [] rv0,.c 44 [] rv0,.x 45 [] (fv c3),.x 46 [] (fv c3),.c 47 [(44,2),(45,3),(46,4)] (fv c8),.s 48 [] (.p 0 8),.x 49 [(48,6)] (fv z),.c 50 [(43,1),(47,5),(49,7)] (fv c9),.c 51 [] rv0,.c 52 [] rv0,.s 53 [] (.p 0 0),.x 54 [(53,11)] (fv x),.s 55 [] (.p 0 0),.x 56 [(55,13)] (fv x),.c 57 [(52,10),(54,12),(56,14)] (fv c10),.x 58 [] (fv c6),.c 59 [(51,9),(57,15),(58,16)] (fv c11),.c 60 [(42,0),(50,8),(59,17)] (fv c12),.m 8 [] 7,.u [(8,19),(60,18)] 7]
def F80_7 (x c5 c12 c13:Fin P):List RG.It:=[.c 61 [] rv0,.x 62 [] (fv c5),.x 63 [] (fv c12),.c 64 [(61,0),(62,1),(63,2)] (fv c13),.m 9 [] 8,.u [(9,4),(64,3)] 8]
def F80_8 (x y c3 c6 c7 c12 c14 c15 c16 c17 c18:Fin P):List RG.It:=[.c 65 [] rv0,.c 66 [] rv0,.x 67 [] (fv c3),.c 68 [] rv0,.c 69 [] rv0,.s 70 [] (.p 0 0),.x 71 [(70,5)] (fv x),.x 72 [] (fv c6),.c 73 [(69,4),(71,6),(72,7)] (fv c14),.x 74 [] (fv c12),.c 75 [(68,3),(73,8),(74,9)] (fv c15),.c 76 [(66,1),(67,2),(75,10)] (fv c16),.c 77 [] rv0,.s 78 [] (.p 0 4),.x 79 [(78,13)] (fv y),.x 80 [] (fv c7),.c 81 [(77,12),(79,14),(80,15)] (fv c17),.c 82 [(65,0),(76,11),(81,16)] (fv c18),.m 10 [] 9,.u [(10,18),(82,17)] 9]
def F80_9 (x z c7 c13 c18 c19:Fin P):List RG.It:=[.x 83 [] (fv c13),.x 84 [] (fv c18),.c 85 [] rv0,.x 86 [] (fv c7),.s 87 [] (.p 0 8),.x 88 [(87,4)] (fv z),.c 89 [(85,2),(86,3),(88,5)] (fv c19),.x 90 [(83,0),(84,1),(89,6)] (rv c13 c18 c19),.u [(90,7)] 1]
set_option maxHeartbeats 2000000 in
set_option maxRecDepth 100000 in
theorem rdouble_c (C:Fl3 P) (x y z:Fin P):Gives 77 #[(rv x y z)] (rv ((EC.fdE y z)*(EC.fdT x y z)) ((EC.fdD x)*(x*((EC.fdE y z)*(EC.fdE y z)) - (EC.fdT x y z)) - y*((EC.fdE y z)*(EC.fdE y z)*(EC.fdE y z))) ((EC.fdE y z)*(EC.fdE y z)*(EC.fdE y z)*z)):=by
 intro w
 obtain ⟨c1,hc1⟩:∃ c,c=x*x:=⟨_,rfl⟩
 obtain ⟨c2,hc2⟩:∃ c,c=c1+c1:=⟨_,rfl⟩
 obtain ⟨c3,hc3⟩:∃ c,c=c2+c1:=⟨_,rfl⟩
 obtain ⟨c4,hc4⟩:∃ c,c=y+y:=⟨_,rfl⟩
 obtain ⟨c5,hc5⟩:∃ c,c=c4*z:=⟨_,rfl⟩
 obtain ⟨c6,hc6⟩:∃ c,c=c5*c5:=⟨_,rfl⟩
 obtain ⟨c7,hc7⟩:∃ c,c=c6*c5:=⟨_,rfl⟩
 obtain ⟨c8,hc8⟩:∃ c,c=c3*c3:=⟨_,rfl⟩
 obtain ⟨c9,hc9⟩:∃ c,c=c8*z:=⟨_,rfl⟩
 obtain ⟨c10,hc10⟩:∃ c,c=x+x:=⟨_,rfl⟩
 obtain ⟨c11,hc11⟩:∃ c,c=c10*c6:=⟨_,rfl⟩
 obtain ⟨c12,hc12⟩:∃ c,c=c9 - c11:=⟨_,rfl⟩
 obtain ⟨c13,hc13⟩:∃ c,c=c5*c12:=⟨_,rfl⟩
 obtain ⟨c14,hc14⟩:∃ c,c=x*c6:=⟨_,rfl⟩
 obtain ⟨c15,hc15⟩:∃ c,c=c14 - c12:=⟨_,rfl⟩
 obtain ⟨c16,hc16⟩:∃ c,c=c3*c15:=⟨_,rfl⟩
 obtain ⟨c17,hc17⟩:∃ c,c=y*c7:=⟨_,rfl⟩
 obtain ⟨c18,hc18⟩:∃ c,c=c16 - c17:=⟨_,rfl⟩
 obtain ⟨c19,hc19⟩:∃ c,c=c7*z:=⟨_,rfl⟩
 have hfin:((rv c13 c18 c19):Value)=(rv ((EC.fdE y z)*(EC.fdT x y z)) ((EC.fdD x)*(x*((EC.fdE y z)*(EC.fdE y z)) - (EC.fdT x y z)) - y*((EC.fdE y z)*(EC.fdE y z)*(EC.fdE y z))) ((EC.fdE y z)*(EC.fdE y z)*(EC.fdE y z)*z)):=by
  subst_vars;rfl
 rw [← hfin]
 go_enter Tryz.func77,Tryz.ntmps77
 refine RG.M.enter [(0,(.v (rv x y z)))] 91 (by kernel_rfl) ?_
 intro a0 M0
 repeat refine wp_seq ?_
 refine M0.tx F80_0 [(0,(ws x++(ws y++(ws z)))),(1,(RG.z 12))] [] [(ws x++(ws y++(ws z))),(RG.z 12)] [(1,(.p 0 0)),(2,(.p 1 0))] (by kernel_rfl) (by kernel_rfl) ⟨RG.mk 0 63 fun _ _=>by kernel_rfl,RG.mk 1 63 fun _ _=>by kernel_rfl,trivial⟩ ?_
 intro j1 i1 a1 w1 M1
 repeat refine wp_seq ?_
 refine M1.dr (by kernel_rfl) (F80_1 x c1) [(6,(RG.z 4))] [(2,7,(ws c1))] [(ws x++(ws y++(ws z))),(RG.z 12),(ws c1)] [(1,(.p 0 0)),(2,(.p 1 0)),(3,(.p 2 0))] (by kernel_rfl) (by kernel_rfl) ⟨RG.cl (F3_c) fun _ _=>by kernel_rfl,RG.st fun _ _=>by kernel_rfl,RG.ld u33 i33 (by kernel_rfl),RG.st fun _ _=>by kernel_rfl,RG.ld u33 i33 (by kernel_rfl),RG.cl ((rMul_c C x x).e hc1) fun _ _=>by kernel_rfl,RG.mk 2 59 fun _ _=>by kernel_rfl,RG.pt i33 (by kernel_rfl),trivial⟩ ?_
 intro j2 a2 w2 M2
 repeat refine wp_seq ?_
 refine M2.dr (by kernel_rfl) (F80_2 x c1 c2 c3) [(7,(RG.z 4))] [(3,8,(ws c3))] [(ws x++(ws y++(ws z))),(RG.z 12),(ws c1),(ws c3)] [(1,(.p 0 0)),(2,(.p 1 0)),(4,(.p 3 0))] (by kernel_rfl) (by kernel_rfl) ⟨RG.cl (F3_c) fun _ _=>by kernel_rfl,RG.cl (F3_c) fun _ _=>by kernel_rfl,RG.ld u33 i33 (by kernel_rfl),RG.ld u33 i33 (by kernel_rfl),RG.cl ((rAdd_c C c1 c1).e hc2) fun _ _=>by kernel_rfl,RG.ld u33 i33 (by kernel_rfl),RG.cl ((rAdd_c C c2 c1).e hc3) fun _ _=>by kernel_rfl,RG.mk 3 59 fun _ _=>by kernel_rfl,RG.pt i33 (by kernel_rfl),trivial⟩ ?_
 intro j3 a3 w3 M3
 repeat refine wp_seq ?_
 refine M3.dr (by kernel_rfl) (F80_3 x y z c4 c5) [(10,(RG.z 4))] [(4,11,(ws c5))] [(ws x++(ws y++(ws z))),(RG.z 12),(ws c1),(ws c3),(ws c5)] [(1,(.p 0 0)),(2,(.p 1 0)),(4,(.p 3 0)),(5,(.p 4 0))] (by kernel_rfl) (by kernel_rfl) ⟨RG.cl (F3_c) fun _ _=>by kernel_rfl,RG.cl (F3_c) fun _ _=>by kernel_rfl,RG.st fun _ _=>by kernel_rfl,RG.ld u33 i33 (by kernel_rfl),RG.st fun _ _=>by kernel_rfl,RG.ld u33 i33 (by kernel_rfl),RG.cl ((rAdd_c C y y).e hc4) fun _ _=>by kernel_rfl,RG.st fun _ _=>by kernel_rfl,RG.ld u33 i33 (by kernel_rfl),RG.cl ((rMul_c C c4 z).e hc5) fun _ _=>by kernel_rfl,RG.mk 4 59 fun _ _=>by kernel_rfl,RG.pt i33 (by kernel_rfl),trivial⟩ ?_
 intro j4 a4 w4 M4
 repeat refine wp_seq ?_
 refine M4.dr (by kernel_rfl) (F80_4 x c5 c6) [(4,(RG.z 4))] [(5,5,(ws c6))] [(ws x++(ws y++(ws z))),(RG.z 12),(ws c1),(ws c3),(ws c5),(ws c6)] [(1,(.p 0 0)),(2,(.p 1 0)),(4,(.p 3 0)),(5,(.p 4 0)),(6,(.p 5 0))] (by kernel_rfl) (by kernel_rfl) ⟨RG.cl (F3_c) fun _ _=>by kernel_rfl,RG.ld u33 i33 (by kernel_rfl),RG.ld u33 i33 (by kernel_rfl),RG.cl ((rMul_c C c5 c5).e hc6) fun _ _=>by kernel_rfl,RG.mk 5 59 fun _ _=>by kernel_rfl,RG.pt i33 (by kernel_rfl),trivial⟩ ?_
 intro j5 a5 w5 M5
 repeat refine wp_seq ?_
 refine M5.dr (by kernel_rfl) (F80_5 x c5 c6 c7) [(4,(RG.z 4))] [(6,5,(ws c7))] [(ws x++(ws y++(ws z))),(RG.z 12),(ws c1),(ws c3),(ws c5),(ws c6),(ws c7)] [(1,(.p 0 0)),(2,(.p 1 0)),(4,(.p 3 0)),(5,(.p 4 0)),(6,(.p 5 0)),(7,(.p 6 0))] (by kernel_rfl) (by kernel_rfl) ⟨RG.cl (F3_c) fun _ _=>by kernel_rfl,RG.ld u33 i33 (by kernel_rfl),RG.ld u33 i33 (by kernel_rfl),RG.cl ((rMul_c C c6 c5).e hc7) fun _ _=>by kernel_rfl,RG.mk 6 59 fun _ _=>by kernel_rfl,RG.pt i33 (by kernel_rfl),trivial⟩ ?_
 intro j6 a6 w6 M6
 repeat refine wp_seq ?_
 refine M6.dr (by kernel_rfl) (F80_6 x z c3 c6 c8 c9 c10 c11 c12) [(19,(RG.z 4))] [(7,20,(ws c12))] [(ws x++(ws y++(ws z))),(RG.z 12),(ws c1),(ws c3),(ws c5),(ws c6),(ws c7),(ws c12)] [(1,(.p 0 0)),(2,(.p 1 0)),(4,(.p 3 0)),(5,(.p 4 0)),(6,(.p 5 0)),(7,(.p 6 0)),(8,(.p 7 0))] (by kernel_rfl) (by kernel_rfl) ⟨RG.cl (F3_c) fun _ _=>by kernel_rfl,RG.cl (F3_c) fun _ _=>by kernel_rfl,RG.cl (F3_c) fun _ _=>by kernel_rfl,RG.ld u33 i33 (by kernel_rfl),RG.ld u33 i33 (by kernel_rfl),RG.cl ((rMul_c C c3 c3).e hc8) fun _ _=>by kernel_rfl,RG.st fun _ _=>by kernel_rfl,RG.ld u33 i33 (by kernel_rfl),RG.cl ((rMul_c C c8 z).e hc9) fun _ _=>by kernel_rfl,RG.cl (F3_c) fun _ _=>by kernel_rfl,RG.cl (F3_c) fun _ _=>by kernel_rfl,RG.st fun _ _=>by kernel_rfl,RG.ld u33 i33 (by kernel_rfl),RG.st fun _ _=>by kernel_rfl,RG.ld u33 i33 (by kernel_rfl),RG.cl ((rAdd_c C x x).e hc10) fun _ _=>by kernel_rfl,RG.ld u33 i33 (by kernel_rfl),RG.cl ((rMul_c C c10 c6).e hc11) fun _ _=>by kernel_rfl,RG.cl ((rSub_c C c9 c11).e hc12) fun _ _=>by kernel_rfl,RG.mk 7 59 fun _ _=>by kernel_rfl,RG.pt i33 (by kernel_rfl),trivial⟩ ?_
 intro j7 a7 w7 M7
 repeat refine wp_seq ?_
 refine M7.dr (by kernel_rfl) (F80_7 x c5 c12 c13) [(4,(RG.z 4))] [(8,5,(ws c13))] [(ws x++(ws y++(ws z))),(RG.z 12),(ws c1),(ws c3),(ws c5),(ws c6),(ws c7),(ws c12),(ws c13)] [(1,(.p 0 0)),(2,(.p 1 0)),(4,(.p 3 0)),(6,(.p 5 0)),(7,(.p 6 0)),(8,(.p 7 0)),(9,(.p 8 0))] (by kernel_rfl) (by kernel_rfl) ⟨RG.cl (F3_c) fun _ _=>by kernel_rfl,RG.ld u33 i33 (by kernel_rfl),RG.ld u33 i33 (by kernel_rfl),RG.cl ((rMul_c C c5 c12).e hc13) fun _ _=>by kernel_rfl,RG.mk 8 59 fun _ _=>by kernel_rfl,RG.pt i33 (by kernel_rfl),trivial⟩ ?_
 intro j8 a8 w8 M8
 repeat refine wp_seq ?_
 refine M8.dr (by kernel_rfl) (F80_8 x y c3 c6 c7 c12 c14 c15 c16 c17 c18) [(18,(RG.z 4))] [(9,19,(ws c18))] [(ws x++(ws y++(ws z))),(RG.z 12),(ws c1),(ws c3),(ws c5),(ws c6),(ws c7),(ws c12),(ws c13),(ws c18)] [(1,(.p 0 0)),(2,(.p 1 0)),(7,(.p 6 0)),(9,(.p 8 0)),(10,(.p 9 0))] (by kernel_rfl) (by kernel_rfl) ⟨RG.cl (F3_c) fun _ _=>by kernel_rfl,RG.cl (F3_c) fun _ _=>by kernel_rfl,RG.ld u33 i33 (by kernel_rfl),RG.cl (F3_c) fun _ _=>by kernel_rfl,RG.cl (F3_c) fun _ _=>by kernel_rfl,RG.st fun _ _=>by kernel_rfl,RG.ld u33 i33 (by kernel_rfl),RG.ld u33 i33 (by kernel_rfl),RG.cl ((rMul_c C x c6).e hc14) fun _ _=>by kernel_rfl,RG.ld u33 i33 (by kernel_rfl),RG.cl ((rSub_c C c14 c12).e hc15) fun _ _=>by kernel_rfl,RG.cl ((rMul_c C c3 c15).e hc16) fun _ _=>by kernel_rfl,RG.cl (F3_c) fun _ _=>by kernel_rfl,RG.st fun _ _=>by kernel_rfl,RG.ld u33 i33 (by kernel_rfl),RG.ld u33 i33 (by kernel_rfl),RG.cl ((rMul_c C y c7).e hc17) fun _ _=>by kernel_rfl,RG.cl ((rSub_c C c16 c17).e hc18) fun _ _=>by kernel_rfl,RG.mk 9 59 fun _ _=>by kernel_rfl,RG.pt i33 (by kernel_rfl),trivial⟩ ?_
 intro j9 a9 w9 M9
 repeat refine wp_seq ?_
 refine M9.dr (by kernel_rfl) (F80_9 x z c7 c13 c18 c19) [] [(1,8,(ws c13++(ws c18++(ws c19))))] [(ws x++(ws y++(ws z))),(ws c13++(ws c18++(ws c19))),(ws c1),(ws c3),(ws c5),(ws c6),(ws c7),(ws c12),(ws c13),(ws c18)] [(2,(.p 1 0))] (by kernel_rfl) (by kernel_rfl) ⟨RG.ld u33 i33 (by kernel_rfl),RG.ld u33 i33 (by kernel_rfl),RG.cl (F3_c) fun _ _=>by kernel_rfl,RG.ld u33 i33 (by kernel_rfl),RG.st fun _ _=>by kernel_rfl,RG.ld u33 i33 (by kernel_rfl),RG.cl ((rMul_c C c7 z).e hc19) fun _ _=>by kernel_rfl,RG.st fun _ _=>by kernel_rfl,RG.pt i56 (by kernel_rfl),trivial⟩ ?_
 intro a10 w10 M10
 refine wp_ret ?_
 refine bodyPost_ret (v:=(rv c13 c18 c19)) (RG.results_row M10.st 2 63 rfl 1 _ rfl (M10.at (s:=(.p 1 0)) (by kernel_rfl)) u56 i56) M10.sl.defers ?_
 exact ⟨_,rfl,M10.st.bel.below,rfl⟩
def F39a_0:List RG.It:=[.m 2 [] 0,.m 3 [] 1,.m 4 [] 2]
def F39a_1 (x1 y1 z1:Fin P):List RG.It:=[.x 16 [] (rv x1 y1 z1),.c 17 [(16,0)] (.bool true),.x 5 [(17,1)] (.bool true)]
def F39a_2:List RG.It:=[.x 18 [] (.bool true)]
def F39a_3 (x2 y2 z2:Fin P):List RG.It:=[.x 19 [] (rv x2 y2 z2),.u [(19,0)] 2]
set_option maxHeartbeats 2000000 in
set_option maxRecDepth 100000 in
theorem rPlus_a_c (C:Fl3 P) (x1 y1 z1 x2 y2 z2:Fin P)(hz1:z1=0) :Gives 35 #[(rv x1 y1 z1),(rv x2 y2 z2)] (rv x2 y2 z2):=by
 intro w
 go_enter Tryz.func35,Tryz.ntmps35
 refine RG.M.enter [(0,(.v (rv x1 y1 z1))),(1,(.v (rv x2 y2 z2)))] 127 (by kernel_rfl) ?_
 intro a0 M0
 repeat refine wp_seq ?_
 refine M0.tx F39a_0 [(0,(ws x1++(ws y1++(ws z1)))),(1,(ws x2++(ws y2++(ws z2)))),(2,(RG.z 12))] [] [(ws x1++(ws y1++(ws z1))),(ws x2++(ws y2++(ws z2))),(RG.z 12)] [(2,(.p 0 0)),(3,(.p 1 0)),(4,(.p 2 0))] (by kernel_rfl) (by kernel_rfl) ⟨RG.mk 0 63 fun _ _=>by kernel_rfl,RG.mk 1 63 fun _ _=>by kernel_rfl,RG.mk 2 63 fun _ _=>by kernel_rfl,trivial⟩ ?_
 intro j1 i1 m1 a1 w1 M1
 repeat refine wp_seq ?_
 refine M1.tx0 (F39a_1 x1 y1 z1) [(3,(.p 1 0)),(4,(.p 2 0)),(5,(.v (.bool true)))] (by kernel_rfl) ⟨RG.ld u56 i56 (by kernel_rfl),RG.cl (Is_t_c C x1 y1 z1 hz1) fun _ _=>by kernel_rfl,RG.st fun _ _=>by kernel_rfl,trivial⟩ ?_
 intro a2 w2 M2
 repeat refine wp_seq ?_
 refine M2.tx0 F39a_2 [(3,(.p 1 0)),(4,(.p 2 0)),(18,(.v (.bool true)))] (by kernel_rfl) ⟨RG.st fun _ _=>by kernel_rfl,trivial⟩ ?_
 intro a3 w3 M3
 repeat refine wp_seq ?_
 refine wp_cond_true (M3.ev (by kernel_rfl)) ?_
 repeat refine wp_seq ?_
 refine M3.tx (F39a_3 x2 y2 z2) [] [(2,1,(ws x2++(ws y2++(ws z2))))] [(ws x1++(ws y1++(ws z1))),(ws x2++(ws y2++(ws z2))),(ws x2++(ws y2++(ws z2)))] [(4,(.p 2 0))] (by kernel_rfl) (by kernel_rfl) ⟨RG.ld u56 i56 (by kernel_rfl),RG.pt i56 (by kernel_rfl),trivial⟩ ?_
 intro a4 w4 M4
 refine wp_ret ?_
 refine bodyPost_ret (v:=(rv x2 y2 z2)) (RG.results_row M4.st 4 63 rfl 2 _ rfl (M4.at (s:=(.p 2 0)) (by kernel_rfl)) u56 i56) M4.sl.defers ?_
 exact ⟨_,rfl,M4.st.bel.below,rfl⟩
def F39b_0:List RG.It:=[.m 2 [] 0,.m 3 [] 1,.m 4 [] 2]
def F39b_1 (x1 y1 z1:Fin P):List RG.It:=[.x 16 [] (rv x1 y1 z1),.c 17 [(16,0)] (.bool false),.x 5 [(17,1)] (.bool false)]
def F39b_2:List RG.It:=[.x 18 [] (.bool false)]
def F39b_4 (x2 y2 z2:Fin P):List RG.It:=[.x 20 [] (rv x2 y2 z2),.c 21 [(20,0)] (.bool true),.x 5 [(21,1)] (.bool true)]
def F39b_5:List RG.It:=[.x 22 [] (.bool true)]
def F39b_6 (x1 y1 z1:Fin P):List RG.It:=[.x 23 [] (rv x1 y1 z1),.u [(23,0)] 2]
set_option maxHeartbeats 2000000 in
set_option maxRecDepth 100000 in
theorem rPlus_b_c (C:Fl3 P) (x1 y1 z1 x2 y2 z2:Fin P)(hz1:¬ z1=0) (hz2:z2=0) :Gives 35 #[(rv x1 y1 z1),(rv x2 y2 z2)] (rv x1 y1 z1):=by
 intro w
 go_enter Tryz.func35,Tryz.ntmps35
 refine RG.M.enter [(0,(.v (rv x1 y1 z1))),(1,(.v (rv x2 y2 z2)))] 127 (by kernel_rfl) ?_
 intro a0 M0
 repeat refine wp_seq ?_
 refine M0.tx F39b_0 [(0,(ws x1++(ws y1++(ws z1)))),(1,(ws x2++(ws y2++(ws z2)))),(2,(RG.z 12))] [] [(ws x1++(ws y1++(ws z1))),(ws x2++(ws y2++(ws z2))),(RG.z 12)] [(2,(.p 0 0)),(3,(.p 1 0)),(4,(.p 2 0))] (by kernel_rfl) (by kernel_rfl) ⟨RG.mk 0 63 fun _ _=>by kernel_rfl,RG.mk 1 63 fun _ _=>by kernel_rfl,RG.mk 2 63 fun _ _=>by kernel_rfl,trivial⟩ ?_
 intro j1 i1 m1 a1 w1 M1
 repeat refine wp_seq ?_
 refine M1.tx0 (F39b_1 x1 y1 z1) [(2,(.p 0 0)),(3,(.p 1 0)),(4,(.p 2 0)),(5,(.v (.bool false)))] (by kernel_rfl) ⟨RG.ld u56 i56 (by kernel_rfl),RG.cl (Is_f_c C x1 y1 z1 hz1) fun _ _=>by kernel_rfl,RG.st fun _ _=>by kernel_rfl,trivial⟩ ?_
 intro a2 w2 M2
 repeat refine wp_seq ?_
 refine M2.tx0 F39b_2 [(2,(.p 0 0)),(3,(.p 1 0)),(4,(.p 2 0)),(5,(.v (.bool false))),(18,(.v (.bool false)))] (by kernel_rfl) ⟨RG.st fun _ _=>by kernel_rfl,trivial⟩ ?_
 intro a3 w3 M3
 repeat refine wp_seq ?_
 refine wp_cond_false (M3.ev (by kernel_rfl)) ?_
 refine wp_skip ?_
 repeat refine wp_seq ?_
 refine M3.tx0 (F39b_4 x2 y2 z2) [(2,(.p 0 0)),(4,(.p 2 0)),(5,(.v (.bool true)))] (by kernel_rfl) ⟨RG.ld u56 i56 (by kernel_rfl),RG.cl (Is_t_c C x2 y2 z2 hz2) fun _ _=>by kernel_rfl,RG.st fun _ _=>by kernel_rfl,trivial⟩ ?_
 intro a4 w4 M4
 repeat refine wp_seq ?_
 refine M4.tx0 F39b_5 [(2,(.p 0 0)),(4,(.p 2 0)),(22,(.v (.bool true)))] (by kernel_rfl) ⟨RG.st fun _ _=>by kernel_rfl,trivial⟩ ?_
 intro a5 w5 M5
 repeat refine wp_seq ?_
 refine wp_cond_true (M5.ev (by kernel_rfl)) ?_
 repeat refine wp_seq ?_
 refine M5.tx (F39b_6 x1 y1 z1) [] [(2,1,(ws x1++(ws y1++(ws z1))))] [(ws x1++(ws y1++(ws z1))),(ws x2++(ws y2++(ws z2))),(ws x1++(ws y1++(ws z1)))] [(4,(.p 2 0))] (by kernel_rfl) (by kernel_rfl) ⟨RG.ld u56 i56 (by kernel_rfl),RG.pt i56 (by kernel_rfl),trivial⟩ ?_
 intro a6 w6 M6
 refine wp_ret ?_
 refine bodyPost_ret (v:=(rv x1 y1 z1)) (RG.results_row M6.st 4 63 rfl 2 _ rfl (M6.at (s:=(.p 2 0)) (by kernel_rfl)) u56 i56) M6.sl.defers ?_
 exact ⟨_,rfl,M6.st.bel.below,rfl⟩
def F39c_0:List RG.It:=[.m 2 [] 0,.m 3 [] 1,.m 4 [] 2]
def F39c_1 (x1 y1 z1:Fin P):List RG.It:=[.x 16 [] (rv x1 y1 z1),.c 17 [(16,0)] (.bool false),.x 5 [(17,1)] (.bool false)]
def F39c_2:List RG.It:=[.x 18 [] (.bool false)]
def F39c_4 (x2 y2 z2:Fin P):List RG.It:=[.x 20 [] (rv x2 y2 z2),.c 21 [(20,0)] (.bool false),.x 5 [(21,1)] (.bool false)]
def F39c_5:List RG.It:=[.x 22 [] (.bool false)]
def F39c_7 (z1 y2 c1:Fin P):List RG.It:=[.c 24 [] rv0,.s 25 [] (.p 1 4),.x 26 [(25,1)] (fv y2),.s 27 [] (.p 0 8),.x 28 [(27,3)] (fv z1),.c 29 [(24,0),(26,2),(28,4)] (fv c1),.m 6 [] 3,.u [(6,6),(29,5)] 3]
def F39c_8 (z1 x2 c2:Fin P):List RG.It:=[.c 30 [] rv0,.s 31 [] (.p 1 0),.x 32 [(31,1)] (fv x2),.s 33 [] (.p 0 8),.x 34 [(33,3)] (fv z1),.c 35 [(30,0),(32,2),(34,4)] (fv c2),.m 7 [] 4,.u [(7,6),(35,5)] 4]
def F39c_9 (y1 z2 c3:Fin P):List RG.It:=[.c 36 [] rv0,.s 37 [] (.p 0 4),.x 38 [(37,1)] (fv y1),.s 39 [] (.p 1 8),.x 40 [(39,3)] (fv z2),.c 41 [(36,0),(38,2),(40,4)] (fv c3),.m 8 [] 5,.u [(8,6),(41,5)] 5]
def F39c_10 (x1 z2 c4:Fin P):List RG.It:=[.c 42 [] rv0,.s 43 [] (.p 0 0),.x 44 [(43,1)] (fv x1),.s 45 [] (.p 1 8),.x 46 [(45,3)] (fv z2),.c 47 [(42,0),(44,2),(46,4)] (fv c4),.m 9 [] 6,.u [(9,6),(47,5)] 6]
def F39c_11 (c2 c4:Fin P):List RG.It:=[.x 48 [] (fv c2),.x 49 [] (fv c4),.x 50 [(48,0),(49,1)] (.bool true)]
def F39c_12 (c1 c3:Fin P):List RG.It:=[.x 51 [] (fv c1),.x 52 [] (fv c3),.x 53 [(51,0),(52,1)] (.bool true),.x 54 [(53,2)] (.bool true),⟨some 55,[],(.v undef),.pass⟩,⟨some 56,[],(.v undef),.pass⟩,.x 57 [(54,3),(56,5)] (.bool true)]
def F39c_13:List RG.It:=[.c 58 [] (rv (0:Fin P) (1:Fin P) (0:Fin P)),.u [(58,0)] 2]
set_option maxHeartbeats 2000000 in
set_option maxRecDepth 100000 in
theorem rPlus_c_c (C:Fl3 P) (x1 y1 z1 x2 y2 z2:Fin P)(hz1:¬ z1=0) (hz2:¬ z2=0) (hv:x2*z1=x1*z2) (hu:¬ y2*z1=y1*z2) :Gives 35 #[(rv x1 y1 z1),(rv x2 y2 z2)] (rv (0:Fin P) 1 0):=by
 intro w
 obtain ⟨c1,hc1⟩:∃ c,c=y2*z1:=⟨_,rfl⟩
 obtain ⟨c2,hc2⟩:∃ c,c=x2*z1:=⟨_,rfl⟩
 obtain ⟨c3,hc3⟩:∃ c,c=y1*z2:=⟨_,rfl⟩
 obtain ⟨c4,hc4⟩:∃ c,c=x1*z2:=⟨_,rfl⟩
 have hfin:((rv (0:Fin P) (1:Fin P) (0:Fin P)):Value)=(rv (0:Fin P) 1 0):=by
  subst_vars;rfl
 rw [← hfin]
 go_enter Tryz.func35,Tryz.ntmps35
 refine RG.M.enter [(0,(.v (rv x1 y1 z1))),(1,(.v (rv x2 y2 z2)))] 127 (by kernel_rfl) ?_
 intro a0 M0
 repeat refine wp_seq ?_
 refine M0.tx F39c_0 [(0,(ws x1++(ws y1++(ws z1)))),(1,(ws x2++(ws y2++(ws z2)))),(2,(RG.z 12))] [] [(ws x1++(ws y1++(ws z1))),(ws x2++(ws y2++(ws z2))),(RG.z 12)] [(2,(.p 0 0)),(3,(.p 1 0)),(4,(.p 2 0))] (by kernel_rfl) (by kernel_rfl) ⟨RG.mk 0 63 fun _ _=>by kernel_rfl,RG.mk 1 63 fun _ _=>by kernel_rfl,RG.mk 2 63 fun _ _=>by kernel_rfl,trivial⟩ ?_
 intro j1 i1 m1 a1 w1 M1
 repeat refine wp_seq ?_
 refine M1.tx0 (F39c_1 x1 y1 z1) [(2,(.p 0 0)),(3,(.p 1 0)),(4,(.p 2 0)),(5,(.v (.bool false)))] (by kernel_rfl) ⟨RG.ld u56 i56 (by kernel_rfl),RG.cl (Is_f_c C x1 y1 z1 hz1) fun _ _=>by kernel_rfl,RG.st fun _ _=>by kernel_rfl,trivial⟩ ?_
 intro a2 w2 M2
 repeat refine wp_seq ?_
 refine M2.tx0 F39c_2 [(2,(.p 0 0)),(3,(.p 1 0)),(4,(.p 2 0)),(5,(.v (.bool false))),(18,(.v (.bool false)))] (by kernel_rfl) ⟨RG.st fun _ _=>by kernel_rfl,trivial⟩ ?_
 intro a3 w3 M3
 repeat refine wp_seq ?_
 refine wp_cond_false (M3.ev (by kernel_rfl)) ?_
 refine wp_skip ?_
 repeat refine wp_seq ?_
 refine M3.tx0 (F39c_4 x2 y2 z2) [(2,(.p 0 0)),(3,(.p 1 0)),(4,(.p 2 0)),(5,(.v (.bool false)))] (by kernel_rfl) ⟨RG.ld u56 i56 (by kernel_rfl),RG.cl (Is_f_c C x2 y2 z2 hz2) fun _ _=>by kernel_rfl,RG.st fun _ _=>by kernel_rfl,trivial⟩ ?_
 intro a4 w4 M4
 repeat refine wp_seq ?_
 refine M4.tx0 F39c_5 [(2,(.p 0 0)),(3,(.p 1 0)),(4,(.p 2 0)),(22,(.v (.bool false)))] (by kernel_rfl) ⟨RG.st fun _ _=>by kernel_rfl,trivial⟩ ?_
 intro a5 w5 M5
 repeat refine wp_seq ?_
 refine wp_cond_false (M5.ev (by kernel_rfl)) ?_
 refine wp_skip ?_
 repeat refine wp_seq ?_
 refine M5.dr (by kernel_rfl) (F39c_7 z1 y2 c1) [(6,(RG.z 4))] [(3,7,(ws c1))] [(ws x1++(ws y1++(ws z1))),(ws x2++(ws y2++(ws z2))),(RG.z 12),(ws c1)] [(2,(.p 0 0)),(3,(.p 1 0)),(4,(.p 2 0)),(6,(.p 3 0))] (by kernel_rfl) (by kernel_rfl) ⟨RG.cl (F3_c) fun _ _=>by kernel_rfl,RG.st fun _ _=>by kernel_rfl,RG.ld u33 i33 (by kernel_rfl),RG.st fun _ _=>by kernel_rfl,RG.ld u33 i33 (by kernel_rfl),RG.cl ((rMul_c C y2 z1).e hc1) fun _ _=>by kernel_rfl,RG.mk 3 59 fun _ _=>by kernel_rfl,RG.pt i33 (by kernel_rfl),trivial⟩ ?_
 intro j6 a6 w6 M6
 repeat refine wp_seq ?_
 refine M6.dr (by kernel_rfl) (F39c_8 z1 x2 c2) [(6,(RG.z 4))] [(4,7,(ws c2))] [(ws x1++(ws y1++(ws z1))),(ws x2++(ws y2++(ws z2))),(RG.z 12),(ws c1),(ws c2)] [(2,(.p 0 0)),(3,(.p 1 0)),(4,(.p 2 0)),(6,(.p 3 0)),(7,(.p 4 0))] (by kernel_rfl) (by kernel_rfl) ⟨RG.cl (F3_c) fun _ _=>by kernel_rfl,RG.st fun _ _=>by kernel_rfl,RG.ld u33 i33 (by kernel_rfl),RG.st fun _ _=>by kernel_rfl,RG.ld u33 i33 (by kernel_rfl),RG.cl ((rMul_c C x2 z1).e hc2) fun _ _=>by kernel_rfl,RG.mk 4 59 fun _ _=>by kernel_rfl,RG.pt i33 (by kernel_rfl),trivial⟩ ?_
 intro j7 a7 w7 M7
 repeat refine wp_seq ?_
 refine M7.dr (by kernel_rfl) (F39c_9 y1 z2 c3) [(6,(RG.z 4))] [(5,7,(ws c3))] [(ws x1++(ws y1++(ws z1))),(ws x2++(ws y2++(ws z2))),(RG.z 12),(ws c1),(ws c2),(ws c3)] [(2,(.p 0 0)),(3,(.p 1 0)),(4,(.p 2 0)),(6,(.p 3 0)),(7,(.p 4 0)),(8,(.p 5 0))] (by kernel_rfl) (by kernel_rfl) ⟨RG.cl (F3_c) fun _ _=>by kernel_rfl,RG.st fun _ _=>by kernel_rfl,RG.ld u33 i33 (by kernel_rfl),RG.st fun _ _=>by kernel_rfl,RG.ld u33 i33 (by kernel_rfl),RG.cl ((rMul_c C y1 z2).e hc3) fun _ _=>by kernel_rfl,RG.mk 5 59 fun _ _=>by kernel_rfl,RG.pt i33 (by kernel_rfl),trivial⟩ ?_
 intro j8 a8 w8 M8
 repeat refine wp_seq ?_
 refine M8.dr (by kernel_rfl) (F39c_10 x1 z2 c4) [(6,(RG.z 4))] [(6,7,(ws c4))] [(ws x1++(ws y1++(ws z1))),(ws x2++(ws y2++(ws z2))),(RG.z 12),(ws c1),(ws c2),(ws c3),(ws c4)] [(4,(.p 2 0)),(6,(.p 3 0)),(7,(.p 4 0)),(8,(.p 5 0)),(9,(.p 6 0))] (by kernel_rfl) (by kernel_rfl) ⟨RG.cl (F3_c) fun _ _=>by kernel_rfl,RG.st fun _ _=>by kernel_rfl,RG.ld u33 i33 (by kernel_rfl),RG.st fun _ _=>by kernel_rfl,RG.ld u33 i33 (by kernel_rfl),RG.cl ((rMul_c C x1 z2).e hc4) fun _ _=>by kernel_rfl,RG.mk 6 59 fun _ _=>by kernel_rfl,RG.pt i33 (by kernel_rfl),trivial⟩ ?_
 intro j9 a9 w9 M9
 repeat refine wp_seq ?_
 refine M9.tx0 (F39c_11 c2 c4) [(4,(.p 2 0)),(6,(.p 3 0)),(8,(.p 5 0)),(50,(.v (.bool true)))] (by kernel_rfl) ⟨RG.ld u33 i33 (by kernel_rfl),RG.ld u33 i33 (by kernel_rfl),RG.cert_bin rfl .eql 59 59 48 49 (fv c2) (fv c4) (.bool true) rfl rfl (RG.sx fun _=>by kernel_rfl) (RG.sx fun _=>by kernel_rfl) (fun w=>by kernel_rfl) (eqR_t C.toFld (by subst_vars;exact hv)),trivial⟩ ?_
 intro a10 w10 M10
 repeat refine wp_seq ?_
 refine wp_cond_true (M10.ev (by kernel_rfl)) ?_
 repeat refine wp_seq ?_
 refine M10.tx0 (F39c_12 c1 c3) [(4,(.p 2 0)),(57,(.v (.bool true)))] (by kernel_rfl) ⟨RG.ld u33 i33 (by kernel_rfl),RG.ld u33 i33 (by kernel_rfl),RG.cert_bin rfl .neq 59 59 51 52 (fv c1) (fv c3) (.bool true) rfl rfl (RG.sx fun _=>by kernel_rfl) (RG.sx fun _=>by kernel_rfl) (fun w=>by kernel_rfl) (neR_t C.toFld (by subst_vars;exact hu)),RG.st fun _ _=>by kernel_rfl,RG.cert_pass rfl rfl,RG.cert_pass rfl rfl,RG.st fun _ _=>by kernel_rfl,trivial⟩ ?_
 intro a11 w11 M11
 repeat refine wp_seq ?_
 refine wp_cond_true (M11.ev (by kernel_rfl)) ?_
 repeat refine wp_seq ?_
 refine M11.tx (F39c_13 (P:=P)) [] [(2,1,(ws (0:Fin P)++(ws (1:Fin P)++(ws (0:Fin P)))))] [(ws x1++(ws y1++(ws z1))),(ws x2++(ws y2++(ws z2))),(ws (0:Fin P)++(ws (1:Fin P)++(ws (0:Fin P)))),(ws c1),(ws c2),(ws c3),(ws c4)] [(4,(.p 2 0))] (by kernel_rfl) (by kernel_rfl) ⟨RG.cl (None_c C) fun _ _=>by kernel_rfl,RG.pt i56 (by kernel_rfl),trivial⟩ ?_
 intro a12 w12 M12
 refine wp_ret ?_
 refine bodyPost_ret (v:=(rv (0:Fin P) (1:Fin P) (0:Fin P))) (RG.results_row M12.st 4 63 rfl 2 _ rfl (M12.at (s:=(.p 2 0)) (by kernel_rfl)) u56 i56) M12.sl.defers ?_
 exact ⟨_,rfl,M12.st.bel.below,rfl⟩
def F39d_0:List RG.It:=[.m 2 [] 0,.m 3 [] 1,.m 4 [] 2]
def F39d_1 (x1 y1 z1:Fin P):List RG.It:=[.x 16 [] (rv x1 y1 z1),.c 17 [(16,0)] (.bool false),.x 5 [(17,1)] (.bool false)]
def F39d_2:List RG.It:=[.x 18 [] (.bool false)]
def F39d_4 (x2 y2 z2:Fin P):List RG.It:=[.x 20 [] (rv x2 y2 z2),.c 21 [(20,0)] (.bool false),.x 5 [(21,1)] (.bool false)]
def F39d_5:List RG.It:=[.x 22 [] (.bool false)]
def F39d_7 (z1 y2 c1:Fin P):List RG.It:=[.c 24 [] rv0,.s 25 [] (.p 1 4),.x 26 [(25,1)] (fv y2),.s 27 [] (.p 0 8),.x 28 [(27,3)] (fv z1),.c 29 [(24,0),(26,2),(28,4)] (fv c1),.m 6 [] 3,.u [(6,6),(29,5)] 3]
def F39d_8 (z1 x2 c2:Fin P):List RG.It:=[.c 30 [] rv0,.s 31 [] (.p 1 0),.x 32 [(31,1)] (fv x2),.s 33 [] (.p 0 8),.x 34 [(33,3)] (fv z1),.c 35 [(30,0),(32,2),(34,4)] (fv c2),.m 7 [] 4,.u [(7,6),(35,5)] 4]
def F39d_9 (y1 z2 c3:Fin P):List RG.It:=[.c 36 [] rv0,.s 37 [] (.p 0 4),.x 38 [(37,1)] (fv y1),.s 39 [] (.p 1 8),.x 40 [(39,3)] (fv z2),.c 41 [(36,0),(38,2),(40,4)] (fv c3),.m 8 [] 5,.u [(8,6),(41,5)] 5]
def F39d_10 (x1 z2 c4:Fin P):List RG.It:=[.c 42 [] rv0,.s 43 [] (.p 0 0),.x 44 [(43,1)] (fv x1),.s 45 [] (.p 1 8),.x 46 [(45,3)] (fv z2),.c 47 [(42,0),(44,2),(46,4)] (fv c4),.m 9 [] 6,.u [(9,6),(47,5)] 6]
def F39d_11 (c2 c4:Fin P):List RG.It:=[.x 48 [] (fv c2),.x 49 [] (fv c4),.x 50 [(48,0),(49,1)] (.bool true)]
def F39d_12 (c1 c3:Fin P):List RG.It:=[.x 51 [] (fv c1),.x 52 [] (fv c3),.x 53 [(51,0),(52,1)] (.bool false),.x 54 [(53,2)] (.bool false),.x 55 [] (fv c1),.c 56 [(55,4)] (.bool false),.x 57 [(54,3),(56,5)] (.bool false)]
def F39d_14 (x1 y1 z1 c5 c6 c7:Fin P):List RG.It:=[.x 59 [] (rv x1 y1 z1),.c 60 [(59,0)] (rv c5 c6 c7),.u [(60,1)] 2]
set_option maxHeartbeats 2000000 in
set_option maxRecDepth 100000 in
theorem rPlus_d_c (C:Fl3 P) (x1 y1 z1 x2 y2 z2:Fin P)(hz1:¬ z1=0) (hz2:¬ z2=0) (hv:x2*z1=x1*z2) (hu:y2*z1=y1*z2) (hn:¬ y2*z1=0) :Gives 35 #[(rv x1 y1 z1),(rv x2 y2 z2)] (rv ((EC.fdE y1 z1)*(EC.fdT x1 y1 z1)) ((EC.fdD x1)*(x1*((EC.fdE y1 z1)*(EC.fdE y1 z1)) - (EC.fdT x1 y1 z1)) - y1*((EC.fdE y1 z1)*(EC.fdE y1 z1)*(EC.fdE y1 z1))) ((EC.fdE y1 z1)*(EC.fdE y1 z1)*(EC.fdE y1 z1)*z1)):=by
 intro w
 obtain ⟨c1,hc1⟩:∃ c,c=y2*z1:=⟨_,rfl⟩
 obtain ⟨c2,hc2⟩:∃ c,c=x2*z1:=⟨_,rfl⟩
 obtain ⟨c3,hc3⟩:∃ c,c=y1*z2:=⟨_,rfl⟩
 obtain ⟨c4,hc4⟩:∃ c,c=x1*z2:=⟨_,rfl⟩
 obtain ⟨c5,hc5⟩:∃ c,c=(EC.fdE y1 z1)*(EC.fdT x1 y1 z1):=⟨_,rfl⟩
 obtain ⟨c6,hc6⟩:∃ c,c=(EC.fdD x1)*(x1*((EC.fdE y1 z1)*(EC.fdE y1 z1)) - (EC.fdT x1 y1 z1)) - y1*((EC.fdE y1 z1)*(EC.fdE y1 z1)*(EC.fdE y1 z1)):=⟨_,rfl⟩
 obtain ⟨c7,hc7⟩:∃ c,c=(EC.fdE y1 z1)*(EC.fdE y1 z1)*(EC.fdE y1 z1)*z1:=⟨_,rfl⟩
 have hfin:((rv c5 c6 c7):Value)=(rv ((EC.fdE y1 z1)*(EC.fdT x1 y1 z1)) ((EC.fdD x1)*(x1*((EC.fdE y1 z1)*(EC.fdE y1 z1)) - (EC.fdT x1 y1 z1)) - y1*((EC.fdE y1 z1)*(EC.fdE y1 z1)*(EC.fdE y1 z1))) ((EC.fdE y1 z1)*(EC.fdE y1 z1)*(EC.fdE y1 z1)*z1)):=by
  subst_vars;rfl
 rw [← hfin]
 go_enter Tryz.func35,Tryz.ntmps35
 refine RG.M.enter [(0,(.v (rv x1 y1 z1))),(1,(.v (rv x2 y2 z2)))] 127 (by kernel_rfl) ?_
 intro a0 M0
 repeat refine wp_seq ?_
 refine M0.tx F39d_0 [(0,(ws x1++(ws y1++(ws z1)))),(1,(ws x2++(ws y2++(ws z2)))),(2,(RG.z 12))] [] [(ws x1++(ws y1++(ws z1))),(ws x2++(ws y2++(ws z2))),(RG.z 12)] [(2,(.p 0 0)),(3,(.p 1 0)),(4,(.p 2 0))] (by kernel_rfl) (by kernel_rfl) ⟨RG.mk 0 63 fun _ _=>by kernel_rfl,RG.mk 1 63 fun _ _=>by kernel_rfl,RG.mk 2 63 fun _ _=>by kernel_rfl,trivial⟩ ?_
 intro j1 i1 m1 a1 w1 M1
 repeat refine wp_seq ?_
 refine M1.tx0 (F39d_1 x1 y1 z1) [(2,(.p 0 0)),(3,(.p 1 0)),(4,(.p 2 0)),(5,(.v (.bool false)))] (by kernel_rfl) ⟨RG.ld u56 i56 (by kernel_rfl),RG.cl (Is_f_c C x1 y1 z1 hz1) fun _ _=>by kernel_rfl,RG.st fun _ _=>by kernel_rfl,trivial⟩ ?_
 intro a2 w2 M2
 repeat refine wp_seq ?_
 refine M2.tx0 F39d_2 [(2,(.p 0 0)),(3,(.p 1 0)),(4,(.p 2 0)),(5,(.v (.bool false))),(18,(.v (.bool false)))] (by kernel_rfl) ⟨RG.st fun _ _=>by kernel_rfl,trivial⟩ ?_
 intro a3 w3 M3
 repeat refine wp_seq ?_
 refine wp_cond_false (M3.ev (by kernel_rfl)) ?_
 refine wp_skip ?_
 repeat refine wp_seq ?_
 refine M3.tx0 (F39d_4 x2 y2 z2) [(2,(.p 0 0)),(3,(.p 1 0)),(4,(.p 2 0)),(5,(.v (.bool false)))] (by kernel_rfl) ⟨RG.ld u56 i56 (by kernel_rfl),RG.cl (Is_f_c C x2 y2 z2 hz2) fun _ _=>by kernel_rfl,RG.st fun _ _=>by kernel_rfl,trivial⟩ ?_
 intro a4 w4 M4
 repeat refine wp_seq ?_
 refine M4.tx0 F39d_5 [(2,(.p 0 0)),(3,(.p 1 0)),(4,(.p 2 0)),(22,(.v (.bool false)))] (by kernel_rfl) ⟨RG.st fun _ _=>by kernel_rfl,trivial⟩ ?_
 intro a5 w5 M5
 repeat refine wp_seq ?_
 refine wp_cond_false (M5.ev (by kernel_rfl)) ?_
 refine wp_skip ?_
 repeat refine wp_seq ?_
 refine M5.dr (by kernel_rfl) (F39d_7 z1 y2 c1) [(6,(RG.z 4))] [(3,7,(ws c1))] [(ws x1++(ws y1++(ws z1))),(ws x2++(ws y2++(ws z2))),(RG.z 12),(ws c1)] [(2,(.p 0 0)),(3,(.p 1 0)),(4,(.p 2 0)),(6,(.p 3 0))] (by kernel_rfl) (by kernel_rfl) ⟨RG.cl (F3_c) fun _ _=>by kernel_rfl,RG.st fun _ _=>by kernel_rfl,RG.ld u33 i33 (by kernel_rfl),RG.st fun _ _=>by kernel_rfl,RG.ld u33 i33 (by kernel_rfl),RG.cl ((rMul_c C y2 z1).e hc1) fun _ _=>by kernel_rfl,RG.mk 3 59 fun _ _=>by kernel_rfl,RG.pt i33 (by kernel_rfl),trivial⟩ ?_
 intro j6 a6 w6 M6
 repeat refine wp_seq ?_
 refine M6.dr (by kernel_rfl) (F39d_8 z1 x2 c2) [(6,(RG.z 4))] [(4,7,(ws c2))] [(ws x1++(ws y1++(ws z1))),(ws x2++(ws y2++(ws z2))),(RG.z 12),(ws c1),(ws c2)] [(2,(.p 0 0)),(3,(.p 1 0)),(4,(.p 2 0)),(6,(.p 3 0)),(7,(.p 4 0))] (by kernel_rfl) (by kernel_rfl) ⟨RG.cl (F3_c) fun _ _=>by kernel_rfl,RG.st fun _ _=>by kernel_rfl,RG.ld u33 i33 (by kernel_rfl),RG.st fun _ _=>by kernel_rfl,RG.ld u33 i33 (by kernel_rfl),RG.cl ((rMul_c C x2 z1).e hc2) fun _ _=>by kernel_rfl,RG.mk 4 59 fun _ _=>by kernel_rfl,RG.pt i33 (by kernel_rfl),trivial⟩ ?_
 intro j7 a7 w7 M7
 repeat refine wp_seq ?_
 refine M7.dr (by kernel_rfl) (F39d_9 y1 z2 c3) [(6,(RG.z 4))] [(5,7,(ws c3))] [(ws x1++(ws y1++(ws z1))),(ws x2++(ws y2++(ws z2))),(RG.z 12),(ws c1),(ws c2),(ws c3)] [(2,(.p 0 0)),(3,(.p 1 0)),(4,(.p 2 0)),(6,(.p 3 0)),(7,(.p 4 0)),(8,(.p 5 0))] (by kernel_rfl) (by kernel_rfl) ⟨RG.cl (F3_c) fun _ _=>by kernel_rfl,RG.st fun _ _=>by kernel_rfl,RG.ld u33 i33 (by kernel_rfl),RG.st fun _ _=>by kernel_rfl,RG.ld u33 i33 (by kernel_rfl),RG.cl ((rMul_c C y1 z2).e hc3) fun _ _=>by kernel_rfl,RG.mk 5 59 fun _ _=>by kernel_rfl,RG.pt i33 (by kernel_rfl),trivial⟩ ?_
 intro j8 a8 w8 M8
 repeat refine wp_seq ?_
 refine M8.dr (by kernel_rfl) (F39d_10 x1 z2 c4) [(6,(RG.z 4))] [(6,7,(ws c4))] [(ws x1++(ws y1++(ws z1))),(ws x2++(ws y2++(ws z2))),(RG.z 12),(ws c1),(ws c2),(ws c3),(ws c4)] [(2,(.p 0 0)),(4,(.p 2 0)),(6,(.p 3 0)),(7,(.p 4 0)),(8,(.p 5 0)),(9,(.p 6 0))] (by kernel_rfl) (by kernel_rfl) ⟨RG.cl (F3_c) fun _ _=>by kernel_rfl,RG.st fun _ _=>by kernel_rfl,RG.ld u33 i33 (by kernel_rfl),RG.st fun _ _=>by kernel_rfl,RG.ld u33 i33 (by kernel_rfl),RG.cl ((rMul_c C x1 z2).e hc4) fun _ _=>by kernel_rfl,RG.mk 6 59 fun _ _=>by kernel_rfl,RG.pt i33 (by kernel_rfl),trivial⟩ ?_
 intro j9 a9 w9 M9
 repeat refine wp_seq ?_
 refine M9.tx0 (F39d_11 c2 c4) [(2,(.p 0 0)),(4,(.p 2 0)),(6,(.p 3 0)),(8,(.p 5 0)),(50,(.v (.bool true)))] (by kernel_rfl) ⟨RG.ld u33 i33 (by kernel_rfl),RG.ld u33 i33 (by kernel_rfl),RG.cert_bin rfl .eql 59 59 48 49 (fv c2) (fv c4) (.bool true) rfl rfl (RG.sx fun _=>by kernel_rfl) (RG.sx fun _=>by kernel_rfl) (fun w=>by kernel_rfl) (eqR_t C.toFld (by subst_vars;exact hv)),trivial⟩ ?_
 intro a10 w10 M10
 repeat refine wp_seq ?_
 refine wp_cond_true (M10.ev (by kernel_rfl)) ?_
 repeat refine wp_seq ?_
 refine M10.tx0 (F39d_12 c1 c3) [(2,(.p 0 0)),(4,(.p 2 0)),(57,(.v (.bool false)))] (by kernel_rfl) ⟨RG.ld u33 i33 (by kernel_rfl),RG.ld u33 i33 (by kernel_rfl),RG.cert_bin rfl .neq 59 59 51 52 (fv c1) (fv c3) (.bool false) rfl rfl (RG.sx fun _=>by kernel_rfl) (RG.sx fun _=>by kernel_rfl) (fun w=>by kernel_rfl) (neR_f C.toFld (by subst_vars;exact hu)),RG.st fun _ _=>by kernel_rfl,RG.ld u33 i33 (by kernel_rfl),RG.cl (f:=67) (args:=#[(fv c1)]) (v:=(.bool false)) (rZero_f C (by subst_vars;exact hn)) fun _ _=>by kernel_rfl,RG.st fun _ _=>by kernel_rfl,trivial⟩ ?_
 intro a11 w11 M11
 repeat refine wp_seq ?_
 refine wp_cond_false (M11.ev (by kernel_rfl)) ?_
 refine wp_skip ?_
 repeat refine wp_seq ?_
 refine M11.tx (F39d_14 x1 y1 z1 c5 c6 c7) [] [(2,2,(ws c5++(ws c6++(ws c7))))] [(ws x1++(ws y1++(ws z1))),(ws x2++(ws y2++(ws z2))),(ws c5++(ws c6++(ws c7))),(ws c1),(ws c2),(ws c3),(ws c4)] [(4,(.p 2 0))] (by kernel_rfl) (by kernel_rfl) ⟨RG.ld u56 i56 (by kernel_rfl),RG.cl ((rdouble_c C x1 y1 z1).e3 hc5 hc6 hc7) fun _ _=>by kernel_rfl,RG.pt i56 (by kernel_rfl),trivial⟩ ?_
 intro a12 w12 M12
 refine wp_ret ?_
 refine bodyPost_ret (v:=(rv c5 c6 c7)) (RG.results_row M12.st 4 63 rfl 2 _ rfl (M12.at (s:=(.p 2 0)) (by kernel_rfl)) u56 i56) M12.sl.defers ?_
 exact ⟨_,rfl,M12.st.bel.below,rfl⟩
def F39e_0:List RG.It:=[.m 2 [] 0,.m 3 [] 1,.m 4 [] 2]
def F39e_1 (x1 y1 z1:Fin P):List RG.It:=[.x 16 [] (rv x1 y1 z1),.c 17 [(16,0)] (.bool false),.x 5 [(17,1)] (.bool false)]
def F39e_2:List RG.It:=[.x 18 [] (.bool false)]
def F39e_4 (x2 y2 z2:Fin P):List RG.It:=[.x 20 [] (rv x2 y2 z2),.c 21 [(20,0)] (.bool false),.x 5 [(21,1)] (.bool false)]
def F39e_5:List RG.It:=[.x 22 [] (.bool false)]
def F39e_7 (z1 y2 c1:Fin P):List RG.It:=[.c 24 [] rv0,.s 25 [] (.p 1 4),.x 26 [(25,1)] (fv y2),.s 27 [] (.p 0 8),.x 28 [(27,3)] (fv z1),.c 29 [(24,0),(26,2),(28,4)] (fv c1),.m 6 [] 3,.u [(6,6),(29,5)] 3]
def F39e_8 (z1 x2 c2:Fin P):List RG.It:=[.c 30 [] rv0,.s 31 [] (.p 1 0),.x 32 [(31,1)] (fv x2),.s 33 [] (.p 0 8),.x 34 [(33,3)] (fv z1),.c 35 [(30,0),(32,2),(34,4)] (fv c2),.m 7 [] 4,.u [(7,6),(35,5)] 4]
def F39e_9 (y1 z2 c3:Fin P):List RG.It:=[.c 36 [] rv0,.s 37 [] (.p 0 4),.x 38 [(37,1)] (fv y1),.s 39 [] (.p 1 8),.x 40 [(39,3)] (fv z2),.c 41 [(36,0),(38,2),(40,4)] (fv c3),.m 8 [] 5,.u [(8,6),(41,5)] 5]
def F39e_10 (x1 z2 c4:Fin P):List RG.It:=[.c 42 [] rv0,.s 43 [] (.p 0 0),.x 44 [(43,1)] (fv x1),.s 45 [] (.p 1 8),.x 46 [(45,3)] (fv z2),.c 47 [(42,0),(44,2),(46,4)] (fv c4),.m 9 [] 6,.u [(9,6),(47,5)] 6]
def F39e_11 (c2 c4:Fin P):List RG.It:=[.x 48 [] (fv c2),.x 49 [] (fv c4),.x 50 [(48,0),(49,1)] (.bool false)]
def F39e_15 (c1 c3 c5:Fin P):List RG.It:=[.c 61 [] rv0,.x 62 [] (fv c1),.x 63 [] (fv c3),.c 64 [(61,0),(62,1),(63,2)] (fv c5),.m 10 [] 7,.u [(10,4),(64,3)] 7]
def F39e_16 (c2 c4 c6:Fin P):List RG.It:=[.c 65 [] rv0,.x 66 [] (fv c2),.x 67 [] (fv c4),.c 68 [(65,0),(66,1),(67,2)] (fv c6),.m 11 [] 8,.u [(11,4),(68,3)] 8]
def F39e_17 (z1 z2 c7:Fin P):List RG.It:=[.c 69 [] rv0,.s 70 [] (.p 0 8),.x 71 [(70,1)] (fv z1),.s 72 [] (.p 1 8),.x 73 [(72,3)] (fv z2),.c 74 [(69,0),(71,2),(73,4)] (fv c7),.m 12 [] 9,.u [(12,6),(74,5)] 9]
def F39e_18 (c6 c8:Fin P):List RG.It:=[.c 75 [] rv0,.x 76 [] (fv c6),.x 77 [] (fv c6),.c 78 [(75,0),(76,1),(77,2)] (fv c8),.m 13 [] 10,.u [(13,4),(78,3)] 10]
def F39e_19 (c6 c8 c9:Fin P):List RG.It:=[.c 79 [] rv0,.x 80 [] (fv c8),.x 81 [] (fv c6),.c 82 [(79,0),(80,1),(81,2)] (fv c9),.m 14 [] 11,.u [(14,4),(82,3)] 11]
def F39e_20 (c4 c5 c7 c8 c9 c10 c11 c12 c13 c14 c15:Fin P):List RG.It:=[.c 83 [] rv0,.c 84 [] rv0,.c 85 [] rv0,.c 86 [] rv0,.x 87 [] (fv c5),.x 88 [] (fv c5),.c 89 [(86,3),(87,4),(88,5)] (fv c10),.x 90 [] (fv c7),.c 91 [(85,2),(89,6),(90,7)] (fv c11),.x 92 [] (fv c9),.c 93 [(84,1),(91,8),(92,9)] (fv c12),.c 94 [] rv0,.c 95 [] rv0,.x 96 [] (fv c4),.x 97 [] (fv c4),.c 98 [(95,12),(96,13),(97,14)] (fv c13),.x 99 [] (fv c8),.c 100 [(94,11),(98,15),(99,16)] (fv c14),.c 101 [(83,0),(93,10),(100,17)] (fv c15),.m 15 [] 12,.u [(15,19),(101,18)] 12]
def F39e_21 (c3 c4 c5 c6 c7 c8 c9 c15 c16 c17 c18 c19 c20 c21 c22:Fin P):List RG.It:=[.c 102 [] rv0,.x 103 [] (fv c6),.x 104 [] (fv c15),.c 105 [(102,0),(103,1),(104,2)] (fv c16),.c 106 [] rv0,.c 107 [] rv0,.x 108 [] (fv c5),.c 109 [] rv0,.c 110 [] rv0,.x 111 [] (fv c4),.x 112 [] (fv c8),.c 113 [(110,8),(111,9),(112,10)] (fv c17),.x 114 [] (fv c15),.c 115 [(109,7),(113,11),(114,12)] (fv c18),.c 116 [(107,5),(108,6),(115,13)] (fv c19),.c 117 [] rv0,.x 118 [] (fv c3),.x 119 [] (fv c9),.c 120 [(117,15),(118,16),(119,17)] (fv c20),.c 121 [(106,4),(116,14),(120,18)] (fv c21),.c 122 [] rv0,.x 123 [] (fv c9),.x 124 [] (fv c7),.c 125 [(122,20),(123,21),(124,22)] (fv c22),.x 126 [(105,3),(121,19),(125,23)] (rv c16 c21 c22),.u [(126,24)] 2]
set_option maxHeartbeats 2000000 in
set_option maxRecDepth 100000 in
theorem rPlus_e_c (C:Fl3 P) (x1 y1 z1 x2 y2 z2:Fin P)(hz1:¬ z1=0) (hz2:¬ z2=0) (hv:¬ x2*z1=x1*z2) :Gives 35 #[(rv x1 y1 z1),(rv x2 y2 z2)] (rv ((x2*z1 - x1*z2)*EC.frT (y2*z1 - y1*z2) (x2*z1 - x1*z2) (z1*z2) (x1*z2)) ((y2*z1 - y1*z2)*(x1*z2*((x2*z1 - x1*z2)*(x2*z1 - x1*z2)) - EC.frT (y2*z1 - y1*z2) (x2*z1 - x1*z2) (z1*z2) (x1*z2)) - y1*z2*((x2*z1 - x1*z2)*(x2*z1 - x1*z2)*(x2*z1 - x1*z2))) ((x2*z1 - x1*z2)*(x2*z1 - x1*z2)*(x2*z1 - x1*z2)*(z1*z2))):=by
 intro w
 obtain ⟨c1,hc1⟩:∃ c,c=y2*z1:=⟨_,rfl⟩
 obtain ⟨c2,hc2⟩:∃ c,c=x2*z1:=⟨_,rfl⟩
 obtain ⟨c3,hc3⟩:∃ c,c=y1*z2:=⟨_,rfl⟩
 obtain ⟨c4,hc4⟩:∃ c,c=x1*z2:=⟨_,rfl⟩
 obtain ⟨c5,hc5⟩:∃ c,c=c1 - c3:=⟨_,rfl⟩
 obtain ⟨c6,hc6⟩:∃ c,c=c2 - c4:=⟨_,rfl⟩
 obtain ⟨c7,hc7⟩:∃ c,c=z1*z2:=⟨_,rfl⟩
 obtain ⟨c8,hc8⟩:∃ c,c=c6*c6:=⟨_,rfl⟩
 obtain ⟨c9,hc9⟩:∃ c,c=c8*c6:=⟨_,rfl⟩
 obtain ⟨c10,hc10⟩:∃ c,c=c5*c5:=⟨_,rfl⟩
 obtain ⟨c11,hc11⟩:∃ c,c=c10*c7:=⟨_,rfl⟩
 obtain ⟨c12,hc12⟩:∃ c,c=c11 - c9:=⟨_,rfl⟩
 obtain ⟨c13,hc13⟩:∃ c,c=c4+c4:=⟨_,rfl⟩
 obtain ⟨c14,hc14⟩:∃ c,c=c13*c8:=⟨_,rfl⟩
 obtain ⟨c15,hc15⟩:∃ c,c=c12 - c14:=⟨_,rfl⟩
 obtain ⟨c16,hc16⟩:∃ c,c=c6*c15:=⟨_,rfl⟩
 obtain ⟨c17,hc17⟩:∃ c,c=c4*c8:=⟨_,rfl⟩
 obtain ⟨c18,hc18⟩:∃ c,c=c17 - c15:=⟨_,rfl⟩
 obtain ⟨c19,hc19⟩:∃ c,c=c5*c18:=⟨_,rfl⟩
 obtain ⟨c20,hc20⟩:∃ c,c=c3*c9:=⟨_,rfl⟩
 obtain ⟨c21,hc21⟩:∃ c,c=c19 - c20:=⟨_,rfl⟩
 obtain ⟨c22,hc22⟩:∃ c,c=c9*c7:=⟨_,rfl⟩
 have hfin:((rv c16 c21 c22):Value)=(rv ((x2*z1 - x1*z2)*EC.frT (y2*z1 - y1*z2) (x2*z1 - x1*z2) (z1*z2) (x1*z2)) ((y2*z1 - y1*z2)*(x1*z2*((x2*z1 - x1*z2)*(x2*z1 - x1*z2)) - EC.frT (y2*z1 - y1*z2) (x2*z1 - x1*z2) (z1*z2) (x1*z2)) - y1*z2*((x2*z1 - x1*z2)*(x2*z1 - x1*z2)*(x2*z1 - x1*z2))) ((x2*z1 - x1*z2)*(x2*z1 - x1*z2)*(x2*z1 - x1*z2)*(z1*z2))):=by
  subst_vars;rfl
 rw [← hfin]
 go_enter Tryz.func35,Tryz.ntmps35
 refine RG.M.enter [(0,(.v (rv x1 y1 z1))),(1,(.v (rv x2 y2 z2)))] 127 (by kernel_rfl) ?_
 intro a0 M0
 repeat refine wp_seq ?_
 refine M0.tx F39e_0 [(0,(ws x1++(ws y1++(ws z1)))),(1,(ws x2++(ws y2++(ws z2)))),(2,(RG.z 12))] [] [(ws x1++(ws y1++(ws z1))),(ws x2++(ws y2++(ws z2))),(RG.z 12)] [(2,(.p 0 0)),(3,(.p 1 0)),(4,(.p 2 0))] (by kernel_rfl) (by kernel_rfl) ⟨RG.mk 0 63 fun _ _=>by kernel_rfl,RG.mk 1 63 fun _ _=>by kernel_rfl,RG.mk 2 63 fun _ _=>by kernel_rfl,trivial⟩ ?_
 intro j1 i1 m1 a1 w1 M1
 repeat refine wp_seq ?_
 refine M1.tx0 (F39e_1 x1 y1 z1) [(2,(.p 0 0)),(3,(.p 1 0)),(4,(.p 2 0)),(5,(.v (.bool false)))] (by kernel_rfl) ⟨RG.ld u56 i56 (by kernel_rfl),RG.cl (Is_f_c C x1 y1 z1 hz1) fun _ _=>by kernel_rfl,RG.st fun _ _=>by kernel_rfl,trivial⟩ ?_
 intro a2 w2 M2
 repeat refine wp_seq ?_
 refine M2.tx0 F39e_2 [(2,(.p 0 0)),(3,(.p 1 0)),(4,(.p 2 0)),(5,(.v (.bool false))),(18,(.v (.bool false)))] (by kernel_rfl) ⟨RG.st fun _ _=>by kernel_rfl,trivial⟩ ?_
 intro a3 w3 M3
 repeat refine wp_seq ?_
 refine wp_cond_false (M3.ev (by kernel_rfl)) ?_
 refine wp_skip ?_
 repeat refine wp_seq ?_
 refine M3.tx0 (F39e_4 x2 y2 z2) [(2,(.p 0 0)),(3,(.p 1 0)),(4,(.p 2 0)),(5,(.v (.bool false)))] (by kernel_rfl) ⟨RG.ld u56 i56 (by kernel_rfl),RG.cl (Is_f_c C x2 y2 z2 hz2) fun _ _=>by kernel_rfl,RG.st fun _ _=>by kernel_rfl,trivial⟩ ?_
 intro a4 w4 M4
 repeat refine wp_seq ?_
 refine M4.tx0 F39e_5 [(2,(.p 0 0)),(3,(.p 1 0)),(4,(.p 2 0)),(22,(.v (.bool false)))] (by kernel_rfl) ⟨RG.st fun _ _=>by kernel_rfl,trivial⟩ ?_
 intro a5 w5 M5
 repeat refine wp_seq ?_
 refine wp_cond_false (M5.ev (by kernel_rfl)) ?_
 refine wp_skip ?_
 repeat refine wp_seq ?_
 refine M5.dr (by kernel_rfl) (F39e_7 z1 y2 c1) [(6,(RG.z 4))] [(3,7,(ws c1))] [(ws x1++(ws y1++(ws z1))),(ws x2++(ws y2++(ws z2))),(RG.z 12),(ws c1)] [(2,(.p 0 0)),(3,(.p 1 0)),(4,(.p 2 0)),(6,(.p 3 0))] (by kernel_rfl) (by kernel_rfl) ⟨RG.cl (F3_c) fun _ _=>by kernel_rfl,RG.st fun _ _=>by kernel_rfl,RG.ld u33 i33 (by kernel_rfl),RG.st fun _ _=>by kernel_rfl,RG.ld u33 i33 (by kernel_rfl),RG.cl ((rMul_c C y2 z1).e hc1) fun _ _=>by kernel_rfl,RG.mk 3 59 fun _ _=>by kernel_rfl,RG.pt i33 (by kernel_rfl),trivial⟩ ?_
 intro j6 a6 w6 M6
 repeat refine wp_seq ?_
 refine M6.dr (by kernel_rfl) (F39e_8 z1 x2 c2) [(6,(RG.z 4))] [(4,7,(ws c2))] [(ws x1++(ws y1++(ws z1))),(ws x2++(ws y2++(ws z2))),(RG.z 12),(ws c1),(ws c2)] [(2,(.p 0 0)),(3,(.p 1 0)),(4,(.p 2 0)),(6,(.p 3 0)),(7,(.p 4 0))] (by kernel_rfl) (by kernel_rfl) ⟨RG.cl (F3_c) fun _ _=>by kernel_rfl,RG.st fun _ _=>by kernel_rfl,RG.ld u33 i33 (by kernel_rfl),RG.st fun _ _=>by kernel_rfl,RG.ld u33 i33 (by kernel_rfl),RG.cl ((rMul_c C x2 z1).e hc2) fun _ _=>by kernel_rfl,RG.mk 4 59 fun _ _=>by kernel_rfl,RG.pt i33 (by kernel_rfl),trivial⟩ ?_
 intro j7 a7 w7 M7
 repeat refine wp_seq ?_
 refine M7.dr (by kernel_rfl) (F39e_9 y1 z2 c3) [(6,(RG.z 4))] [(5,7,(ws c3))] [(ws x1++(ws y1++(ws z1))),(ws x2++(ws y2++(ws z2))),(RG.z 12),(ws c1),(ws c2),(ws c3)] [(2,(.p 0 0)),(3,(.p 1 0)),(4,(.p 2 0)),(6,(.p 3 0)),(7,(.p 4 0)),(8,(.p 5 0))] (by kernel_rfl) (by kernel_rfl) ⟨RG.cl (F3_c) fun _ _=>by kernel_rfl,RG.st fun _ _=>by kernel_rfl,RG.ld u33 i33 (by kernel_rfl),RG.st fun _ _=>by kernel_rfl,RG.ld u33 i33 (by kernel_rfl),RG.cl ((rMul_c C y1 z2).e hc3) fun _ _=>by kernel_rfl,RG.mk 5 59 fun _ _=>by kernel_rfl,RG.pt i33 (by kernel_rfl),trivial⟩ ?_
 intro j8 a8 w8 M8
 repeat refine wp_seq ?_
 refine M8.dr (by kernel_rfl) (F39e_10 x1 z2 c4) [(6,(RG.z 4))] [(6,7,(ws c4))] [(ws x1++(ws y1++(ws z1))),(ws x2++(ws y2++(ws z2))),(RG.z 12),(ws c1),(ws c2),(ws c3),(ws c4)] [(2,(.p 0 0)),(3,(.p 1 0)),(4,(.p 2 0)),(6,(.p 3 0)),(7,(.p 4 0)),(8,(.p 5 0)),(9,(.p 6 0))] (by kernel_rfl) (by kernel_rfl) ⟨RG.cl (F3_c) fun _ _=>by kernel_rfl,RG.st fun _ _=>by kernel_rfl,RG.ld u33 i33 (by kernel_rfl),RG.st fun _ _=>by kernel_rfl,RG.ld u33 i33 (by kernel_rfl),RG.cl ((rMul_c C x1 z2).e hc4) fun _ _=>by kernel_rfl,RG.mk 6 59 fun _ _=>by kernel_rfl,RG.pt i33 (by kernel_rfl),trivial⟩ ?_
 intro j9 a9 w9 M9
 repeat refine wp_seq ?_
 refine M9.tx0 (F39e_11 c2 c4) [(2,(.p 0 0)),(3,(.p 1 0)),(4,(.p 2 0)),(6,(.p 3 0)),(7,(.p 4 0)),(8,(.p 5 0)),(9,(.p 6 0)),(50,(.v (.bool false)))] (by kernel_rfl) ⟨RG.ld u33 i33 (by kernel_rfl),RG.ld u33 i33 (by kernel_rfl),RG.cert_bin rfl .eql 59 59 48 49 (fv c2) (fv c4) (.bool false) rfl rfl (RG.sx fun _=>by kernel_rfl) (RG.sx fun _=>by kernel_rfl) (fun w=>by kernel_rfl) (eqR_f C.toFld (by subst_vars;exact hv)),trivial⟩ ?_
 intro a10 w10 M10
 repeat refine wp_seq ?_
 refine wp_cond_false (M10.ev (by kernel_rfl)) ?_
 refine wp_skip ?_
 repeat refine wp_seq ?_
 refine M10.dr (by kernel_rfl) (F39e_15 c1 c3 c5) [(4,(RG.z 4))] [(7,5,(ws c5))] [(ws x1++(ws y1++(ws z1))),(ws x2++(ws y2++(ws z2))),(RG.z 12),(ws c1),(ws c2),(ws c3),(ws c4),(ws c5)] [(2,(.p 0 0)),(3,(.p 1 0)),(4,(.p 2 0)),(7,(.p 4 0)),(8,(.p 5 0)),(9,(.p 6 0)),(10,(.p 7 0))] (by kernel_rfl) (by kernel_rfl) ⟨RG.cl (F3_c) fun _ _=>by kernel_rfl,RG.ld u33 i33 (by kernel_rfl),RG.ld u33 i33 (by kernel_rfl),RG.cl ((rSub_c C c1 c3).e hc5) fun _ _=>by kernel_rfl,RG.mk 7 59 fun _ _=>by kernel_rfl,RG.pt i33 (by kernel_rfl),trivial⟩ ?_
 intro j11 a11 w11 M11
 repeat refine wp_seq ?_
 refine M11.dr (by kernel_rfl) (F39e_16 c2 c4 c6) [(4,(RG.z 4))] [(8,5,(ws c6))] [(ws x1++(ws y1++(ws z1))),(ws x2++(ws y2++(ws z2))),(RG.z 12),(ws c1),(ws c2),(ws c3),(ws c4),(ws c5),(ws c6)] [(2,(.p 0 0)),(3,(.p 1 0)),(4,(.p 2 0)),(8,(.p 5 0)),(9,(.p 6 0)),(10,(.p 7 0)),(11,(.p 8 0))] (by kernel_rfl) (by kernel_rfl) ⟨RG.cl (F3_c) fun _ _=>by kernel_rfl,RG.ld u33 i33 (by kernel_rfl),RG.ld u33 i33 (by kernel_rfl),RG.cl ((rSub_c C c2 c4).e hc6) fun _ _=>by kernel_rfl,RG.mk 8 59 fun _ _=>by kernel_rfl,RG.pt i33 (by kernel_rfl),trivial⟩ ?_
 intro j12 a12 w12 M12
 repeat refine wp_seq ?_
 refine M12.dr (by kernel_rfl) (F39e_17 z1 z2 c7) [(6,(RG.z 4))] [(9,7,(ws c7))] [(ws x1++(ws y1++(ws z1))),(ws x2++(ws y2++(ws z2))),(RG.z 12),(ws c1),(ws c2),(ws c3),(ws c4),(ws c5),(ws c6),(ws c7)] [(4,(.p 2 0)),(8,(.p 5 0)),(9,(.p 6 0)),(10,(.p 7 0)),(11,(.p 8 0)),(12,(.p 9 0))] (by kernel_rfl) (by kernel_rfl) ⟨RG.cl (F3_c) fun _ _=>by kernel_rfl,RG.st fun _ _=>by kernel_rfl,RG.ld u33 i33 (by kernel_rfl),RG.st fun _ _=>by kernel_rfl,RG.ld u33 i33 (by kernel_rfl),RG.cl ((rMul_c C z1 z2).e hc7) fun _ _=>by kernel_rfl,RG.mk 9 59 fun _ _=>by kernel_rfl,RG.pt i33 (by kernel_rfl),trivial⟩ ?_
 intro j13 a13 w13 M13
 repeat refine wp_seq ?_
 refine M13.dr (by kernel_rfl) (F39e_18 c6 c8) [(4,(RG.z 4))] [(10,5,(ws c8))] [(ws x1++(ws y1++(ws z1))),(ws x2++(ws y2++(ws z2))),(RG.z 12),(ws c1),(ws c2),(ws c3),(ws c4),(ws c5),(ws c6),(ws c7),(ws c8)] [(4,(.p 2 0)),(8,(.p 5 0)),(9,(.p 6 0)),(10,(.p 7 0)),(11,(.p 8 0)),(12,(.p 9 0)),(13,(.p 10 0))] (by kernel_rfl) (by kernel_rfl) ⟨RG.cl (F3_c) fun _ _=>by kernel_rfl,RG.ld u33 i33 (by kernel_rfl),RG.ld u33 i33 (by kernel_rfl),RG.cl ((rMul_c C c6 c6).e hc8) fun _ _=>by kernel_rfl,RG.mk 10 59 fun _ _=>by kernel_rfl,RG.pt i33 (by kernel_rfl),trivial⟩ ?_
 intro j14 a14 w14 M14
 repeat refine wp_seq ?_
 refine M14.dr (by kernel_rfl) (F39e_19 c6 c8 c9) [(4,(RG.z 4))] [(11,5,(ws c9))] [(ws x1++(ws y1++(ws z1))),(ws x2++(ws y2++(ws z2))),(RG.z 12),(ws c1),(ws c2),(ws c3),(ws c4),(ws c5),(ws c6),(ws c7),(ws c8),(ws c9)] [(4,(.p 2 0)),(8,(.p 5 0)),(9,(.p 6 0)),(10,(.p 7 0)),(11,(.p 8 0)),(12,(.p 9 0)),(13,(.p 10 0)),(14,(.p 11 0))] (by kernel_rfl) (by kernel_rfl) ⟨RG.cl (F3_c) fun _ _=>by kernel_rfl,RG.ld u33 i33 (by kernel_rfl),RG.ld u33 i33 (by kernel_rfl),RG.cl ((rMul_c C c8 c6).e hc9) fun _ _=>by kernel_rfl,RG.mk 11 59 fun _ _=>by kernel_rfl,RG.pt i33 (by kernel_rfl),trivial⟩ ?_
 intro j15 a15 w15 M15
 repeat refine wp_seq ?_
 refine M15.dr (by kernel_rfl) (F39e_20 c4 c5 c7 c8 c9 c10 c11 c12 c13 c14 c15) [(19,(RG.z 4))] [(12,20,(ws c15))] [(ws x1++(ws y1++(ws z1))),(ws x2++(ws y2++(ws z2))),(RG.z 12),(ws c1),(ws c2),(ws c3),(ws c4),(ws c5),(ws c6),(ws c7),(ws c8),(ws c9),(ws c15)] [(4,(.p 2 0)),(8,(.p 5 0)),(9,(.p 6 0)),(10,(.p 7 0)),(11,(.p 8 0)),(12,(.p 9 0)),(13,(.p 10 0)),(14,(.p 11 0)),(15,(.p 12 0))] (by kernel_rfl) (by kernel_rfl) ⟨RG.cl (F3_c) fun _ _=>by kernel_rfl,RG.cl (F3_c) fun _ _=>by kernel_rfl,RG.cl (F3_c) fun _ _=>by kernel_rfl,RG.cl (F3_c) fun _ _=>by kernel_rfl,RG.ld u33 i33 (by kernel_rfl),RG.ld u33 i33 (by kernel_rfl),RG.cl ((rMul_c C c5 c5).e hc10) fun _ _=>by kernel_rfl,RG.ld u33 i33 (by kernel_rfl),RG.cl ((rMul_c C c10 c7).e hc11) fun _ _=>by kernel_rfl,RG.ld u33 i33 (by kernel_rfl),RG.cl ((rSub_c C c11 c9).e hc12) fun _ _=>by kernel_rfl,RG.cl (F3_c) fun _ _=>by kernel_rfl,RG.cl (F3_c) fun _ _=>by kernel_rfl,RG.ld u33 i33 (by kernel_rfl),RG.ld u33 i33 (by kernel_rfl),RG.cl ((rAdd_c C c4 c4).e hc13) fun _ _=>by kernel_rfl,RG.ld u33 i33 (by kernel_rfl),RG.cl ((rMul_c C c13 c8).e hc14) fun _ _=>by kernel_rfl,RG.cl ((rSub_c C c12 c14).e hc15) fun _ _=>by kernel_rfl,RG.mk 12 59 fun _ _=>by kernel_rfl,RG.pt i33 (by kernel_rfl),trivial⟩ ?_
 intro j16 a16 w16 M16
 repeat refine wp_seq ?_
 refine M16.dr (by kernel_rfl) (F39e_21 c3 c4 c5 c6 c7 c8 c9 c15 c16 c17 c18 c19 c20 c21 c22) [] [(2,25,(ws c16++(ws c21++(ws c22))))] [(ws x1++(ws y1++(ws z1))),(ws x2++(ws y2++(ws z2))),(ws c16++(ws c21++(ws c22))),(ws c1),(ws c2),(ws c3),(ws c4),(ws c5),(ws c6),(ws c7),(ws c8),(ws c9),(ws c15)] [(4,(.p 2 0))] (by kernel_rfl) (by kernel_rfl) ⟨RG.cl (F3_c) fun _ _=>by kernel_rfl,RG.ld u33 i33 (by kernel_rfl),RG.ld u33 i33 (by kernel_rfl),RG.cl ((rMul_c C c6 c15).e hc16) fun _ _=>by kernel_rfl,RG.cl (F3_c) fun _ _=>by kernel_rfl,RG.cl (F3_c) fun _ _=>by kernel_rfl,RG.ld u33 i33 (by kernel_rfl),RG.cl (F3_c) fun _ _=>by kernel_rfl,RG.cl (F3_c) fun _ _=>by kernel_rfl,RG.ld u33 i33 (by kernel_rfl),RG.ld u33 i33 (by kernel_rfl),RG.cl ((rMul_c C c4 c8).e hc17) fun _ _=>by kernel_rfl,RG.ld u33 i33 (by kernel_rfl),RG.cl ((rSub_c C c17 c15).e hc18) fun _ _=>by kernel_rfl,RG.cl ((rMul_c C c5 c18).e hc19) fun _ _=>by kernel_rfl,RG.cl (F3_c) fun _ _=>by kernel_rfl,RG.ld u33 i33 (by kernel_rfl),RG.ld u33 i33 (by kernel_rfl),RG.cl ((rMul_c C c3 c9).e hc20) fun _ _=>by kernel_rfl,RG.cl ((rSub_c C c19 c20).e hc21) fun _ _=>by kernel_rfl,RG.cl (F3_c) fun _ _=>by kernel_rfl,RG.ld u33 i33 (by kernel_rfl),RG.ld u33 i33 (by kernel_rfl),RG.cl ((rMul_c C c9 c7).e hc22) fun _ _=>by kernel_rfl,RG.st fun _ _=>by kernel_rfl,RG.pt i56 (by kernel_rfl),trivial⟩ ?_
 intro a17 w17 M17
 refine wp_ret ?_
 refine bodyPost_ret (v:=(rv c16 c21 c22)) (RG.results_row M17.st 4 63 rfl 2 _ rfl (M17.at (s:=(.p 2 0)) (by kernel_rfl)) u56 i56) M17.sl.defers ?_
 exact ⟨_,rfl,M17.st.bel.below,rfl⟩
def F70y_0 (x:Fin P):List RG.It:=[.m 1 [] 0,.m 2 [] 1,.x 3 [] (.bool false)]
def F70y_1 (x y c1 c2 c3:Fin P):List RG.It:=[.c 7 [] rv0,.c 8 [] rv0,.c 9 [] rv0,.c 10 [] rv0,.x 11 [] (fv x),.x 12 [] (fv x),.c 13 [(10,3),(11,4),(12,5)] (fv c1),.x 14 [] (fv x),.c 15 [(9,2),(13,6),(14,7)] (fv c2),.c 16 [] (fv (7:Fin P)),.c 17 [(8,1),(15,8),(16,9)] (fv c3),.c 18 [(7,0),(17,10)] (.tuple #[(fv y),(.bool true)]),.x 6 [(18,11)] (.tuple #[(fv y),(.bool true)]),.x 19 [(6,12)] (fv y),.x 20 [(6,12)] (.bool true),.m 4 [] 2,.u [(4,15),(19,13)] 2,.x 5 [(20,14)] (.bool true)]
def F70y_2 (x y:Fin P):List RG.It:=[.x 21 [] (fv x),.x 22 [] (fv y),.c 23 [] (fv (1:Fin P)),.x 24 [(21,0),(22,1),(23,2)] (rv x y (1:Fin P)),.x 25 [] (.bool true),.u [(24,3)] 1,.x 3 [(25,4)] (.bool true)]
set_option maxHeartbeats 2000000 in
set_option maxRecDepth 100000 in
theorem rat_y_c (C:Fl3 P) (x y:Fin P)(hr:rt (x*x*x+7)=some y) :Gives 92 #[(fv x)] (.tuple #[rv x y 1,.bool true]):=by
 intro w
 obtain ⟨c1,hc1⟩:∃ c,c=x*x:=⟨_,rfl⟩
 obtain ⟨c2,hc2⟩:∃ c,c=c1*x:=⟨_,rfl⟩
 obtain ⟨c3,hc3⟩:∃ c,c=c2+(7:Fin P):=⟨_,rfl⟩
 have hfin:((.tuple #[(rv x y (1:Fin P)),(.bool true)]):Value)=(.tuple #[rv x y 1,.bool true]):=by
  subst_vars;rfl
 rw [← hfin]
 go_enter Tryz.func92,Tryz.ntmps92
 refine RG.M.enter [(0,(.v (fv x)))] 26 (by kernel_rfl) ?_
 intro a0 M0
 repeat refine wp_seq ?_
 refine M0.tx (F70y_0 x) [(0,(ws x)),(1,(RG.z 12))] [] [(ws x),(RG.z 12)] [(1,(.p 0 0)),(2,(.p 1 0)),(3,(.v (.bool false)))] (by kernel_rfl) (by kernel_rfl) ⟨RG.mk 0 59 fun _ _=>by kernel_rfl,RG.mk 1 63 fun _ _=>by kernel_rfl,RG.st fun _ _=>by kernel_rfl,trivial⟩ ?_
 intro j1 i1 a1 w1 M1
 repeat refine wp_seq ?_
 refine M1.dr (by kernel_rfl) (F70y_1 x y c1 c2 c3) [(15,(RG.z 4))] [(2,16,(ws y))] [(ws x),(RG.z 12),(ws y)] [(1,(.p 0 0)),(2,(.p 1 0)),(3,(.v (.bool false))),(4,(.p 2 0)),(5,(.v (.bool true)))] (by kernel_rfl) (by kernel_rfl) ⟨RG.cl (F3_c) fun _ _=>by kernel_rfl,RG.cl (F3_c) fun _ _=>by kernel_rfl,RG.cl (F3_c) fun _ _=>by kernel_rfl,RG.cl (F3_c) fun _ _=>by kernel_rfl,RG.ld u33 i33 (by kernel_rfl),RG.ld u33 i33 (by kernel_rfl),RG.cl ((rMul_c C x x).e hc1) fun _ _=>by kernel_rfl,RG.ld u33 i33 (by kernel_rfl),RG.cl ((rMul_c C c1 x).e hc2) fun _ _=>by kernel_rfl,RG.cl (rSmall7_c C) fun _ _=>by kernel_rfl,RG.cl ((rAdd_c C c2 (7:Fin P)).e hc3) fun _ _=>by kernel_rfl,RG.cl (f:=133) (args:=#[rv0,(fv c3)]) (v:=(.tuple #[(fv y),(.bool true)])) (rSqrt_y C (by subst_vars;exact hr)) fun _ _=>by kernel_rfl,RG.st fun _ _=>by kernel_rfl,RG.st fun _ _=>by kernel_rfl,RG.st fun _ _=>by kernel_rfl,RG.mk 2 59 fun _ _=>by kernel_rfl,RG.pt i33 (by kernel_rfl),RG.st fun _ _=>by kernel_rfl,trivial⟩ ?_
 intro j2 a2 w2 M2
 repeat refine wp_seq ?_
 refine M2.dr (by kernel_rfl) (F70y_2 x y) [] [(1,5,(ws x++(ws y++(ws (1:Fin P)))))] [(ws x),(ws x++(ws y++(ws (1:Fin P)))),(ws y)] [(2,(.p 1 0)),(3,(.v (.bool true)))] (by kernel_rfl) (by kernel_rfl) ⟨RG.ld u33 i33 (by kernel_rfl),RG.ld u33 i33 (by kernel_rfl),RG.cl (rSmall1_c C) fun _ _=>by kernel_rfl,RG.st fun _ _=>by kernel_rfl,RG.st fun _ _=>by kernel_rfl,RG.pt i56 (by kernel_rfl),RG.st fun _ _=>by kernel_rfl,trivial⟩ ?_
 intro a3 w3 M3
 refine wp_ret ?_
 refine bodyPost_ret (v:=(.tuple #[(rv x y (1:Fin P)),(.bool true)])) (RG.results_rt M3.st 2 3 63 rfl 1 _ rfl (M3.at (s:=(.p 1 0)) (by kernel_rfl)) _ (M3.at (s:=(.v (.bool true))) (by kernel_rfl)) u56 i56) M3.sl.defers ?_
 exact ⟨_,rfl,M3.st.bel.below,rfl⟩
def F70n_0 (x:Fin P):List RG.It:=[.m 1 [] 0,.m 2 [] 1,.x 3 [] (.bool false)]
def F70n_1 (x c1 c2 c3:Fin P):List RG.It:=[.c 7 [] rv0,.c 8 [] rv0,.c 9 [] rv0,.c 10 [] rv0,.x 11 [] (fv x),.x 12 [] (fv x),.c 13 [(10,3),(11,4),(12,5)] (fv c1),.x 14 [] (fv x),.c 15 [(9,2),(13,6),(14,7)] (fv c2),.c 16 [] (fv (7:Fin P)),.c 17 [(8,1),(15,8),(16,9)] (fv c3),.c 18 [(7,0),(17,10)] (.tuple #[(fv (0:Fin P)),(.bool false)]),.x 6 [(18,11)] (.tuple #[(fv (0:Fin P)),(.bool false)]),.x 19 [(6,12)] (fv (0:Fin P)),.x 20 [(6,12)] (.bool false),.m 4 [] 2,.u [(4,15),(19,13)] 2,.x 5 [(20,14)] (.bool false)]
def F70n_2 (x:Fin P):List RG.It:=[.x 21 [] (fv x),.x 22 [] (fv (0:Fin P)),.c 23 [] (fv (1:Fin P)),.x 24 [(21,0),(22,1),(23,2)] (rv x (0:Fin P) (1:Fin P)),.x 25 [] (.bool false),.u [(24,3)] 1,.x 3 [(25,4)] (.bool false)]
set_option maxHeartbeats 2000000 in
set_option maxRecDepth 100000 in
theorem rat_n_c (C:Fl3 P) (x:Fin P)(hr:rt (x*x*x+7)=none) :Gives 92 #[(fv x)] (.tuple #[rv x 0 1,.bool false]):=by
 intro w
 obtain ⟨c1,hc1⟩:∃ c,c=x*x:=⟨_,rfl⟩
 obtain ⟨c2,hc2⟩:∃ c,c=c1*x:=⟨_,rfl⟩
 obtain ⟨c3,hc3⟩:∃ c,c=c2+(7:Fin P):=⟨_,rfl⟩
 have hfin:((.tuple #[(rv x (0:Fin P) (1:Fin P)),(.bool false)]):Value)=(.tuple #[rv x 0 1,.bool false]):=by
  subst_vars;rfl
 rw [← hfin]
 go_enter Tryz.func92,Tryz.ntmps92
 refine RG.M.enter [(0,(.v (fv x)))] 26 (by kernel_rfl) ?_
 intro a0 M0
 repeat refine wp_seq ?_
 refine M0.tx (F70n_0 x) [(0,(ws x)),(1,(RG.z 12))] [] [(ws x),(RG.z 12)] [(1,(.p 0 0)),(2,(.p 1 0)),(3,(.v (.bool false)))] (by kernel_rfl) (by kernel_rfl) ⟨RG.mk 0 59 fun _ _=>by kernel_rfl,RG.mk 1 63 fun _ _=>by kernel_rfl,RG.st fun _ _=>by kernel_rfl,trivial⟩ ?_
 intro j1 i1 a1 w1 M1
 repeat refine wp_seq ?_
 refine M1.dr (by kernel_rfl) (F70n_1 x c1 c2 c3) [(15,(RG.z 4))] [(2,16,(ws (0:Fin P)))] [(ws x),(RG.z 12),(ws (0:Fin P))] [(1,(.p 0 0)),(2,(.p 1 0)),(3,(.v (.bool false))),(4,(.p 2 0)),(5,(.v (.bool false)))] (by kernel_rfl) (by kernel_rfl) ⟨RG.cl (F3_c) fun _ _=>by kernel_rfl,RG.cl (F3_c) fun _ _=>by kernel_rfl,RG.cl (F3_c) fun _ _=>by kernel_rfl,RG.cl (F3_c) fun _ _=>by kernel_rfl,RG.ld u33 i33 (by kernel_rfl),RG.ld u33 i33 (by kernel_rfl),RG.cl ((rMul_c C x x).e hc1) fun _ _=>by kernel_rfl,RG.ld u33 i33 (by kernel_rfl),RG.cl ((rMul_c C c1 x).e hc2) fun _ _=>by kernel_rfl,RG.cl (rSmall7_c C) fun _ _=>by kernel_rfl,RG.cl ((rAdd_c C c2 (7:Fin P)).e hc3) fun _ _=>by kernel_rfl,RG.cl (f:=133) (args:=#[rv0,(fv c3)]) (v:=(.tuple #[(fv (0:Fin P)),(.bool false)])) (rSqrt_n C (by subst_vars;exact hr)) fun _ _=>by kernel_rfl,RG.st fun _ _=>by kernel_rfl,RG.st fun _ _=>by kernel_rfl,RG.st fun _ _=>by kernel_rfl,RG.mk 2 59 fun _ _=>by kernel_rfl,RG.pt i33 (by kernel_rfl),RG.st fun _ _=>by kernel_rfl,trivial⟩ ?_
 intro j2 a2 w2 M2
 repeat refine wp_seq ?_
 refine M2.dr (by kernel_rfl) (F70n_2 x) [] [(1,5,(ws x++(ws (0:Fin P)++(ws (1:Fin P)))))] [(ws x),(ws x++(ws (0:Fin P)++(ws (1:Fin P)))),(ws (0:Fin P))] [(2,(.p 1 0)),(3,(.v (.bool false)))] (by kernel_rfl) (by kernel_rfl) ⟨RG.ld u33 i33 (by kernel_rfl),RG.ld u33 i33 (by kernel_rfl),RG.cl (rSmall1_c C) fun _ _=>by kernel_rfl,RG.st fun _ _=>by kernel_rfl,RG.st fun _ _=>by kernel_rfl,RG.pt i56 (by kernel_rfl),RG.st fun _ _=>by kernel_rfl,trivial⟩ ?_
 intro a3 w3 M3
 refine wp_ret ?_
 refine bodyPost_ret (v:=(.tuple #[(rv x (0:Fin P) (1:Fin P)),(.bool false)])) (RG.results_rt M3.st 2 3 63 rfl 1 _ rfl (M3.at (s:=(.p 1 0)) (by kernel_rfl)) _ (M3.at (s:=(.v (.bool false))) (by kernel_rfl)) u56 i56) M3.sl.defers ?_
 exact ⟨_,rfl,M3.st.bel.below,rfl⟩
end Go.Proofs.YtmkllfekhehagagGreat
namespace Go.Proofs.YtmkllfekhehagagGreat
open Go.RowKit Go.Sort Go.Deep
variable {N:Nat}
end Go.Proofs.YtmkllfekhehagagGreat
namespace Go.Proofs.YtmkllfekhehagagGreat
open Go.RowKit Go.Sort Go.Deep
variable {N:Nat}
end Go.Proofs.YtmkllfekhehagagGreat
set_option linter.unusedVariables false
set_option linter.unusedSimpArgs false
namespace Go.Proofs.YtmkllfekhehagagGreat
open Go.RowKit Go.Sort Go.Deep
variable {P:Nat} [NeZero P]
def z12:Array Value:=#[.int .u64 0,.int .u64 0,.int .u64 0,.int .u64 0,.int .u64 0,.int .u64 0,.int .u64 0,.int .u64 0,.int .u64 0,.int .u64 0,.int .u64 0,.int .u64 0]
def W5 (w:World):World:=(w.alloc (.cells z12 63)).alloc (.cells (madeCells #[.int .u8 0] 33) 5)
theorem rNumber_y (C:Fl3 P) (bs:Bs) (hs:bs.size=32) {x:Fin P} (hx:beV bs.toList=x.val):Gives 66 #[rv0,.string ⟨bs⟩] (.tuple #[fv x,.bool true]):=fun w =>
 (rNumber_any _ _ _ _ _ _ _ _ P ⟨bs⟩ C.ref w).mono (by
  rintro e w' ⟨v,rfl,hb,a,b,c,d,ok,rfl,h1,h2,h3,-⟩
  cases ok with
  | false=>exact absurd ⟨hs,by rw [hx];exact x.isLt⟩ (h2 rfl)
  | true =>
   have h4:=(h1 rfl).2
   rw [hx] at h4
   refine ⟨_,rfl,hb,?_⟩
   rw [C.toFld.four x |>.inj h4])
theorem rNumber_n (C:Fl3 P) (bs:Bs) (hs:bs.size=32) (hx:¬ beV bs.toList < P):Gives 66 #[rv0,.string ⟨bs⟩] (.tuple #[nv (beV bs.toList),.bool false]):=fun w =>
 (rNumber_any _ _ _ _ _ _ _ _ P ⟨bs⟩ C.ref w).mono (by
  rintro e w' ⟨v,rfl,hb,a,b,c,d,ok,rfl,h1,h2,h3,-⟩
  cases ok with
  | true=>exact absurd (h1 rfl).1.2 hx
  | false =>
   have h4:=h3 hs
   refine ⟨_,rfl,hb,?_⟩
   rw [h4.nv])
def n12 (P:Nat) [NeZero P]:List Value:=ws (0:Fin P)++(ws (1:Fin P)++ws (0:Fin P))
end Go.Proofs.YtmkllfekhehagagGreat
namespace Go.Proofs.YtmkllfekhehagagGreat
open Go.RowKit Go.Sort Go.Deep
variable {P:Nat} [NeZero P]
end Go.Proofs.YtmkllfekhehagagGreat
namespace Go.Proofs.YtmkllfekhehagagGreat
open Go.RowKit Go.Sort
variable {P:Nat} [NeZero P]
def FracT (t:T3 P) (p:EC.Pt P):Prop:=EC.Frac t.1 t.2.1 t.2.2 p∧EC.On p
def dbF (t:T3 P):T3 P:=(EC.fdE t.2.1 t.2.2*EC.fdT t.1 t.2.1 t.2.2,EC.fdD t.1*(t.1*(EC.fdE t.2.1 t.2.2*EC.fdE t.2.1 t.2.2) - EC.fdT t.1 t.2.1 t.2.2) - t.2.1*(EC.fdE t.2.1 t.2.2*EC.fdE t.2.1 t.2.2*EC.fdE t.2.1 t.2.2),EC.fdE t.2.1 t.2.2*EC.fdE t.2.1 t.2.2*EC.fdE t.2.1 t.2.2*t.2.2)
def plF (a b : T3 P) : T3 P :=
  if a.2.2 = 0 then b else if b.2.2 = 0 then a else
  if b.1 * a.2.2 = a.1 * b.2.2 then (if b.2.1 * a.2.2 = a.2.1 * b.2.2 then dbF a else (0, 1, 0)) else
  ((b.1 * a.2.2 - a.1 * b.2.2) * EC.frT (b.2.1 * a.2.2 - a.2.1 * b.2.2) (b.1 * a.2.2 - a.1 * b.2.2) (a.2.2 * b.2.2) (a.1 * b.2.2),
   (b.2.1 * a.2.2 - a.2.1 * b.2.2) * (a.1 * b.2.2 * ((b.1 * a.2.2 - a.1 * b.2.2) * (b.1 * a.2.2 - a.1 * b.2.2)) - EC.frT (b.2.1 * a.2.2 - a.2.1 * b.2.2) (b.1 * a.2.2 - a.1 * b.2.2) (a.2.2 * b.2.2) (a.1 * b.2.2)) - a.2.1 * b.2.2 * ((b.1 * a.2.2 - a.1 * b.2.2) * (b.1 * a.2.2 - a.1 * b.2.2) * (b.1 * a.2.2 - a.1 * b.2.2)),
   (b.1 * a.2.2 - a.1 * b.2.2) * (b.1 * a.2.2 - a.1 * b.2.2) * (b.1 * a.2.2 - a.1 * b.2.2) * (a.2.2 * b.2.2))
theorem FracT.plus (C:Fl3 P) {a b:T3 P} {p q:EC.Pt P} (h:FracT a p) (h':FracT b q):Gives 35 #[tv a,tv b] (tv (plF a b))∧FracT (plF a b) (EC.add p q):=by
 have ho:=C.cur.on h.2 h'.2
 obtain ⟨x1,y1,z1⟩:=a
 obtain ⟨x2,y2,z2⟩:=b
 unfold plF
 by_cases n1:z1=0
 · rw [if_pos n1]
   obtain rfl:=h.1.zero n1
   exact ⟨rPlus_a_c C x1 y1 z1 x2 y2 z2 n1,h'⟩
 · rw [if_neg n1]
   by_cases n2:z2=0
   · rw [if_pos n2]
     obtain rfl:=h'.1.zero n2
     refine ⟨rPlus_b_c C x1 y1 z1 x2 y2 z2 n1 n2,?_⟩
     rw [EC.add_none]
     exact h
   · rw [if_neg n2]
     rcases h.1.plus C.cur h.2 h'.1 h'.2 n1 n2 with ⟨e1,e2,e3⟩ | ⟨e1,e2,e3,e4⟩ | ⟨e1,e2⟩
     · rw [if_pos e1,if_neg e2]
       refine ⟨rPlus_c_c C x1 y1 z1 x2 y2 z2 n1 n2 e1 e2,?_,ho⟩
       rw [e3]
       exact rfl
     · rw [if_pos e1,if_pos e2]
       refine ⟨rPlus_d_c C x1 y1 z1 x2 y2 z2 n1 n2 e1 e2 e3,?_,ho⟩
       rw [e4]
       exact h.1.double C.cur h.2 n1
     · rw [if_neg e1]
       exact ⟨rPlus_e_c C x1 y1 z1 x2 y2 z2 n1 n2 e1,e2,ho⟩
theorem FracT.none:FracT ((0,1,0):T3 P) .none:=⟨rfl,EC.none_on⟩
def tmF (n:Nat) (t:T3 P):Nat→T3 P
 | 0=>(0,1,0)
 | m+1=>if n / 2 ^ (255 - m) % 2=1 then plF (plF (tmF n t m) (tmF n t m)) t else plF (tmF n t m) (tmF n t m)
theorem tmF_F (C:Fl3 P) {n:Nat} {t:T3 P} {p:EC.Pt P} (hn:n < 2 ^ 256) (h:FracT t p):∀ m,m≤256→FracT (tmF n t m) (EC.mul (n / 2 ^ (256 - m)) p)
 | 0,_=>by
  rw [Nat.sub_zero,Nat.div_eq_of_lt hn]
  exact FracT.none
 | m+1,hm=>by
  have ih:=tmF_F C hn h m (by omega)
  have e1:256 - m=255 - m+1:=by omega
  rw [show 256 - (m+1)=255 - m by omega,div_bit n (255 - m),← e1]
  unfold tmF
  have h2:=(ih.plus C ih).2
  rw [← EC.mul_add C.cur h.2,← Nat.two_mul] at h2
  by_cases hb:n / 2 ^ (255 - m) % 2=1
  · rw [if_pos hb,hb]
    exact (h2.plus C h).2
  · rw [if_neg hb,show n / 2 ^ (255 - m) % 2=0 by omega]
    exact h2
end Go.Proofs.YtmkllfekhehagagGreat
namespace Go.Proofs.YtmkllfekhehagagGreat
open Go.RowKit Go.Sort
variable {P:Nat} [NeZero P]
theorem frac_one (C:Fld P) (x y:Fin P):EC.Frac x y 1 (.some (x,y):EC.Pt P):=⟨fun h=>C.cur.two (by grobner),by grobner,by grobner⟩
end Go.Proofs.YtmkllfekhehagagGreat
