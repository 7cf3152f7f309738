import Derived.Deep.LoopGhost
import Derived.Deep.RegionHeld3
import Derived.Lib.LazyBuf
import Derived.RangeFuncNested
import Derived.RangeFuncBound
import Derived.RangeFuncCalls
import Derived.RangeFuncLeaves
import Derived.Shelf.Abstract
import Derived.Shelf.RegionOpen
import Derived.WalkKit
import Derived.OwnWalkIn
import Derived.TacticsInMore
import Derived.LoopNIn
import Derived.LoopIn
import Derived.Deep.RegionWith
import Derived.Deep.CutRange
import Derived.Deep.DeepCutAuto
import Derived.Great.BuildSlice
import Derived.Laws.AppendOwn
import Derived.Laws.IdiomCopy
import Derived.BigQuiet
import Derived.Test.YtgdfkblfggnnfaaDoorTie
import Derived.Test.YtgdfkblfggnnfaaDoorCards
import Derived.ChangeOld
import Derived.ChangeMaps
import Derived.ProofKit
import Derived.LaidMore
import Derived.OpenShut
import Derived.Stop.Joined
import Derived.SevenTiedAt
import Derived.Lib.LaidTab
import Derived.Test.YtgdfkblfggnnfaaDoorKt3
set_option linter.unusedVariables false
set_option linter.unusedSimpArgs false
set_option maxRecDepth 1000000
set_option maxHeartbeats 4000000
namespace Go.Proofs.YtgdfkblfggnnfaaDoor
section
open Go.RowKit Go.Sort
variable {P:Nat} [NeZero P] {N:Nat}
def ArgsPts (w:World) (q:Option Addr) (n:Nat) (L:Nat→Bs):Prop:=0<n→∃ gg,q=some ⟨gg,0,none⟩∧gg<w.heap.size∧∀ j,j<n→∃ v,w.cell? ⟨gg,j,none⟩=some v∧Arg33 w v (L j)
def PtsR (P:Nat) [NeZero P] (w:World) (n:Nat) (L:Nat→Bs) (e:Value) (w':World):Prop:=
 (∃ k,w.heap.size≤k∧k<w'.heap.size∧e=.tuple #[.slice (some ⟨k,0,none⟩) n n,.int .i64 0]∧∀ j,j<n→∃ p,rd P (L j)=some p∧w'.rangeAt k (8*j) (ws p.1++ws p.2)) ∨
 ((∃ j,j<n∧rd P (L j)=none)∧e=.tuple #[.slice none 0 0,.int .i64 4])
def ArgsScs (w:World) (q:Option Addr) (n:Nat) (L:Nat→Bs):Prop:=0<n→∃ gg,q=some ⟨gg,0,none⟩∧gg<w.heap.size∧∀ j,j<n→∃ v,w.cell? ⟨gg,j,none⟩=some v∧Arg w v (L j)
def ScsR (N:Nat) (w:World) (n:Nat) (L:Nat→Bs) (e:Value) (w':World):Prop:=
 (∃ k,w.heap.size≤k∧k<w'.heap.size∧e=.tuple #[.slice (some ⟨k,0,none⟩) n n,.int .i64 0]∧∀ j,j<n→∃ p,rq N (L j)=some p∧w'.rangeAt k (4*j) (wn p)) ∨
 ((∃ j,j<n∧rq N (L j)=none)∧e=.tuple #[.slice none 0 0,.int .i64 3])
theorem Scs_c {N:Nat} (hG:Gap 4624529908474429119 4994812053365940164 1 N) (n cap:Nat) (hn:n≤512) (q:Option Addr) (L:Nat→Bs) (w:World) (hA:ArgsScs w q n L):Calls Tryd.prog 29 #[.slice q n cap] w (Ret fun e w'=>Below w.heap.size w w'∧ScsR N w n L e w'):=by
 obtain ⟨C,hCl,hmk⟩:=mk82 n hn
 obtain ⟨i,-⟩:∃ i:Nat,i=0:=⟨_,rfl⟩
 obtain ⟨gg,-⟩:∃ i:Nat,i=0:=⟨_,rfl⟩
 obtain ⟨m,-⟩:∃ i:Nat,i=0:=⟨_,rfl⟩
 obtain ⟨v,-⟩:∃ v:Value,v=.bool true:=⟨_,rfl⟩
 obtain ⟨C2,-⟩:∃ c:List Value,c=C:=⟨_,rfl⟩
 go_enter Tryd.func29,Tryd.ntmps29
 refine RG.var1 (v0:=.slice q n cap) (n:=33) (by kernel_rfl) (by kernel_rfl) (by kernel_rfl) ?_
 intro a0 sl0 f0
 have hS0:=RG.St.begin w
 have M0:RG.M w w.heap.size [] 33 [] [] [(0,(.v (.slice q n cap)))] a0 _:=⟨hS0,sl0,⟨f0,trivial⟩⟩
 repeat refine wp_seq ?_
 refine M0.u [.x 2 [] (.slice none 0 0),.x 3 [] (.int .i64 0)] [(0,(.v (.slice q n cap))),(2,(.v (.slice none 0 0))),(3,(.v (.int .i64 0)))] ⟨RG.st,RG.st,trivial⟩ ?_
 intro a1 w1 M1
 repeat refine wp_seq ?_
 refine M1.t [.x 9 [] (.slice q n cap),.x 10 [(9,0)] (.int .i64 n),⟨some 11,[(10,1)],(.s 0 n n),.make 0⟩,.s 4 [(11,2)] (.s 0 n n)] [(2,C)] [] [C] [(0,(.v (.slice q n cap))),(2,(.v (.slice none 0 0))),(3,(.v (.int .i64 0))),(4,(.s 0 n n))] ⟨RG.st,RG.cert_one rfl 9 (.v (.slice q n cap)) (.int .i64 n) rfl RG.sx (fun a w=>by kernel_rfl) (fun μ w=>by kernel_rfl),RG.cert_makes 0 rfl _ rfl 69 44 10 10 n rfl rfl RG.sx RG.sx (hmk),RG.st,trivial⟩ ?_
 intro j2 a2 w2 M2
 repeat refine wp_seq ?_
 refine M2.u [.x 12 [] (.slice q n cap),.x 13 [(12,0)] (.int .i64 n),.x 14 [] (.int .i64 0)] [(2,(.v (.slice none 0 0))),(3,(.v (.int .i64 0))),(4,(.s 0 n n)),(12,(.v (.slice q n cap))),(13,(.v (.int .i64 n))),(14,(.v (.int .i64 0)))] ⟨RG.st,RG.cert_one rfl 12 (.v (.slice q n cap)) (.int .i64 n) rfl RG.sx (fun a w=>by kernel_rfl) (fun μ w=>by kernel_rfl),RG.st,trivial⟩ ?_
 intro a3 w3 M3
 have f2_3:a3.tmps[2]? = some (.slice none 0 0):=M3.at (s:=(.v (.slice none 0 0)))
 have f3_3:a3.tmps[3]? = some (.int .i64 0):=M3.at (s:=(.v (.int .i64 0)))
 have f4_3:a3.tmps[4]? = some (.slice (some ⟨j2,0,none⟩) n n):=M3.at (s:=(.s 0 n n))
 have f12_3:a3.tmps[12]? = some (.slice q n cap):=M3.at (s:=(.v (.slice q n cap)))
 have f13_3:a3.tmps[13]? = some (.int .i64 n):=M3.at (s:=(.v (.int .i64 n)))
 have f14_3:a3.tmps[14]? = some (.int .i64 0):=M3.at (s:=(.v (.int .i64 0)))
 repeat refine wp_seq ?_
 refine wp_block ?_
 refine wp_loop_ghost (fun m a wr=>∃ (i:Nat) (C:List Value),i+m=n∧(∀ j,j<i→(rq N (L j)).isSome=true)∧Rows 4 n (fun j=>match rq N (L j) with|some k=>wn k|none=>[]) i C∧RG.Sl a 33∧a.tmps[4]? = some (.slice (some ⟨j2,0,none⟩) n n)∧a.tmps[12]? = some (.slice q n cap)∧a.tmps[13]? = some (.int .i64 n)∧a.tmps[14]? = some (.int .i64 i)∧RG.St w w.heap.size [] [C] [j2] wr) n ⟨0,C,by omega,fun j hj=>by omega,⟨hCl,fun j r hj=>by omega⟩,M3.sl,f4_3,f12_3,f13_3,f14_3,M3.st⟩ ?_
 intro m' a wr
 rintro ⟨i,C,him,hall,hR,sl,p4,p12,p13,p14,hSp⟩
 generalize j2=kt at p4 hSp
 by_cases hi:i<n
 ·obtain ⟨gg,hqe,hgg,hc⟩:=hA (by omega)
  rw[hqe] at p12
  obtain ⟨v,hv,harg⟩:=hc i hi
  have hcell:w.cell? ⟨gg,0+i,none⟩=some v:=by rw[Nat.zero_add];exact hv
  cases hrdv:rq N (L i) with
  | some pp =>
   obtain ⟨m,rfl⟩:∃ m,m=pp:=⟨_,rfl⟩
   have hrd:∀ w',RG.BelX w.heap.size [] w w'→Calls Tryd.prog 43 #[gv1,v] w' (Ret fun e w''=>Below w'.heap.size w' w''∧e=.tuple #[nv m,.bool true]):=fun w' hb=>by
    have:=readQ_c hG v (L i) w' (harg.below hb.below)
    rw[hrdv] at this
    exact this
   have hlen:=hR.len
   have hoff:0+4*i+(wn m).length≤C.length:=by rw[hlen];show 0+4*i+4≤4*n;omega
   obtain ⟨C2,hC2e⟩:∃ c,RG.rep C (0+4*i) (wn m)=c:=⟨_,rfl⟩
   have hC2:=hC2e ▸ RG.rep_at hoff
   have hcl:C2.length=C.length:=hC2e ▸ RG.rep_length hoff
   have hR2:Rows 4 n (fun j=>match rq N (L j) with|some k=>wn k|none=>[]) (i+1) C2:=by
    have:=hR.next hi (by show List.length (match rq N (L i) with|some p=>_|none=>_)=_;rw[hrdv];rfl)
    rw[← hC2e]
    have e:(fun j=>match rq N (L j) with|some k=>wn k|none=>[]) i=(wn m):=by show (match rq N (L i) with|some p=>_|none=>_)=_;rw[hrdv]
    rw[← e]
    exact this
   have M10:RG.M w w.heap.size [] 33 [C] [kt] [(4,(.s 0 n n)),(12,(.v (.slice (some ⟨gg,0,none⟩) n cap))),(13,(.v (.int .i64 n))),(14,(.v (.int .i64 i)))] a _:=⟨hSp,sl,⟨p4,p12,p13,p14,trivial⟩⟩
   repeat refine wp_seq ?_
   refine M10.u [.x 15 [] (.bool true)] [(4,(.s 0 n n)),(12,(.v (.slice (some ⟨gg,0,none⟩) n cap))),(13,(.v (.int .i64 n))),(14,(.v (.int .i64 i))),(15,(.v (.bool true)))] ⟨RG.cert_bin rfl .lss 3 3 14 13 (.int .i64 i) (.int .i64 n) (.bool true) rfl rfl RG.sx RG.sx (fun w=>by kernel_rfl) (lssn_t hi),trivial⟩ ?_
   intro a11 w11 M11
   repeat refine wp_seq ?_
   refine wp_cond_true M11.ev ?_
   refine wp_skip ?_
   refine wp_seq ?_
   refine wp_block ?_
   repeat refine wp_seq ?_
   refine M11.u [.x 16 [] (.int .i64 i),.x 17 [] (.pointer (some ⟨gg,(0+i),none⟩)),.x 18 [(17,1)] v,.x 5 [(16,0)] (.int .i64 i),.x 6 [(18,2)] v] [(4,(.s 0 n n)),(5,(.v (.int .i64 i))),(6,(.v v)),(12,(.v (.slice (some ⟨gg,0,none⟩) n cap))),(13,(.v (.int .i64 n))),(14,(.v (.int .i64 i)))] ⟨RG.st,RG.cert_idx rfl 24 12 14 rfl (.v (.slice (some ⟨gg,0,none⟩) n cap)) (.int .i64 i) RG.sx RG.sx (fun μ w=>at46 _ 0 _ _ i hi w),RG.cert_load1B rfl gg (0+i) hgg List.not_mem_nil 23 17 rfl v rfl RG.sx hcell u23,RG.st,RG.st,trivial⟩ ?_
   intro a12 w12 M12
   repeat refine wp_seq ?_
   refine M12.t [.c 20 [] gv1,.x 21 [] v,.c 22 [(20,0),(21,1)] (.tuple #[(nv m),(.bool true)]),.x 19 [(22,2)] (.tuple #[(nv m),(.bool true)]),.x 23 [(19,3)] (nv m),.x 24 [(19,3)] (.bool true),.m 7 [] 1,.u [(7,6),(23,4)] 1,.x 8 [(24,5)] (.bool true)] [(6,(RG.z 4))] [(1,7,(wn m))] [C,(wn m)] [(4,(.s 0 n n)),(5,(.v (.int .i64 i))),(7,(.p 1 0)),(8,(.v (.bool true))),(12,(.v (.slice (some ⟨gg,0,none⟩) n cap))),(13,(.v (.int .i64 n))),(14,(.v (.int .i64 i)))] ⟨RG.cl (Scalars_c),RG.st,RG.cert_callB2 rfl 43 20 21 gv1 v (.tuple #[(nv m),(.bool true)]) rfl (fun a w=>by kernel_rfl) RG.sx RG.sx hrd,RG.st,RG.st,RG.st,RG.mk 1 44,RG.pt i85,RG.st,trivial⟩ ?_
   intro j13 a13 w13 M13
   repeat refine wp_seq ?_
   refine M13.u [.x 25 [] (.bool true),.x 26 [(25,0)] (.bool false)] [(4,(.s 0 n n)),(5,(.v (.int .i64 i))),(7,(.p 1 0)),(12,(.v (.slice (some ⟨gg,0,none⟩) n cap))),(13,(.v (.int .i64 n))),(14,(.v (.int .i64 i))),(26,(.v (.bool false)))] ⟨RG.st,RG.st,trivial⟩ ?_
   intro a14 w14 M14
   repeat refine wp_seq ?_
   refine wp_cond_false M14.ev ?_
   refine wp_skip ?_
   repeat refine wp_seq ?_
   refine M14.tx [.s 27 [] (.s 0 n n),.x 28 [] (.int .i64 i),.x 29 [] (nv m),.s 30 [(27,0),(28,1)] (.p 0 (0+4*i)),.u [(30,3),(29,2)] 0] [] [(0,4,C2)] [C2,(wn m)] [(4,(.s 0 n n)),(12,(.v (.slice (some ⟨gg,0,none⟩) n cap))),(13,(.v (.int .i64 n))),(14,(.v (.int .i64 i)))] (by kernel_rfl) (congrArg (fun n=>[n]) hcl) ⟨RG.st,RG.st,RG.ld u85 i85,RG.cert_idx rfl 69 27 28 rfl (.s 0 n n) (.int .i64 i) RG.sx RG.sx (fun μ w=>at82 _ 0 _ _ i hi w),RG.cert_putAt 0 (0+4*i) rfl _ rfl 44 (.tmp 30) (.tmp 29) (wn m) rfl rfl RG.sx RG.sx hoff hC2 i85 rfl,trivial⟩ ?_
   intro a15 w15 M15
   repeat refine wp_seq ?_
   refine M15.u [.x 31 [] (.int .i64 ((i+1:Nat):Int)),.x 14 [(31,0)] (.int .i64 ((i+1:Nat):Int))] [(4,(.s 0 n n)),(12,(.v (.slice (some ⟨gg,0,none⟩) n cap))),(13,(.v (.int .i64 n))),(14,(.v (.int .i64 ((i+1:Nat):Int))))] ⟨RG.cert_binc rfl .add 3 3 14 (.int .i64 i) (.int .i64 1) (.int .i64 ((i+1:Nat):Int)) rfl rfl RG.sx (fun w=>by kernel_rfl) (addn i 1 (by omega) (by omega)),RG.st,trivial⟩ ?_
   intro a16 w16 M16
   have f4_16:a16.tmps[4]? = some (.slice (some ⟨kt,0,none⟩) n n):=M16.at (s:=(.s 0 n n))
   have f12_16:a16.tmps[12]? = some (.slice (some ⟨gg,0,none⟩) n cap):=M16.at (s:=(.v (.slice (some ⟨gg,0,none⟩) n cap)))
   have f13_16:a16.tmps[13]? = some (.int .i64 n):=M16.at (s:=(.v (.int .i64 n)))
   have f14_16:a16.tmps[14]? = some (.int .i64 ((i+1:Nat):Int)):=M16.at (s:=(.v (.int .i64 ((i+1:Nat):Int))))
   show ∃ n',_
   exact ⟨m'-1,by omega,i+1,C2,by omega,fun j hj=>(by
    by_cases hji:j=i
    ·rw[hji,hrdv];rfl
    ·exact hall j (by omega)),hR2,M16.sl,f4_16,(by rw[hqe];exact f12_16),f13_16,f14_16,RG.St.init (cs:=[C2]) (ks:=[kt]) M16.st⟩
  | none =>
   have hrd:∀ w',RG.BelX w.heap.size [] w w'→Calls Tryd.prog 43 #[gv1,v] w' (Ret fun e w''=>Below w'.heap.size w' w''∧e=.tuple #[nv 0,.bool false]):=fun w' hb=>by
    have:=readQ_c hG v (L i) w' (harg.below hb.below)
    rw[hrdv] at this
    exact this
   have M20:RG.M w w.heap.size [] 33 [C] [kt] [(4,(.s 0 n n)),(12,(.v (.slice (some ⟨gg,0,none⟩) n cap))),(13,(.v (.int .i64 n))),(14,(.v (.int .i64 i)))] a _:=⟨hSp,sl,⟨p4,p12,p13,p14,trivial⟩⟩
   repeat refine wp_seq ?_
   refine M20.u [.x 15 [] (.bool true)] [(12,(.v (.slice (some ⟨gg,0,none⟩) n cap))),(14,(.v (.int .i64 i))),(15,(.v (.bool true)))] ⟨RG.cert_bin rfl .lss 3 3 14 13 (.int .i64 i) (.int .i64 n) (.bool true) rfl rfl RG.sx RG.sx (fun w=>by kernel_rfl) (lssn_t hi),trivial⟩ ?_
   intro a21 w21 M21
   repeat refine wp_seq ?_
   refine wp_cond_true M21.ev ?_
   refine wp_skip ?_
   refine wp_seq ?_
   refine wp_block ?_
   repeat refine wp_seq ?_
   refine M21.u [.x 16 [] (.int .i64 i),.x 17 [] (.pointer (some ⟨gg,(0+i),none⟩)),.x 18 [(17,1)] v,.x 5 [(16,0)] (.int .i64 i),.x 6 [(18,2)] v] [(6,(.v v))] ⟨RG.st,RG.cert_idx rfl 24 12 14 rfl (.v (.slice (some ⟨gg,0,none⟩) n cap)) (.int .i64 i) RG.sx RG.sx (fun μ w=>at46 _ 0 _ _ i hi w),RG.cert_load1B rfl gg (0+i) hgg List.not_mem_nil 23 17 rfl v rfl RG.sx hcell u23,RG.st,RG.st,trivial⟩ ?_
   intro a22 w22 M22
   repeat refine wp_seq ?_
   refine M22.t [.c 20 [] gv1,.x 21 [] v,.c 22 [(20,0),(21,1)] (.tuple #[(nv 0),(.bool false)]),.x 19 [(22,2)] (.tuple #[(nv 0),(.bool false)]),.x 23 [(19,3)] (nv 0),.x 24 [(19,3)] (.bool false),.m 7 [] 1,.u [(7,6),(23,4)] 1,.x 8 [(24,5)] (.bool false)] [(6,(RG.z 4))] [(1,7,(wn 0))] [C,(wn 0)] [(8,(.v (.bool false)))] ⟨RG.cl (Scalars_c),RG.st,RG.cert_callB2 rfl 43 20 21 gv1 v (.tuple #[(nv 0),(.bool false)]) rfl (fun a w=>by kernel_rfl) RG.sx RG.sx hrd,RG.st,RG.st,RG.st,RG.mk 1 44,RG.pt i85,RG.st,trivial⟩ ?_
   intro j23 a23 w23 M23
   repeat refine wp_seq ?_
   refine M23.u [.x 25 [] (.bool false),.x 26 [(25,0)] (.bool true)] [(26,(.v (.bool true)))] ⟨RG.st,RG.st,trivial⟩ ?_
   intro a24 w24 M24
   repeat refine wp_seq ?_
   refine wp_cond_true M24.ev ?_
   repeat refine wp_seq ?_
   refine M24.u [.x 2 [] (.slice none 0 0),.x 3 [] (.int .i64 3)] [(2,(.v (.slice none 0 0))),(3,(.v (.int .i64 3)))] ⟨RG.st,RG.st,trivial⟩ ?_
   intro a25 w25 M25
   refine wp_ret ?_
   refine bodyPost_ret (v:=.tuple #[.slice none 0 0,.int .i64 3]) (RG.results_tt 2 3 rfl _ _ (M25.at (s:=(.v (.slice none 0 0)))) (M25.at (s:=(.v (.int .i64 3))))) M25.sl.defers ?_
   exact ⟨_,rfl,M25.st.bel.below,Or.inr ⟨⟨i,hi,hrdv⟩,rfl⟩⟩
 ·have hiN:i=n:=by omega
  have M30:RG.M w w.heap.size [] 33 [C] [kt] [(4,(.s 0 n n)),(12,(.v (.slice q n cap))),(13,(.v (.int .i64 n))),(14,(.v (.int .i64 i)))] a _:=⟨hSp,sl,⟨p4,p12,p13,p14,trivial⟩⟩
  repeat refine wp_seq ?_
  refine M30.u [.x 15 [] (.bool false)] [(4,(.s 0 n n)),(15,(.v (.bool false)))] ⟨RG.cert_bin rfl .lss 3 3 14 13 (.int .i64 i) (.int .i64 n) (.bool false) rfl rfl RG.sx RG.sx (fun w=>by kernel_rfl) (lssn_f hi),trivial⟩ ?_
  intro a31 w31 M31
  repeat refine wp_seq ?_
  refine wp_cond_false M31.ev ?_
  refine wp_exit ?_
  dsimp only[Exit.then,Exit.inBlock]
  rw[if_pos rfl]
  repeat refine wp_seq ?_
  refine M31.u [.s 32 [] (.s 0 n n),.s 2 [(32,0)] (.s 0 n n),.x 3 [] (.int .i64 0)] [(2,(.s 0 n n)),(3,(.v (.int .i64 0)))] ⟨RG.st,RG.st,RG.st,trivial⟩ ?_
  intro a32 w32 M32
  refine wp_ret ?_
  refine bodyPost_ret (v:=.tuple #[.slice (some ⟨kt,0,none⟩) n n,.int .i64 0]) (RG.results_tt 2 3 rfl _ _ (M32.at (s:=(.s 0 n n))) (M32.at (s:=(.v (.int .i64 0))))) M32.sl.defers ?_
  refine ⟨_,rfl,M32.st.bel.below,Or.inl ⟨kt,?_,?_,rfl,fun j hj=>?_⟩⟩
  ·exact (M32.st.has 0 C rfl).2.2.2.elim id (fun h=>absurd h List.not_mem_nil)
  ·exact (M32.st.has 0 C rfl).2.2.1
  ·obtain ⟨pp,hpp⟩:=Option.isSome_iff_exists.1 (hall j (by omega))
   refine ⟨pp,hpp,RG.range_sub (M32.st.has 0 C rfl).1 (fun r hr=>?_)⟩
   have h5:=hR.row j r (by omega) hr
   rw[h5]
   show (match rq N (L j) with|some p=>_|none=>_)[r]? = _
   rw[hpp]
end
section
open Go.RowKit Go.Sort Go.Deep
variable {P:Nat} [NeZero P] {N:Nat}
def OutE (c:Int) (e:Value):Prop:=e=.tuple #[.slice none 0 0,.int .i64 c]
def OutP (w:World) (T:Bs) (e:Value) (w':World):Prop:=∃ g cap,e=.tuple #[.slice (some ⟨g,0,none⟩) 33 cap,.int .i64 0]∧33≤cap∧w.heap.size≤g∧g<w'.heap.size∧Holds encB w' g 0 T
theorem one_args {w:World} {v:Value} {bs:Bs} (T:TypeId) (h:Arg33 w v bs):ArgsPts (w.alloc (.cells #[v] T)) (some ⟨w.heap.size,0,none⟩) 1 (fun _=>bs):=fun _ =>
 ⟨w.heap.size,rfl,by rw[World.size_alloc];omega,fun j hj=>by
  obtain rfl:j=0:=by omega
  exact ⟨v,by rw[World.cell?_alloc_new];rfl,h.below (below1 w _)⟩⟩
def ptP (s:T3 P):Fin P × Fin P:=(s.1*(EC.inv s.2.2*EC.inv s.2.2),s.2.1*(EC.inv s.2.2*EC.inv s.2.2)*EC.inv s.2.2)
theorem cell_below {w w1:World} {k j:Nat} {v:Value} (h:w.cell? ⟨k,j,none⟩=some v) (hb:Below w.heap.size w w1) (hk:k<w.heap.size):w1.cell? ⟨k,j,none⟩=some v:=by
 have h1:w.rangeAt k j [v]:=fun i u hu=>by
  cases i with
  | zero =>
   obtain rfl:v=u:=Option.some.inj hu
   exact h
  | succ i=>exact absurd hu (by simp)
 exact RG.range_below h1 hb hk 0 v rfl
theorem ArgsPts.below {w w1:World} {q:Option Addr} {n:Nat} {L:Nat→Bs} (h:ArgsPts w q n L) (hb:Below w.heap.size w w1):ArgsPts w1 q n L:=fun hn=>by
 obtain ⟨gg,hq,hlt,hc⟩:=h hn
 refine ⟨gg,hq,Nat.lt_of_lt_of_le hlt hb.size,fun j hj=>?_⟩
 obtain ⟨v,hv,ha⟩:=hc j hj
 exact ⟨v,cell_below hv hb hlt,ha.below hb⟩
theorem ArgsScs.below {w w1:World} {q:Option Addr} {n:Nat} {L:Nat→Bs} (h:ArgsScs w q n L) (hb:Below w.heap.size w w1):ArgsScs w1 q n L:=fun hn=>by
 obtain ⟨gg,hq,hlt,hc⟩:=h hn
 refine ⟨gg,hq,Nat.lt_of_lt_of_le hlt hb.size,fun j hj=>?_⟩
 obtain ⟨v,hv,ha⟩:=hc j hj
 exact ⟨v,cell_below hv hb hlt,ha.below hb⟩
def SumR (P:Nat) [NeZero P] (N:Nat) (w:World) (n a:Nat) (L M:Nat→Bs) (e:Value) (w':World):Prop:=
 (n≠a∧OutE 2 e)∨(n=a∧512<n∧OutE 1 e)∨(n=a∧n≤512∧(((∃ j,j<n∧rq N (L j)=none)∧OutE 3 e) ∨
  ∃ ns:Nat→Nat,(∀ j,j<n→rq N (L j)=some (ns j))∧(((∃ j,j<n∧rd P (M j)=none)∧OutE 4 e) ∨
   ∃ xs ys:Nat→Fin P,(∀ j,j<n→rd P (M j)=some (xs j,ys j))∧OutP w (by33 (ptP (sumJ ns xs ys n 257)).1 (ptP (sumJ ns xs ys n 257)).2) e w')))
theorem choose_nat {A:Type} [Inhabited A] {n:Nat} {p:Nat→A→Prop} (h:∀ j,j<n→∃ a,p j a):∃ f:Nat→A,∀ j,j<n→p j (f j):=
 ⟨fun j=>if hj:j<n then (h j hj).choose else default,fun j hj=>by
  show p j (if hj:j<n then (h j hj).choose else default)
  rw[dif_pos hj]
  exact (h j hj).choose_spec⟩
theorem rq_top {N:Nat} (hN:N≤top) {bs:Bs} {m:Nat} (h:rq N bs=some m):m<top:=by
 unfold rq at h
 split at h
 ·rename_i h1
  obtain rfl:beV bs.toList=m:=Option.some.inj h
  exact Nat.lt_of_lt_of_le h1.2 hN
 ·exact absurd h (by simp)
theorem one_scs {w:World} {v:Value} {bs:Bs} (T:TypeId) (h:Arg w v bs):ArgsScs (w.alloc (.cells #[v] T)) (some ⟨w.heap.size,0,none⟩) 1 (fun _=>bs):=fun _ =>
 ⟨w.heap.size,rfl,by rw[World.size_alloc];omega,fun j hj=>by
  obtain rfl:j=0:=by omega
  exact ⟨v,by rw[World.cell?_alloc_new];rfl,h.below (below1 w _)⟩⟩
theorem inn_one (ns:Nat→Nat) (xs ys:Nat→Fin P) (st:T3 P) (p:Nat):inn ns xs ys st p 1=inn (fun _=>ns 0) (fun _=>xs 0) (fun _=>ys 0) st p 1:=rfl
theorem sumJ_one (ns:Nat→Nat) (xs ys:Nat→Fin P):∀ m,sumJ ns xs ys 1 m=sumJ (fun _=>ns 0) (fun _=>xs 0) (fun _=>ys 0) 1 m
 | 0=>rfl
 | m+1=>by
  unfold sumJ
  rw[sumJ_one ns xs ys m,inn_one]
def TimesR (P:Nat) [NeZero P] (N:Nat) (w:World) (az bs:Bs) (e:Value) (w':World):Prop:=match rq N az,rd P bs with
 | none,_=>OutE 3 e
 | some _,none=>OutE 4 e
 | some n,some p=>OutP w (by33 (ptP (sumJ (fun _=>n) (fun _=>p.1) (fun _=>p.2) 1 257)).1 (ptP (sumJ (fun _=>n) (fun _=>p.1) (fun _=>p.2) 1 257)).2) e w'
def zs33:Bs:=Array.replicate 33 0
theorem sq_mod (r d:Nat):d*d%(r+d)=r*r%(r+d):=by
 have h:d*d+(r+d)*r=r*r+(r+d)*d:=by
  rw[Nat.add_mul,Nat.add_mul,Nat.mul_comm d r]
  omega
 have h1:=congrArg (· % (r+d)) h
 simp only[Nat.add_mul_mod_self_left] at h1
 exact h1
theorem rt_sq {m y:Fin P} (h:rt m=some y):y*y=m:=by
 have h0:=rt_yes h
 unfold rt at h
 rw[if_pos h0] at h
 obtain rfl:=Option.some.inj h
 have hP:=Nat.pos_of_neZero P
 have hr:m.val^(P/4+1)%P<P:=Nat.mod_lt _ hP
 generalize m.val^(P/4+1)%P=r at h0 hr
 apply Fin.ext
 rw[Fin.val_mul]
 show (even P r%P)*(even P r%P)%P=m.val
 rw[Nat.mod_eq_of_lt (even_lt hP hr),← h0]
 unfold even
 split
 ·have h2:=sq_mod r (P-r)
  rw[show r+(P-r)=P by omega] at h2
  exact h2
 ·rfl
theorem zero33_iff {bs:Bs} (hs:bs.size=33):Zero33 bs↔bs=zs33:=by
 constructor
 ·intro h
  apply Array.ext
  ·rw[hs];rfl
  ·intro i h1 h2
   have:=h i (List.mem_range.2 (by omega))
   rw[getElem!_pos bs i h1] at this
   have h3:bs[i].toNat=0:=by
    have h4:ub bs[i]=(bs[i].toNat:Int):=rfl
    rw[h4] at this
    omega
   have h5:(zs33)[i]=0:=by
    have h6:(Array.replicate 33 (0:UInt8))[i]'h2=0:=Array.getElem_replicate _
    exact h6
   rw[h5]
   exact UInt8.toNat_inj.1 h3
 ·rintro rfl i hi
  have hi:=List.mem_range.1 hi
  unfold zs33
  rw[getElem!_pos _ i (by rw[Array.size_replicate];exact hi),Array.getElem_replicate]
  rfl
theorem on_of {x y:Fin P} (h:y*y=x*x*x+7):EC.On (.some (x,y):EC.Pt P):=by
 show y^2=x^3+7
 grobner
theorem on_neg {x y:Fin P} (h:y*y=x*x*x+7):EC.On (.some (x,0-y):EC.Pt P):=by
 show (0-y)^2=x^3+7
 grobner
def wr:EC.Pt P→Bs
 | none=>zs33
 | some (x,y)=>#[mark y.val]++bx x.val
theorem by33_wr (C:Fld P) {x y:Fin P} {p:EC.Pt P} (h:EC.Pair x y p) (ho:EC.On p):by33 x y=wr p:=by
 unfold by33
 match p,h,ho with
 | none,h,_=>rw[if_pos (show x=0∧y=0 from h)];rfl
 | some (a,b),h,ho =>
  obtain ⟨rfl,rfl⟩:=h
  rw[if_neg (fun e=>C.cur.y_ne ho e.2)]
  rfl
def pt (p:Fin P × Fin P):EC.Pt P:=if p.1=0∧p.2=0 then none else some p
theorem pair_pt (C:Fld P) {x y:Fin P} {q:EC.Pt P} (h:EC.Pair x y q) (ho:EC.On q):q=pt (x,y):=by
 unfold pt
 match q,h,ho with
 | none,h,_=>rw[if_pos (show x=0∧y=0 from h)]
 | some (a,b),h,ho =>
  obtain ⟨rfl,rfl⟩:=h
  rw[if_neg (fun e=>C.cur.y_ne ho e.2)]
theorem rd_on (C:Fld P) {bs:Bs} {p:Fin P × Fin P} (h:rd P bs=some p):EC.Pair p.1 p.2 (pt p)∧EC.On (pt p):=by
 have key:∃ q:EC.Pt P,EC.Pair p.1 p.2 q∧EC.On q:=by
  unfold rd at h
  split at h
  ·split at h
   ·obtain rfl:=Option.some.inj h
    exact ⟨none,⟨rfl,rfl⟩,EC.none_on⟩
   ·split at h
    ·split at h
     ·obtain ⟨y,hr,rfl⟩:=Option.map_eq_some_iff.1 h
      have hsq:=rt_sq hr
      refine ⟨some (rdx P bs,if ub bs[0]! = 3 then 0-y else y),⟨rfl,rfl⟩,?_⟩
      split
      ·exact on_neg hsq
      ·exact on_of hsq
     ·cases h
    ·cases h
  ·cases h
 obtain ⟨q,h1,h2⟩:=key
 have:=pair_pt C h1 h2
 rw[show pt p=q from this.symm]
 exact ⟨h1,h2⟩
def TimesQ (P:Nat) [NeZero P] (N:Nat) (w:World) (az bs:Bs) (e:Value) (w':World):Prop:=match rq N az,rd P bs with
 | none,_=>OutE 3 e
 | some _,none=>OutE 4 e
 | some n,some p=>OutP w (wr (EC.mul n (pt p))) e w'
theorem TimesR.q (C:Fld P) {N:Nat} (hN:N≤top) {w w':World} {az bs:Bs} {e:Value} (h:TimesR P N w az bs e w'):TimesQ P N w az bs e w':=by
 unfold TimesR at h
 unfold TimesQ
 cases h1:rq N az with
 | none=>rw[h1] at h;exact h
 | some n =>
  cases h2:rd P bs with
  | none=>rw[h1,h2] at h;exact h
  | some p =>
   rw[h1,h2] at h
   have hp:=rd_on C h2
   have hJ:=sumJ_all C (N:=1) (ns:=fun _=>n) (xs:=fun _=>p.1) (ys:=fun _=>p.2) (p:=fun _=>pt p) (fun _ _=>rq_top hN h1) (fun _ _=>hp.1) (fun _ _=>hp.2)
   have e1:=by33_wr C (hJ.pair C) hJ.2
   have e2:EC.tot (fun _=>pt p) 1 (fun _=>(n:Int))=EC.mul n (pt p):=by
    rfl
   rw[e2] at e1
   dsimp only at h ⊢
   rw[← e1]
   exact h
omit [NeZero P] in
theorem wr_size (p:EC.Pt P):(wr p).size=33:=by
 match p with
 | none=>rfl
 | some (x,y) =>
  show (#[mark y.val]++bx x.val).size=33
  rw[Array.size_append,bx_size]
  rfl
end
section
variable {P:Nat} [NeZero P] {N:Nat}
theorem root_mod {a P:Nat} (h:NT.IsP P) (h4:P%4=3):(a*a%P)^(P/4+1)%P*((a*a%P)^(P/4+1)%P)%P=a*a%P:=by
 rw[← Nat.mul_mod,← Nat.pow_add,← Nat.pow_mod,← Nat.pow_two,← Nat.pow_mul,show 2*(P/4+1+(P/4+1))=P+1 by omega,Nat.pow_succ,Nat.mul_mod,h.fermat a,← Nat.mul_mod,Nat.pow_two]
theorem root_is {a R P:Nat} (h:NT.IsP P) (ha:a<P) (hR:R<P) (he:R*R%P=a*a%P):R=a∨R+a=P:=by
 have key:∀ x y:Nat,x<P→y<P→y≤x→x*x%P=y*y%P→x=y∨x+y=P:=by
  intro x y hx hy hxy hxe
  have hd:P ∣ x*x-y*y:=by
   refine Nat.dvd_of_mod_eq_zero ?_
   exact Nat.sub_mod_eq_zero_of_mod_eq hxe
  have hf:x*x-y*y=(x-y)*(x+y):=by
   rw[Nat.mul_comm (x-y),Nat.mul_self_sub_mul_self_eq]
  rw[hf] at hd
  rcases h.euclid hd with h1|h1
  ·left
   have:=Nat.eq_zero_of_dvd_of_lt h1 (by omega)
   omega
  ·obtain ⟨k,hk⟩:=h1
   have:k=0∨k=1∨2≤k:=by omega
   rcases this with rfl|rfl|h2
   ·left;omega
   ·right;omega
   ·have:=Nat.mul_le_mul_left P h2
    omega
 rcases Nat.le_total a R with h1|h1
 ·exact key R a hR ha h1 he
 ·rcases key a R ha hR h1 he.symm with h2|h2
  ·left;exact h2.symm
  ·right;omega
end
section
open Go.RowKit Go.Sort Go.Deep
theorem w8_be8 (x:Nat) (hx:x<18446744073709551616) :
 w8 (UInt8.ofNat (x/72057594037927936)) (UInt8.ofNat (x/281474976710656)) (UInt8.ofNat (x/1099511627776)) (UInt8.ofNat (x/4294967296)) (UInt8.ofNat (x/16777216)) (UInt8.ofNat (x/65536)) (UInt8.ofNat (x/256)) (UInt8.ofNat x)=x:=by
 unfold w8
 simp only[UInt8.toNat_ofNat']
 omega
theorem be32_list (a b c d:Nat):(be32 a b c d).toList=[UInt8.ofNat (d/72057594037927936),UInt8.ofNat (d/281474976710656),UInt8.ofNat (d/1099511627776),UInt8.ofNat (d/4294967296),UInt8.ofNat (d/16777216),UInt8.ofNat (d/65536),UInt8.ofNat (d/256),UInt8.ofNat d,UInt8.ofNat (c/72057594037927936),UInt8.ofNat (c/281474976710656),UInt8.ofNat (c/1099511627776),UInt8.ofNat (c/4294967296),UInt8.ofNat (c/16777216),UInt8.ofNat (c/65536),UInt8.ofNat (c/256),UInt8.ofNat c,UInt8.ofNat (b/72057594037927936),UInt8.ofNat (b/281474976710656),UInt8.ofNat (b/1099511627776),UInt8.ofNat (b/4294967296),UInt8.ofNat (b/16777216),UInt8.ofNat (b/65536),UInt8.ofNat (b/256),UInt8.ofNat b,UInt8.ofNat (a/72057594037927936),UInt8.ofNat (a/281474976710656),UInt8.ofNat (a/1099511627776),UInt8.ofNat (a/4294967296),UInt8.ofNat (a/16777216),UInt8.ofNat (a/65536),UInt8.ofNat (a/256),UInt8.ofNat a]:=by
 simp only[be32,be8,Array.toList_append,List.cons_append,List.nil_append]
theorem val_congr {a b c d p q r s:Nat} (h1:a=p) (h2:b=q) (h3:c=r) (h4:d=s):val a b c d=val p q r s:=by subst h1 h2 h3 h4;rfl
theorem beV_be32 (a b c d:Nat) (ha:a<18446744073709551616) (hb:b<18446744073709551616) (hc:c<18446744073709551616) (hd:d<18446744073709551616):beV (be32 a b c d).toList=val a b c d:=
 (congrArg beV (be32_list a b c d)).trans ((beV_32 _ _ _ _ _ _ _ _ _ _ _ _ _ _ _ _ _ _ _ _ _ _ _ _ _ _ _ _ _ _ _ _).trans (val_congr (w8_be8 a ha) (w8_be8 b hb) (w8_be8 c hc) (w8_be8 d hd)))
theorem bx_val {n:Nat} (hn:n<top):beV (bx n).toList=n:=by
 unfold bx
 rw[beV_be32 _ _ _ _ (by omega) (by omega) (by omega) (by omega)]
 unfold val
 unfold top at hn
 omega
variable {P:Nat} [NeZero P]
theorem rt_of (C:Fld P) {y m:Fin P} (h:y*y=m):rt m=some (if y.val%2=1 then 0-y else y):=by
 have hm:y.val*y.val%P=m.val:=by rw[← h,Fin.val_mul]
 have h1:=root_mod (a:=y.val) C.cur.pr C.p3
 rw[hm] at h1
 unfold rt
 rw[if_pos h1]
 have hP:=Nat.pos_of_neZero P
 have hr:m.val^(P/4+1)%P<P:=Nat.mod_lt _ hP
 generalize m.val^(P/4+1)%P=r at h1 hr
 have hy:=y.isLt
 have h3:=C.p3
 have hor:=root_is C.cur.pr hy hr (h1.trans hm.symm)
 congr 1
 apply Fin.ext
 show even P r%P=_
 unfold even
 have h0:(0-y:Fin P).val=(P-y.val)%P:=by rw[← sub_fin,EC.val_zero,Nat.zero_add]
 by_cases ho:y.val%2=1
 ·rw[if_pos ho,h0]
  rcases hor with e|e
  ·rw[e,if_pos ho]
  ·rw[if_neg (by omega),show P-y.val=r by omega]
 ·rw[if_neg ho]
  rcases hor with e|e
  ·rw[e,if_neg ho,Nat.mod_eq_of_lt hy]
  ·by_cases hz:y.val=0
   ·omega
   ·rw[if_pos (by omega),show P-r=y.val by omega,Nat.mod_eq_of_lt hy]
theorem ub_mark (n:Nat):ub (mark n)=if n%2=1 then 3 else 2:=by
 unfold mark
 split<;>rfl
theorem tl_mark {m:UInt8} {b:Bs} (h:b.size=32):tl33 (#[m]++b)=b:=by
 unfold tl33
 rw[Array.extract_append]
 have h1:(#[m]:Bs).extract 1 33=#[]:=by rfl
 rw[h1]
 simp[h]
theorem mark_0 (m:UInt8) (b:Bs):(#[m]++b)[0]! = m:=by
 rw[getElem!_pos _ 0 (by rw[Array.size_append];simp;omega),Array.getElem_append_left (by simp)]
 rfl
theorem rd_of (C:Fld P) {b:Bs} (hs:b.size=33) {x y:Fin P} (hm:ub b[0]! = if y.val%2=1 then 3 else 2) (hv:beV (tl33 b).toList=x.val) (h:EC.On (some (x,y):EC.Pt P)):rd P b=some (x,y):=by
 have hz:¬ Zero33 b:=fun hz=>by
  have:=hz 0 (List.mem_range.2 (by decide))
  rw[hm] at this
  split at this<;>omega
 have hx:rdx P b=x:=by
  unfold rdx
  rw[hv]
  exact Fin.ext (Nat.mod_eq_of_lt x.isLt)
 have hy:y*y=x*x*x+7:=by
  have:y^2=x^3+7:=h
  grobner
 unfold rd
 rw[if_pos hs,if_neg hz,hm,hv,if_pos x.isLt,hx,rt_of C hy]
 by_cases ho:y.val%2=1
 ·rw[if_pos ho,if_pos (Or.inr rfl),if_pos ho,Option.map_some,if_pos rfl]
  have e:0-(0-y)=y:=by grobner
  rw[e]
 ·rw[if_neg ho,if_pos (Or.inl rfl),if_neg ho,Option.map_some,if_neg (by decide)]
theorem rd_wr (C:Fld P) {X:EC.Pt P} (h:EC.On X):∃ p,rd P (wr X)=some p∧pt p=X:=by
 match X,h with
 | none,_ =>
  refine ⟨(0,0),?_,by unfold pt;rw[if_pos ⟨rfl,rfl⟩]⟩
  have h1:(wr (none:EC.Pt P)).size=33:=wr_size _
  have h2:Zero33 (wr (none:EC.Pt P)):=(zero33_iff h1).2 rfl
  generalize wr (none:EC.Pt P)=b at h1 h2
  unfold rd
  rw[if_pos h1,if_pos h2]
 | some (x,y),h =>
  have hs:=wr_size (P:=P) (some (x,y))
  have hb0:(wr (some (x,y):EC.Pt P))[0]! = mark y.val:=mark_0 _ _
  have ht:tl33 (wr (some (x,y):EC.Pt P))=bx x.val:=tl_mark (bx_size _)
  refine ⟨(x,y),rd_of C hs (by rw[hb0,ub_mark]) (by rw[ht,bx_val (C.top x)]) h,by unfold pt;rw[if_neg (fun e=>C.cur.y_ne h e.2)]⟩
end
section
open Go.RowKit Go.Sort Go.Deep
variable {P:Nat} [NeZero P] {N:Nat}
def gxl:List Value:=[.int .u64 6481385041966929816,.int .u64 188021827762530521,.int .u64 6170039885052185351,.int .u64 8772561819708210092]
def gyl:List Value:=[.int .u64 11261198710074299576,.int .u64 18237243440184513561,.int .u64 6747795201694173352,.int .u64 5204712524664259685]
def gX (P:Nat) [NeZero P]:Fin P:=Fin.ofNat P 55066263022277343669578718895168534326250603453777594175500187360389116729240
def gY (P:Nat) [NeZero P]:Fin P:=Fin.ofNat P 32670510020758816978083085130507043184471273380659243275938904335757337482424
def gG (P:Nat) [NeZero P]:EC.Pt P:=some (gX P,gY P)
theorem Fld.eq (C:Fld P):P=115792089237316195423570985008687907853269984665640564039457584007908834671663:=by
 have h:=C.gap.hP
 have e:val 4294968273 0 0 0=4294968273:=by decide
 rw[e] at h
 unfold Go.Proofs.YtgdfkblfggnnfaaDoor.top at h
 omega
theorem gX_val (C:Fld P):(gX P).val=55066263022277343669578718895168534326250603453777594175500187360389116729240:=by
 have h:=C.eq
 exact Nat.mod_eq_of_lt (by omega)
theorem gY_val (C:Fld P):(gY P).val=32670510020758816978083085130507043184471273380659243275938904335757337482424:=by
 have h:=C.eq
 exact Nat.mod_eq_of_lt (by omega)
theorem gxl_ws (C:Fld P):gxl=ws (gX P):=by
 show _=wn (gX P).val
 rw[gX_val C]
 kernel_rfl
theorem gyl_ws (C:Fld P):gyl=ws (gY P):=by
 show _=wn (gY P).val
 rw[gY_val C]
 kernel_rfl
theorem gG_on (C:Fld P):EC.On (gG P):=by
 refine on_of (Fin.ext ?_)
 have h7:(7:Fin P).val=7:=Nat.mod_eq_of_lt C.p7
 rw[Fin.val_mul,Fin.val_add,Fin.val_mul,Fin.val_mul,gX_val C,gY_val C,h7]
 have h:=C.eq
 rw[h]
theorem base_v:Gives 18 #[] (.agg (gxl++gyl).toArray):=by
 intro w
 go_enter Tryd.func18,Tryd.ntmps18
 refine RG.M.enter [] 4 (by kernel_rfl) ?_
 intro a0 M0
 repeat refine wp_seq ?_
 refine M0.t [.m 0 [] 0] [(0,RG.z 8)] [] [RG.z 8] [(0,.p 0 0)] ⟨RG.mk 0 53,trivial⟩ ?_
 intro j1 a1 w1 M1
 repeat refine wp_seq ?_
 refine M1.t [.x 1 [] (.agg gxl.toArray),.x 2 [] (.agg gyl.toArray),.x 3 [(1,0),(2,1)] (.agg (gxl++gyl).toArray),.u [(3,2)] 0] [] [(0,3,gxl++gyl)] [gxl++gyl] [(0,.p 0 0)] ⟨RG.st,RG.st,RG.st,RG.pt i109,trivial⟩ ?_
 intro a2 w2 M2
 refine wp_ret ?_
 refine bodyPost_ret (v:=.agg (gxl++gyl).toArray) (RG.results_row M2.st 0 53 rfl 0 _ rfl (M2.at (s:=.p 0 0)) u109 i109) M2.sl.defers ?_
 exact ⟨_,rfl,M2.st.bel.below,rfl⟩
theorem base_c (C:Fld P):Gives 18 #[] (pv (gX P) (gY P)):=by
 unfold pv
 rw[← gxl_ws C,← gyl_ws C]
 exact base_v
theorem gG_wr (C:Fld P):by33 (gX P) (gY P)=wr (gG P):=by33_wr C ⟨rfl,rfl⟩ (gG_on C)
theorem Base_c (C:Fld P) (w:World):Calls Tryd.prog 7 #[] w (Ret fun e w'=>Below w.heap.size w w'∧BytesR w (wr (gG P)) e w'):=by
 have HC:Hid (Fld P):=C
 clear C
 go_enter Tryd.func7,Tryd.ntmps7
 go_wp2_with fail
 refine (base_c HC.out _).mono ?_
 rintro e w1 ⟨v,rfl,hb1,rfl⟩
 go_wp2_with fail
 refine (bytes_c HC.out (gX P) (gY P) _).mono ?_
 rintro e w2 ⟨v,rfl,hb2,g,cap,rfl,h1,h2,h3,h4⟩
 rw[gG_wr HC.out] at h4
 have HB:Hid (Below w.heap.size w w2∧BytesR w (wr (gG P)) (.slice (some ⟨g,0,none⟩) 33 cap) w2):=⟨hb1.trans (hb2.mono hb1.size),g,cap,rfl,h1,Nat.le_trans hb1.size h2,h3,h4⟩
 clear hb1 hb2 h1 h2 h3 h4
 go_wp2
 go_ret
 exact ⟨_,rfl,HB.out⟩
end
section
open Go.RowKit Go.Sort Go.Deep Go.Shelf
attribute [local go_sem] Oper.semAt_some
section
variable {F:Fence} {n:Nat} {P:Program} {ops:Array Oper} {rest:List Oper} {op:Oper} {a:Act} {w:World} {Q:Exit→Act→World→Prop}
end
def Row (W:World) (k:Nat) (vs:List Value):Prop:=k<W.heap.size∧W.rangeAt k 0 vs∧W.there k 0 vs.length
theorem Row.cell {W:World} {k:Nat} {vs:List Value} (h:Row W k vs) {j:Nat} (hj:j<vs.length):W.cell? ⟨k,j,none⟩=some vs[j]:=by
 have:=h.2.1 j vs[j] (List.getElem?_eq_getElem hj)
 rwa[Nat.zero_add] at this
theorem row_own (k:Nat) (vs:List Value):Own (fun (_:Unit) W=>Row W k vs):=fun s A B row hs hg hr=>by
 refine ⟨Nat.lt_of_lt_of_le hs.1 hg.size,fun j v hj=>?_,fun j hj=>?_⟩
 ·exact cell_kept (hs.2.1 j v hj) hg hr
 ·have h1:=hs.2.1 j vs[j] (List.getElem?_eq_getElem hj)
  have h2:=cell_kept h1 hg hr
  exact ⟨by rw[h2];rfl,(frozen_kept h1 hg hr).trans (hs.2.2 j hj).2⟩
theorem Row.putObj {W:World} {k D:Nat} {vs:List Value} (h:Row W k vs) {o:Obj} (hD:W.heap[D]? = some o) (ho:o.isCells=false) (o':Obj):Row (W.putObj D o') k vs:=
 row_own k vs () W (W.putObj D o') (some D) h (grownBy_putObj' W D o') (fun r e=>by cases e;exact ⟨_,hD,ho⟩)
theorem Row.below {W W':World} {k:Nat} {vs:List Value} (h:Row W k vs) (hb:Below W.heap.size W W'):Row W' k vs:=by
 have e:=hb.block k h.1
 refine ⟨Nat.lt_of_lt_of_le h.1 hb.size,fun j v hj=>?_,fun j hj=>?_⟩
 ·exact (World.cell?_of_block e).trans (h.2.1 j v hj)
 ·have h1:=h.2.2 j hj
  exact ⟨by rw[World.cell?_of_block e];exact h1.1,(World.frozen?_of_block e).trans h1.2⟩
theorem results_cell {P:Program} {fn:Func} {tmps:Array Value} {W:World} {k:Nat} {vs:List Value} (t:Tmp) (T:TypeId) (hr:fn.results=#[.cell t T]) (h:Row W k vs) (ht:tmps[t]? = some (.pointer (some ⟨k,0,none⟩)))
 (hu:(P.underlying T).map (·.isRow)=some true) (hi:(P.info? T).map (·.size)=some vs.length):(results fn tmps).run P W=.ok (.agg vs.toArray) W:=by
 obtain ⟨d,hu,hd⟩:=Option.map_eq_some_iff.1 hu
 have h1:=run_loadVar_mid (P:=P) W k 0 T vs d h.2.1 hu hd hi
 have h2:tmps.getD t undef=.pointer (some ⟨k,0,none⟩):=by rw[Array.getD_eq_getD_getElem?,ht];rfl
 unfold results
 rw[hr]
 simp only[Array.mapM_eq_mapM_toList,List.mapM_cons,List.mapM_nil,h2,asAddr]
 simp[Sem.run_bind,h1]
theorem Row.put {W:World} {k:Nat} {vs us:List Value} (h:Row W k vs) (hl:us.length=vs.length):Row (W.setCells k 0 us) k us:=
 ⟨by rw[RG.setCells_size];exact h.1,World.rangeAt_setCells_same W k 0 us (by rw[hl];exact h.2.2),by rw[hl];exact World.there_setCells h.2.2 _ _ _⟩
theorem Row.other {W:World} {k j:Nat} {vs us:List Value} (h:Row W k vs) (hne:k≠j):Row (W.setCells j 0 us) k vs:=
 ⟨by rw[RG.setCells_size];exact h.1,World.rangeAt_setCells_apart h.2.1 j 0 us (Or.inl hne),World.there_setCells h.2.2 _ _ _⟩
variable {P:Nat} [NeZero P]
end
section
open Go.RowKit Go.Sort Go.Deep
variable {P:Nat} [NeZero P] {N:Nat}
theorem redS_of {w W:World} {k0 k1 g0 g1 g2:Nat} (h:Kept w k0 [⟨k0,0,g0,g1,g2,0⟩,⟨k1,0,0,0,0,0⟩] W):W.cell? ⟨k0,0,none⟩=some (.int .u64 g0)∧W.cell? ⟨k0,1,none⟩=some (.int .u64 g1)∧W.cell? ⟨k0,2,none⟩=some (.int .u64 g2)∧W.cell? ⟨k0,3,none⟩=some (.int .u64 0)∧Kept w k0 [⟨k0,0,g0,g1,g2,0⟩,⟨k1,0,0,0,0,0⟩] W:=⟨h.head.c0,h.head.c1,h.head.c2,h.head.c3,h⟩
theorem redS_get {w W:World} {k0 k1 g0 g1 g2:Nat} (h:W.cell? ⟨k0,0,none⟩=some (.int .u64 g0)∧W.cell? ⟨k0,1,none⟩=some (.int .u64 g1)∧W.cell? ⟨k0,2,none⟩=some (.int .u64 g2)∧W.cell? ⟨k0,3,none⟩=some (.int .u64 0)∧Kept w k0 [⟨k0,0,g0,g1,g2,0⟩,⟨k1,0,0,0,0,0⟩] W):Kept w k0 [⟨k0,0,g0,g1,g2,0⟩,⟨k1,0,0,0,0,0⟩] W:=h.2.2.2.2
theorem redS_alloc {w W:World} {k0 k1 g0 g1 g2:Nat} {o:Obj} (h:W.cell? ⟨k0,0,none⟩=some (.int .u64 g0)∧W.cell? ⟨k0,1,none⟩=some (.int .u64 g1)∧W.cell? ⟨k0,2,none⟩=some (.int .u64 g2)∧W.cell? ⟨k0,3,none⟩=some (.int .u64 0)∧Kept w k0 [⟨k0,0,g0,g1,g2,0⟩,⟨k1,0,0,0,0,0⟩] W):(W.alloc o).cell? ⟨k0,0,none⟩=some (.int .u64 g0)∧(W.alloc o).cell? ⟨k0,1,none⟩=some (.int .u64 g1)∧(W.alloc o).cell? ⟨k0,2,none⟩=some (.int .u64 g2)∧(W.alloc o).cell? ⟨k0,3,none⟩=some (.int .u64 0)∧Kept w k0 [⟨k0,0,g0,g1,g2,0⟩,⟨k1,0,0,0,0,0⟩] (W.alloc o):=redS_of ((redS_get h).alloc o)
theorem redS_allocd {w W:World} {k0 k1 g0 g1 g2:Nat} {o:Obj} (h:W.drew.cell? ⟨k0,0,none⟩=some (.int .u64 g0)∧W.drew.cell? ⟨k0,1,none⟩=some (.int .u64 g1)∧W.drew.cell? ⟨k0,2,none⟩=some (.int .u64 g2)∧W.drew.cell? ⟨k0,3,none⟩=some (.int .u64 0)∧Kept w k0 [⟨k0,0,g0,g1,g2,0⟩,⟨k1,0,0,0,0,0⟩] W.drew):(W.alloc o).drew.cell? ⟨k0,0,none⟩=some (.int .u64 g0)∧(W.alloc o).drew.cell? ⟨k0,1,none⟩=some (.int .u64 g1)∧(W.alloc o).drew.cell? ⟨k0,2,none⟩=some (.int .u64 g2)∧(W.alloc o).drew.cell? ⟨k0,3,none⟩=some (.int .u64 0)∧Kept w k0 [⟨k0,0,g0,g1,g2,0⟩,⟨k1,0,0,0,0,0⟩] (W.alloc o).drew:=redS_of (((redS_get h).undrew).alloc o).drew
theorem holds_part {w:World} {g o:Nat} {bs:Bs} (p l:Nat) (h:Holds encB w g o bs) (hp:p+l≤bs.size):Holds encB w g (o+p) (bs.extract p (p+l)):=by
 refine Holds.part h (by rw[Array.size_extract];omega) (fun j hj=>?_)
 rw[Array.size_extract] at hj
 rw[getElem!_pos (bs.extract p (p+l)) j (by rw[Array.size_extract];omega),getElem!_pos bs (p+j) (by omega),Array.getElem_extract]
theorem holds_front {w:World} {g o:Nat} {bs:Bs} (f:Nat) (h:Holds encB w g o bs) (hf:f≤bs.size):Holds encB w g o (bs.extract 0 f):=by
 have:=holds_part 0 f h (by omega)
 rwa[Nat.zero_add,Nat.add_zero] at this
def RedR (w:World) (k0 k1 g0 g1 g2 N:Nat) (s6:Value) (wx:World):Prop:=
 ∃ k6 a b c d:Nat,s6=.pointer (some ⟨k6,0,none⟩)∧Kept w k0 [⟨k6,0,a,b,c,d⟩,⟨k0,0,g0,g1,g2,0⟩,⟨k1,0,0,0,0,0⟩] wx∧k6≠k0∧k6≠k1∧k0≤k6 ∧
  Hid (Four (.agg #[.int .u64 a,.int .u64 b,.int .u64 c,.int .u64 d]) N)
theorem RedR.made {w w1:World} {k0 k1 g0 g1 g2 N a b c d:Nat} (KP:Kept w k0 [⟨k0,0,g0,g1,g2,0⟩,⟨k1,0,0,0,0,0⟩] w1) (hF:Hid (Four (.agg #[.int .u64 a,.int .u64 b,.int .u64 c,.int .u64 d]) N)) :
 RedR w k0 k1 g0 g1 g2 N (.pointer (some ⟨w1.heap.size,0,none⟩)) (w1.alloc (.cells #[.int .u64 a,.int .u64 b,.int .u64 c,.int .u64 d] 92)):=
 ⟨w1.heap.size,a,b,c,d,rfl,(KP.alloc _).cons (At4.made w1 92 a b c d rfl).blk,Nat.ne_of_gt KP.head.lt,Nat.ne_of_gt KP.tail.head.lt,KP.le,hF⟩
theorem RedR.put {w w1:World} {k0 k1 k6 g0 g1 g2 N a b c d x y z u:Nat} (KP:Kept w k0 [⟨k0,0,g0,g1,g2,0⟩,⟨k1,0,0,0,0,0⟩] w1) (T:At4 w1 k6 x y z u) (M7:k0≤k6) (N7:∀ x∈([⟨k0,0,g0,g1,g2,0⟩,⟨k1,0,0,0,0,0⟩]:List Blk),x.k<k6) (hF:Hid (Four (.agg #[.int .u64 a,.int .u64 b,.int .u64 c,.int .u64 d]) N)) :
 RedR w k0 k1 g0 g1 g2 N (.pointer (some ⟨k6,0,none⟩)) ((((w1.setCell ⟨k6,0,none⟩ (.int .u64 a)).setCell ⟨k6,1,none⟩ (.int .u64 b)).setCell ⟨k6,2,none⟩ (.int .u64 c)).setCell ⟨k6,3,none⟩ (.int .u64 d)):=
 ⟨k6,a,b,c,d,rfl,(KP.set4' M7 (fun x hx=>Nat.ne_of_gt (N7 x hx)) _ _ _ _).cons (T.self4 a b c d).blk,Nat.ne_of_gt (N7 ⟨k0,0,g0,g1,g2,0⟩ (by simp)),Nat.ne_of_gt (N7 ⟨k1,0,0,0,0,0⟩ (by simp)),M7,hF⟩
theorem red_step {P:Nat} (bs:Bs) (p:Nat) (hp:p+32≤bs.size):(beV (bs.extract p (p+32)).toList+top*(beV (bs.extract 0 p).toList%P))%P=beV (bs.extract 0 (p+32)).toList%P:=by
 have e:(bs.extract 0 (p+32)).toList=(bs.extract 0 p).toList++(bs.extract p (p+32)).toList:=by
  rw[← Array.toList_append,Array.extract_append_extract,Nat.min_eq_left (by omega),Nat.max_eq_right (by omega)]
 have l32:(bs.extract p (p+32)).toList.length=32:=by rw[Array.length_toList,Array.size_extract];omega
 have ht:256^32=top:=by unfold top;decide
 rw[e,beV_append,l32,ht,Nat.add_comm,Nat.add_mod,Nat.mul_mod,Nat.mod_mod,← Nat.mul_mod,← Nat.add_mod,Nat.mul_comm]
theorem PReduce_any (g0 g1 g2 P g o n cap : Nat) (bs : Bs) (hG : Gap g0 g1 g2 P) (w : World) (hs : bs.size = n) (hc : n ≤ cap) (hg : g < w.heap.size) (hB : Holds encB w g o bs) :
    Calls Tryd.prog 75 #[.agg #[.int .u64 (g0 : Int), .int .u64 (g1 : Int), .int .u64 (g2 : Int), .int .u64 0], .slice (some ⟨g, o, none⟩) n cap] w (Ret fun e w' => Below w.heap.size w w' ∧ Four e (beV bs.toList % P)) := by
  obtain ⟨f, hf⟩ : ∃ f, f = n % 32 := ⟨_, rfl⟩
  have hf32 : f < 32 := by omega
  have hfn : f ≤ n := by omega
  have e1 : (n : Int) % 32 = (f : Int) := by omega
  have e2 : (f : Int) ≤ (cap : Int) := by omega
  have e3 : (f : Int) ≤ (n : Int) := by omega
  have e4 : f ≤ cap := by omega
  have hsz0 : (bs.extract 0 f).size = f := by rw [Array.size_extract]; omega
  have Hf : Hid (f = n % 32) := hf
  have HS : Hid ((bs.extract 0 f).size = f) := hsz0
  have hbs : f ≤ bs.size := by omega
  have HSZ : Hid (bs.size = n) := hs
  have HG : Hid (Gap g0 g1 g2 P) := hG
  clear hf hsz0 hG
  go_enter Tryd.func75, Tryd.ntmps75
  go_upto_region 2 with fail
  rw [e1]
  clear e1
  have PR := (At4.made w 94 g0 g1 g2 0 rfl).alloc (.cells #[.int .u64 0, .int .u64 0, .int .u64 0, .int .u64 0] 44)
  have RE := At4.made (w.alloc (.cells #[.int .u64 (g0 : Int), .int .u64 (g1 : Int), .int .u64 (g2 : Int), .int .u64 0] 94)) 44 0 0 0 0 (World.size_alloc _ _)
  have KP := ((Kept.mk1 (below2 w (.cells #[.int .u64 (g0 : Int), .int .u64 (g1 : Int), .int .u64 (g2 : Int), .int .u64 0] 94) (.cells #[.int .u64 0, .int .u64 0, .int .u64 0, .int .u64 0] 44)) (below2 w (.cells #[.int .u64 (g0 : Int), .int .u64 (g1 : Int), .int .u64 (g2 : Int), .int .u64 0] 94) (.cells #[.int .u64 0, .int .u64 0, .int .u64 0, .int .u64 0] 44)).size).cons RE.blk).cons PR.blk
  clear PR RE
  generalize World.alloc _ _ = W0 at KP ⊢
  generalize h1 : w.heap.size + 1 = k1 at KP ⊢
  have Q1 : Hid (w.heap.size ≤ k1) := by unfold Hid; omega
  generalize h0 : w.heap.size = k0 at KP Q1 hg ⊢
  have n01 : k0 ≠ k1 := by omega
  have H0 : Hid (w.heap.size = k0) := h0
  have HBS : Hid (Holds encB w g o bs) := hB
  clear h0 h1 hB hs
  go_cut [6] (fun s6 wx => RedR w k0 k1 g0 g1 g2 (beV (bs.extract 0 f).toList % P) s6 wx)
  case first =>
    go_region_held3 (fun w' => w'.cell? ⟨k0, 0, none⟩ = some (.int .u64 (g0 : Int)) ∧ w'.cell? ⟨k0, 1, none⟩ = some (.int .u64 (g1 : Int)) ∧ w'.cell? ⟨k0, 2, none⟩ = some (.int .u64 (g2 : Int)) ∧ w'.cell? ⟨k0, 3, none⟩ = some (.int .u64 0) ∧ Kept w k0 [⟨k0, 0, g0, g1, g2, 0⟩, ⟨k1, 0, 0, 0, 0, 0⟩] w') (first | (with_reducible exact redS_of KP) | (with_reducible exact redS_of KP.drew) | (with_reducible exact redS_allocd (by assumption)) | (with_reducible exact redS_alloc (by assumption)) | (with_reducible exact redS_of (KP.alloc _)) | (with_reducible exact redS_of (KP.set4' M7 (fun x hx => Nat.ne_of_gt (N7 x hx)) _ _ _ _)) | (with_reducible exact redS_of (KP.alloc _).drew) | (with_reducible exact redS_of (KP.set4' M7 (fun x hx => Nat.ne_of_gt (N7 x hx)) _ _ _ _).drew) | fail) (first | (go_at_call 57; refine (fromBytes_any (some ⟨g, o, none⟩) g o f cap (bs.extract 0 f) _ (Nat.le_of_lt hf32) e4 HS.out (Or.inr ⟨rfl, holds_front f (Holds.below HBS.out (redS_get (by assumption)).bl hg) hbs⟩)).mono ?_; rintro e w1 ⟨v, rfl, hb1, hF1⟩; obtain ⟨a1, b1, c1, d1, rfl, ha1, hb1', hc1, hd1, es1⟩ := id hF1; clear es1; have HF1 : Hid (Four _ _) := hF1; clear hF1; (try (with_reducible have T1 := T.call hb1; clear T; have T := T1; clear T1)); (try (first | (with_reducible have T := (At4.made _ 92 0 0 0 0 rfl).call hb1) | (with_reducible have T := (At4.made _ 92 0 0 0 0 rfl).drew.call hb1)); have N7 := KP.lts; have M7 := KP.le); have KP1 := Kept.call (redS_get (by assumption)) hb1; clear KP; have KP := KP1; clear KP1 hb1) | (go_at_call 59; refine (four_any _ _ HF1.out _).mono ?_; rintro e w1 ⟨v, rfl, hb1, rfl⟩; (try (with_reducible have T1 := T.call hb1; clear T; have T := T1; clear T1)); (try (first | (with_reducible have T := (At4.made _ 92 0 0 0 0 rfl).call hb1) | (with_reducible have T := (At4.made _ 92 0 0 0 0 rfl).drew.call hb1)); have N7 := KP.lts; have M7 := KP.le); have KP1 := Kept.call (redS_get (by assumption)) hb1; clear KP; have KP := KP1; clear KP1 hb1) | (go_at_call 93; refine (fold_any g0 g1 g2 _ _ _ _ P HG.out.h0 HG.out.h1 HG.out.h2 HG.out.hor HG.out.hP HG.out.hP2 HF1.out (Four.mk (a := 0) (b := 0) (c := 0) (d := 0) (by decide) (by decide) (by decide) (by decide) rfl) _).mono ?_; rintro e w1 ⟨v, rfl, hb1, hF3⟩; obtain ⟨a', b', c', d', rfl, ha', hb', hc', hd', es3⟩ := id hF3; clear es3; have HF3 : Hid (Four _ _) := hF3; clear hF3; (try (with_reducible have T1 := T.call hb1; clear T; have T := T1; clear T1)); (try (first | (with_reducible have T := (At4.made _ 92 0 0 0 0 rfl).call hb1) | (with_reducible have T := (At4.made _ 92 0 0 0 0 rfl).drew.call hb1)); have N7 := KP.lts; have M7 := KP.le); have KP1 := Kept.call (redS_get (by assumption)) hb1; clear KP; have KP := KP1; clear KP1 hb1; (try (obtain ⟨tc0, tc1, tc2, tc3, tf⟩ := id T; have zt := T.lt))))
    all_goals (try go_wp2)
    all_goals (rw [show val 0 0 0 0 = 0 from rfl, Nat.mul_zero, Nat.add_zero] at HF3)
    all_goals (go_meet; first | (with_reducible exact RedR.made KP HF3) | (with_reducible exact (RedR.made KP HF3).drew) | (with_reducible exact RedR.put KP T M7 N7 HF3) | (with_reducible exact (RedR.put KP T M7 N7 HF3).drew) | fail)
  case rest =>
    clear KP
    obtain ⟨k6, a, b, c, d, rfl, KP, n60, n61, M6, HF⟩ := hcut
    have f0 : (0 : Int) ≤ (f : Int) := Int.natCast_nonneg _
    go_upto_region 3 with fail
    go_cut [1] (fun s1 wx => ∃ q : Nat, s1 = .slice (some ⟨g, q, none⟩) (n - f) (cap - f) ∧ Hid (0 < n - f → q = o + f) ∧ Kept w k0 [⟨k6, 0, a, b, c, d⟩, ⟨k0, 0, g0, g1, g2, 0⟩, ⟨k1, 0, 0, 0, 0, 0⟩] wx)
    case first =>
      by_cases ec : cap = f
      · have en : n = f := by omega
        have HEN : Hid (n = f ∧ cap = f) := ⟨en, ec⟩
        go_wp2
        go_meet
        refine ⟨o, ?_, fun h => ?_, KP⟩
        · rw [HEN.out.1, HEN.out.2]; try simp
        · have := HEN.out.1; omega
      · go_wp2
        go_meet
        exact ⟨o + f, rfl, fun _ => rfl, KP⟩
    case rest =>
    clear KP
    obtain ⟨q0, rfl, HQ0, KP⟩ := hcut
    go_wp2_with fail
    go_loopg [1] (n - f) (fun gk s1 wr => ∃ (l q lc a b c d : Nat), gk = l ∧ l ≤ n ∧ s1 = .slice (some ⟨g, q, none⟩) l lc ∧ Hid (l % 32 = 0 ∧ (0 < l → q = o + (n - l)) ∧ lc = cap - (n - l)) ∧ Kept w k0 [⟨k6, 0, a, b, c, d⟩, ⟨k0, 0, g0, g1, g2, 0⟩, ⟨k1, 0, 0, 0, 0, 0⟩] wr ∧
      Hid (Four (.agg #[.int .u64 (a : Int), .int .u64 (b : Int), .int .u64 (c : Int), .int .u64 (d : Int)]) (beV (bs.extract 0 (n - l)).toList % P)))
    case atStart =>
      refine ⟨n - f, q0, cap - f, a, b, c, d, rfl, by omega, rfl, ⟨by have := Hf.out; omega, fun h => by have := HQ0.out h; omega, by omega⟩, KP, ?_⟩
      rw [show n - (n - f) = f by omega]
      exact HF
    case round =>
      clear KP HF
      obtain ⟨l, q, lc, a, b, c, d, hgk, hln, rfl, HQ3, KP, HF⟩ := hrel
      clear e2 e3 e4 f0 hbs HS hf32 hfn HQ0
      have hlcl : l ≤ lc := by have := HQ3.out; omega
      by_cases h0 : l = 0
      · subst h0
        obtain ⟨xc0, xc1, xc2, xc3, xf⟩ := KP.head.at4
        have z7 := KP.head.lt
        go_wp2_with fail
        refine (number_any _ _ HF.out _).mono ?_
        rintro e w3 ⟨v, rfl, hb3, rfl⟩
        have KP3 := KP.call hb3
        clear hb3 xc0 xc1 xc2 xc3 xf z7 KP
        obtain ⟨rc0, rc1, rc2, rc3, rf⟩ := KP3.tail.tail.head.at4
        have z3 := KP3.tail.tail.head.lt
        go_wp2
        have RF := KP3.tail.tail.head.at4.self4 a b c d
        unfold set4 at RF
        refine bodyPost_ret (v := ?v) ?hr rfl ?hR
        case hr => simp [results, Tryd.results75, go_sem, RF.c0, RF.c1, RF.c2, RF.c3]; rfl
        refine ⟨_, rfl, ?_, ?_⟩
        · rw [H0.out]
          exact below_set4 KP3.bl Q1.out _ _ _ _
        · have := HF.out
          rw [Nat.sub_zero, ← HSZ.out, Array.extract_size] at this
          exact this
      · have h32 : 32 ≤ l := by have := HQ3.out; omega
        have HQ : Hid (o + (n - l) = q) := (HQ3.out.2.1 (by omega)).symm
        have h32c : 32 ≤ lc := by omega
        have i1 : (32 : Int) ≤ (lc : Int) := by omega
        have i2 : (32 : Int) ≤ (l : Int) := by omega
        have i3 : (0 : Int) < (l : Int) := by omega
        have HSL : Hid (n - l + 32 ≤ bs.size) := by unfold Hid; have := HSZ.out; omega
        have HS3 : Hid ((bs.extract (n - l) (n - l + 32)).size = 32) := by unfold Hid; rw [Array.size_extract]; have := HSL.out; omega
        obtain ⟨tc0, tc1, tc2, tc3, tf⟩ := KP.head.at4
        have zt := KP.head.lt
        obtain ⟨pc0, pc1, pc2, pc3, pf⟩ := KP.tail.head.at4
        have hl6 : ∀ x ∈ ([⟨k0, 0, g0, g1, g2, 0⟩, ⟨k1, 0, 0, 0, 0, 0⟩] : List Blk), k6 ≠ x.k := by simp only [List.mem_cons, List.not_mem_nil, or_false]; rintro x (rfl | rfl); exact n60; exact n61
        have HFF : Hid (_ = _) := red_step (P := P) bs (n - l) HSL.out
        go_wp2_with fail
        go_region_with (first | (go_at_call 57; refine (fromBytes_any (some ⟨g, q, none⟩) g q 32 lc (bs.extract (n - l) (n - l + 32)) _ (Nat.le_refl 32) h32c HS3.out (Or.inr ⟨rfl, HQ.out ▸ holds_part (n - l) 32 (by first | (with_reducible exact Holds.below HBS.out KP.bl hg) | (with_reducible exact Holds.below HBS.out KP.drew.bl hg) | fail) HSL.out⟩)).mono ?_; rintro e w1 ⟨v, rfl, hb1, hF1⟩; obtain ⟨a1, b1, c1, d1, rfl, ha1, hb1', hc1, hd1, es1⟩ := id hF1; clear es1; have HF1 : Hid (Four _ _) := hF1; clear hF1; (first | (with_reducible have KP1 := KP.call hb1) | (with_reducible have KP1 := KP.drew.call hb1) | fail); clear KP; have KP := KP1; clear KP1 hb1; obtain ⟨tc0, tc1, tc2, tc3, tf⟩ := KP.head.at4; have zt := KP.head.lt; obtain ⟨pc0, pc1, pc2, pc3, pf⟩ := KP.tail.head.at4) | (go_at_call 59; refine (four_any _ _ HF1.out _).mono ?_; rintro e w1 ⟨v, rfl, hb1, rfl⟩; (first | (with_reducible have KP1 := KP.call hb1) | (with_reducible have KP1 := KP.drew.call hb1) | fail); clear KP; have KP := KP1; clear KP1 hb1; obtain ⟨tc0, tc1, tc2, tc3, tf⟩ := KP.head.at4; have zt := KP.head.lt; obtain ⟨pc0, pc1, pc2, pc3, pf⟩ := KP.tail.head.at4) | (go_at_call 93; refine (fold_any g0 g1 g2 _ _ _ _ P HG.out.h0 HG.out.h1 HG.out.h2 HG.out.hor HG.out.hP HG.out.hP2 HF1.out HF.out _).mono ?_; rintro e w1 ⟨v, rfl, hb1, hF3⟩; obtain ⟨a', b', c', d', rfl, ha', hb', hc', hd', es3⟩ := id hF3; clear es3; have HF3 : Hid (Four _ _) := hF3; clear hF3; (first | (with_reducible have KP1 := KP.call hb1) | (with_reducible have KP1 := KP.drew.call hb1) | fail); clear KP; have KP := KP1; clear KP1 hb1; obtain ⟨tc0, tc1, tc2, tc3, tf⟩ := KP.head.at4; have zt := KP.head.lt; obtain ⟨pc0, pc1, pc2, pc3, pf⟩ := KP.tail.head.at4))
        all_goals (rw [HFF.out] at HF3)
        all_goals (by_cases i4 : lc = 32)
        all_goals (try go_wp2)
        all_goals
          (go_roundg (l - 32)
           case measure => omega
           case rel =>
            first
              | refine ⟨l - 32, q + 32, lc - 32, a', b', c', d', rfl, by omega, rfl, ⟨by have := HQ3.out; omega, fun _ => by have := HQ.out; omega, by have := HQ3.out; omega⟩, ?_, ?_⟩
              | refine ⟨l - 32, q, lc - 32, a', b', c', d', rfl, by omega, by first | rfl | (rw [i4]), ⟨by have := HQ3.out; omega, fun h => by omega, by have := HQ3.out; omega⟩, ?_, ?_⟩
              | fail
            · first | (with_reducible exact KP.put M6 hl6 a' b' c' d') | (with_reducible exact (KP.put M6 hl6 a' b' c' d').drew) | fail
            · rw [show n - (l - 32) = n - l + 32 by omega]; exact HF3)
def sPl (N a b:Nat):Nat:=(a+b)%N
def redu (N:Nat) (bs:Bs):Nat:=beV bs.toList%N
def FSRd_1 (v:Value) (n:Nat):List RG.It:=[.c 3 [] gv1,.x 4 [] v,.c 5 [(3,0),(4,1)] (nv n),.x 6 [(5,2)] (nv n),.u [(6,3)] 0]
theorem reduced_c (O:Ord N) (g:Nat) (bs:Bs) (hs:bs.size=64) (w:World) (hg:g<w.heap.size) (hB:Holds encB w g 0 bs):Calls Tryd.prog 51 #[.slice (some ⟨g,0,none⟩) 64 64] w (Ret fun e w'=>Below w.heap.size w w'∧e=nv (redu N bs)):=by
 have hc:∀ w',RG.BelX w.heap.size [] w w'→Calls Tryd.prog 75 #[gv1,.slice (some ⟨g,0,none⟩) 64 64] w' (Ret fun e w''=>Below w'.heap.size w' w''∧e=nv (redu N bs)):=fun w' hb =>
  (PReduce_any _ _ _ N g 0 64 64 bs O.gap w' hs (Nat.le_refl _) (Nat.lt_of_lt_of_le hg hb.below.size) (Holds.below hB hb.below hg)).mono (by rintro e w'' ⟨v,rfl,hb,hF⟩;exact ⟨_,rfl,hb,hF.nv⟩)
 go_enter Tryd.func51,Tryd.ntmps51
 refine RG.M.enter [(0,(.v (.slice (some ⟨g,0,none⟩) 64 64)))] 7 (by kernel_rfl) ?_
 intro a0 M0
 repeat refine wp_seq ?_
 refine M0.t [.m 2 [] 0] [(0,(RG.z 4))] [] [(RG.z 4)] [(0,(.v (.slice (some ⟨g,0,none⟩) 64 64))),(2,(.p 0 0))] ⟨RG.mk 0 46,trivial⟩ ?_
 intro j1 a1 w1 M1
 repeat refine wp_seq ?_
 refine M1.t (FSRd_1 (.slice (some ⟨g,0,none⟩) 64 64) (redu N bs)) [] [(0,4,(wn (redu N bs)))] [(wn (redu N bs))] [(2,(.p 0 0))] ⟨RG.cl (Scalars_c),RG.st,RG.clB (fun _ _=>by kernel_rfl) hc,RG.st,RG.pt i40,trivial⟩ ?_
 intro a2 w2 M2
 refine wp_ret ?_
 refine bodyPost_ret (v:=(nv (redu N bs))) (RG.results_row M2.st 2 46 rfl 0 _ rfl (M2.at (s:=(.p 0 0))) u40 i40) M2.sl.defers ?_
 exact ⟨_,rfl,M2.st.bel.below,rfl⟩
theorem redu_lt (O:Ord N) (bs:Bs):redu N bs<N:=Nat.mod_lt _ O.pos
theorem row_new (w:World) (c:List Value) (T:TypeId):Row (w.alloc (.cells c.toArray T)) w.heap.size c:=
 have h:=RG.Made.alloc w c T
 ⟨h.lt,h.range,h.there⟩
theorem wn_one (n:Nat):(wn n).toArray.all (·.oneCell')=true:=by kernel_rfl
theorem spread_c (O:Ord N) (r2:Nat) (T:Bs) (w:World) (hTs:T.size=32) (hT:Holds encB w r2 0 T) :
 Calls Tryd.prog 33 #[.slice (some ⟨r2,0,none⟩) 32 32] w (Ret fun e w'=>Below w.heap.size w w'∧e=nv (redu N (SP.strmL T.toList 64))):=by
 obtain ⟨S,hS⟩:∃ S,Hid (SP.strmL T.toList 64=S):=⟨_,rfl⟩
 have hSs:S.size=64:=by rw[← hS.out];exact SP.strm_size _ _
 rw[hS.out]
 obtain ⟨w1,hw1⟩:∃ w1,Hid (w.alloc (.cells #[.int .u64 0,.int .u64 0,.int .u64 0,.int .u64 0] 46)=w1):=⟨_,rfl⟩
 have K2:Hid (Row w1 w.heap.size [.int .u64 0,.int .u64 0,.int .u64 0,.int .u64 0]∧Below w.heap.size w w1∧Holds encB w1 r2 0 T):=by rw[← hw1.out];exact ⟨row_new w _ _,below1 w _,Holds.below hT (below1 w _) (Holds.lt hT (by omega))⟩
 clear hT
 go_enter Tryd.func33,Tryd.ntmps33
 go_wp2_with fail
 rw[hw1.out]
 clear hw1
 refine (SP.Stream_yes (some ⟨r2,0,none⟩) r2 0 32 32 64 T w1 (by decide) hTs (Nat.le_refl _) (by decide) (Or.inr ⟨rfl,K2.out.2.2⟩)).mono ?_
 rintro e w3 ⟨r3,rfl,h1,h2,h3⟩
 rw[hS.out] at h3
 have K3:Hid (Row w3 w.heap.size [.int .u64 0,.int .u64 0,.int .u64 0,.int .u64 0]∧Below w.heap.size w w3∧Holds encB w3 r3 0 S):=⟨K2.out.1.below h2,K2.out.2.1.trans (h2.mono K2.out.2.1.size),h3⟩
 clear h1 h2 h3 K2
 go_wp2_with fail
 refine (reduced_c O r3 S hSs w3 (Holds.lt K3.out.2.2 (by omega)) K3.out.2.2).mono ?_
 rintro e w4 ⟨v,rfl,hb4,rfl⟩
 have K4:Hid (Row w4 w.heap.size [.int .u64 0,.int .u64 0,.int .u64 0,.int .u64 0]∧Below w.heap.size w w4):=⟨K3.out.1.below hb4,K3.out.2.1.trans (hb4.mono K3.out.2.1.size)⟩
 clear hb4 K3
 obtain ⟨m,hm⟩:∃ m,Hid (redu N S=m):=⟨_,rfl⟩
 rw[hm.out]
 obtain ⟨w5,hw5⟩:∃ w5,Hid (w4.setCells w.heap.size 0 (wn m)=w5):=⟨_,rfl⟩
 have K5:Hid (Row w5 w.heap.size (wn m)∧Below w.heap.size w w5):=by rw[← hw5.out];exact ⟨K4.out.1.put rfl,RG.below_setCells (Nat.le_refl _) _ _ _ K4.out.2⟩
 obtain ⟨vm,hvm⟩:∃ vm,Hid (nv m=vm):=⟨_,rfl⟩
 rw[hvm.out]
 go_wp2_with (refine wpList_store_mid rfl 46 _ _ rfl w.heap.size 0 (wn m).toArray ?_ ?_ ?_ ?_ ?_ ?_;rfl;exact hvm.out.symm;exact K4.out.1.2.2;exact i40;exact wn_one m;rw[show (wn m).toArray.toList=wn m from rfl,hw5.out])
 refine bodyPost_ret (results_cell 2 46 rfl K5.out.1 rfl u40 i40) rfl ?_
 exact ⟨_,rfl,K5.out.2,by rw[hm.out];rfl⟩
theorem ofOne_c:Gives 52 #[.int .u64 1] (nv 1):=by
 intro w
 go_enter Tryd.func52,Tryd.ntmps52
 refine RG.M.enter [(0,.v (.int .u64 1))] 6 (by kernel_rfl) ?_
 intro a0 M0
 repeat refine wp_seq ?_
 refine M0.t [.m 2 [] 0] [(0,RG.z 4)] [] [RG.z 4] [(0,.v (.int .u64 1)),(2,.p 0 0)] ⟨RG.mk 0 46,trivial⟩ ?_
 intro k a1 w1 M1
 repeat refine wp_seq ?_
 refine M1.t [.x 3 [] (.int .u64 1),.x 4 [(3,0)] (nv 1),.x 5 [(4,1)] (nv 1),.u [(5,2)] 0] [] [(0,3,wn 1)] [wn 1] [(2,.p 0 0)] ⟨RG.st,RG.st,RG.st,RG.pt i40,trivial⟩ ?_
 intro a2 w2 M2
 refine wp_ret ?_
 refine bodyPost_ret (v:=nv 1) (RG.results_row M2.st 2 46 rfl 0 _ rfl (M2.at (s:=(.p 0 0))) u40 i40) M2.sl.defers ?_
 exact ⟨_,rfl,M2.st.bel.below,rfl⟩
def orOne (a:Nat):Nat:=if a=0 then 1 else a
theorem orOne_lt (O:Ord N) {a:Nat} (ha:a<N):orOne a<N:=by
 unfold orOne
 by_cases h:a=0
 ·rw[if_pos h];have:=O.n2;omega
 ·rw[if_neg h];exact ha
theorem orOne_c (O:Ord N) {a:Nat} (ha:a<N):Gives 34 #[nv a] (nv (orOne a)):=by
 intro w
 have hat:a<top:=Nat.lt_of_lt_of_le ha O.le
 have hq:∀ w:World,(binOp .eql 46 (nv a) (nv 0)).run Tryd.prog w=.ok (.bool (decide (a=0))) w:=fun w=>eqS hat (show 0<top by unfold top;omega) w
 obtain ⟨d,hd⟩:∃ d,Hid (decide (a=0)=d):=⟨_,rfl⟩
 rw[hd.out] at hq
 go_enter Tryd.func34,Tryd.ntmps34
 refine RG.M.enter [(0,.v (nv a))] 8 (by kernel_rfl) ?_
 intro a0 M0
 repeat refine wp_seq ?_
 refine M0.t [.m 1 [] 0,.m 2 [] 1] [(0,wn a),(1,RG.z 4)] [] [wn a,RG.z 4] [(1,.p 0 0),(2,.p 1 0)] ⟨RG.mk 0 46,RG.mk 1 46,trivial⟩ ?_
 intro j1 i1 a1 w1 M1
 repeat refine wp_seq ?_
 refine M1.u [.x 3 [] (nv a),.x 4 [] (nv 0),.x 5 [(3,0),(4,1)] (.bool d)] [(1,.p 0 0),(2,.p 1 0),(5,.v (.bool d))] ⟨RG.ld u40 i40,RG.st,RG.cert_bin rfl .eql 46 46 3 4 (nv a) (nv 0) (.bool d) rfl rfl RG.sx RG.sx (fun w=>by kernel_rfl) hq,trivial⟩ ?_
 intro a2 w2 M2
 cases d with
 | true =>
  refine wp_cond_true M2.ev ?_
  have h0:a=0:=of_decide_eq_true hd.out
  have hr:orOne a=1:=by unfold orOne;rw[if_pos h0]
  rw[hr]
  repeat refine wp_seq ?_
  refine M2.t [.c 6 [] (nv 1),.u [(6,0)] 1] [] [(1,1,wn 1)] [wn a,wn 1] [(2,.p 1 0)] ⟨RG.cl ofOne_c,RG.pt i40,trivial⟩ ?_
  intro a3 w3 M3
  refine wp_ret ?_
  refine bodyPost_ret (v:=nv 1) (RG.results_row M3.st 2 46 rfl 1 _ rfl (M3.at (s:=(.p 1 0))) u40 i40) M3.sl.defers ?_
  exact ⟨_,rfl,M3.st.bel.below,rfl⟩
 | false =>
  refine wp_cond_false M2.ev ?_
  have h0:¬ a=0:=of_decide_eq_false hd.out
  have hr:orOne a=a:=by unfold orOne;rw[if_neg h0]
  rw[hr]
  refine wp_skip ?_
  repeat refine wp_seq ?_
  refine M2.t [.x 7 [] (nv a),.u [(7,0)] 1] [] [(1,1,wn a)] [wn a,wn a] [(2,.p 1 0)] ⟨RG.ld u40 i40,RG.pt i40,trivial⟩ ?_
  intro a3 w3 M3
  refine wp_ret ?_
  refine bodyPost_ret (v:=nv a) (RG.results_row M3.st 2 46 rfl 1 _ rfl (M3.at (s:=(.p 1 0))) u40 i40) M3.sl.defers ?_
  exact ⟨_,rfl,M3.st.bel.below,rfl⟩
def kSc (N:Nat) (T:Bs):Nat:=orOne (redu N (SP.strmL T.toList 64))
theorem kSc_lt (O:Ord N) (T:Bs):kSc N T<N:=orOne_lt O (redu_lt O _)
theorem scalarOf_c (O:Ord N) (r2:Nat) (T:Bs) (w:World) (hTs:T.size=32) (hT:Holds encB w r2 0 T) :
 Calls Tryd.prog 20 #[.slice (some ⟨r2,0,none⟩) 32 32] w (Ret fun e w'=>Below w.heap.size w w'∧e=nv (kSc N T)):=by
 obtain ⟨w1,hw1⟩:∃ w1,Hid (w.alloc (.cells #[.int .u64 0,.int .u64 0,.int .u64 0,.int .u64 0] 46)=w1):=⟨_,rfl⟩
 have K2:Hid (Row w1 w.heap.size [.int .u64 0,.int .u64 0,.int .u64 0,.int .u64 0]∧Below w.heap.size w w1∧Holds encB w1 r2 0 T):=by rw[← hw1.out];exact ⟨row_new w _ _,below1 w _,Holds.below hT (below1 w _) (Holds.lt hT (by omega))⟩
 clear hT
 have hlt:=redu_lt O (SP.strmL T.toList 64)
 have HO:=orOne_c O hlt
 have hS:=spread_c O r2 T w1 hTs K2.out.2.2
 have HK:Hid (kSc N T=orOne (redu N (SP.strmL T.toList 64))):=rfl
 generalize redu N (SP.strmL T.toList 64)=m at HO hS HK hlt
 rw[HK.out]
 generalize orOne m=x at HO ⊢
 obtain ⟨vm,hvm⟩:∃ vm,Hid (nv m=vm):=⟨_,rfl⟩
 rw[hvm.out] at HO hS
 go_enter Tryd.func20,Tryd.ntmps20
 go_wp2_with fail
 rw[hw1.out]
 clear hw1
 refine hS.mono ?_
 rintro e w3 ⟨v,rfl,h2,rfl⟩
 have K3:Hid (Row w3 w.heap.size [.int .u64 0,.int .u64 0,.int .u64 0,.int .u64 0]∧Below w.heap.size w w3):=⟨K2.out.1.below h2,K2.out.2.1.trans (h2.mono K2.out.2.1.size)⟩
 clear h2 K2 hS
 go_wp2_with fail
 refine (HO w3).mono ?_
 rintro e w4 ⟨v,rfl,hb4,rfl⟩
 have K4:Hid (Row w4 w.heap.size [.int .u64 0,.int .u64 0,.int .u64 0,.int .u64 0]∧Below w.heap.size w w4):=⟨K3.out.1.below hb4,K3.out.2.trans (hb4.mono K3.out.2.size)⟩
 clear hb4 K3 HO
 obtain ⟨w5,hw5⟩:∃ w5,Hid (w4.setCells w.heap.size 0 (wn x)=w5):=⟨_,rfl⟩
 have K5:Hid (Row w5 w.heap.size (wn x)∧Below w.heap.size w w5):=by rw[← hw5.out];exact ⟨K4.out.1.put rfl,RG.below_setCells (Nat.le_refl _) _ _ _ K4.out.2⟩
 obtain ⟨vx,hvx⟩:∃ vx,Hid (nv x=vx):=⟨_,rfl⟩
 rw[hvx.out]
 go_wp2_with (refine wpList_store_mid rfl 46 _ _ rfl w.heap.size 0 (wn x).toArray ?_ ?_ ?_ ?_ ?_ ?_;rfl;exact hvx.out.symm;exact K4.out.1.2.2;exact i40;exact wn_one x;rw[show (wn x).toArray.toList=wn x from rfl,hw5.out])
 refine bodyPost_ret (results_cell 2 46 rfl K5.out.1 rfl u40 i40) rfl ?_
 exact ⟨_,rfl,K5.out.2,rfl⟩
end
section
open Go.RowKit Go.Sort Go.Deep
section
variable {P:Program} {ops:Array Oper} {rest:List Oper} {op:Oper} {a:Act} {w w':World} {v:Value} {Q:Exit→Act→World→Prop}
theorem wpList_op (hgd:op.guard=none) (X:Op) (_:op.op=X) (hr:(execOp a.eval op).run P w=.ok (.value v) w') (h:wpList P ops Q rest (a.put op.dst v) w'):wpList P ops Q (op :: rest) a w:=
 wpList_plain hgd fun K hK=>by
  unfold Oper.wp
  rw[hr]
  exact hK _ _ h
end
variable {N:Nat}
theorem Hid.mk' {p:Prop} (h:p):Hid p:=h
end
namespace SP
open Go.RowKit Go.Sort Go.Deep
end SP
section
open Go.RowKit Go.Sort Go.Deep
variable {P:Nat} [NeZero P] {N:Nat}
end
section
open Go.RowKit Go.Sort
variable {P:Nat} [NeZero P] {N:Nat}
end
section
open Go.RowKit Go.Sort Go.Deep
variable {P:Nat} [NeZero P] {N:Nat}
def n12 (P:Nat) [NeZero P]:List Value:=ws (0:Fin P)++(ws (1:Fin P)++ws (0:Fin P))
end
section
open Go.RowKit Go.Sort
variable {P:Nat} [NeZero P] {N:Nat}
end
section
open Go.RowKit Go.Sort Go.Deep
variable {P:Nat} [NeZero P] {N:Nat}
end
section
open Go.RowKit Go.Sort
variable {P:Nat} [NeZero P] {N:Nat}
end
section
open Go.RowKit Go.Sort Go.Deep
variable {P:Nat} [NeZero P] {N:Nat}
end
section
open Go.RowKit Go.Sort
variable {P:Nat} [NeZero P] {N:Nat}
end
section
open Go.RowKit Go.Sort Go.Deep
variable {P:Nat} [NeZero P] {N:Nat}
end
section
open Go.RowKit Go.Sort Go.Deep
variable {N:Nat}
variable {P:Nat} [NeZero P]
end
section
open Go.RowKit Go.Sort Go.Deep
variable {P:Nat} [NeZero P] {N:Nat}
theorem undCP:Tryd.prog.underlying 38=some (.array 33 5):=by kernel_rfl
theorem bl33_lit {b:Bs} (h:b.size=33):bl33 b=[.int .u8 (ub b[0]!),.int .u8 (ub b[1]!),.int .u8 (ub b[2]!),.int .u8 (ub b[3]!),.int .u8 (ub b[4]!),.int .u8 (ub b[5]!),.int .u8 (ub b[6]!),.int .u8 (ub b[7]!),.int .u8 (ub b[8]!),.int .u8 (ub b[9]!),.int .u8 (ub b[10]!),.int .u8 (ub b[11]!),.int .u8 (ub b[12]!),.int .u8 (ub b[13]!),.int .u8 (ub b[14]!),.int .u8 (ub b[15]!),.int .u8 (ub b[16]!),.int .u8 (ub b[17]!),.int .u8 (ub b[18]!),.int .u8 (ub b[19]!),.int .u8 (ub b[20]!),.int .u8 (ub b[21]!),.int .u8 (ub b[22]!),.int .u8 (ub b[23]!),.int .u8 (ub b[24]!),.int .u8 (ub b[25]!),.int .u8 (ub b[26]!),.int .u8 (ub b[27]!),.int .u8 (ub b[28]!),.int .u8 (ub b[29]!),.int .u8 (ub b[30]!),.int .u8 (ub b[31]!),.int .u8 (ub b[32]!)]:=by
 apply List.ext_getElem?
 intro i
 by_cases hi:i<33
 ·rw[bl33_at b i (by omega)]
  match i,hi with
  | 0,_=>rfl
  | 1,_=>rfl
  | 2,_=>rfl
  | 3,_=>rfl
  | 4,_=>rfl
  | 5,_=>rfl
  | 6,_=>rfl
  | 7,_=>rfl
  | 8,_=>rfl
  | 9,_=>rfl
  | 10,_=>rfl
  | 11,_=>rfl
  | 12,_=>rfl
  | 13,_=>rfl
  | 14,_=>rfl
  | 15,_=>rfl
  | 16,_=>rfl
  | 17,_=>rfl
  | 18,_=>rfl
  | 19,_=>rfl
  | 20,_=>rfl
  | 21,_=>rfl
  | 22,_=>rfl
  | 23,_=>rfl
  | 24,_=>rfl
  | 25,_=>rfl
  | 26,_=>rfl
  | 27,_=>rfl
  | 28,_=>rfl
  | 29,_=>rfl
  | 30,_=>rfl
  | 31,_=>rfl
  | 32,_=>rfl
  | n+33,h=>exact absurd h (by omega)
 ·rw[List.getElem?_eq_none (by rw[bl33_length h];omega),List.getElem?_eq_none (by show 33≤i;omega)]
theorem bytes_eq {a b:Bs} (ha:a.size=33) (hb:b.size=33):(∀ i∈List.range 33,ub a[i]! = ub b[i]!)↔a=b:=by
 constructor
 ·intro h
  apply Array.ext (by rw[ha,hb])
  intro i h1 h2
  have h3:=h i (List.mem_range.2 (by omega))
  rw[getElem!_pos a i h1,getElem!_pos b i h2] at h3
  have h4:a[i].toNat=b[i].toNat:=by unfold ub at h3;omega
  exact UInt8.toNat_inj.1 h4
 ·rintro rfl i _
  rfl
theorem eqCP {a b:Bs} (ha:a.size=33) (hb:b.size=33) (w:World):(Op.equal 38 (.agg (bl33 a).toArray) (.agg (bl33 b).toArray)).run Tryd.prog w=.ok (decide (a=b)) w:=by
 have hi:(Tryd.prog.info? 5).isSome=true:=by kernel_rfl
 obtain ⟨inf,hinf⟩:=Option.isSome_iff_exists.1 hi
 show (Op.equalIn 10000 38 _ _).run Tryd.prog w=_
 rw[run_equalIn_array w 9999 _ _ undCP hinf,cells5,
  eqI _ _ (fun i=>ub a[i]!) (fun i=>ub b[i]!) 9998 w (List.range 33) (fun i hi=>by
   rw[List.getElem?_toArray]
   exact bl33_at a i (by rw[ha];exact List.mem_range.1 hi)) (fun i hi=>by
   rw[List.getElem?_toArray]
   exact bl33_at b i (by rw[hb];exact List.mem_range.1 hi))]
 rw[decide_eq_decide.2 (bytes_eq ha hb)]
theorem checkCP {b:Bs} (hb:b.size=33) (e:Bool) (w:World):(Instr.checkKey e 10000 38 (.agg (bl33 b).toArray)).run Tryd.prog w=.ok () w:=by
 rw[bl33_lit hb]
 kernel_rfl
def at? (b:Bs):List Bs→Nat→Option Nat
 | [],_=>none
 | k :: r,i=>if b=k then some i else at? b r (i+1)
def ents:List Bs→Nat→List MapEntry
 | [],_=>[]
 | k :: r,i=>{ key:=.agg (bl33 k).toArray,val:=.int .i64 i,born:=i } :: ents r (i+1)
theorem find_run {b:Bs} (hb:b.size=33) (w:World):∀ (D:List Bs) (i:Nat),(∀ k∈D,k.size=33)→(Instr.findAsking 38 (.agg (bl33 b).toArray) (ents D i) i).run Tryd.prog w=.ok ((at? b D i).map fun j=>(j,.int .i64 j)) w
 | [],i,_=>rfl
 | k :: r,i,h=>by
  have ih:=find_run hb w r (i+1) (fun x hx=>h x (List.mem_cons_of_mem _ hx))
  have he:=eqCP hb (h k List.mem_cons_self) w
  unfold ents Instr.findAsking at?
  simp only[Sem.run_bind,he,Result.andThen_ok]
  by_cases hk:b=k
  ·simp only[hk,decide_true,if_true,Sem.run_pure,Option.map_some]
  ·simp only[hk,decide_false,Bool.false_eq_true,if_false,ih]
theorem key_run {b:Bs} (hb:b.size=33) (D:List Bs) (h:∀ k∈D,k.size=33) (w:World):(Instr.findKey 38 (.agg (bl33 b).toArray) (ents D 0)).run Tryd.prog w=.ok ((at? b D 0).map fun j=>(j,.int .i64 j)) w:=by
 have hu:(underlying 38).run Tryd.prog w=.ok (.array 33 5) w:=run_underlying undCP w
 unfold Instr.findKey
 rw[Sem.run_bind,hu,Result.andThen_ok]
 cases D with
 | nil=>rfl
 | cons k r =>
  have h1:Instr.findNow (.array 33 5) (.agg (bl33 b).toArray) (ents (k :: r) 0) 0=none:=rfl
  simp only[h1]
  exact find_run hb w (k :: r) 0 h
theorem at?_none {b:Bs}:∀ {D:List Bs} {i:Nat},at? b D i=none↔b ∉ D
 | [],i=>by simp[at?]
 | k :: r,i=>by
  unfold at?
  by_cases h:b=k
  ·simp[h]
  ·simp[h,at?_none (D:=r) (i:=i+1)]
end
section
open Go.RowKit Go.Sort Go.Deep
section
variable {P:Program} {ops:Array Oper} {rest:List Oper} {op:Oper} {a:Act} {w w':World} {v u:Value} {Q:Exit→Act→World→Prop}
theorem wpList_box (hgd:op.guard=none) (T:TypeId) (x:Operand) (ho:op.op=.box T x) (hx:a.eval x=u) (hr:(Instr.box T u).run P w=.ok v w') (h:wpList P ops Q rest (a.put op.dst v) w'):wpList P ops Q (op :: rest) a w:=
 wpList_plain hgd fun K hK=>by
  unfold Oper.wp execOp
  simp only[ho,hx,Sem.run_bind,hr,Result.andThen_ok,Sem.run_pure]
  exact hK _ _ h
end
variable {N:Nat}
theorem infoCP:(Tryd.prog.info? 38).map (·.size)=some 33:=by kernel_rfl
theorem uCP:(Tryd.prog.underlying 38).map (·.isRow)=some true:=by kernel_rfl
theorem boxCP {a:Bs} (ha:a.size=33) (w:World):(Instr.box 38 (.agg (bl33 a).toArray)).run Tryd.prog w=.ok (.pointer (some ⟨w.heap.size,0,none⟩)) (w.alloc (.cells (bl33 a).toArray 38)):=by
 rw[bl33_lit ha]
 kernel_rfl
theorem slCP (k:Nat) (w:World):(Instr.sliceAt 38 (.pointer (some ⟨k,0,none⟩)) none none none).run Tryd.prog w=.ok (.slice (some ⟨k,0,none⟩) 33 33) w:=by kernel_rfl
theorem row_holds {W:World} {k:Nat} {a:Bs} (h:Row W k (bl33 a)):Holds encB W k 0 a:=cb_holds h.2.1 h.2.2
end
section
open Go.RowKit Go.Sort Go.Deep
variable {P:Nat} [NeZero P] {N:Nat}
theorem arrCP (g cg:Nat) (w:World):(Instr.arrayAt 38 (.slice (some ⟨g,0,none⟩) 33 cg)).run Tryd.prog w=.ok (.pointer (some ⟨g,0,none⟩)) w:=by kernel_rfl
theorem row_cp {W:World} {k:Nat} {a:Bs} (ha:Holds encB W k 0 a) (hk:k<W.heap.size):Row W k (bl33 a):=⟨hk,(cb_range ha).1,(cb_range ha).2⟩
theorem bl33_one (a:Bs):(bl33 a).toArray.all (·.oneCell')=true:=by
 rw[Array.all_eq_true']
 intro v hv
 obtain ⟨x,-,rfl⟩:=List.mem_map.1 (List.mem_toArray.1 hv)
 rfl
def pvl (a:Bs):Value:=.agg (bl33 a).toArray
theorem gen_c (C:Fld P):Gives 9 #[] (pvl (wr (gG P))):=by
 intro w
 obtain ⟨T,hT⟩:∃ T,Hid (wr (gG P)=T):=⟨_,rfl⟩
 have hTs:T.size=33:=by rw[← hT.out];exact wr_size _
 rw[hT.out]
 obtain ⟨w1,hw1⟩:∃ w1,Hid (w.alloc (.cells z33.toArray 38)=w1):=⟨_,rfl⟩
 have K1:Hid (Row w1 w.heap.size z33∧Below w.heap.size w w1):=by rw[← hw1.out];exact ⟨row_new w _ _,below1 w _⟩
 obtain ⟨d,hd1,hd2⟩:=Option.map_eq_some_iff.1 uCP
 have HD:Hid (Tryd.prog.underlying 38=some d∧d.isRow=true):=⟨hd1,hd2⟩
 clear hd1 hd2
 go_enter Tryd.func9,Tryd.ntmps9
 go_wp2_with (refine wpList_op (v:=.pointer (some ⟨w.heap.size,0,none⟩)) (w':=w1) rfl (.alloc 38) rfl ?_ ?_;(rw[← hw1.out];kernel_rfl))
 refine (Base_c C w1).mono ?_
 rintro e w2 ⟨vv,rfl,hb2,g,cg,rfl,-,k2,k3,k4⟩
 rw[hT.out] at k4
 have K2:Hid (Row w2 w.heap.size z33∧Below w.heap.size w w2∧Row w2 g (bl33 T)):=⟨K1.out.1.below hb2,K1.out.2.trans (hb2.mono K1.out.2.size),row_cp k4 k3⟩
 clear hb2 k2 k3 k4 K1 hw1
 have harr:=arrCP g cg
 obtain ⟨w3,hw3⟩:∃ w3,Hid (w2.setCells w.heap.size 0 (bl33 T)=w3):=⟨_,rfl⟩
 have hlen:(bl33 T).length=33:=bl33_length hTs
 have K3:Hid (Row w3 w.heap.size (bl33 T)∧Below w.heap.size w w3):=by rw[← hw3.out];exact ⟨K2.out.1.put (by rw[hlen];rfl),RG.below_setCells (Nat.le_refl _) _ _ _ K2.out.2.1⟩
 obtain ⟨vt,hvt⟩:∃ vt,Hid (Value.agg (bl33 T).toArray=vt):=⟨_,rfl⟩
 have HI:Hid ((Tryd.prog.info? 38).map (·.size)=some (bl33 T).length∧w2.there w.heap.size 0 (bl33 T).toArray.size∧(Tryd.prog.info? 38).map (·.size)=some (bl33 T).toArray.size):=by
  have e:(bl33 T).toArray.size=33:=by rw[List.size_toArray];exact hlen
  refine ⟨by rw[hlen];exact infoCP,by rw[e];exact K2.out.1.2.2,by rw[e];exact infoCP⟩
 clear hlen
 go_wp2_with (first|(refine wpList_load_mid rfl 38 _ rfl g 0 ?_ (bl33 T) d ?_ ?_ ?_ ?_ ?_;rfl;exact K2.out.2.2.2.1;exact HD.out.1;exact HD.out.2;exact HI.out.1;rw[hvt.out])|(refine wpList_store_mid rfl 38 _ _ rfl w.heap.size 0 (bl33 T).toArray ?_ ?_ ?_ ?_ ?_ ?_;rfl;exact hvt.out.symm;exact HI.out.2.1;exact HI.out.2.2;exact bl33_one T;rw[show (bl33 T).toArray.toList=bl33 T from rfl,hw3.out]))
 refine bodyPost_ret (results_cell 0 38 rfl K3.out.1 rfl uCP HI.out.1) rfl ?_
 exact ⟨_,rfl,K3.out.2,rfl⟩
end
section
open Go.RowKit Go.Sort Go.Deep
section
variable {P:Program} {ops:Array Oper} {rest:List Oper} {op:Oper} {a:Act} {w w':World} {v:Value} {Q:Exit→Act→World→Prop}
theorem wpList_bld (hgd:op.guard=none) (T:TypeId) (parts:Array (Nat × Operand)) (ho:op.op=.build T parts) (vs:Array (Nat × Value)) (hx:(parts.map fun (i,x)=>(i,a.eval x))=vs) (hr:(Instr.build T vs).run P w=.ok v w') (h:wpList P ops Q rest (a.put op.dst v) w'):wpList P ops Q (op :: rest) a w:=
 wpList_plain hgd fun K hK=>by
  unfold Oper.wp execOp
  simp only[ho,hx,Sem.run_bind,hr,Result.andThen_ok,Sem.run_pure]
  exact hK _ _ h
theorem wpList_bsl (hgd:op.guard=none) (T:TypeId) (n:Nat) (parts:Array (Nat × Operand)) (ho:op.op=.buildSlice T n parts) (vs:Array (Nat × Value)) (hx:(parts.map fun (i,x)=>(i,a.eval x))=vs) (hr:(Instr.buildSlice T n vs).run P w=.ok v w') (h:wpList P ops Q rest (a.put op.dst v) w'):wpList P ops Q (op :: rest) a w:=
 wpList_plain hgd fun K hK=>by
  unfold Oper.wp execOp
  simp only[ho,hx,Sem.run_bind,hr,Result.andThen_ok,Sem.run_pure]
  exact hK _ _ h
end
theorem bldT {a:Bs} (ha:a.size=33) (n:Nat) (w:World):(Instr.build 56 #[(0,nv n),(1,pvl a)]).run Tryd.prog w=.ok (.agg (wn n++bl33 a).toArray) w:=by
 unfold pvl
 rw[bl33_lit ha]
 kernel_rfl
theorem bslT {a:Bs} (ha:a.size=33) (n:Nat) (w:World):(Instr.buildSlice 40 1 #[(0,.agg (wn n++bl33 a).toArray)]).run Tryd.prog w=.ok (.slice (some ⟨w.heap.size,0,none⟩) 1 1) (w.alloc (.cells (wn n++bl33 a).toArray 56)):=by
 rw[bl33_lit ha]
 kernel_rfl
theorem boxS (n:Nat) (w:World):(Instr.box 46 (nv n)).run Tryd.prog w=.ok (.pointer (some ⟨w.heap.size,0,none⟩)) (w.alloc (.cells (wn n).toArray 46)):=by kernel_rfl
theorem ptTimes_c (a:Bs) (ha:a.size=33) (n:Nat) (w:World):Calls Tryd.prog 10 #[pvl a,nv n] w (Ret fun e w'=>Below w.heap.size w w'∧∃ k,e=.slice (some ⟨k,0,none⟩) 1 1∧w.heap.size≤k∧Row w' k (wn n++bl33 a)):=by
 have B1:=Hid.mk' (boxCP ha w)
 obtain ⟨w1,hw1⟩:∃ w1,Hid (w.alloc (.cells (bl33 a).toArray 38)=w1):=⟨_,rfl⟩
 rw[hw1.out] at B1
 have e1:w1.heap.size=w.heap.size+1:=by rw[← hw1.out,World.size_alloc]
 have B2:=Hid.mk' (boxS n w1)
 obtain ⟨w2,hw2⟩:∃ w2,Hid (w1.alloc (.cells (wn n).toArray 46)=w2):=⟨_,rfl⟩
 rw[hw2.out,e1] at B2
 have e2:w2.heap.size=w.heap.size+2:=by rw[← hw2.out,World.size_alloc,e1]
 have B3:=Hid.mk' (bldT ha n w2)
 have B4:=Hid.mk' (bslT ha n w2)
 obtain ⟨w3,hw3⟩:∃ w3,Hid (w2.alloc (.cells (wn n++bl33 a).toArray 56)=w3):=⟨_,rfl⟩
 rw[hw3.out,e2] at B4
 have K:Hid (Row w2 w.heap.size (bl33 a)∧Row w2 (w.heap.size+1) (wn n)∧Below w.heap.size w w3∧Row w3 (w.heap.size+2) (wn n++bl33 a)):=by
  have q1:Row w1 w.heap.size (bl33 a):=by rw[← hw1.out];exact row_new w _ _
  have q2:Row w2 (w.heap.size+1) (wn n):=by rw[← hw2.out,← e1];exact row_new w1 _ _
  have q3:Row w3 (w.heap.size+2) (wn n++bl33 a):=by rw[← hw3.out,← e2];exact row_new w2 _ _
  have b1:Below w.heap.size w w1:=by rw[← hw1.out];exact below1 w _
  have b2:Below w1.heap.size w1 w2:=by rw[← hw2.out];exact below1 w1 _
  have b3:Below w2.heap.size w2 w3:=by rw[← hw3.out];exact below1 w2 _
  exact ⟨q1.below b2,q2,(b1.trans (b2.mono (by omega))).trans (b3.mono (by omega)),q3⟩
 have HL:Hid ((Tryd.prog.info? 38).map (·.size)=some (bl33 a).length):=by show _=_;rw[bl33_length ha];exact infoCP
 obtain ⟨d,hd1,hd2⟩:=Option.map_eq_some_iff.1 uCP
 obtain ⟨d',hd3,hd4⟩:=Option.map_eq_some_iff.1 u40
 have HD:Hid ((Tryd.prog.underlying 38=some d∧d.isRow=true)∧Tryd.prog.underlying 46=some d'∧d'.isRow=true):=⟨⟨hd1,hd2⟩,hd3,hd4⟩
 clear hd1 hd2 hd3 hd4 hw1 hw2 hw3 e1 e2
 obtain ⟨va,hva⟩:∃ v,Hid (pvl a=v):=⟨_,rfl⟩
 obtain ⟨vn,hvn⟩:∃ v,Hid (nv n=v):=⟨_,rfl⟩
 obtain ⟨vt,hvt⟩:∃ v,Hid (Value.agg (wn n++bl33 a).toArray=v):=⟨_,rfl⟩
 have B1':Hid ((Instr.box 38 va).run Tryd.prog w=.ok (.pointer (some ⟨w.heap.size,0,none⟩)) w1):=by rw[← hva.out];exact B1
 rw[hvn.out] at B2
 rw[hva.out,hvn.out,hvt.out] at B3
 rw[hvt.out] at B4
 rw[hva.out,hvn.out]
 clear B1
 go_enter Tryd.func10,Tryd.ntmps10
 go_wp2_with (first|(refine wpList_box (u:=va) (v:=.pointer (some ⟨w.heap.size,0,none⟩)) (w':=w1) rfl 38 (.tmp 0) rfl ?_ ?_ ?_;rfl;exact B1'.out)|(refine wpList_box (u:=vn) (v:=.pointer (some ⟨w.heap.size+1,0,none⟩)) (w':=w2) rfl 46 (.tmp 1) rfl ?_ ?_ ?_;rfl;exact B2.out)|(refine wpList_load_mid rfl 46 _ rfl (w.heap.size+1) 0 ?_ (wn n) d' ?_ ?_ ?_ ?_ ?_;rfl;exact K.out.2.1.2.1;exact HD.out.2.1;exact HD.out.2.2;exact i40;rw[show Value.agg (wn n).toArray=vn from hvn.out])|(refine wpList_load_mid rfl 38 _ rfl w.heap.size 0 ?_ (bl33 a) d ?_ ?_ ?_ ?_ ?_;rfl;exact K.out.1.2.1;exact HD.out.1.1;exact HD.out.1.2;exact HL.out;rw[show Value.agg (bl33 a).toArray=va from hva.out])|(refine wpList_bld (v:=vt) (w':=w2) rfl 56 _ rfl #[(0,vn),(1,va)] ?_ ?_ ?_;kernel_rfl;exact B3.out)|(refine wpList_bsl (v:=.slice (some ⟨w.heap.size+2,0,none⟩) 1 1) (w':=w3) rfl 40 1 _ rfl #[(0,vt)] ?_ ?_ ?_;kernel_rfl;exact B4.out))
 go_ret
 exact ⟨_,rfl,K.out.2.2.1,w.heap.size+2,rfl,by omega,K.out.2.2.2⟩
end
section
open Go.RowKit Go.Sort Go.Deep
variable {P:Nat} [NeZero P] {N:Nat}
theorem boxT {a:Bs} (ha:a.size=33) (n:Nat) (w:World):(Instr.box 56 (.agg (wn n++bl33 a).toArray)).run Tryd.prog w=.ok (.pointer (some ⟨w.heap.size,0,none⟩)) (w.alloc (.cells (wn n++bl33 a).toArray 56)):=by
 rw[bl33_lit ha]
 kernel_rfl
theorem bldS (w:World):(Instr.build 46 #[]).run Tryd.prog w=.ok (nv 0) w:=by kernel_rfl
def tvl (n:Nat) (a:Bs):Value:=.agg (wn n++bl33 a).toArray
theorem range_front {W:World} {k:Nat} {xs ys:List Value} (h:W.rangeAt k 0 (xs++ys)):W.rangeAt k 0 xs:=fun j v hj=>h j v (by rw[List.getElem?_append_left (List.getElem?_eq_some_iff.1 hj).1];exact hj)
theorem range_back {W:World} {k:Nat} {xs ys:List Value} (h:W.rangeAt k 0 (xs++ys)):W.rangeAt k xs.length ys:=fun j v hj=>by
 have:=h (xs.length+j) v (by rw[List.getElem?_append_right (Nat.le_add_right _ _),Nat.add_sub_cancel_left];exact hj)
 rwa[Nat.zero_add] at this
theorem none_c {n:Nat} (hn:n<top) {a:Bs} (ha:a.size=33):Gives 38 #[tvl n a] (.bool (decide (n=0))):=by
 intro w
 have B1:=Hid.mk' (boxT ha n w)
 obtain ⟨w1,hw1⟩:∃ w1,Hid (w.alloc (.cells (wn n++bl33 a).toArray 56)=w1):=⟨_,rfl⟩
 rw[hw1.out] at B1
 have K:Hid (Row w1 w.heap.size (wn n++bl33 a)∧Below w.heap.size w w1):=by rw[← hw1.out];exact ⟨row_new w _ _,below1 w _⟩
 obtain ⟨d',hd3,hd4⟩:=Option.map_eq_some_iff.1 u40
 have HD:Hid (Tryd.prog.underlying 46=some d'∧d'.isRow=true):=⟨hd3,hd4⟩
 clear hd3 hd4 hw1
 obtain ⟨va,hva⟩:∃ v,Hid (tvl n a=v):=⟨_,rfl⟩
 obtain ⟨vn,hvn⟩:∃ v,Hid (nv n=v):=⟨_,rfl⟩
 obtain ⟨v0,hv0⟩:∃ v,Hid (nv 0=v):=⟨_,rfl⟩
 have B1':Hid ((Instr.box 56 va).run Tryd.prog w=.ok (.pointer (some ⟨w.heap.size,0,none⟩)) w1):=by rw[← hva.out];exact B1
 have B2:Hid ((Instr.build 46 #[]).run Tryd.prog w1=.ok v0 w1):=by rw[← hv0.out];exact bldS w1
 have B3:=Hid.mk' (eqS hn (show 0<top by unfold top;omega) w1)
 rw[hvn.out,hv0.out] at B3
 have hq:=B3.out
 obtain ⟨z,hz⟩:∃ z,Hid (decide (n=0)=z):=⟨_,rfl⟩
 rw[hz.out] at hq
 have hg:(eqGuard .eql 46 (.tmp 4) (.tmp 5) vn v0).run Tryd.prog w1=.ok () w1:=by rw[← hvn.out,← hv0.out];kernel_rfl
 rw[hva.out,hz.out]
 clear B1 B3
 go_enter Tryd.func38,Tryd.ntmps38
 go_wp2_with (first|(refine wpList_box (u:=va) (v:=.pointer (some ⟨w.heap.size,0,none⟩)) (w':=w1) rfl 56 (.tmp 0) rfl ?_ ?_ ?_;rfl;exact B1'.out)|(refine wpList_load_mid rfl 46 _ rfl w.heap.size 0 ?_ (wn n) d' ?_ ?_ ?_ ?_ ?_;rfl;exact range_front K.out.1.2.1;exact HD.out.1;exact HD.out.2;exact i40;rw[show Value.agg (wn n).toArray=vn from hvn.out])|(refine wpList_bld (v:=v0) (w':=w1) rfl 46 _ rfl #[] ?_ ?_ ?_;kernel_rfl;exact B2.out))
 go_wp2
 go_ret
 exact ⟨_,rfl,K.out.2,rfl⟩
theorem uT:(Tryd.prog.underlying 56).map (·.isRow)=some true:=by kernel_rfl
theorem iT:(Tryd.prog.info? 56).map (·.size)=some 37:=by kernel_rfl
theorem atT (k o n c i:Nat) (hi:i<n) (w:World):(Instr.indexAt 40 (.slice (some ⟨k,o,none⟩) n c) (.int .i64 i)).run Tryd.prog w=.ok (.pointer (some ⟨k,o+37*i,none⟩)) w:=by
 have h1:¬ (i:Int)<0:=by omega
 have h2:(i:Int)<n:=by omega
 go_simp
def firstZ (ns:Nat→Nat):Nat→Nat→Int
 | _,0=>-1
 | i,m+1=>if ns i=0 then (i:Int) else firstZ ns (i+1) m
def FIx_2 (b:Bool):List RG.It:=[.x 9 [] (.bool b)]
def FIx_4 (g k c i n:Nat) (a:Bs) (z:Bool):List RG.It:=[.x 11 [] (.func (.func 38) #[] #[]),.x 12 [] (.slice (some ⟨g,0,none⟩) k c),.x 13 [] (.int .i64 i),.x 14 [(12,1),(13,2)] (.pointer (some ⟨g,(0+37*i),none⟩)),.x 15 [(14,3)] (tvl n a),.c 16 [(11,0),(15,4)] (.bool z)]
theorem index_c (g k c:Nat) (hk:k≤1000000) (ns:Nat→Nat) (az:Nat→Bs) (hn:∀ j,j<k→ns j<top) (ha:∀ j,j<k→(az j).size=33) (w:World) (hg:g<w.heap.size) (hr:∀ j,j<k→w.rangeAt g (37*j) (wn (ns j)++bl33 (az j))) :
 Calls Tryd.prog 54 #[(.slice (some ⟨g,0,none⟩) k c),(.func (.func 38) #[] #[])] w (Ret fun e w'=>Below w.heap.size w w'∧e=.int .i64 (firstZ ns 0 k)):=by
 obtain ⟨R,hR⟩:∃ R,firstZ ns 0 k=R:=⟨_,rfl⟩
 rw[hR]
 go_enter Tryd.func54,Tryd.ntmps54
 refine RG.M.enter [(0,.v (.slice (some ⟨g,0,none⟩) k c)),(1,.v (.func (.func 38) #[] #[]))] 19 (by kernel_rfl) ?_
 intro a0 M0
 repeat refine wp_seq ?_
 refine M0.u [.x 4 [] (.int .i64 0)] [(0,.v (.slice (some ⟨g,0,none⟩) k c)),(1,.v (.func (.func 38) #[] #[]))] ⟨RG.st,trivial⟩ ?_
 intro a1 w1 M1
 repeat refine wp_seq ?_
 refine M1.u [.x 6 [] (.slice (some ⟨g,0,none⟩) k c),.x 7 [(6,0)] (.int .i64 k),.x 8 [] (.int .i64 0)] [(0,.v (.slice (some ⟨g,0,none⟩) k c)),(1,.v (.func (.func 38) #[] #[])),(7,.v (.int .i64 k)),(8,.v (.int .i64 0))] ⟨RG.st,RG.st,RG.st,trivial⟩ ?_
 intro a2 w2 M2
 repeat refine wp_seq ?_
 refine wp_block ?_
 refine wp_loop_ghost (fun m a wr=>∃ i:Nat,i+m=k∧firstZ ns i m=R∧RG.M w w.heap.size [] 19 [] [] [(0,.v (.slice (some ⟨g,0,none⟩) k c)),(1,.v (.func (.func 38) #[] #[])),(7,.v (.int .i64 k)),(8,.v (.int .i64 i))] a wr) k ⟨0,by omega,hR,M2⟩ ?_
 intro m' a wr
 rintro ⟨i,him,hf,M20⟩
 by_cases hi:i<k
 ·obtain ⟨n,hne⟩:∃ n,ns i=n:=⟨_,rfl⟩
  obtain ⟨b,hbe⟩:∃ b,az i=b:=⟨_,rfl⟩
  have hnt:=hn i hi
  have hbs:=ha i hi
  have hri:=hr i hi
  rw[hne] at hnt hri
  rw[hbe] at hbs hri
  have hri':w.rangeAt g (0+37*i) (wn n++bl33 b):=by rw[Nat.zero_add];exact hri
  have hlen:(Tryd.prog.info? 56).map (·.size)=some (wn n++bl33 b).length:=by rw[List.length_append,bl33_length hbs];exact iT
  have hz:=none_c hnt hbs
  obtain ⟨m2,rfl⟩:∃ m2,m'=m2+1:=⟨m'-1,by omega⟩
  unfold firstZ at hf
  rw[hne] at hf
  repeat refine wp_seq ?_
  refine M20.u (FIx_2 true) [(0,.v (.slice (some ⟨g,0,none⟩) k c)),(1,.v (.func (.func 38) #[] #[])),(7,.v (.int .i64 k)),(8,.v (.int .i64 i)),(9,.v (.bool true))] ⟨RG.cert_bin rfl .lss 3 3 8 7 (.int .i64 i) (.int .i64 k) (.bool true) rfl rfl RG.sx RG.sx (fun w=>by kernel_rfl) (lssn_t hi),trivial⟩ ?_
  intro a21 w21 M21
  repeat refine wp_seq ?_
  refine wp_cond_true M21.ev ?_
  refine wp_skip ?_
  refine wp_seq ?_
  refine wp_block ?_
  repeat refine wp_seq ?_
  refine M21.u [.x 10 [] (.int .i64 i),.x 5 [(10,0)] (.int .i64 i)] [(0,.v (.slice (some ⟨g,0,none⟩) k c)),(1,.v (.func (.func 38) #[] #[])),(7,.v (.int .i64 k)),(8,.v (.int .i64 i)),(5,.v (.int .i64 i))] ⟨RG.st,RG.st,trivial⟩ ?_
  intro a22 w22 M22
  repeat refine wp_seq ?_
  by_cases h0:n=0
  ·rw[decide_eq_true h0] at hz
   rw[if_pos h0] at hf
   refine M22.u (FIx_4 g k c i n b true) [(0,.v (.slice (some ⟨g,0,none⟩) k c)),(1,.v (.func (.func 38) #[] #[])),(7,.v (.int .i64 k)),(8,.v (.int .i64 i)),(5,.v (.int .i64 i)),(16,.v (.bool true))] ⟨RG.st,RG.st,RG.st,RG.cert_idx rfl 40 12 13 rfl (.v (.slice (some ⟨g,0,none⟩) k c)) (.int .i64 i) RG.sx RG.sx (fun μ w=>atT _ 0 _ _ i hi w),RG.cert_loadB rfl g (0+37*i) hg List.not_mem_nil 56 14 rfl (wn n++bl33 b) rfl RG.sx hri' uT hlen,RG.clB (fun _ _=>by kernel_rfl) (fun w' _=>hz w'),trivial⟩ ?_
   intro a23 w23 M23
   repeat refine wp_seq ?_
   refine wp_cond_true M23.ev ?_
   repeat refine wp_seq ?_
   refine M23.u [.x 17 [] (.int .i64 i),.x 4 [(17,0)] (.int .i64 i)] [(4,.v (.int .i64 i))] ⟨RG.st,RG.st,trivial⟩ ?_
   intro a24 w24 M24
   refine wp_ret ?_
   refine bodyPost_ret (v:=.int .i64 i) (RG.results_t 4 rfl (.int .i64 i) M24.av) M24.sl.defers ?_
   exact ⟨_,rfl,M24.st.bel.below,by rw[hf]⟩
  ·rw[decide_eq_false h0] at hz
   rw[if_neg h0] at hf
   refine M22.u (FIx_4 g k c i n b false) [(0,.v (.slice (some ⟨g,0,none⟩) k c)),(1,.v (.func (.func 38) #[] #[])),(7,.v (.int .i64 k)),(8,.v (.int .i64 i)),(16,.v (.bool false))] ⟨RG.st,RG.st,RG.st,RG.cert_idx rfl 40 12 13 rfl (.v (.slice (some ⟨g,0,none⟩) k c)) (.int .i64 i) RG.sx RG.sx (fun μ w=>atT _ 0 _ _ i hi w),RG.cert_loadB rfl g (0+37*i) hg List.not_mem_nil 56 14 rfl (wn n++bl33 b) rfl RG.sx hri' uT hlen,RG.clB (fun _ _=>by kernel_rfl) (fun w' _=>hz w'),trivial⟩ ?_
   intro a23 w23 M23
   repeat refine wp_seq ?_
   refine wp_cond_false M23.ev ?_
   refine wp_skip ?_
   repeat refine wp_seq ?_
   refine M23.u [.x 18 [] (.int .i64 ((i+1:Nat):Int)),.x 8 [(18,0)] (.int .i64 ((i+1:Nat):Int))] [(0,.v (.slice (some ⟨g,0,none⟩) k c)),(1,.v (.func (.func 38) #[] #[])),(7,.v (.int .i64 k)),(8,.v (.int .i64 ((i+1:Nat):Int)))] ⟨RG.cert_binc rfl .add 3 3 8 (.int .i64 i) (.int .i64 1) (.int .i64 ((i+1:Nat):Int)) rfl rfl RG.sx (fun w=>by kernel_rfl) (addn i 1 (by omega) (by omega)),RG.st,trivial⟩ ?_
   intro a24 w24 M24
   show ∃ n',_
   exact ⟨m2,by omega,i+1,by omega,hf,M24⟩
 ·have hik:m'=0:=by omega
  rw[hik] at hf
  unfold firstZ at hf
  repeat refine wp_seq ?_
  refine M20.u (FIx_2 false) [(9,.v (.bool false))] ⟨RG.cert_bin rfl .lss 3 3 8 7 (.int .i64 i) (.int .i64 k) (.bool false) rfl rfl RG.sx RG.sx (fun w=>by kernel_rfl) (lssn_f hi),trivial⟩ ?_
  intro a21 w21 M21
  repeat refine wp_seq ?_
  refine wp_cond_false M21.ev ?_
  refine wp_exit ?_
  dsimp only[Exit.then,Exit.inBlock]
  rw[if_pos rfl]
  repeat refine wp_seq ?_
  refine M21.u [.x 4 [] (.int .i64 (-1))] [(4,.v (.int .i64 (-1)))] ⟨RG.st,trivial⟩ ?_
  intro a22 w22 M22
  refine wp_ret ?_
  refine bodyPost_ret (v:=.int .i64 (-1)) (RG.results_t 4 rfl (.int .i64 (-1)) M22.av) M22.sl.defers ?_
  exact ⟨_,rfl,M22.st.bel.below,by rw[← hf]⟩
theorem firstZ_none {ns:Nat→Nat}:∀ (m i:Nat),(∀ j,i≤j→j<i+m→ns j≠0)→firstZ ns i m = -1
 | 0,_,_=>rfl
 | m+1,i,h=>by
  unfold firstZ
  rw[if_neg (h i (Nat.le_refl _) (by omega))]
  exact firstZ_none m (i+1) (fun j h1 h2=>h j (by omega) (by omega))
theorem delete_none (g k c:Nat) (hk:k≤1000000) (ns:Nat→Nat) (az:Nat→Bs) (hn:∀ j,j<k→ns j<top) (hn0:∀ j,j<k→ns j≠0) (ha:∀ j,j<k→(az j).size=33) (w:World) (hg:g<w.heap.size) (hr:∀ j,j<k→w.rangeAt g (37*j) (wn (ns j)++bl33 (az j))) :
 Calls Tryd.prog 37 #[(.slice (some ⟨g,0,none⟩) k c),(.func (.func 38) #[] #[])] w (Ret fun e w'=>Below w.heap.size w w'∧e=(.slice (some ⟨g,0,none⟩) k c)):=by
 have hI:∀ w',RG.BelX w.heap.size [] w w'→Calls Tryd.prog 54 #[(.slice (some ⟨g,0,none⟩) k c),(.func (.func 38) #[] #[])] w' (Ret fun e w''=>Below w'.heap.size w' w''∧e=.int .i64 (-1)):=fun w' hb=>by
  have h:=index_c g k c hk ns az hn ha w' (Nat.lt_of_lt_of_le hg hb.below.size) (fun j hj=>RG.range_below (hr j hj) hb.below hg)
  rw[firstZ_none k 0 (fun j _ h2=>hn0 j (by omega))] at h
  exact h
 go_enter Tryd.func37,Tryd.ntmps37
 refine RG.M.enter [(0,.v (.slice (some ⟨g,0,none⟩) k c)),(1,.v (.func (.func 38) #[] #[]))] 42 (by kernel_rfl) ?_
 intro a0 M0
 repeat refine wp_seq ?_
 refine M0.u [.x 4 [] (.slice none 0 0)] [(0,.v (.slice (some ⟨g,0,none⟩) k c)),(1,.v (.func (.func 38) #[] #[]))] ⟨RG.st,trivial⟩ ?_
 intro a1 w1 M1
 repeat refine wp_seq ?_
 refine M1.u [.x 8 [] (.slice (some ⟨g,0,none⟩) k c),.x 9 [] (.func (.func 38) #[] #[]),.c 10 [(8,0),(9,1)] (.int .i64 (-1)),.x 5 [(10,2)] (.int .i64 (-1))] [(0,.v (.slice (some ⟨g,0,none⟩) k c)),(5,.v (.int .i64 (-1)))] ⟨RG.st,RG.st,RG.clB (fun _ _=>by kernel_rfl) hI,RG.st,trivial⟩ ?_
 intro a2 w2 M2
 repeat refine wp_seq ?_
 refine M2.u [.x 11 [] (.int .i64 (-1)),.x 12 [(11,0)] (.bool true)] [(0,.v (.slice (some ⟨g,0,none⟩) k c)),(12,.v (.bool true))] ⟨RG.st,RG.st,trivial⟩ ?_
 intro a3 w3 M3
 repeat refine wp_seq ?_
 refine wp_cond_true M3.ev ?_
 repeat refine wp_seq ?_
 refine M3.u [.x 13 [] (.slice (some ⟨g,0,none⟩) k c),.x 4 [(13,0)] (.slice (some ⟨g,0,none⟩) k c)] [(4,.v (.slice (some ⟨g,0,none⟩) k c))] ⟨RG.st,RG.st,trivial⟩ ?_
 intro a4 w4 M4
 refine wp_ret ?_
 refine bodyPost_ret (v:=(.slice (some ⟨g,0,none⟩) k c)) (RG.results_t 4 rfl _ M4.av) M4.sl.defers ?_
 exact ⟨_,rfl,M4.st.bel.below,rfl⟩
theorem undM:Tryd.prog.underlying 80=some (.map 38 3):=by kernel_rfl
theorem zero3 (w:World):(zeroValue 3).run Tryd.prog w=.ok (.int .i64 0) w:=by kernel_rfl
theorem ents_snoc (b:Bs):∀ (D:List Bs) (i:Nat),ents (D++[b]) i=ents D i++[{ key:=.agg (bl33 b).toArray,val:=.int .i64 ((i+D.length:Nat):Int),born:=i+D.length }]
 | [],i=>rfl
 | k :: r,i=>by
  rw[List.cons_append]
  unfold ents
  rw[ents_snoc b r (i+1),List.length_cons,show i+1+r.length=i+(r.length+1) by omega]
  rfl
theorem look_run {b:Bs} (hb:b.size=33) (D:List Bs) (hD:∀ k∈D,k.size=33) (m clock:Nat) (w:World) (hm:w.heap[m]? = some (.map (ents D 0).toArray clock)) :
 (Instr.lookup 80 (.map (some m)) (.agg (bl33 b).toArray) true).run Tryd.prog w=.ok (.tuple #[.int .i64 (((at? b D 0).getD 0:Nat):Int),.bool (at? b D 0).isSome]) w:=by
 have h1:=run_underlying undM w
 have h2:=fun e=>checkCP hb e w
 have h3:=key_run hb D hD w
 have h4:(getObj m).run Tryd.prog w=.ok (.map (ents D 0).toArray clock) w:=by
  simp[getObj,Sem.run,hm]
 unfold Instr.lookup
 simp only[Sem.run_bind,h1,Result.andThen_ok,h4,Sem.run_pure,h2,h3]
 cases h:at? b D 0 with
 | none=>simp[Sem.run_bind,zero3]
 | some j=>simp
theorem upd_run {b:Bs} (hb:b.size=33) (D:List Bs) (hD:∀ k∈D,k.size=33) (m:Nat) (w:World) (hm:w.heap[m]? = some (.map (ents D 0).toArray D.length)) (hn:at? b D 0=none) :
 (Instr.mapUpdate 80 (.map (some m)) (.agg (bl33 b).toArray) (.int .i64 (D.length:Int))).run Tryd.prog w=.ok () (w.putObj m (.map (ents (D++[b]) 0).toArray (D.length+1))):=by
 have h1:=run_underlying undM w
 have h2:=fun e=>checkCP hb e w
 have h3:=key_run hb D hD w
 rw[hn] at h3
 have h4:(getObj m).run Tryd.prog w=.ok (.map (ents D 0).toArray D.length) w:=by
  simp[getObj,Sem.run,hm]
 unfold Instr.mapUpdate
 simp only[Sem.run_bind,h1,Result.andThen_ok,h4,Sem.run_pure,h2,h3]
 rw[ents_snoc,Nat.zero_add]
 simp[setObj,Sem.run,hm,World.putObj]
theorem undS:Tryd.prog.underlying 40=some (.slice 56):=by kernel_rfl
theorem infoT:(Tryd.prog.info? 56).map (fun i=>(i.size,i.bytes,i.zero.map fun z=>z.cells.size))=some (37,72,some 37):=by kernel_rfl
theorem cells_one (n:Nat) (a:Bs):∀ u∈wn n++bl33 a,u.oneCell'=true:=by
 intro u hu
 rcases List.mem_append.1 hu with h|h
 ·unfold wn at h
  simp only[List.mem_cons,List.not_mem_nil,or_false] at h
  rcases h with rfl|rfl|rfl|rfl<;>rfl
 ·obtain ⟨x,-,rfl⟩:=List.mem_map.1 h
  rfl
theorem app_term {base k g n:Nat} {v:Value} {xs:List Value} {a:Bs} (ha:a.size=33) {W:World} (hown:W.ownsRow base 56 37 v k xs) (hR:Row W g (wn n++bl33 a)) (hk:k≤1000000) (hb:base≤W.heap.size) :
 ∃ v' W',(Builtin.append_ #[40,40] 40 #[v,.slice (some ⟨g,0,none⟩) 1 1]).run Tryd.prog W=.ok v' W'∧W'.ownsRow base 56 37 v' (k+1) (xs++(wn n++bl33 a))∧W.grownBy W' v.ownBlock:=by
 obtain ⟨i,hi,he⟩:=Option.map_eq_some_iff.1 infoT
 simp only[Prod.mk.injEq] at he
 obtain ⟨h1,h2,h3⟩:=he
 obtain ⟨z,hz,hz2⟩:=Option.map_eq_some_iff.1 h3
 obtain ⟨v',W',r1,r2,r3,-⟩:=run_append_own (P:=Tryd.prog) W base 40 40 56 i z 37 72 undS hi hz h1 h2 hz2 (by decide) v k xs hown ⟨g,0,none⟩ 1 1 (wn n++bl33 a) (by rw[List.length_append,bl33_length ha];rfl)
  (fun j u hj=>by
   have:=hR.2.1 j u hj
   rw[Nat.zero_add] at this
   rw[show (⟨g,0,none⟩:Addr).add j=⟨g,j,none⟩ by unfold Addr.add;split<;>simp_all]
   exact this) (cells_one n a) (by unfold maxLen;omega) (by omega) hb
 exact ⟨v',W',r1,r2,r3⟩
def addT (N:Nat):List (Nat × Bs)→Nat→Bs→List (Nat × Bs)
 | [],n,p=>[(n,p)]
 | (s,q) :: r,n,p=>if p=q then (sPl N s n,q) :: r else (s,q) :: addT N r n p
def mrg (N:Nat) (ns:Nat→Nat) (az:Nat→Bs):Nat→List (Nat × Bs)
 | 0=>[]
 | i+1=>addT N (mrg N ns az i) (ns i) (az i)
def cellsT (l:List (Nat × Bs)):List Value:=l.flatMap fun x=>wn x.1++bl33 x.2
theorem addT_new {N n:Nat} {p:Bs}:∀ {l:List (Nat × Bs)},at? p (l.map (·.2)) 0=none→addT N l n p=l++[(n,p)]
 | [],_=>rfl
 | (s,q) :: r,h=>by
  have h2:=at?_none.1 h
  rw[List.map_cons,List.mem_cons,not_or] at h2
  unfold addT
  rw[if_neg h2.1,addT_new (l:=r) (at?_none.2 h2.2)]
  rfl
theorem cellsT_snoc (l:List (Nat × Bs)) (n:Nat) (p:Bs):cellsT (l++[(n,p)])=cellsT l++(wn n++bl33 p):=by
 unfold cellsT
 rw[List.flatMap_append]
 simp
structure Mx (w W:World) (m:Nat) (l:List (Nat × Bs)) (v:Value):Prop where
 bl:Below w.heap.size w W
 mp:W.heap[m]? = some (.map (ents (l.map (·.2)) 0).toArray l.length)
 lm:w.heap.size≤m
 ow:W.ownsRow w.heap.size 56 37 v l.length (cellsT l)
theorem Mx.own_ne {w W:World} {m:Nat} {l:List (Nat × Bs)} {v:Value} (h:Mx w W m l v) {g:Nat} (hg:v.ownBlock=some g):g≠m∧w.heap.size≤g∧g<W.heap.size:=by
 rcases h.ow.2 with ⟨rfl,-⟩|⟨g',cap,cur,rfl,h1,h2,-⟩
 ·cases hg
 ·obtain rfl:g'=g:=by simpa[Value.ownBlock] using hg
  refine ⟨fun e=>?_,h1,(Array.getElem?_eq_some_iff.1 h2).1⟩
  have:=h.mp
  rw[← e,h2] at this
  cases this
theorem owns_kept {W W':World} {base k:Nat} {e:TypeId} {s:Nat} {v:Value} {xs:List Value} (h:W.ownsRow base e s v k xs) (hk:∀ g,v.ownBlock=some g→W'.heap[g]? = W.heap[g]?):W'.ownsRow base e s v k xs:=by
 refine ⟨h.1,?_⟩
 rcases h.2 with h2|⟨g,cap,cur,rfl,h1,h2,h3⟩
 ·exact Or.inl h2
 ·exact Or.inr ⟨g,cap,cur,rfl,h1,by rw[hk g rfl];exact h2,h3⟩
theorem Mx.kept {w W W':World} {m:Nat} {l:List (Nat × Bs)} {v:Value} (h:Mx w W m l v) (hb:Below W.heap.size W W'):Mx w W' m l v:=
 ⟨h.bl.trans (hb.mono h.bl.size),by rw[hb.block m (Array.getElem?_eq_some_iff.1 h.mp).1];exact h.mp,h.lm,owns_kept h.ow fun g hg=>hb.block g (h.own_ne hg).2.2⟩
theorem ents_map (l:List (Nat × Bs)) (n:Nat) (p:Bs):(l++[(n,p)]).map (·.2)=l.map (·.2)++[p]:=by simp
theorem Mx.push {w W:World} {m:Nat} {l:List (Nat × Bs)} {v:Value} (h:Mx w W m l v) {p:Bs} (hp:p.size=33) (hk:l.length≤1000000) (n:Nat) :
 ∃ v' W5x,(Builtin.append_ #[40,40] 40 #[v,.slice (some ⟨W.heap.size,0,none⟩) 1 1]).run Tryd.prog ((W.putObj m (.map (ents (l.map (·.2)++[p]) 0).toArray (l.length+1))).alloc (.cells (wn n++bl33 p).toArray 56))=.ok v' W5x∧Mx w W5x m (l++[(n,p)]) v'∧W.heap.size<W5x.heap.size∧∀ j,j<W.heap.size→w.heap.size≤j→j≠m→some j≠v.ownBlock→W5x.heap[j]? = W.heap[j]?:=by
 obtain ⟨W3,h3⟩:∃ W3,W.putObj m (.map (ents (l.map (·.2)++[p]) 0).toArray (l.length+1))=W3:=⟨_,rfl⟩
 have s3:W3.heap.size=W.heap.size:=by rw[← h3];simp[World.putObj]
 have hmW:m<W.heap.size:=(Array.getElem?_eq_some_iff.1 h.mp).1
 have o3:∀ j,j≠m→W3.heap[j]? = W.heap[j]?:=fun j hj=>by rw[← h3];exact World.putObj_heap_other hj
 have b3:Below w.heap.size w W3:=h.bl.trans ⟨by rw[← h3];rfl,by rw[← h3];rfl,by rw[← h3];rfl,by omega,fun j hj=>o3 j (by have:=h.lm;omega)⟩
 have w3:W3.ownsRow w.heap.size 56 37 v l.length (cellsT l):=owns_kept h.ow fun g hg=>o3 g (h.own_ne hg).1
 have m3:W3.heap[m]? = some (.map (ents (l.map (·.2)++[p]) 0).toArray (l.length+1)):=by rw[← h3];exact World.putObj_heap_same hmW
 rw[h3]
 have R4:=row_new W3 (wn n++bl33 p) 56
 have b4:=below1 W3 (.cells (wn n++bl33 p).toArray 56)
 have s4:(W3.alloc (.cells (wn n++bl33 p).toArray 56)).heap.size=W.heap.size+1:=by rw[World.size_alloc,s3]
 generalize W3.alloc (.cells (wn n++bl33 p).toArray 56)=W4 at R4 b4 s4 ⊢
 have w4:W4.ownsRow w.heap.size 56 37 v l.length (cellsT l):=owns_kept w3 fun g hg=>b4.block g (by have:=(h.own_ne hg).2.2;omega)
 rw[s3] at R4
 obtain ⟨v',W5x,r1,r2,r3⟩:=app_term hp w4 R4 hk (by have:=b3.size;omega)
 have hm5:some m≠v.ownBlock:=fun e=>(h.own_ne e.symm).1 rfl
 refine ⟨v',W5x,r1,⟨?_,?_,h.lm,?_⟩,by have:=r3.size;omega,fun j hj _ hjm hjo=>?_⟩
 ·exact (b3.trans (b4.mono b3.size)).grown r3 (by have:=b3.size;omega) (fun k e=>(h.own_ne e).2.1)
 ·rw[r3.block m (by omega) hm5,b4.block m (by omega),m3,ents_map,List.length_append]
  rfl
 ·rw[cellsT_snoc,List.length_append]
  exact r2
 ·rw[r3.block j (by omega) hjo,b4.block j (by omega),o3 j hjm]
end
section
open Go.RowKit Go.Sort Go.Deep
variable {N:Nat}
section
variable {P:Program} {ops:Array Oper} {rest:List Oper} {op:Oper} {a:Act} {w w':World} {v x y z:Value} {Q:Exit→Act→World→Prop}
theorem wpList_lk (hgd:op.guard=none) (T:TypeId) (m k:Operand) (ok:Bool) (ho:op.op=.lookup T m k ok) (hm:a.eval m=x) (hk:a.eval k=y) (hr:(Instr.lookup T x y ok).run P w=.ok v w') (h:wpList P ops Q rest (a.put op.dst v) w'):wpList P ops Q (op :: rest) a w:=
 wpList_plain hgd fun K hK=>by
  unfold Oper.wp execOp
  simp only[ho,hm,hk,Sem.run_bind,hr,Result.andThen_ok,Sem.run_pure]
  exact hK _ _ h
theorem wpList_mu (hgd:op.guard=none) (T:TypeId) (m k u:Operand) (ho:op.op=.mapUpdate T m k u) (hm:a.eval m=x) (hk:a.eval k=y) (hu:a.eval u=z) (hr:(Instr.mapUpdate T x y z).run P w=.ok () w') (h:wpList P ops Q rest (a.put op.dst undef) w'):wpList P ops Q (op :: rest) a w:=
 wpList_plain hgd fun K hK=>by
  unfold Oper.wp execOp
  simp only[ho,hm,hk,hu,Sem.run_bind,hr,Result.andThen_ok,Sem.run_pure]
  exact hK _ _ h
theorem wpList_app (hgd:op.guard=none) (s u:Operand) (t:TypeId) (ho:op.op=.call { callee:=.builtin .append,args:=#[s,u],argTypes:=#[t,t] }) (hs:a.eval s=x) (hu:a.eval u=y) (hr:(Builtin.append_ #[t,t] op.type #[x,y]).run P w=.ok v w') (h:wpList P ops Q rest (a.put op.dst v) w'):wpList P ops Q (op :: rest) a w:=
 wpList_plain hgd fun K hK=>by
  unfold Oper.wp execOp
  simp only[ho,resolve,invoke,builtin,Sem.run_bind,Sem.run_pure,Result.andThen_ok,List.map_toArray,List.map_cons,List.map_nil,hs,hu,hr]
  exact hK _ _ h
end
def zT:List Value:=[.int .u64 0,.int .u64 0,.int .u64 0,.int .u64 0]++z33
theorem owns_form {W:World} {base k:Nat} {e:TypeId} {s:Nat} {v:Value} {xs:List Value} (h:W.ownsRow base e s v k xs):∃ q cap,v=.slice q k cap:=by
 rcases h.2 with ⟨rfl,rfl⟩|⟨g,cap,cur,rfl,-⟩
 ·exact ⟨none,0,rfl⟩
 ·exact ⟨some ⟨g,0,none⟩,cap,rfl⟩
theorem mrg_len (ns:Nat→Nat) (az:Nat→Bs):∀ i,(mrg N ns az i).length≤i
 | 0=>Nat.le_refl _
 | i+1=>by
  have ih:=mrg_len ns az i
  have h:∀ (l:List (Nat × Bs)) n p,(addT N l n p).length≤l.length+1:=by
   intro l n p
   induction l with
   | nil=>exact Nat.le_refl _
   | cons x r ihr =>
    unfold addT
    split
    ·simp
    ·simp only[List.length_cons];omega
  exact Nat.le_trans (h _ _ _) (by omega)
theorem mrg_size (ns:Nat→Nat) (az:Nat→Bs) {k:Nat} (ha:∀ j,j<k→(az j).size=33):∀ i,i≤k→∀ x∈(mrg N ns az i).map (·.2),x.size=33
 | 0,_=>fun x hx=>by cases hx
 | i+1,hi=>by
  have ih:=mrg_size ns az ha i (by omega)
  have h:∀ (l:List (Nat × Bs)) n p,p.size=33→(∀ x∈l.map (·.2),x.size=33)→∀ x∈(addT N l n p).map (·.2),x.size=33:=by
   intro l n p hp
   induction l with
   | nil=>intro _ x hx;simp[addT] at hx;rw[hx];exact hp
   | cons y r ihr =>
    intro hl x hx
    unfold addT at hx
    split at hx
    ·exact hl x (by simpa using hx)
    ·rw[List.map_cons,List.mem_cons] at hx
     rcases hx with hx|hx
     ·exact hl x (by rw[hx];simp)
     ·exact ihr (fun z hz=>hl z (List.mem_cons_of_mem _ hz)) x hx
  exact h _ _ _ (ha i (by omega)) ih
theorem cellsT_at:∀ (l:List (Nat × Bs)),(∀ x∈l.map (·.2),x.size=33)→∀ (j:Nat) (hj:j<l.length) (t:Nat),t<37→(cellsT l)[37*j+t]? = (wn (l[j]).1++bl33 (l[j]).2)[t]?
 | [],_,j,hj,_,_=>by cases hj
 | x :: r,hs,j,hj,t,ht=>by
  have hx:(wn x.1++bl33 x.2).length=37:=by rw[List.length_append,bl33_length (hs x.2 (by simp))];rfl
  have e:cellsT (x :: r)=(wn x.1++bl33 x.2)++cellsT r:=by unfold cellsT;rw[List.flatMap_cons]
  rw[e]
  cases j with
  | zero =>
   rw[Nat.mul_zero,Nat.zero_add,List.getElem?_append_left (by omega)]
   rfl
  | succ j =>
   rw[List.getElem?_append_right (by omega),hx,show 37*(j+1)+t-37=37*j+t by omega,cellsT_at r (fun y hy=>hs y (List.mem_cons_of_mem _ hy)) j (by simpa using hj) t ht]
   rfl
theorem owns_rows {W:World} {base:Nat} {v:Value} {l:List (Nat × Bs)} (h:W.ownsRow base 56 37 v l.length (cellsT l)) (hs:∀ x∈l.map (·.2),x.size=33) (hl:0<l.length) :
 ∃ g cap,v=.slice (some ⟨g,0,none⟩) l.length cap∧base≤g∧g<W.heap.size∧∀ j (hj:j<l.length),W.rangeAt g (37*j) (wn (l[j]).1++bl33 (l[j]).2):=by
 have h0:=h
 rcases h.2 with ⟨-,h2⟩|⟨g,cap,cur,rfl,h1,h2,h3⟩
 ·omega
 ·refine ⟨g,cap,rfl,h1,(Array.getElem?_eq_some_iff.1 h2).1,fun j hj t u hu=>?_⟩
  have ht:t<37:=by
   have:=(List.getElem?_eq_some_iff.1 hu).1
   rw[List.length_append,bl33_length (hs _ (List.mem_map.2 ⟨_,List.getElem_mem hj,rfl⟩))] at this
   exact this
  have hc:=h0.cells (g:=g) rfl (37*j+t) u (by rw[cellsT_at l hs j hj t ht];exact hu)
  have e:(⟨g,0,none⟩:Addr).add (37*j+t)=⟨g,37*j+t,none⟩:=by
   unfold Addr.add
   split
   ·rename_i h;rw[h]
   ·simp
  rw[e] at hc
  exact hc
theorem merged_g (R:Value→World→Prop) (g k c:Nat) (hk:k≤1000) (ns:Nat→Nat) (az:Nat→Bs) (ha:∀ j,j<k→(az j).size=33) (hd:∀ i,i<k→at? (az i) ((mrg N ns az i).map (·.2)) 0=none) (w:World) (hg:g<w.heap.size) (hr:∀ j,j<k→w.rangeAt g (37*j) (wn (ns j)++bl33 (az j)))
 (hdel:∀ W v,Mx w W w.heap.size (mrg N ns az k) v→Calls Tryd.prog 37 #[v,.func (.func 38) #[] #[]] W (Ret R)) :
 Calls Tryd.prog 22 #[.slice (some ⟨g,0,none⟩) k c] w (Ret R):=by
 have HDEL:=Hid.mk' hdel
 clear hdel
 have hmm:(Instr.makeMap 80 none).run Tryd.prog w=.ok (.map (some w.heap.size)) (w.alloc (.map #[] 0)):=by kernel_rfl
 obtain ⟨w1,hw1⟩:∃ w1,Hid (w.alloc (.map #[] 0)=w1):=⟨_,rfl⟩
 rw[hw1.out] at hmm
 have M1:Hid (Mx w w1 w.heap.size (mrg N ns az 0) (.slice none 0 0)):=by
  rw[← hw1.out]
  exact ⟨below1 w _,by show (w.heap.push (.map #[] 0))[w.heap.size]? = _;rw[Array.getElem?_push_size];rfl,Nat.le_refl _,rfl,Or.inl ⟨rfl,rfl⟩⟩
 have HH:Hid (True∧(∀ j,j<k→(az j).size=33)∧(∀ i,i<k→at? (az i) ((mrg N ns az i).map (·.2)) 0=none)∧g<w.heap.size∧∀ j,j<k→w.rangeAt g (37*j) (wn (ns j)++bl33 (az j))):=⟨trivial,ha,hd,hg,hr⟩
 obtain ⟨d,hd1,hd2⟩:=Option.map_eq_some_iff.1 uCP
 obtain ⟨d',hd3,hd4⟩:=Option.map_eq_some_iff.1 uT
 have HD:Hid ((Tryd.prog.underlying 38=some d∧d.isRow=true)∧Tryd.prog.underlying 56=some d'∧d'.isRow=true):=⟨⟨hd1,hd2⟩,hd3,hd4⟩
 clear hd1 hd2 hd3 hd4 hw1 ha hd hg hr
 go_enter Tryd.func22,Tryd.ntmps22
 go_wp2
 clear hmm
 go_loopg [4,12] k (fun q s4 s12 W=>∃ i:Nat,i+q=k∧s12=.int .i64 i∧Hid (Mx w W w.heap.size (mrg N ns az i) s4))
 case atStart=>exact ⟨0,by omega,rfl,M1⟩
 case round =>
  clear M1
  obtain ⟨i,hik,rfl,KM⟩:=hrel
  by_cases hi:i<k
  ·have hi':(i:Int)<(k:Int):=by omega
   obtain ⟨n,hne⟩:∃ n,Hid (ns i=n):=⟨_,rfl⟩
   obtain ⟨p,hpe⟩:∃ p,Hid (az i=p):=⟨_,rfl⟩
   obtain ⟨l,hl⟩:∃ l,Hid (mrg N ns az i=l):=⟨_,rfl⟩
   rw[hl.out] at KM
   have hps:Hid (p.size=33):=by have:=HH.out.2.1 i hi;rw[hpe.out] at this;exact this
   have hll:Hid (l.length≤i):=by have:=mrg_len (N:=N) ns az i;rw[hl.out] at this;exact this
   obtain ⟨q,cap,rfl⟩:=owns_form KM.out.ow
   obtain ⟨W1,hW1⟩:∃ W1,Hid (wr.alloc (.cells zT.toArray 56)=W1):=⟨_,rfl⟩
   obtain ⟨W2,hW2⟩:∃ W2,Hid (W1.setCells wr.heap.size 0 (wn n++bl33 p)=W2):=⟨_,rfl⟩
   have hlen:(wn n++bl33 p).length=37:=by rw[List.length_append,bl33_length hps.out];rfl
   have F1:Hid (Row W1 wr.heap.size zT∧Below wr.heap.size wr W1∧W1.heap.size=wr.heap.size+1):=by rw[← hW1.out];exact ⟨row_new wr _ _,below1 wr _,World.size_alloc _ _⟩
   have F2:Hid (Row W2 wr.heap.size (wn n++bl33 p)∧Below wr.heap.size wr W2∧W2.heap.size=wr.heap.size+1):=by rw[← hW2.out];exact ⟨F1.out.1.put (by rw[hlen];rfl),RG.below_setCells (Nat.le_refl _) _ _ _ F1.out.2.1,by rw[RG.setCells_size];exact F1.out.2.2⟩
   have K2:Hid (Mx w W2 w.heap.size l (.slice q l.length cap)):=KM.out.kept F2.out.2.1
   have hnone:Hid (at? p (l.map (·.2)) 0=none):=by have:=HH.out.2.2.1 i hi;rw[hpe.out,hl.out] at this;exact this
   have hsz:∀ x∈l.map (·.2),x.size=33:=by have:=mrg_size (N:=N) ns az HH.out.2.1 i (by omega);rw[hl.out] at this;exact this
   have B1:=Hid.mk' (look_run hps.out (l.map (·.2)) hsz w.heap.size l.length W2 K2.out.mp)
   rw[hnone.out] at B1
   have B2:Hid ((Instr.mapUpdate 80 (.map (some w.heap.size)) (.agg (bl33 p).toArray) (.int .i64 (l.length:Int))).run Tryd.prog W2=.ok () (W2.putObj w.heap.size (.map (ents (l.map (·.2)++[p]) 0).toArray (l.length+1)))):=by
    have h:=upd_run hps.out (l.map (·.2)) hsz w.heap.size W2 (by rw[List.length_map];exact K2.out.mp) hnone.out
    rw[List.length_map] at h
    exact h
   obtain ⟨v',W5x,happ,K5,lt5,-⟩:=K2.out.push hps.out (by have:=hll.out;omega) n
   obtain ⟨W3,hW3⟩:∃ W3,Hid (W2.putObj w.heap.size (.map (ents (l.map (·.2)++[p]) 0).toArray (l.length+1))=W3):=⟨_,rfl⟩
   have F3:Hid (Row W3 wr.heap.size (wn n++bl33 p)∧W3.heap.size=wr.heap.size+1):=by rw[← hW3.out];exact ⟨F2.out.1.putObj K2.out.mp rfl _,by simp[World.putObj];exact F2.out.2.2⟩
   have B3:=Hid.mk' (bslT hps.out n W3)
   obtain ⟨W4,hW4⟩:∃ W4,Hid (W3.alloc (.cells (wn n++bl33 p).toArray 56)=W4):=⟨_,rfl⟩
   rw[hW3.out] at B2 happ
   rw[hW4.out] at B3 happ
   rw[F3.out.2] at B3
   rw[F2.out.2.2] at happ
   have K5':Hid (Mx w W5x w.heap.size (mrg N ns az (i+1)) v'):=by
    have e:mrg N ns az (i+1)=l++[(n,p)]:=by
     show addT N (mrg N ns az i) (ns i) (az i)=_
     rw[hl.out,hne.out,hpe.out]
     exact addT_new hnone.out
    rw[e];exact K5
   have B0:Hid (wr.rangeAt g (37*i) (wn n++bl33 p)):=by
    have h:=RG.range_below (HH.out.2.2.2.2 i hi) KM.out.bl HH.out.2.2.2.1
    rw[hne.out,hpe.out] at h
    exact h
   have HLT:Hid ((Tryd.prog.info? 56).map (·.size)=some (wn n++bl33 p).length):=by show _=_;rw[hlen];exact iT
   have HLS:Hid ((Tryd.prog.info? 56).map (·.size)=some (wn n++bl33 p).toArray.size∧W1.there wr.heap.size 0 (wn n++bl33 p).toArray.size):=by
    have e:(wn n++bl33 p).toArray.size=37:=by rw[List.size_toArray];exact hlen
    rw[e];exact ⟨iT,F1.out.1.2.2⟩
   have HLP:Hid ((Tryd.prog.info? 38).map (·.size)=some (bl33 p).length):=by show _=_;rw[bl33_length hps.out];exact infoCP
   have HB:Hid (W2.rangeAt wr.heap.size 4 (bl33 p)):=range_back (xs:=wn n) F2.out.1.2.1
   have HAL:Hid ((wn n++bl33 p).toArray.all (·.oneCell')=true):=by
    show _=_
    rw[Array.all_eq_true']
    intro u hu
    exact cells_one n p u (List.mem_toArray.1 hu)
   have hix:=atT g 0 k c i hi
   have HAP:=Hid.mk' happ
   clear happ
   obtain ⟨vt,hvt⟩:∃ v,Hid (Value.agg (wn n++bl33 p).toArray=v):=⟨_,rfl⟩
   obtain ⟨vp,hvp⟩:∃ v,Hid (Value.agg (bl33 p).toArray=v):=⟨_,rfl⟩
   rw[hvp.out] at B1 B2
   rw[hvt.out] at B3
   clear hlen hsz K5 lt5 hW4 hW3 K2 KM
   go_wp2_with (first|(refine wpList_load_mid rfl 56 _ rfl g (37*i) ?_ (wn n++bl33 p) d' ?_ ?_ ?_ ?_ ?_;rfl;exact B0.out;exact HD.out.2.1;exact HD.out.2.2;exact HLT.out;rw[hvt.out])|(refine wpList_op (v:=.pointer (some ⟨wr.heap.size,0,none⟩)) (w':=W1) rfl (.alloc 56) rfl ?_ ?_;(rw[← hW1.out];kernel_rfl))|(refine wpList_store_mid rfl 56 _ _ rfl wr.heap.size 0 (wn n++bl33 p).toArray ?_ ?_ ?_ ?_ ?_ ?_;rfl;exact hvt.out.symm;exact HLS.out.2;exact HLS.out.1;exact HAL.out;rw[show (wn n++bl33 p).toArray.toList=wn n++bl33 p from rfl,hW2.out])|(refine wpList_load_mid rfl 38 _ rfl wr.heap.size 4 ?_ (bl33 p) d ?_ ?_ ?_ ?_ ?_;rfl;exact HB.out;exact HD.out.1.1;exact HD.out.1.2;exact HLP.out;rw[hvp.out])|(refine wpList_lk (x:=.map (some w.heap.size)) (y:=vp) (w':=W2) rfl 80 _ _ true rfl ?_ ?_ B1.out ?_;rfl;rfl)|(refine wpList_mu (x:=.map (some w.heap.size)) (y:=vp) (z:=.int .i64 (l.length:Int)) (w':=W3) rfl 80 _ _ _ rfl ?_ ?_ ?_ B2.out ?_;rfl;rfl;rfl)|(refine wpList_load_mid rfl 56 _ rfl wr.heap.size 0 ?_ (wn n++bl33 p) d' ?_ ?_ ?_ ?_ ?_;rfl;exact F3.out.1.2.1;exact HD.out.2.1;exact HD.out.2.2;exact HLT.out;rw[hvt.out])|(refine wpList_bsl (v:=.slice (some ⟨wr.heap.size+1,0,none⟩) 1 1) (w':=W4) rfl 40 1 _ rfl #[(0,vt)] ?_ B3.out ?_;kernel_rfl)|(refine wpList_app (x:=.slice q l.length cap) (y:=.slice (some ⟨wr.heap.size+1,0,none⟩) 1 1) (v:=v') (w':=W5x) rfl _ _ 40 rfl ?_ ?_ ?_ ?_;rfl;rfl;exact HAP.out))
   go_roundg (gk-1)
   case measure=>omega
   case rel=>exact ⟨i+1,by omega,rfl,K5'⟩
  ·have hi':¬ (i:Int)<(k:Int):=by omega
   obtain rfl:i=k:=by omega
   go_wp2_with fail
   refine (HDEL.out wr _ KM.out).mono ?_
   rintro e w9 ⟨vv,rfl,hR9⟩
   have HR9:=Hid.mk' hR9
   clear hR9 HDEL
   go_wp2
   go_ret
   exact ⟨_,rfl,HR9.out⟩
theorem merged_d (g k c:Nat) (hk:k≤1000) (ns:Nat→Nat) (az:Nat→Bs) (ha:∀ j,j<k→(az j).size=33) (hd:∀ i,i<k→at? (az i) ((mrg N ns az i).map (·.2)) 0=none) (hz:∀ x∈mrg N ns az k,x.1≠0∧x.1<top) (hk0:0<(mrg N ns az k).length) (w:World) (hg:g<w.heap.size) (hr:∀ j,j<k→w.rangeAt g (37*j) (wn (ns j)++bl33 (az j))) :
 Calls Tryd.prog 22 #[.slice (some ⟨g,0,none⟩) k c] w (Ret fun e w'=>Below w.heap.size w w'∧∃ g' cap,e=.slice (some ⟨g',0,none⟩) (mrg N ns az k).length cap∧w.heap.size≤g'∧g'<w'.heap.size∧∀ j (hj:j<(mrg N ns az k).length),w'.rangeAt g' (37*j) (wn ((mrg N ns az k)[j]).1++bl33 ((mrg N ns az k)[j]).2)):=by
 refine merged_g _ g k c hk ns az ha hd w hg hr fun W v hM=>?_
 have hms:=mrg_size (N:=N) ns az ha k (Nat.le_refl _)
 have hml:=mrg_len (N:=N) ns az k
 generalize mrg N ns az k=l at hM hms hml hz hk0 ⊢
 obtain ⟨g',cap,rfl,h1,h2,h3⟩:=owns_rows hM.ow hms hk0
 refine (delete_none g' l.length cap (by omega) (fun j=>((l[j]?).getD (0,#[])).1) (fun j=>((l[j]?).getD (0,#[])).2) (fun j hj=>by rw[List.getElem?_eq_getElem hj];exact (hz _ (List.getElem_mem hj)).2) (fun j hj=>by rw[List.getElem?_eq_getElem hj];exact (hz _ (List.getElem_mem hj)).1) (fun j hj=>by rw[List.getElem?_eq_getElem hj];exact hms _ (List.mem_map.2 ⟨_,List.getElem_mem hj,rfl⟩)) W h2 (fun j hj=>by rw[List.getElem?_eq_getElem hj];exact h3 j hj)).mono ?_
 rintro e w9 ⟨vv,rfl,hb9,rfl⟩
 exact ⟨_,rfl,hM.bl.trans (hb9.mono hM.bl.size),g',cap,rfl,h1,Nat.lt_of_lt_of_le h2 hb9.size,fun j hj=>RG.range_below (h3 j hj) hb9 h2⟩
end
section
open Go.RowKit Go.Sort Go.Deep
variable {P:Nat} [NeZero P] {N:Nat}
theorem zeroTm (w:World):(zeroValue 56).run Tryd.prog w=.ok (.agg zT.toArray) w:=by kernel_rfl
theorem zeroTc:(Builtin.zeroCells (Value.agg zT.toArray).cells 1).toList=zT:=by kernel_rfl
theorem zT_one:∀ v∈zT,v.oneCell'=true:=by
 intro v hv
 unfold zT z33 at hv
 rcases List.mem_append.1 hv with h|h
 ·simp only[List.mem_cons,List.not_mem_nil,or_false] at h
  rcases h with rfl|rfl|rfl|rfl<;>rfl
 ·rw[(List.mem_replicate.1 h).2];rfl
theorem zT_len:zT.length=37:=by kernel_rfl
theorem clearT (g c:Nat) (ty:TypeId) (w:World) (h:w.there g 0 37):(Builtin.clear_ #[40] ty #[.slice (some ⟨g,0,none⟩) 1 c]).run Tryd.prog w=.ok (.tuple #[]) (w.setCells g 0 zT):=by
 have h1:=zeroTm w
 have h2:=zeroTc
 have h3:=run_underlying undS w
 have h4:(storeCells ⟨g,0,none⟩ zT).run Tryd.prog w=.ok () (w.setCells g 0 zT):=by
  have h5:=run_storeCells_cells (P:=Tryd.prog) g 0 zT 0 w (fun j hj=>by rw[zT_len] at hj;have:=(h j hj).1;simpa using this) (fun j hj=>by rw[zT_len] at hj;have:=(h j hj).2;simpa using this) zT_one
  exact h5
 generalize zT=Z at h1 h2 h4 ⊢
 unfold Builtin.clear_
 simp[Sem.run_bind,h3,h1,h2,h4]
theorem delete_zero (g c:Nat) (a:Bs) (ha:a.size=33) (w:World) (hR:Row w g (wn 0++bl33 a)) (hc:1≤c) :
 Calls Tryd.prog 37 #[.slice (some ⟨g,0,none⟩) 1 c,.func (.func 38) #[] #[]] w (Ret fun e w'=>(∀ j,j<w.heap.size→j≠g→w'.heap[j]? = w.heap[j]?)∧w.heap.size≤w'.heap.size∧Below g w w'∧e=.slice (some ⟨g,0,none⟩) 0 c):=by
 have hI:=index_c g 1 c (by decide) (fun _=>0) (fun _=>a) (fun _ _=>by show 0<top;unfold top;omega) (fun _ _=>ha) w hR.1 (fun j hj=>by
  obtain rfl:j=0:=by omega
  exact hR.2.1)
 have hf:firstZ (fun _=>0) 0 1=0:=rfl
 rw[hf] at hI
 have HI:=Hid.mk' hI
 have hlen:(wn 0++bl33 a).length=37:=by rw[List.length_append,bl33_length ha];rfl
 have HR:=Hid.mk' hR
 have hth:Hid (w.there g 0 37):=by have:=hR.2.2;rw[hlen] at this;exact this
 clear hI hf hR hlen
 have hc1:(1:Int)≤(c:Int):=by omega
 have hc0:(0:Int)≤(c:Int):=by omega
 go_enter Tryd.func37,Tryd.ntmps37
 go_wp2_with fail
 refine HI.out.mono ?_
 rintro e w1 ⟨v,rfl,hb1,rfl⟩
 have K1:Hid (Below w.heap.size w w1∧Row w1 g (wn 0++bl33 a)):=⟨hb1,HR.out.below hb1⟩
 have hcl:∀ ty,(Builtin.clear_ #[40] ty #[.slice (some ⟨g,0,none⟩) 1 c]).run Tryd.prog w1=.ok (.tuple #[]) (w1.setCells g 0 zT):=fun ty=>clearT g c ty w1 (by
  have:=K1.out.2.2.2
  rw[List.length_append,bl33_length ha] at this
  exact this)
 clear hb1 HI
 go_wp2
 refine wp_loop_once ?_
 go_wp2
 go_ret
 refine ⟨_,rfl,fun j hj hne=>?_,by rw[RG.setCells_size];exact K1.out.1.size,RG.below_setCells (Nat.le_refl _) _ _ _ (K1.out.1.mono (Nat.le_of_lt HR.out.1)),rfl⟩
 rw[RG.setCells_other _ _ _ _ _ hne]
 exact K1.out.1.block j hj
theorem merged_0 (g c:Nat) (a:Bs) (ha:a.size=33) (w:World) (hg:g<w.heap.size) (hr:w.rangeAt g 0 (wn 0++bl33 a)) :
 Calls Tryd.prog 22 #[.slice (some ⟨g,0,none⟩) 1 c] w (Ret fun e w'=>Below w.heap.size w w'∧∃ q cap,e=.slice q 0 cap):=by
 refine merged_g (N:=2) _ g 1 c (by decide) (fun _=>0) (fun _=>a) (fun _ _=>ha) (fun i hi=>by
  obtain rfl:i=0:=by omega
  rfl) w hg (fun j hj=>by
  obtain rfl:j=0:=by omega
  exact hr) fun W v hM=>?_
 have e1:mrg 2 (fun _=>0) (fun _=>a) 1=[(0,a)]:=rfl
 rw[e1] at hM
 obtain ⟨g',cap,rfl,h1,h2,h3⟩:=owns_rows hM.ow (fun x hx=>by simp at hx;rw[hx];exact ha) (Nat.lt_succ_self 0)
 have h0:=h3 0 (Nat.lt_succ_self 0)
 have hth:W.there g' 0 37:=by
  rcases hM.ow.2 with ⟨h,-⟩|⟨g2,cap2,cur,he,-,hc,hn,-,hs,-⟩
  ·cases h
  ·injection he with he1 he2 he3
   injection he1 with he1
   injection he1 with he1
   subst he1
   intro j hj
   have hj2:0+j<cur.size:=by
    rw[hs]
    have:1≤cap2:=hn
    omega
   refine ⟨?_,?_⟩
   ·simp[World.cell?,hc,hj2]
    omega
   ·simp[World.frozen?,hc]
 have hR:Row W g' (wn 0++bl33 a):=⟨h2,h0,by rw[List.length_append,bl33_length ha];exact hth⟩
 refine (delete_zero g' cap a ha W hR ?_).mono ?_
 ·rcases hM.ow.2 with ⟨h,-⟩|⟨g2,cap2,cur,he,-,hc,hn,-,hs,-⟩
  ·cases h
  ·injection he with he1 he2 he3
   rw[he3];exact hn
 ·rintro e w9 ⟨vv,rfl,hk9,hs9,hb9,rfl⟩
  exact ⟨_,rfl,hM.bl.trans (hb9.mono h1),_,_,rfl⟩
end
namespace RG
open Go Go.RowKit
variable {P:Program} {ops:Array Oper} {Q:Exit→Act→World→Prop} {w:World} {a0:Act} {L:Array Bool}
structure Flow where
 R:Nat→Value→World→Prop
 B:Nat→World→Prop
 E:Nat→World→World→Prop
 kill:Nat→List Nat
 killB:Nat→List Nat
def dstOf (ops:Array Oper) (i:Nat):Option Tmp:=(ops[i]?).bind (·.dst)
def depOn (ops:Array Oper) (x k:Nat):Bool:=match ops[x]? with|some o=>depB o k|none=>true
def okK (ops:Array Oper) (k:Nat) (l:List Nat):Bool:=l.all (fun x=>x == k || depOn ops x k)
def freeF (ops:Array Oper) (k:Nat) (t:Tmp):Bool:=(List.range ops.size).all (fun i=>dstOf ops i != some t || i == k || depOn ops i k)
structure InvF (F:Flow) (ops:Array Oper) (a0:Act) (L:Array Bool) (a:Act) (w:World):Prop where
 size:L.size=ops.size
 cl:∀ (i:Nat) (o:Oper),ops[i]? = some o→on L i=true→∀ e∈o.after,Region.binds .any e=true→on L e.on=true
 def':a.defers=a0.defers
 sz:a.tmps.size=a0.tmps.size
 rest:∀ t:Tmp,(∀ i,on L i=true→dstOf ops i≠some t)→a.tmps[t]? = a0.tmps[t]?
 all:∃ V:Nat→Value,(∀ i d,on L i=true→dstOf ops i=some d→a.tmps[d]? = some (V i))∧(∀ i,on L i=true→(∀ x∈F.kill i,on L x=false)→F.R i (V i) w)
 base:∀ b,(∀ x∈F.killB b,on L x=false)→F.B b w
def CertF (P:Program) (Q:Exit→Act→World→Prop) (F:Flow) (ops:Array Oper) (a0:Act) (k:Nat) (o:Oper):Prop:=
 ∀ (a:Act) (w:World) (K:Act→World→Prop),
  (∀ j d,depB o j=true→okK ops k (F.kill j)=true→dstOf ops j=some d→F.R j (a.eval (.tmp d)) w) →
  (∀ t,freeF ops k t=true→a.eval (.tmp t)=a0.eval (.tmp t)) →
  (∀ b,okK ops k (F.killB b)=true→F.B b w) →
  (∀ v w',F.E k w w'→F.R k v w'→K (a.put o.dst v) w')→o.wp P a w K Q
def CertH (P:Program) (Q:Exit→Act→World→Prop) (F:Flow) (ops:Array Oper) (a0:Act) (k:Nat) (o:Oper):Prop:=
 match o.guard with
 | none=>CertF P Q F ops a0 k o
 | some (j,want)=>depB o j=true∧(dstOf ops j).isSome=true∧okK ops k (F.kill j)=true ∧
  (((∀ v w,F.R j v w→v=.bool want)∧CertF P Q F ops a0 k o)∨((∀ v w,F.R j v w→v=.bool (!want))∧∀ w,F.E k w w∧F.R k undef w))
def chkF (ops:Array Oper) (n:Nat):Bool:=
 (List.range ops.size).all (fun i=>match ops[i]? with
  | some o=>o.after.all (fun e=>!Region.binds .any e || e.on<i) && (match o.dst with|none=>true|some d=>decide (d<n) && (List.range ops.size).all (fun j=>j == i || dstOf ops j != some d))
  | none=>false)
structure RegF (P:Program) (Q:Exit→Act→World→Prop) (F:Flow) (ops:Array Oper) (a0:Act) (m:Nat):Prop where
 chk:chkF ops a0.tmps.size=true
 cert:∀ k o,k<m→ops[k]? = some o→CertH P Q F ops a0 k o
 stab:∀ i j,i<m→j<m→i≠j→(F.kill j).contains i=false→depOn ops j i=false→∀ v w w',F.E i w w'→F.R j v w→F.R j v w'
 stabB:∀ i b,i<m→(F.killB b).contains i=false→∀ w w',F.E i w w'→F.B b w→F.B b w'
variable {F:Flow} {m:Nat}
theorem RegF.of {k:Nat} {o:Oper} (h:RegF P Q F ops a0 m) (ho:ops[k]? = some o):(∀ e∈o.after,Region.binds .any e=true→e.on<k)∧∀ d,o.dst=some d→d<a0.tmps.size∧∀ j,dstOf ops j=some d→j=k:=by
 have hk:k<ops.size:=(Array.getElem?_eq_some_iff.1 ho).1
 have h1:=List.all_eq_true.1 h.chk k (List.mem_range.2 hk)
 rw[ho] at h1
 simp only[Bool.and_eq_true] at h1
 obtain ⟨h2,h3⟩:=h1
 refine ⟨fun e he hb=>?_,fun d hd=>?_⟩
 ·have:=Array.all_eq_true'.1 h2 e he
  simpa[hb] using this
 ·rw[hd] at h3
  simp only[Bool.and_eq_true,decide_eq_true_eq] at h3
  refine ⟨h3.1,fun j hj=>?_⟩
  have hjs:j<ops.size:=by
   unfold dstOf at hj
   cases hx:ops[j]? with
   | none=>rw[hx] at hj;cases hj
   | some x=>exact (Array.getElem?_eq_some_iff.1 hx).1
  have:=List.all_eq_true.1 h3.2 j (List.mem_range.2 hjs)
  simpa[hj] using this
theorem dstOf_some {i:Nat} {o:Oper} (ho:ops[i]? = some o):dstOf ops i=o.dst:=by unfold dstOf;rw[ho];rfl
theorem dep_on {a:Act} {x k:Nat} {o:Oper} (h:InvF F ops a0 L a w) {ho:ops[x]? = some o} (hd:depB o k=true) (hx:on L x=true):on L k=true:=by
 obtain ⟨e,he,hb⟩:=Array.any_eq_true'.1 hd
 simp only[Bool.and_eq_true,beq_iff_eq] at hb
 rw[← hb.2]
 exact h.cl x o ho hx e he hb.1
theorem on_lt {L:Array Bool} {x:Nat} (h:on L x=true):x<L.size:=by
 rcases Nat.lt_or_ge x L.size with h1|h1
 ·exact h1
 ·unfold on at h
  rw[Array.getD_eq_getD_getElem?,Array.getElem?_eq_none h1] at h
  cases h
theorem stepF {k:Nat} {o:Oper} {a:Act} (R:RegF P Q F ops a0 m) (hkm:k<m) (hlt:∀ i,on L i=true→i<m) (ho:ops[k]? = some o) (hun:on L k=false) (hdep:∀ e∈o.after,Region.binds .any e=true→on L e.on=true) (h:InvF F ops a0 L a w) :
 wpOp P ops Q k (InvF F ops a0 (L.setIfInBounds k true)) a w:=by
 obtain ⟨hback,hdst⟩:=R.of ho
 have hks:k<ops.size:=(Array.getElem?_eq_some_iff.1 ho).1
 have hkL:k<L.size:=by rw[h.size];exact hks
 have hdo:dstOf ops k=o.dst:=dstOf_some ho
 have hnot:∀ x,(x == k || depOn ops x k)=true→on L x=false:=fun x hx=>by
  cases hon:on L x with
  | false=>rfl
  | true =>
   rcases Bool.or_eq_true _ _ ▸ hx with h1|h1
   ·rw[show x=k by simpa using h1,hun] at hon;cases hon
   ·unfold depOn at h1
    have hxs:x<ops.size:=by rw[← h.size];exact on_lt hon
    have hox:ops[x]? = some ops[x]:=Array.getElem?_eq_getElem hxs
    rw[hox] at h1
    have:=dep_on (ho:=hox) h h1 hon
    rw[hun] at this;cases this
 obtain ⟨V,hV1,hV2⟩:=h.all
 have hp1:∀ j d,depB o j=true→okK ops k (F.kill j)=true→dstOf ops j=some d→a.tmps[d]? = some (V j)∧F.R j (V j) w:=fun j d hj hok hd=>by
  obtain ⟨e,he,hb⟩:=Array.any_eq_true'.1 hj
  simp only[Bool.and_eq_true,beq_iff_eq] at hb
  have hjon:on L j=true:=by rw[← hb.2];exact hdep e he hb.1
  exact ⟨hV1 j d hjon hd,hV2 j hjon fun x hx=>hnot x (List.all_eq_true.1 hok x hx)⟩
 have hpre1:∀ j d,depB o j=true→okK ops k (F.kill j)=true→dstOf ops j=some d→F.R j (a.eval (.tmp d)) w:=fun j d hj hok hd=>by
  rw[eval_of (hp1 j d hj hok hd).1]
  exact (hp1 j d hj hok hd).2
 have hpre2:∀ t,freeF ops k t=true→a.eval (.tmp t)=a0.eval (.tmp t):=fun t hf=>by
  have h1:=h.rest t fun i hi hd=>by
   have his:i<ops.size:=by rw[← h.size];exact on_lt hi
   have h2:=List.all_eq_true.1 hf i (List.mem_range.2 his)
   rw[hd] at h2
   have h3:(i == k || depOn ops i k)=true:=by simpa using h2
   rw[hnot i h3] at hi;cases hi
  show a.tmps.getD t undef=a0.tmps.getD t undef
  rw[Array.getD_eq_getD_getElem?,Array.getD_eq_getD_getElem?,h1]
 have hpre3:∀ b,okK ops k (F.killB b)=true→F.B b w:=fun b hb=>h.base b fun x hx=>hnot x (List.all_eq_true.1 hb x hx)
 have hpost:∀ v w',F.E k w w'→F.R k v w'→InvF F ops a0 (L.setIfInBounds k true) (a.put o.dst v) w':=fun v w' hE hR=>by
  have hon:∀ x,on (L.setIfInBounds k true) x=(on L x || k == x):=fun x=>on_set hkL
  refine ⟨by rw[Array.size_setIfInBounds];exact h.size,fun i oi hoi hi e he hb=>?_,?_,?_,fun t ht=>?_,⟨fun x=>if x=k then v else V x,fun i d hi hd=>?_,fun i hi hkl=>?_⟩,fun b hb=>?_⟩
  ·rw[hon] at hi ⊢
   by_cases hik:k=i
   ·subst hik
    rw[ho] at hoi
    obtain rfl:=Option.some.inj hoi
    rw[hdep e he hb,Bool.true_or]
   ·rw[h.cl i oi hoi (by simpa[hik] using hi) e he hb,Bool.true_or]
  ·rw[← h.def'];cases o.dst<;>rfl
  ·rw[put_size];exact h.sz
  ·have h1:o.dst≠some t:=fun hd=>ht k (by rw[hon];simp) (by rw[hdo];exact hd)
   rw[put_other a v h1]
   exact h.rest t fun i hi=>ht i (by rw[hon,hi,Bool.true_or])
  ·rw[hon] at hi
   by_cases hik:i=k
   ·subst hik
    rw[hdo] at hd
    rw[hd]
    show (a.tmps.setIfInBounds d v)[d]? = some (if i=i then v else V i)
    rw[if_pos (rfl:i=i)]
    rw[Array.getElem?_setIfInBounds,if_pos rfl,if_pos (by rw[h.sz];exact (hdst d hd).1)]
   ·have hne:o.dst≠some d:=fun hd2=>hik ((hdst d hd2).2 i hd)
    rw[put_other a v hne]
    show _=some (if i=k then v else V i)
    rw[if_neg hik]
    have hik':¬ k=i:=fun e=>hik e.symm
    exact hV1 i d (by simpa[hik'] using hi) hd
  ·rw[hon] at hi
   by_cases hik:i=k
   ·subst hik
    show F.R i (if i=i then v else V i) w'
    rw[if_pos rfl];exact hR
   ·show F.R i (if i=k then v else V i) w'
    rw[if_neg hik]
    have hik':¬ k=i:=fun e=>hik e.symm
    have hi':on L i=true:=by simpa[hik'] using hi
    have h1:∀ x∈F.kill i,on L x=false:=fun x hx=>by
     have:=hkl x hx
     rw[hon,Bool.or_eq_false_iff] at this
     exact this.1
    have h2:(F.kill i).contains k=false:=by
     cases hc:(F.kill i).contains k with
     | false=>rfl
     | true =>
      have:=hkl k (by simpa using hc)
      rw[hon] at this
      simp at this
    have his:i<ops.size:=by rw[← h.size];exact on_lt hi'
    have h3:depOn ops i k=false:=by
     cases hc:depOn ops i k with
     | false=>rfl
     | true=>rw[hnot i (by rw[hc,Bool.or_true])] at hi';cases hi'
    exact R.stab k i hkm (hlt i hi') (Ne.symm hik) h2 h3 _ _ _ hE (hV2 i hi' h1)
  ·have h1:∀ x∈F.killB b,on L x=false:=fun x hx=>by
    have:=hb x hx
    rw[hon,Bool.or_eq_false_iff] at this
    exact this.1
   have h2:(F.killB b).contains k=false:=by
    cases hc:(F.killB b).contains k with
    | false=>rfl
    | true =>
     have:=hb k (by simpa using hc)
     rw[hon] at this
     simp at this
   exact R.stabB k b hkm h2 _ _ hE (h.base b h1)
 have hC:=R.cert k o hkm ho
 unfold CertH at hC
 unfold wpOp
 rw[ho]
 dsimp only
 cases hg:o.guard with
 | none =>
  rw[hg] at hC
  rw[wanted_none hg,if_pos rfl]
  left
  exact hC a w _ hpre1 hpre2 hpre3 hpost
 | some jw =>
  obtain ⟨j,want⟩:=jw
  rw[hg] at hC
  obtain ⟨hd1,hd2,hd3,hcase⟩:=hC
  obtain ⟨d,hd⟩:=Option.isSome_iff_exists.1 hd2
  obtain ⟨hs,hRj⟩:=hp1 j d hd1 hd3 hd
  have hy:∀ b,V j=.bool b→Region.wanted o (yielded ops a.tmps)=(b == want):=fun b hb=>by
   have h4:yielded ops a.tmps j=some b:=by
    unfold dstOf at hd
    unfold yielded
    cases hoj:ops[j]? with
    | none=>rw[hoj] at hd;cases hd
    | some oj =>
     rw[hoj] at hd
     show (match oj.dst.bind (a.tmps[·]?) with|some (.bool b)=>some b|_=>none)=_
     rw[show oj.dst=some d from hd]
     show (match a.tmps[d]? with|some (.bool b)=>some b|_=>none)=_
     rw[hs,hb]
   unfold Region.wanted
   rw[hg]
   show (yielded ops a.tmps j == some want)=_
   rw[h4]
   cases b<;>cases want<;>rfl
  rcases hcase with ⟨hw,hc⟩|⟨hw,hsk⟩
  ·rw[hy _ (hw _ _ hRj),show (want == want)=true by cases want<;>rfl,if_pos rfl]
   left
   exact hc a w _ hpre1 hpre2 hpre3 hpost
  ·rw[hy _ (hw _ _ hRj),show ((!want) == want)=false by cases want<;>rfl]
   exact hpost undef w (hsk w).1 (hsk w).2
def putV (V:Nat→Value):List Oper→Nat→Act→Act
 | [],_,a=>a
 | o :: r,i,a=>putV V r (i+1) (a.put o.dst (V i))
theorem putV_defers (V:Nat→Value):∀ (l:List Oper) (i:Nat) (a:Act),(putV V l i a).defers=a.defers
 | [],_,_=>rfl
 | o :: r,i,a=>by
  rw[putV,putV_defers V r]
  cases o.dst<;>rfl
theorem putV_other (V:Nat→Value):∀ (l:List Oper) (i:Nat) (a:Act) (t:Tmp),(∀ o∈l,o.dst≠some t)→(putV V l i a).tmps[t]? = a.tmps[t]?
 | [],_,_,_,_=>rfl
 | o :: r,i,a,t,h=>by
  rw[putV,putV_other V r _ _ t (fun x hx=>h x (List.mem_cons_of_mem _ hx)),put_other a _ (h o List.mem_cons_self)]
theorem putV_same (V:Nat→Value):∀ (l:List Oper) (i:Nat) (a:Act) (j:Nat) (o:Oper) (d:Tmp),l[j]? = some o→o.dst=some d→(∀ j' o',l[j']? = some o'→o'.dst=some d→j'=j)→d<a.tmps.size→(putV V l i a).tmps[d]? = some (V (i+j))
 | [],_,_,_,_,_,h,_,_,_=>by simp at h
 | x :: r,i,a,0,o,d,h,hd,hu,hs=>by
  obtain rfl:x=o:=by simpa using h
  rw[putV,putV_other V r _ _ d (fun y hy hyd=>by
   obtain ⟨j',hj'⟩:=List.getElem?_of_mem hy
   have:=hu (j'+1) y (by simpa using hj') hyd
   omega),hd]
  show (a.tmps.setIfInBounds d _)[d]? = _
  rw[Array.getElem?_setIfInBounds,if_pos rfl,if_pos hs]
  rfl
 | x :: r,i,a,j+1,o,d,h,hd,hu,hs=>by
  rw[putV,putV_same V r (i+1) _ j o d (by simpa using h) hd (fun j' o' h' hd'=>by
   have:=hu (j'+1) o' (by simpa using h') hd'
   omega) (by rw[put_size];exact hs)]
  congr 2
  omega
theorem InvF.done {a:Act} (R:RegF P Q F ops a0 m) (h:InvF F ops a0 L a w) (hall:∀ i,i<ops.size→on L i=true)
 (hp:∀ (V:Nat→Value),(∀ i,i<ops.size→F.kill i=[]→F.R i (V i) w)→(∀ b,F.killB b=[]→F.B b w)→Q .normal (putV V ops.toList 0 a0) w):Q .normal a w:=by
 obtain ⟨V,hV1,hV2⟩:=h.all
 have e:a=putV V ops.toList 0 a0:=by
  refine Act.ext' ?_ (by rw[putV_defers];exact h.def')
  apply Array.ext_getElem?
  intro t
  by_cases ht:∃ (i:Nat) (o:Oper),ops[i]? = some o∧o.dst=some t
  ·obtain ⟨i,o,ho,hd⟩:=ht
   rw[hV1 i t (hall i (Array.getElem?_eq_some_iff.1 ho).1) (by rw[dstOf_some ho];exact hd)]
   rw[putV_same V ops.toList 0 a0 i o t (by rw[Array.getElem?_toList];exact ho) hd (fun j' o' hj' hd'=>((R.of ho).2 t hd).2 j' (by rw[Array.getElem?_toList] at hj';rw[dstOf_some hj'];exact hd')) ((R.of ho).2 t hd).1,Nat.zero_add]
  ·rw[h.rest t (fun i hi hd=>?_),putV_other V ops.toList 0 a0 t (fun o hm hd=>?_)]
   ·obtain ⟨i,hi⟩:=List.getElem?_of_mem hm
    rw[Array.getElem?_toList] at hi
    exact ht ⟨i,o,hi,hd⟩
   ·unfold dstOf at hd
    cases hx:ops[i]? with
    | none=>rw[hx] at hd;cases hd
    | some x=>rw[hx] at hd;exact ht ⟨i,x,hx,hd⟩
 rw[e]
 exact hp V (fun i hi hk=>hV2 i (hall i hi) (by rw[hk];simp)) (fun b hb=>h.base b (by rw[hb];simp))
theorem InvF.full {a:Act} (R:RegF P Q F ops a0 m) (h:InvF F ops a0 L a w) (hr:Region.ready .any ops L=[]):∀ i,i<ops.size→on L i=true:=by
 intro i
 induction i using Nat.strongRecOn with
 | ind i ih =>
  intro hi
  have ho:ops[i]? = some ops[i]:=Array.getElem?_eq_getElem _
  cases hon:on L i with
  | true=>rfl
  | false =>
   have:i∈Region.ready .any ops L:=mem_ready.2 ⟨?_,_,ho,fun e he hb=>?_⟩
   ·rw[hr] at this;cases this
   ·unfold on at hon
    rw[Array.getD_eq_getD_getElem?,Array.getElem?_eq_getElem (by rw[h.size];exact hi)] at hon ⊢
    exact hon
   ·have hlt:=(R.of ho).1 e he hb
    exact ih e.on hlt (Nat.lt_trans hlt hi)
theorem flow_draws {id:Nat} (F:Flow) (hm:P.follows .mixedOrders=true) (R:RegF P Q F ops a0 ops.size) (hB:∀ b,F.B b w.drew)
 (hp:∀ (V:Nat→Value) (w':World),(∀ i,i<ops.size→F.kill i=[]→F.R i (V i) w')→(∀ b,F.killB b=[]→F.B b w')→Q .normal (putV V ops.toList 0 a0) w'):(Code.region id ops true).wp P Q a0 w:=by
 have key:∀ (fuel:Nat) (L:Array Bool) (a:Act) (w:World),unl L=fuel→InvF F ops a0 L a w→wpAny P .any ops Q fuel L a w:=by
  intro fuel
  induction fuel with
  | zero =>
   intro L a w hu hI
   have hall:∀ i,i<ops.size→on L i=true:=fun i hi=>unl_zero hu i (by rw[hI.size];exact hi)
   refine ⟨?_,hI.done R hall (fun V=>hp V w)⟩
   apply List.eq_nil_iff_forall_not_mem.2
   intro i hi
   obtain ⟨h1,o,ho,-⟩:=mem_ready.1 hi
   have h2:=hall i (Array.getElem?_eq_some_iff.1 ho).1
   unfold on at h2
   rw[Array.getD_eq_getD_getElem?] at h1 h2
   cases hh:L[i]? with
   | none=>rw[hh] at h1;cases h1
   | some b=>rw[hh] at h1 h2;rw[show b=false from h1] at h2;cases h2
  | succ fuel ih =>
   intro L a w hu hI
   refine ⟨fun hr=>hI.done R (hI.full R hr) (fun V=>hp V w),fun i hi=>?_⟩
   obtain ⟨h1,o,ho,hdep⟩:=mem_ready.1 hi
   have hoff:on L i=false:=by
    unfold on
    rw[Array.getD_eq_getD_getElem?] at h1 ⊢
    cases hh:L[i]? with
    | none=>rfl
    | some b=>rw[hh] at h1;exact h1
   exact wpOp_mono (fun a' w' hI'=>ih _ a' w' (by have:=unl_set h1;omega) hI') (stepF R (Array.getElem?_eq_some_iff.1 ho).1 (fun i hi=>by rw[← hI.size];exact on_lt hi) ho hoff hdep hI)
 have hoff:∀ i,on (Array.replicate ops.size false) i=false:=fun i=>by
  unfold on
  rw[Array.getD_eq_getD_getElem?,Array.getElem?_replicate]
  by_cases h:i<ops.size
  ·rw[if_pos h];rfl
  ·rw[if_neg h];rfl
 refine wp_region_any hm (key _ _ a0 _ ?_ ⟨Array.size_replicate,(fun i o _ h=>by rw[hoff] at h;cases h),rfl,rfl,fun _ _=>rfl,⟨fun _=>undef,fun i d h=>(by rw[hoff] at h;cases h),fun i h=>(by rw[hoff] at h;cases h)⟩,fun b _=>hB b⟩)
 unfold unl
 rw[Array.toList_replicate,List.countP_replicate]
 simp
structure PreF (F:Flow) (ops:Array Oper) (a0:Act) (k:Nat) (o:Oper) (a:Act) (w:World):Prop where
 n:∀ j d,depB o j=true→okK ops k (F.kill j)=true→dstOf ops j=some d→F.R j (a.eval (.tmp d)) w
 o:∀ t,freeF ops k t=true→a.eval (.tmp t)=a0.eval (.tmp t)
 b:∀ b,okK ops k (F.killB b)=true→F.B b w
def CertsF (P:Program) (Q:Exit→Act→World→Prop) (F:Flow) (ops:Array Oper) (a0:Act):Nat→List Oper→Prop
 | _,[]=>True
 | k,o :: r=>CertH P Q F ops a0 k o∧CertsF P Q F ops a0 (k+1) r
theorem certs_go:∀ (l:List Oper) (i:Nat),CertsF P Q F ops a0 i l→∀ k o,l[k]? = some o→CertH P Q F ops a0 (i+k) o
 | [],_,_,k,o,h=>by simp at h
 | x :: r,i,hc,0,o,h=>by
  obtain rfl:x=o:=by simpa using h
  exact hc.1
 | x :: r,i,hc,k+1,o,h=>by
  have:=certs_go r (i+1) hc.2 k o (by simpa using h)
  rwa[show i+1+k=i+(k+1) by omega] at this
theorem certs_of (h:CertsF P Q F ops a0 0 ops.toList):∀ k o,k<ops.size→ops[k]? = some o→CertH P Q F ops a0 k o:=fun k o _ ho=>by
 have:=certs_go ops.toList 0 h k o (by rw[Array.getElem?_toList];exact ho)
 rwa[Nat.zero_add] at this
def evo (ev:Tmp→Value):Operand→Value
 | .tmp t=>ev t
 | .const v=>v
 | .global g=>.pointer (some ⟨g,0,none⟩)
 | .func f=>.func (.func f) #[] #[]
def seenT (T:List Tmp) (o:Oper):Bool:=
 (match o.op with | .select _ _=>false|_=>true) && o.op.operands.all (fun x=>match x with | .tmp t=>T.contains t|_=>true)
theorem exec_ev {a:Act} {o:Oper} (ev:Tmp→Value) (T:List Tmp) (h:seenT T o=true) (he:∀ t∈T,a.eval (.tmp t)=ev t):execOp a.eval o=execOp (evo ev) o:=by
 simp only[seenT,Bool.and_eq_true] at h
 refine execOp_congr o (fun cs b he=>?_) (fun x hx=>?_)
 ·rw[he] at h;exact absurd h.1 (by simp)
 ·have h1:=Array.all_eq_true'.1 h.2 x hx
  cases x with
  | tmp t=>exact he t (by simpa using h1)
  | const v=>rfl
  | global g=>rfl
  | func f=>rfl
theorem cf_val {k:Nat} {o:Oper} (h:∀ (a:Act) (w:World),PreF F ops a0 k o a w→∃ v w',(execOp a.eval o).run P w=.ok (.value v) w'∧F.E k w w'∧F.R k v w'):CertF P Q F ops a0 k o:=by
 intro a w K h1 h2 h3 hK
 obtain ⟨v,w',hr,hE,hR⟩:=h a w ⟨h1,h2,h3⟩
 unfold Oper.wp
 rw[hr]
 exact hK v w' hE hR
theorem cf_one {k:Nat} {o:Oper} (t:Tmp) (h:∀ (a:Act) (w:World),PreF F ops a0 k o a w→∃ v w',(seenT [t] o=true)∧(execOp (evo fun _=>a.eval (.tmp t)) o).run P w=.ok (.value v) w'∧F.E k w w'∧F.R k v w'):CertF P Q F ops a0 k o:=by
 refine cf_val fun a w hp=>?_
 obtain ⟨v,w',hs,hr,hE⟩:=h a w hp
 refine ⟨v,w',?_,hE⟩
 rw[exec_ev (fun _=>a.eval (.tmp t)) [t] hs (fun x hx=>by rw[show x=t by simpa using hx])]
 exact hr
theorem cf_call {k:Nat} {o:Oper} (t:Tmp) (h:∀ (a:Act) (w:World),PreF F ops a0 k o a w→∃ f args,(seenT [t] o=true)∧(execOp (evo fun _=>a.eval (.tmp t)) o).run P w=.ok (.enter f args) w∧Calls P f args w (Ret fun e w'=>F.E k w w'∧F.R k e w')):CertF P Q F ops a0 k o:=by
 intro a w K h1 h2 h3 hK
 obtain ⟨f,args,hs,hr,hc⟩:=h a w ⟨h1,h2,h3⟩
 unfold Oper.wp
 rw[exec_ev (fun _=>a.eval (.tmp t)) [t] hs (fun x hx=>by rw[show x=t by simpa using hx]),hr,Oper.upon_enter]
 refine hc.mono ?_
 rintro e w' ⟨v,rfl,hE,hR⟩
 exact hK _ _ hE hR
theorem cf_load {k:Nat} {o:Oper} (T:TypeId) (t:Tmp) (ho:o.op=.load T (.tmp t)) (hu:(P.underlying T).map (·.isRow)=some true)
 (h:∀ (a:Act) (w:World),PreF F ops a0 k o a w→∃ g off cs,a.eval (.tmp t)=.pointer (some ⟨g,off,none⟩)∧w.rangeAt g off cs∧(P.info? T).map (·.size)=some cs.length∧F.E k w w∧F.R k (.agg cs.toArray) w):CertF P Q F ops a0 k o:=by
 intro a w K h1 h2 h3 hK
 obtain ⟨g,off,cs,he,hr,hi,hE,hR⟩:=h a w ⟨h1,h2,h3⟩
 obtain ⟨d,hu,hd⟩:=Option.map_eq_some_iff.1 hu
 exact wp_load_mid T (.tmp t) ho g off he cs d hr hu hd hi (hK _ _ hE hR)
theorem cf_app {k:Nat} {o:Oper} (s u:Tmp) (t:TypeId) (ho:o.op=.call { callee:=.builtin .append,args:=#[.tmp s,.tmp u],argTypes:=#[t,t] })
 (h:∀ (a:Act) (w:World),PreF F ops a0 k o a w→∃ v w',(Builtin.append_ #[t,t] o.type #[a.eval (.tmp s),a.eval (.tmp u)]).run P w=.ok v w'∧F.E k w w'∧F.R k v w'):CertF P Q F ops a0 k o:=by
 intro a w K h1 h2 h3 hK
 obtain ⟨v,w',hr,hE,hR⟩:=h a w ⟨h1,h2,h3⟩
 unfold Oper.wp execOp
 simp only[ho,resolve,invoke,builtin,Sem.run_bind,Sem.run_pure,Result.andThen_ok,List.map_toArray,List.map_cons,List.map_nil,hr]
 exact hK _ _ hE hR
end RG
section
open Go.RowKit Go.Sort Go.Deep
variable {P:Nat} [NeZero P] {N:Nat}
theorem u8_ne {p:Option Addr} {n c:Nat} {x:UInt8}:encB x≠.slice p n c:=fun h=>by cases h
def El (n:Nat) (W:World) (x:Value) (b:Bs):Prop:=∃ k c,x=.slice (some ⟨k,0,none⟩) n c∧n≤c∧b.size=n∧k<W.heap.size∧Holds encB W k 0 b
def isL (n:Nat) (W:World) (g:Nat):Prop:=∃ p c,W.cell? ⟨g,0,none⟩=some (.slice p n c)
structure Gr (n:Nat) (v:Value) (W W':World):Prop where
 gr:W.grownBy W' v.ownBlock
 is:∀ g,v.ownBlock=some g→isL n W g
theorem Gr.of {W W':World} {n:Nat} (h:Below W.heap.size W W'):Gr n (.slice none 0 0) W W':=
 ⟨⟨h.os,h.tape,h.output,h.size,fun k hk _=>h.block k hk⟩,fun g hg=>by cases hg⟩
theorem Gr.below {n:Nat} {v:Value} {w W W':World} {B:Nat} (h:Gr n v W W') (hb:Below B w W) (hB:B≤W.heap.size) (hv:∀ g,v.ownBlock=some g→B≤g):Below B w W':=
 hb.grown h.gr hB (fun k hk=>hv k hk)
theorem Gr.block {n k:Nat} {v:Value} {W W':World} (h:Gr n v W W') (hk:k<W.heap.size) (hne:∀ p c,W.cell? ⟨k,0,none⟩≠some (.slice p n c)):W'.heap[k]? = W.heap[k]? :=
 h.gr.block k hk fun e=>by
  obtain ⟨p,c,hc⟩:=h.is k e.symm
  exact hne p c hc
theorem Holds.kept {W W':World} {k:Nat} {b:Bs} (h:Holds encB W k 0 b) (e:W'.heap[k]? = W.heap[k]?):Holds encB W' k 0 b:=fun j hj=>by
 rw[World.cell?_of_block (a:=⟨k,0+j,none⟩) e,World.frozen?_of_block (a:=⟨k,0+j,none⟩) e]
 exact h j hj
theorem El.kept {m n:Nat} {v x:Value} {W W':World} {b:Bs} (h:El m W x b) (hm:0<m) (hg:Gr n v W W'):El m W' x b:=by
 obtain ⟨k,c,rfl,h1,h2,h3,h4⟩:=h
 refine ⟨k,c,rfl,h1,h2,Nat.lt_of_lt_of_le h3 hg.gr.size,Holds.kept h4 (hg.block h3 fun p c' hc=>?_)⟩
 have:=(h4 0 (by omega)).1
 rw[Nat.zero_add,hc] at this
 exact u8_ne (Option.some.inj this).symm
theorem Row.kept {n k:Nat} {v:Value} {W W':World} {vs:List Value} (h:Row W k vs) (hg:Gr n v W W') (hne:∀ p c,vs[0]?≠some (.slice p n c)) (hl:0<vs.length):Row W' k vs:=by
 have e:=hg.block h.1 fun p c hc=>by
  have h0:=h.2.1 0 vs[0] (List.getElem?_eq_getElem hl)
  rw[Nat.zero_add,hc] at h0
  exact hne p c (by rw[List.getElem?_eq_getElem hl,h0])
 refine ⟨Nat.lt_of_lt_of_le h.1 hg.gr.size,fun j u hj=>?_,fun j hj=>?_⟩
 ·rw[World.cell?_of_block (a:=⟨k,0+j,none⟩) e];exact h.2.1 j u hj
 ·rw[World.cell?_of_block (a:=⟨k,0+j,none⟩) e,World.frozen?_of_block (a:=⟨k,0+j,none⟩) e];exact h.2.2 j hj
structure Lo (n base:Nat) (W:World) (v:Value) (bs:List Bs):Prop where
 ex:∃ xs:List Value,xs.length=bs.length∧W.ownsRow base 23 1 v bs.length xs∧∀ (j:Nat) (x:Value) (b:Bs),xs[j]? = some x→bs[j]? = some b→El n W x b
 nil:bs=[]→v=.slice none 0 0
theorem Lo.begin (n base:Nat) (W:World):Lo n base W (.slice none 0 0) []:=⟨⟨[],rfl,World.ownsRow_nil _ _ _ _,fun j x b h=>by cases h⟩,fun _=>rfl⟩
theorem add0 (g j:Nat):(⟨g,0,none⟩:Addr).add j=⟨g,j,none⟩:=by unfold Addr.add;split<;>simp_all
theorem Lo.isL {n base:Nat} {W:World} {v:Value} {bs:List Bs} (h:Lo n base W v bs) {g:Nat} (hg:v.ownBlock=some g):isL n W g:=by
 obtain ⟨xs,h1,h2,h3⟩:=h.ex
 have hne:bs≠[]:=fun e=>by rw[h.nil e] at hg;cases hg
 cases bs with
 | nil=>exact absurd rfl hne
 | cons b r =>
  cases xs with
  | nil=>cases h1
  | cons x xr =>
   obtain ⟨k,c,rfl,-⟩:=h3 0 x b rfl rfl
   have:=h2.cells hg 0 _ rfl
   rw[add0] at this
   exact ⟨_,_,this⟩
theorem Lo.lt {n base:Nat} {W:World} {v:Value} {bs:List Bs} (h:Lo n base W v bs):∀ g,v.ownBlock=some g→base≤g∧g<W.heap.size:=by
 obtain ⟨xs,h1,h2,h3⟩:=h.ex
 exact h2.lt
theorem Lo.kept {m n base:Nat} {W W':World} {v v':Value} {bs:List Bs} (h:Lo m base W v bs) (hm:0<m) (hg:Gr n v' W W') (hne:m≠n):Lo m base W' v bs:=by
 have hL:=fun {g}=>h.isL (g:=g)
 obtain ⟨xs,h1,h2,h3⟩:=h.ex
 refine ⟨⟨xs,h1,h2.kept hg.gr ?_,fun j x b hx hb=>(h3 j x b hx hb).kept hm hg⟩,h.nil⟩
 cases hv:v.ownBlock with
 | none=>exact Or.inl rfl
 | some g =>
  refine Or.inr fun e=>hne ?_
  obtain ⟨p,c,hc⟩:=hL hv
  obtain ⟨p',c',hc'⟩:=hg.is g e.symm
  rw[hc] at hc'
  injection hc' with hc'
  injection hc' with _ h5 _
theorem infoB:(Tryd.prog.info? 23).map (fun i=>(i.size,i.bytes,i.zero.map fun z=>z.cells.size))=some (1,24,some 1):=by kernel_rfl
theorem undB:Tryd.prog.underlying 24=some (.slice 23):=by kernel_rfl
theorem Lo.app {n base g:Nat} {W:World} {v x:Value} {bs:List Bs} {b:Bs} (h:Lo n base W v bs) (hn:0<n) (hx:El n W x b) (hc:W.cell? ⟨g,0,none⟩=some x) (hk:bs.length≤1000000) (hb:base≤W.heap.size) :
 ∃ v' W',(Builtin.append_ #[24,24] 24 #[v,.slice (some ⟨g,0,none⟩) 1 1]).run Tryd.prog W=.ok v' W'∧Lo n base W' v' (bs++[b])∧Gr n v W W':=by
 obtain ⟨i,hi,he⟩:=Option.map_eq_some_iff.1 infoB
 simp only[Prod.mk.injEq] at he
 obtain ⟨h1,h2,h3⟩:=he
 obtain ⟨z,hz,hz2⟩:=Option.map_eq_some_iff.1 h3
 obtain ⟨xs,x1,x2,x3⟩:=h.ex
 obtain ⟨v',W',r1,r2,r3,r4⟩:=run_append_own (P:=Tryd.prog) W base 24 24 23 i z 1 24 undB hi hz h1 h2 hz2 (by decide) v bs.length xs x2 ⟨g,0,none⟩ 1 1 [x] rfl
  (fun j u hj=>by
   cases j with
   | zero =>
    obtain rfl:x=u:=by simpa using hj
    rw[add0];exact hc
   | succ j=>simp at hj) (fun u hu=>by
   obtain rfl:u=x:=by simpa using hu
   obtain ⟨k,c,rfl,-⟩:=hx
   rfl) (by unfold maxLen;omega) (by omega) hb
 have G:Gr n v W W':=⟨r3,fun g hg=>h.isL hg⟩
 refine ⟨v',W',r1,⟨⟨xs++[x],by simp[x1],by rw[List.length_append];exact r2,fun j y c hy hcy=>?_⟩,fun e=>by simp at e⟩,G⟩
 by_cases hj:j<bs.length
 ·rw[List.getElem?_append_left (by omega)] at hy hcy
  exact (x3 j y c hy hcy).kept hn G
 ·rw[List.getElem?_append_right (by omega)] at hy hcy
  rw[x1] at hy
  cases hjj:j-bs.length with
  | zero =>
   rw[hjj] at hy hcy
   obtain rfl:x=y:=by simpa using hy
   obtain rfl:b=c:=by simpa using hcy
   exact hx.kept hn G
  | succ d=>rw[hjj] at hy;simp at hy
theorem ptBytes_c {a:Bs} (ha:a.size=33) (w:World):Calls Tryd.prog 13 #[pvl a] w (Ret fun e w'=>Below w.heap.size w w'∧El 33 w' e a):=by
 have B1:=Hid.mk' (boxCP ha w)
 obtain ⟨w1,hw1⟩:∃ w1,Hid (w.alloc (.cells (bl33 a).toArray 38)=w1):=⟨_,rfl⟩
 rw[hw1.out] at B1
 have K:Hid (Row w1 w.heap.size (bl33 a)∧Below w.heap.size w w1):=by rw[← hw1.out];exact ⟨row_new w _ _,below1 w _⟩
 obtain ⟨va,hva⟩:∃ v,Hid (pvl a=v):=⟨_,rfl⟩
 have B1':Hid ((Instr.box 38 va).run Tryd.prog w=.ok (.pointer (some ⟨w.heap.size,0,none⟩)) w1):=by rw[← hva.out];exact B1
 rw[hva.out]
 have hs:=slCP w.heap.size
 clear B1 hw1
 go_enter Tryd.func13,Tryd.ntmps13
 go_wp2_with (first|(refine wpList_box (u:=va) (v:=.pointer (some ⟨w.heap.size,0,none⟩)) (w':=w1) rfl 38 (.tmp 0) rfl ?_ ?_ ?_;rfl;exact B1'.out))
 go_ret
 exact ⟨_,rfl,K.out.2,w.heap.size,33,rfl,by omega,ha,K.out.1.1,row_holds K.out.1⟩
end
section
open Go.RowKit Go.Sort Go.Deep
variable {P:Nat} [NeZero P] {N:Nat}
def Bo (n B0:Nat) (W:World) (v:Value) (b:Bs):Prop:=∃ k x,v=.slice (some ⟨k,0,none⟩) 1 1∧B0≤k∧k<W.heap.size∧W.cell? ⟨k,0,none⟩=some x∧El n W x b
theorem Bo.kept {m n B0:Nat} {W W':World} {v u:Value} {b:Bs} (h:Bo n B0 W v b) (hn:0<n) (hg:Gr m u W W') (hu:∀ g,u.ownBlock=some g→g<B0):Bo n B0 W' v b:=by
 obtain ⟨k,x,rfl,h1,h2,h3,h4⟩:=h
 refine ⟨k,x,rfl,h1,Nat.lt_of_lt_of_le h2 hg.gr.size,?_,h4.kept hn hg⟩
 rw[World.cell?_of_block (a:=⟨k,0,none⟩) (hg.gr.block k h2 fun e=>by have:=hu k e.symm;omega)]
 exact h3
def Tm (W:World) (q:Option Addr) (k:Nat) (ns:Nat→Nat) (az:Nat→Bs):Prop:=0<k→∃ g,q=some ⟨g,0,none⟩∧g<W.heap.size∧∀ j,j<k→W.rangeAt g (37*j) (wn (ns j)++bl33 (az j))
theorem Tm.kept {m k:Nat} {W W':World} {u:Value} {q:Option Addr} {ns:Nat→Nat} {az:Nat→Bs} (h:Tm W q k ns az) (hg:Gr m u W W'):Tm W' q k ns az:=fun hk=>by
 obtain ⟨g,h1,h2,h3⟩:=h hk
 refine ⟨g,h1,Nat.lt_of_lt_of_le h2 hg.gr.size,fun j hj i v hv=>?_⟩
 have e:=hg.block h2 fun p c hc=>by
  have h0:=h3 0 hk 0 _ (show (wn (ns 0)++bl33 (az 0))[0]? = some _ from rfl)
  rw[show 37*0+0=0 from rfl,hc] at h0
  cases h0
 rw[World.cell?_of_block (a:=⟨g,37*j+i,none⟩) e]
 exact h3 j hj i v hv
section
variable (w0:World) (v3 v4:Value) (k6 n B0 base:Nat) (p:Bs) (bs cs:List Bs) (q:Option Addr) (k:Nat) (ns:Nat→Nat) (az:Nat→Bs)
def PR:Nat→Value→World→Prop
 | 0,v,_=>v=v3
 | 1,v,_=>v=.pointer (some ⟨k6,0,none⟩)
 | 2,v,_=>v=nv n
 | 3,v,w=>El 32 w v (bx n)
 | 4,v,w=>Bo 32 B0 w v (bx n)
 | 5,v,w=>Lo 32 base w v (bs++[bx n])
 | 6,v,_=>v=v4
 | 7,v,_=>v=.pointer (some ⟨k6,4,none⟩)
 | 8,v,_=>v=pvl p
 | 9,v,w=>El 33 w v p
 | 10,v,w=>Bo 33 B0 w v p
 | 11,v,w=>Lo 33 base w v (cs++[p])
 | 12,v,w=>Lo 32 base w v (bs++[bx n])
 | 13,v,w=>Lo 33 base w v (cs++[p])
 | _,_,_=>True
def PBs:Nat→World→Prop
 | 0,w=>Row w k6 (wn n++bl33 p)
 | 1,w=>Lo 32 base w v3 bs
 | 2,w=>Lo 33 base w v4 cs
 | 3,w=>Below base w0 w∧base≤w.heap.size∧B0≤w.heap.size
 | 4,w=>Tm w q k ns az
 | 5,w=>Row w base z33
 | _,_=>True
def PE:Nat→World→World→Prop
 | 5=>Gr 32 v3
 | 11=>Gr 33 v4
 | _=>Gr 0 (.slice none 0 0)
def Pk1:Nat→List Nat
 | 4=>[5]
 | 10=>[11]
 | _=>[]
def Pk2:Nat→List Nat
 | 1=>[5]
 | 2=>[11]
 | _=>[]
def FP:RG.Flow:=⟨PR v3 v4 k6 n B0 base p bs cs,PBs w0 v3 v4 k6 n B0 base p bs cs q k ns az,PE v3 v4,Pk1,Pk2⟩
theorem PE_any {i:Nat} {w w':World} (h:PE v3 v4 i w w'):∃ m u,Gr m u w w'∧((i=5∧m=32∧u=v3)∨(i=11∧m=33∧u=v4)∨(i≠5∧i≠11∧m=0∧u=.slice none 0 0)):=by
 unfold PE at h
 split at h
 ·exact ⟨_,_,h,Or.inl ⟨rfl,rfl,rfl⟩⟩
 ·exact ⟨_,_,h,Or.inr (Or.inl ⟨rfl,rfl,rfl⟩)⟩
 ·rename_i h1 h2
  exact ⟨_,_,h,Or.inr (Or.inr ⟨h1,h2,rfl,rfl⟩)⟩
variable (hv3:∀ g,v3.ownBlock=some g→base≤g∧g<B0) (hv4:∀ g,v4.ownBlock=some g→base≤g∧g<B0)
include hv3 hv4
theorem PE_own {i m:Nat} {u:Value} (h:(i=5∧m=32∧u=v3)∨(i=11∧m=33∧u=v4)∨(i≠5∧i≠11∧m=0∧u=.slice none 0 0)):∀ g,u.ownBlock=some g→base≤g∧g<B0:=by
 rcases h with ⟨-,-,rfl⟩|⟨-,-,rfl⟩|⟨-,-,-,rfl⟩
 ·exact hv3
 ·exact hv4
 ·intro g hg;cases hg
theorem P_stab (i j:Nat) (hj:j<14) (hij:i≠j) (hk:(Pk1 j).contains i=false) (h1:¬ (j=12∧i=5)) (h2:¬ (j=13∧i=11)) (v:Value) (w w':World) (hE:PE v3 v4 i w w') (hR:PR v3 v4 k6 n B0 base p bs cs j v w):PR v3 v4 k6 n B0 base p bs cs j v w':=by
 obtain ⟨m,u,hg,hc⟩:=PE_any v3 v4 hE
 have hu:=PE_own v3 v4 B0 base hv3 hv4 hc
 have m32:m=32→i=5:=fun h=>by rcases hc with ⟨h1,-⟩|⟨-,h2,-⟩|⟨-,-,h2,-⟩<;>omega
 have m33:m=33→i=11:=fun h=>by rcases hc with ⟨-,h2,-⟩|⟨h1,-⟩|⟨-,-,h2,-⟩<;>omega
 match j,hj,hR with
 | 0,_,h=>exact h
 | 1,_,h=>exact h
 | 2,_,h=>exact h
 | 3,_,h=>exact El.kept h (by decide) hg
 | 4,_,h=>exact Bo.kept h (by decide) hg fun g hgg=>(hu g hgg).2
 | 5,_,h=>exact Lo.kept h (by decide) hg fun e=>hij (m32 e.symm)
 | 6,_,h=>exact h
 | 7,_,h=>exact h
 | 8,_,h=>exact h
 | 9,_,h=>exact El.kept h (by decide) hg
 | 10,_,h=>exact Bo.kept h (by decide) hg fun g hgg=>(hu g hgg).2
 | 11,_,h=>exact Lo.kept h (by decide) hg fun e=>hij (m33 e.symm)
 | 12,_,h=>exact Lo.kept h (by decide) hg fun e=>h1 ⟨rfl,m32 e.symm⟩
 | 13,_,h=>exact Lo.kept h (by decide) hg fun e=>h2 ⟨rfl,m33 e.symm⟩
 | _+14,hj,_=>omega
theorem P_stabB (i b:Nat) (hk:(Pk2 b).contains i=false) (w w':World) (hE:PE v3 v4 i w w') (hR:PBs w0 v3 v4 k6 n B0 base p bs cs q k ns az b w):PBs w0 v3 v4 k6 n B0 base p bs cs q k ns az b w':=by
 obtain ⟨m,u,hg,hc⟩:=PE_any v3 v4 hE
 have hu:=PE_own v3 v4 B0 base hv3 hv4 hc
 have m32:m=32→i=5:=fun h=>by rcases hc with ⟨h1,-⟩|⟨-,h2,-⟩|⟨-,-,h2,-⟩<;>omega
 have m33:m=33→i=11:=fun h=>by rcases hc with ⟨-,h2,-⟩|⟨h1,-⟩|⟨-,-,h2,-⟩<;>omega
 match b,hk,hR with
 | 0,_,h=>exact Row.kept h hg (fun p c e=>by cases e) (by rw[List.length_append];exact Nat.lt_of_lt_of_le (by decide) (Nat.le_add_right 4 _))
 | 1,hk,h=>exact Lo.kept h (by decide) hg fun e=>by rw[m32 e.symm] at hk;cases hk
 | 2,hk,h=>exact Lo.kept h (by decide) hg fun e=>by rw[m33 e.symm] at hk;cases hk
 | 3,_,h=>exact ⟨hg.below h.1 h.2.1 fun g hgg=>(hu g hgg).1,Nat.le_trans h.2.1 hg.gr.size,Nat.le_trans h.2.2 hg.gr.size⟩
 | 4,_,h=>exact Tm.kept h hg
 | 5,_,h=>exact Row.kept h hg (fun p c e=>by cases e) (by decide)
 | _+6,_,_=>trivial
end
end
section
open Go.RowKit Go.Sort Go.Deep
variable {P:Nat} [NeZero P] {N:Nat}
theorem Lo.drew {n base:Nat} {W:World} {v:Value} {bs:List Bs} (h:Lo n base W v bs):Lo n base W.drew v bs:=⟨h.ex,h.nil⟩
theorem SumR.all (C:Fld P) (O:Ord N) {w w':World} {k:Nat} (hk:k≤512) {ns:Nat→Nat} {X:Nat→EC.Pt P} (hn:∀ j,j<k→ns j<N) (hX:∀ j,j<k→EC.On (X j)) {L M:Nat→Bs} (hL:∀ j,j<k→L j=bx (ns j)) (hM:∀ j,j<k→M j=wr (X j)) {e:Value} (h:SumR P N w k k L M e w') :
 OutP w (wr (EC.tot X k (fun j=>(ns j:Int)))) e w':=by
 have hq:∀ j,j<k→rq N (L j)=some (ns j):=fun j hj=>by
  rw[hL j hj]
  have hb:beV (bx (ns j)).toList=ns j:=bx_val (Nat.lt_of_lt_of_le (hn j hj) O.le)
  unfold rq
  rw[if_pos ⟨bx_size _,by rw[hb];exact hn j hj⟩,hb]
 have hr:∀ j,j<k→∃ p,rd P (M j)=some p∧pt p=X j:=fun j hj=>by rw[hM j hj];exact rd_wr C (hX j hj)
 rcases h with ⟨h,-⟩|⟨-,h,-⟩|⟨-,-,⟨⟨j,hj,hn'⟩,-⟩|⟨ns',hns,⟨⟨j,hj,hn'⟩,-⟩|⟨xs,ys,hxy,h⟩⟩⟩
 ·exact absurd rfl h
 ·omega
 ·rw[hq j hj] at hn';cases hn'
 ·obtain ⟨p,hp,-⟩:=hr j hj
  rw[hp] at hn';cases hn'
 ·have e1:∀ j,j<k→ns' j=ns j:=fun j hj=>by
   have:=hns j hj
   rw[hq j hj] at this
   exact (Option.some.inj this).symm
  have hp:∀ j,j<k→EC.Pair (xs j) (ys j) (X j)∧EC.On (X j):=fun j hj=>by
   obtain ⟨p,hp,hpt⟩:=hr j hj
   have h1:=hxy j hj
   rw[hp] at h1
   have h2:=Option.some.inj h1
   have h3:=rd_on C hp
   rw[hpt] at h3
   rw[h2] at h3
   exact h3
  have hJ:=sumJ_all C (ns:=ns') (xs:=xs) (ys:=ys) (p:=X) (N:=k) (fun i hi=>by rw[e1 i hi];exact Nat.lt_of_lt_of_le (hn i hi) O.le) (fun i hi=>(hp i hi).1) (fun i hi=>(hp i hi).2)
  have e2:EC.tot X k (fun j=>(ns' j:Int))=EC.tot X k (fun j=>(ns j:Int)):=EC.tot_congr k fun j hj=>by rw[e1 j hj]
  rw[e2] at hJ
  rw[← by33_wr C (hJ.pair C) hJ.2]
  exact h
structure Pz (w W:World) (q:Option Addr) (k i:Nat) (ns:Nat→Nat) (az:Nat→Bs) (s3 s4:Value):Prop where
 bl:Below w.heap.size w W
 l3:Lo 32 w.heap.size W s3 ((List.range i).map fun j=>bx (ns j))
 l4:Lo 33 w.heap.size W s4 ((List.range i).map az)
 tm:Tm W q k ns az
 r2:Row W w.heap.size z33
theorem El.of_made {w w':World} {k n:Nat} {b:Bs} (h:RG.Made w k (cb b) w') (hb:b.size=n):El n w' (.slice (some ⟨k,0,none⟩) n n) b:=⟨k,n,rfl,Nat.le_refl _,hb,h.lt,cb_holds h.range h.there⟩
theorem Bo.of {n B0:Nat} {w:World} {x:Value} {b:Bs} (h:El n w x b) (hn:0<n) (hB:B0≤w.heap.size) (T:TypeId):Bo n B0 (w.alloc (.cells #[x] T)) (.slice (some ⟨w.heap.size,0,none⟩) 1 1) b:=
 ⟨w.heap.size,x,rfl,hB,by rw[World.size_alloc];omega,by rw[World.cell?_alloc_new];rfl,h.kept hn (Gr.of (n:=0) (below1 w _))⟩
theorem Lo.args {n base:Nat} {W:World} {v:Value} {bs:List Bs} (h:Lo n base W v bs):∃ q cap,v=.slice q bs.length cap∧(0<bs.length→∃ g,q=some ⟨g,0,none⟩∧g<W.heap.size∧∀ (j:Nat) (b:Bs),bs[j]? = some b→∃ x,W.cell? ⟨g,j,none⟩=some x∧El n W x b):=by
 obtain ⟨xs,h1,h2,h3⟩:=h.ex
 have h4:=fun {g:Nat}=>h2.cells (g:=g)
 rcases h2.2 with ⟨rfl,h0⟩|⟨g,cap,cur,rfl,-,hc,-⟩
 ·exact ⟨none,0,by rw[h0],fun h=>by omega⟩
 ·refine ⟨_,_,rfl,fun _=>⟨g,rfl,(Array.getElem?_eq_some_iff.1 hc).1,fun j b hb=>?_⟩⟩
  have hj:j<xs.length:=by rw[h1];exact (List.getElem?_eq_some_iff.1 hb).1
  have:=h4 (g:=g) rfl j xs[j] (List.getElem?_eq_getElem hj)
  rw[add0] at this
  exact ⟨_,this,h3 j _ b (List.getElem?_eq_getElem hj) hb⟩
theorem El.arg {W:World} {x:Value} {b:Bs} (h:El 32 W x b):Arg W x b:=by
 obtain ⟨k,c,rfl,h1,h2,h3,h4⟩:=h
 exact ⟨_,_,_,rfl,h2,fun _=>⟨k,0,rfl,h1,h3,h4⟩⟩
theorem El.arg33 {W:World} {x:Value} {b:Bs} (h:El 33 W x b):Arg33 W x b:=by
 obtain ⟨k,c,rfl,h1,h2,h3,h4⟩:=h
 exact ⟨_,_,_,rfl,h2,fun _=>⟨k,0,rfl,h1,h3,h4⟩⟩
theorem arg33_k {W:World} {g c:Nat} {X:EC.Pt P} (h:33≤c∧g<W.heap.size∧EC.On X∧Holds encB W g 0 (wr X)):Arg33 W (.slice (some ⟨g,0,none⟩) 33 c) (wr X):=
 ⟨_,_,_,rfl,wr_size _,fun _=>⟨g,0,rfl,h.1,h.2.1,h.2.2.2⟩⟩
def S2 (nb pl:Nat):Nat→Nat:=fun j=>if j=0 then nb else pl
def mkH (k:Bs) (nb pl:Nat):Bs:=derH (S2 nb pl) k 2 [109,105,110,116]
def mkN (N:Nat) (k:Bs) (nb pl:Nat):Nat:=kSc N (mkH k nb pl)
theorem mkN_lt (O:Ord N) (k:Bs) (nb pl:Nat):mkN N k nb pl<N:=kSc_lt O _
theorem mintKey_c (O:Ord N) (sq:Option Addr) (sn sc:Nat) (k:Bs) (nb pl:Nat) (hnb:nb<4294967296) (hpl:pl<20) (w:World) (hk:SP.PartOk w (.slice sq sn sc) k.toList) :
 Calls Tryd.prog 11 #[.slice sq sn sc,.int .u32 nb,.int .i64 pl] w (Ret fun e w'=>Below w.heap.size w w'∧e=nv (mkN N k nb pl)):=by
 obtain ⟨w1,hw1⟩:∃ w1,Hid (w.alloc (.cells #[.int .u64 0,.int .u64 0,.int .u64 0,.int .u64 0] 46)=w1):=⟨_,rfl⟩
 obtain ⟨w2,hw2⟩:∃ w2,Hid (w1.alloc (.cells #[.int .u32 nb,.int .u32 pl] 22)=w2):=⟨_,rfl⟩
 have e1:w1.heap.size=w.heap.size+1:=by rw[← hw1.out,World.size_alloc]
 have hb12:Below w1.heap.size w1 w2:=by rw[← hw2.out];exact below1 w1 _
 have hb01:Below w.heap.size w w1:=by rw[← hw1.out];exact below1 w _
 have K2:Hid (Row w2 w.heap.size [.int .u64 0,.int .u64 0,.int .u64 0,.int .u64 0]∧Below w.heap.size w w2):=by
  refine ⟨?_,hb01.trans (hb12.mono hb01.size)⟩
  have q1:Row w1 w.heap.size [.int .u64 0,.int .u64 0,.int .u64 0,.int .u64 0]:=by rw[← hw1.out];exact row_new w _ _
  exact q1.below hb12
 have hN:NumsK w2 (some ⟨w.heap.size+1,0,none⟩) 2 (S2 nb pl):=by
  refine ⟨fun j hj=>?_,fun _=>⟨w.heap.size+1,0,rfl,?_,fun j hj=>?_⟩⟩
  ·unfold S2
   by_cases h:j=0
   ·rw[if_pos h];exact hnb
   ·rw[if_neg h];omega
  ·rw[← hw2.out,World.size_alloc,e1];omega
  ·have hr:=(row_new w1 [.int .u32 nb,.int .u32 pl] 22).2.1
   rw[← e1,← hw2.out,Nat.zero_add]
   have hj2:j=0∨j=1:=by omega
   rcases hj2 with rfl|rfl
   ·exact hr 0 _ rfl
   ·exact hr 1 _ rfl
 have hk2:SP.PartOk w2 (.slice sq sn sc) k.toList:=(hk.below hb01).below hb12
 have hD:=derived_c sq sn sc k ⟨#[109,105,110,116]⟩ (by decide) (some ⟨w.heap.size+1,0,none⟩) 2 2 (S2 nb pl) w2 (by decide) hk2 hN
 have hTs:(mkH k nb pl).size=32:=derH_size _ _ _ _
 have HSc:=Hid.mk2 (fun r w (h:Holds encB w r 0 (mkH k nb pl))=>scalarOf_c O r (mkH k nb pl) w hTs h)
 have hD2:Calls Tryd.prog 21 #[.slice sq sn sc,.string ⟨#[109,105,110,116]⟩,.slice (some ⟨w.heap.size+1,0,none⟩) 2 2] w2 (Ret fun e w'=>Below w2.heap.size w2 w'∧∃ r,e=.slice (some ⟨r,0,none⟩) 32 32∧w2.heap.size≤r∧Holds encB w' r 0 (mkH k nb pl)):=hD
 have HX:Hid (mkN N k nb pl=kSc N (mkH k nb pl)):=rfl
 rw[HX.out]
 generalize mkH k nb pl=T at hD2 HSc hTs
 generalize kSc N T=x at HSc ⊢
 obtain ⟨vx,hvx⟩:∃ vx,Hid (nv x=vx):=⟨_,rfl⟩
 rw[hvx.out] at HSc ⊢
 have wp:IntKind.u32.wrap (pl:Int)=(pl:Int):=by rw[IntKind.wrap_u32];omega
 clear hk hD hN hk2 hb12 hb01 HX
 go_enter Tryd.func11,Tryd.ntmps11
 go_wp2_with fail
 rw[hw1.out,hw2.out]
 clear hw1 hw2
 refine hD2.mono ?_
 rintro e w3 ⟨v3,rfl,hb3,r,rfl,hr,hH3⟩
 have K3:Hid (Row w3 w.heap.size [.int .u64 0,.int .u64 0,.int .u64 0,.int .u64 0]∧Below w.heap.size w w3∧Holds encB w3 r 0 T):=⟨K2.out.1.below hb3,K2.out.2.trans (hb3.mono K2.out.2.size),hH3⟩
 clear hb3 hr hH3 hD2 K2
 go_wp2_with fail
 refine (HSc.out r w3 K3.out.2.2).mono ?_
 rintro e w4 ⟨v4,rfl,hb4,rfl⟩
 have K4:Hid (Row w4 w.heap.size [.int .u64 0,.int .u64 0,.int .u64 0,.int .u64 0]∧Below w.heap.size w w4):=⟨K3.out.1.below hb4,K3.out.2.1.trans (hb4.mono K3.out.2.1.size)⟩
 clear hb4 K3 HSc
 obtain ⟨w5,hw5⟩:∃ w5,Hid (w4.setCells w.heap.size 0 (wn x)=w5):=⟨_,rfl⟩
 have K5:Hid (Row w5 w.heap.size (wn x)∧Below w.heap.size w w5):=by rw[← hw5.out];exact ⟨K4.out.1.put rfl,RG.below_setCells (Nat.le_refl _) _ _ _ K4.out.2⟩
 go_wp2_with (refine wpList_store_mid rfl 46 _ _ rfl w.heap.size 0 (wn x).toArray ?_ ?_ ?_ ?_ ?_ ?_;rfl;exact hvx.out.symm;exact K4.out.1.2.2;exact i40;exact wn_one x;rw[show (wn x).toArray.toList=wn x from rfl,hw5.out])
 refine bodyPost_ret (results_cell 6 46 rfl K5.out.1 rfl u40 i40) rfl ?_
 exact ⟨_,rfl,K5.out.2,hvx.out⟩
theorem isSeedY_c (q:Option Addr) (n c:Nat) (w:World):Calls Tryd.prog 8 #[.slice q n c] w fun e w'=>e=.returned (.bool (decide (n=32)))∧w'=w:=by
 go_enter Tryd.func8,Tryd.ntmps8
 by_cases h:n=32
 ·have hi:(n:Int)=32:=by omega
  subst h
  go_wp2
  go_ret
  exact ⟨rfl,rfl⟩
 ·have hi:¬ (n:Int)=32:=by omega
  have hd:decide (n=32)=false:=decide_eq_false h
  go_wp2
  go_ret
  exact ⟨by simp[h,hi],rfl⟩
theorem Key_c (O:Ord N) (sq:Option Addr) (sc:Nat) (k:Bs) (nb i x:Nat) (hnb:nb<4294967296) (hi:i<20) (hx:x=2^i) (w:World) (hk:SP.PartOk w (.slice sq 32 sc) k.toList) (hT:TabX w) :
 Calls Tryd.prog 5 #[.slice sq 32 sc,.int .u32 nb,.int .u64 x] w (Ret fun e w'=>Below w.heap.size w w'∧∃ g,e=.tuple #[.slice (some ⟨g,0,none⟩) 32 32,.int .i64 0]∧g<w'.heap.size∧Holds encB w' g 0 (bx (mkN N k nb i))):=by
 have hS:=isSeedY_c sq 32 sc w
 have hP:=placex_c i hi x hx w hT
 have hM:=mintKey_c O sq 32 sc k nb i hnb hi w hk
 have HSb:=Hid.mk2 (sbytes_c O (mkN_lt O k nb i))
 have hbs:=bx_size (mkN N k nb i)
 generalize mkN N k nb i=y at hM HSb hbs ⊢
 generalize bx y=B at HSb hbs ⊢
 obtain ⟨vy,hvy⟩:∃ vy,Hid (nv y=vy):=⟨_,rfl⟩
 rw[hvy.out] at hM HSb
 clear hk hT hx
 go_enter Tryd.func5,Tryd.ntmps5
 go_wp2_with fail
 refine hS.mono ?_
 rintro e w' ⟨rfl,rfl⟩
 clear hS
 go_wp2_with fail
 refine hP.mono ?_
 rintro e w' ⟨rfl,rfl⟩
 clear hP
 go_wp2_with fail
 refine hM.mono ?_
 rintro e w3 ⟨v3,rfl,hb3,rfl⟩
 have hsb:=HSb.out w3
 have K3:=Hid.mk2 hb3
 clear hM hb3 HSb
 go_wp2_with fail
 refine hsb.mono ?_
 rintro e w4 ⟨v4,rfl,k4,hm,rfl⟩
 have K4:Hid (Below w'.heap.size w' w4∧k4<w4.heap.size∧Holds encB w4 k4 0 B):=by
  have hH:Holds encB w4 k4 0 B:=fun j hj=>by
   have h1:=hm.range j (encB B[j]!) (by unfold cb;rw[List.getElem?_map,getElem!_pos B j hj,← Array.getElem_toList hj,List.getElem?_eq_getElem (by rw[Array.length_toList];exact hj)];rfl)
   exact ⟨h1,(hm.there j (by rw[cb_length];exact hj)).2⟩
  exact ⟨K3.out.trans (hm.bel.mono K3.out.size),Holds.lt hH (by omega),hH⟩
 clear hm hsb K3
 go_wp2
 go_ret2
 exact ⟨_,rfl,K4.out.1,k4,rfl,K4.out.2⟩
theorem results_cY {P:Program} {fn:Func} {tmps:Array Value} {W:World} {k:Nat} {vs:List Value} {v:Value} (t u:Tmp) (T:TypeId) (hr:fn.results=#[.cell t T,.tmp u]) (h:Row W k vs) (ht:tmps[t]? = some (.pointer (some ⟨k,0,none⟩))) (hv:tmps[u]? = some v)
 (hu:(P.underlying T).map (·.isRow)=some true) (hi:(P.info? T).map (·.size)=some vs.length):(results fn tmps).run P W=.ok (.tuple #[.agg vs.toArray,v]) W:=by
 obtain ⟨d,hu,hd⟩:=Option.map_eq_some_iff.1 hu
 have h1:=run_loadVar_mid (P:=P) W k 0 T vs d h.2.1 hu hd hi
 have h2:tmps.getD t undef=.pointer (some ⟨k,0,none⟩):=by rw[Array.getD_eq_getD_getElem?,ht];rfl
 have h3:tmps.getD u undef=v:=by rw[Array.getD_eq_getD_getElem?,hv];rfl
 unfold results
 rw[hr]
 simp only[Array.mapM_eq_mapM_toList,List.mapM_cons,List.mapM_nil,h2,h3,asAddr]
 simp[Sem.run_bind,h1]
def pkB (P N:Nat) [NeZero P] (k:Bs) (nb i:Nat):Bs:=wr (EC.mul (mkN N k nb i) (gG P))
theorem el_kept {W W':World} {n:Nat} {x:Value} {b:Bs} (h:El n W x b) (hs:W.heap.size≤W'.heap.size) (g:Nat) (hg:∀ k c,x=.slice (some ⟨k,0,none⟩) n c→k≠g) (hk:∀ k,k<W.heap.size→k≠g→W'.heap[k]? = W.heap[k]?):El n W' x b:=by
 obtain ⟨k,c,h1,h2,h3,h4,h5⟩:=h
 exact ⟨k,c,h1,h2,h3,Nat.lt_of_lt_of_le h4 hs,Holds.kept h5 (hk k h4 (hg k c h1))⟩
theorem el_bel {W W':World} {n:Nat} {x:Value} {b:Bs} (h:El n W x b) (hb:Below W.heap.size W W'):El n W' x b:=by
 obtain ⟨k,c,h1,h2,h3,h4,h5⟩:=h
 exact ⟨k,c,h1,h2,h3,Nat.lt_of_lt_of_le h4 hb.size,Holds.kept h5 (hb.block k h4)⟩
theorem row_blk {W W':World} {k:Nat} {vs:List Value} (h:Row W k vs) (hs:W.heap.size≤W'.heap.size) (e:W'.heap[k]? = W.heap[k]?):Row W' k vs:=
 ⟨Nat.lt_of_lt_of_le h.1 hs,fun j v hj=>by rw[World.cell?_of_block (a:=⟨k,0+j,none⟩) e];exact h.2.1 j v hj,fun j hj=>by rw[World.cell?_of_block (a:=⟨k,0+j,none⟩) e,World.frozen?_of_block (a:=⟨k,0+j,none⟩) e];exact h.2.2 j hj⟩
theorem row_set {W:World} {k:Nat} {vs:List Value} (h:Row W k vs) (j:Nat) (hj:j<vs.length) (v:Value):Row (W.setCell ⟨k,j,none⟩ v) k (vs.set j v):=by
 have hcj:∃ u,W.cell? ⟨k,j,none⟩=some u:=⟨_,h.cell hj⟩
 obtain ⟨u,hcj⟩:=hcj
 have hce:∀ i u,(vs.set j v)[i]? = some u→(W.setCell ⟨k,j,none⟩ v).cell? ⟨k,0+i,none⟩=some u:=fun i u hi=>by
  rw[Nat.zero_add]
  by_cases e:i=j
  ·subst e
   rw[List.getElem?_set_self hj] at hi
   obtain rfl:=Option.some.inj hi
   exact World.cell?_setCell_same _ _ _ hcj
  ·rw[List.getElem?_set_ne (fun x=>e x.symm)] at hi
   rw[World.cell?_setCell_other _ _ _ _ (by intro x;injection x with _ x _;exact e x.symm)]
   have:=h.2.1 i u hi
   rw[Nat.zero_add] at this
   exact this
 refine ⟨by rw[World.size_setCell];exact h.1,hce,fun i hi=>?_⟩
 rw[List.length_set] at hi
 refine ⟨by rw[hce i ((vs.set j v)[i]'(by rw[List.length_set];exact hi)) (List.getElem?_eq_getElem _)];rfl,?_⟩
 rw[World.frozen?_setCell]
 exact (h.2.2 i hi).2
structure Pub (w W:World) (g:Nat) (S:Nat→Bs) (j:Nat) (C:List Value):Prop where
 bl:Below w.heap.size w W
 row:Row W g C
 len:C.length=20
 sl:∀ (i:Nat) (v:Value),C[i]? = some v→∃ q n c,v=Value.slice q n c
 el:∀ i,i<j→∃ v,C[i]? = some v∧El 33 W v (S i)
 ks:Row W w.heap.size [.slice none 0 0,.slice none 0 0]
 gk:g=w.heap.size+1
theorem Pub.below {w W W':World} {g j:Nat} {S:Nat→Bs} {C:List Value} (h:Pub w W g S j C) (hb:Below W.heap.size W W'):Pub w W' g S j C:=
 ⟨h.bl.trans (hb.mono h.bl.size),h.row.below hb,h.len,h.sl,fun i hi=>by
  obtain ⟨v,h1,h2⟩:=h.el i hi
  exact ⟨v,h1,el_bel h2 hb⟩,h.ks.below hb,h.gk⟩
theorem el_ne {W:World} {v:Value} {b:Bs} {g:Nat} {q:Option Addr} {m c':Nat} (h:El 33 W v b) (hc:W.cell? ⟨g,0,none⟩=some (.slice q m c')):∀ k c,v=.slice (some ⟨k,0,none⟩) 33 c→k≠g:=by
 rintro k c hv rfl
 obtain ⟨k',c2,h1,h2,h3,h4,h5⟩:=h
 rw[hv] at h1
 injection h1 with h1
 injection h1 with h1
 injection h1 with h1
 subst h1
 have:=(h5 0 (by omega)).1
 rw[Nat.zero_add,hc] at this
 cases this
theorem Pub.put {w W:World} {g j:Nat} {S:Nat→Bs} {C:List Value} {v:Value} (h:Pub w W g S j C) (hj:j<20) (hv:El 33 W v (S j)):Pub w (W.setCell ⟨g,j,none⟩ v) g S (j+1) (C.set j v):=by
 obtain ⟨q0,n0,c0,hc0⟩:∃ q n c,W.cell? ⟨g,0,none⟩=some (.slice q n c):=by
  have hl:=h.len
  obtain ⟨q,n,c,e⟩:=h.sl 0 (C[0]'(by omega)) (List.getElem?_eq_getElem (by omega))
  have:=h.row.2.1 0 _ (List.getElem?_eq_getElem (by omega))
  rw[e] at this
  exact ⟨q,n,c,this⟩
 have hoth:∀ k,k<W.heap.size→k≠g→(W.setCell ⟨g,j,none⟩ v).heap[k]? = W.heap[k]?:=fun k _ hk=>heap_setCell_other W ⟨g,j,none⟩ k v hk
 have hsz:W.heap.size≤(W.setCell ⟨g,j,none⟩ v).heap.size:=by rw[World.size_setCell];exact Nat.le_refl _
 have hr:Row (W.setCell ⟨g,j,none⟩ v) g (C.set j v):=row_set h.row j (by rw[h.len];exact hj) v
 refine ⟨h.bl.setCell (p:=⟨g,j,none⟩) (by show w.heap.size≤g;rw[h.gk];omega) v,hr,by rw[List.length_set];exact h.len,fun i u hu=>?_,fun i hi=>?_,?_,h.gk⟩
 ·by_cases hij:i=j
  ·subst hij
   rw[List.getElem?_set_self (by rw[h.len];exact hj)] at hu
   obtain rfl:=Option.some.inj hu
   obtain ⟨k,c,e,-⟩:=hv
   exact ⟨_,_,_,e⟩
  ·rw[List.getElem?_set_ne (fun e=>hij e.symm)] at hu
   exact h.sl i u hu
 ·by_cases hij:i=j
  ·subst hij
   exact ⟨v,by rw[List.getElem?_set_self (by rw[h.len];exact hj)],el_kept hv hsz g (el_ne hv hc0) hoth⟩
  ·obtain ⟨u,h1,h2⟩:=h.el i (by omega)
   exact ⟨u,by rw[List.getElem?_set_ne (fun e=>hij e.symm)];exact h1,el_kept h2 hsz g (el_ne h2 hc0) hoth⟩
 ·exact row_blk h.ks hsz (hoth _ h.ks.1 (by rw[h.gk];omega))
def nil20:List Value:=List.replicate 20 (.slice none 0 0)
theorem mk20 (w:World):(Instr.makeSlice 24 (.int .i64 20) (.int .i64 20)).run Tryd.prog w=.ok (.slice (some ⟨w.heap.size,0,none⟩) 20 20) (w.alloc (.cells nil20.toArray 23)):=by kernel_rfl
theorem uKS:(Tryd.prog.underlying 26).map (·.isRow)=some true:=by kernel_rfl
theorem iKS:(Tryd.prog.info? 26).map (·.size)=some 2:=by kernel_rfl
theorem zKS:∀ w:World,(zeroValue 26).run Tryd.prog w=.ok (.agg #[.slice none 0 0,.slice none 0 0]) w:=fun _=>by kernel_rfl
theorem idx20 (g j:Nat) (hj:j<20) (w:World):(Instr.indexAt 24 (.slice (some ⟨g,0,none⟩) 20 20) (.int .i64 j)).run Tryd.prog w=.ok (.pointer (some ⟨g,j,none⟩)) w:=by
 have h1:¬ (j:Int)<0:=by omega
 have h2:(j:Int)<20:=by omega
 go_simp
theorem one2 (a b:Value) (ha:a.oneCell'=true) (hb:b.oneCell'=true):(#[a,b]:Array Value).all (·.oneCell')=true:=
 Go.all_oneCell_toArray (cs:=[a,b]) fun v hv=>by
  rcases List.mem_cons.1 hv with rfl|hv
  ·exact ha
  ·rcases List.mem_cons.1 hv with rfl|hv
   ·exact hb
   ·cases hv
def pkL (P N:Nat) [NeZero P] (k:Bs) (nb:Nat):List (List UInt8):=(List.range 20).map fun i=>(pkB P N k nb i).toList
def SetR (P N:Nat) [NeZero P] (w:World) (k:Bs) (nb:Nat) (e:Value) (w':World):Prop:=Below w.heap.size w w'∧∃ r g C,e=.tuple #[.agg #[.slice (some ⟨r,0,none⟩) 8 8,.slice (some ⟨g,0,none⟩) 20 20],.int .i64 0]∧Row w' g C∧C.length=20∧∀ i,i<20→∃ v,C[i]? = some v∧El 33 w' v (pkB P N k nb i)
theorem copy_cut {P:Program} (w:World) (dT sT ty elem:TypeId) (b dLen dCap:Nat) (t:ByteArray) (hu:P.underlying dT=some (.slice elem)) (hz:∀ w,(Go.sizeOf elem).run P w=.ok 1 w)
 (hc:∀ j,j<dLen→(w.cell? ⟨b,0+j,none⟩).isSome=true) (hf:∀ j,j<dLen→w.frozen? ⟨b,0+j,none⟩=false) :
 (Builtin.copy_ #[dT,sT] ty #[.slice (some ⟨b,0,none⟩) dLen dCap,.string t]).run P w=.ok (goInt (Nat.min t.size dLen)) (w.setCells b 0 ((t.data.toList.take dLen).map fun x=>Value.int .u8 (x.toNat:Int))):=by
 by_cases hle:t.size≤dLen
 ·rw[run_copy_string w dT sT ty elem b 0 dLen dCap t hu hz hle (fun j hj=>hc j (by omega)) (fun j hj=>hf j (by omega)),show Nat.min t.size dLen=t.size from Nat.min_eq_left hle,List.take_of_length_le (by rw[← Lib.size_eq];exact hle)]
 ·have hmin:Nat.min t.size dLen=dLen:=Nat.min_eq_right (by omega)
  have hl:((t.data.toList.take dLen).map fun x=>Value.int .u8 (x.toNat:Int)).length=dLen:=by rw[List.length_map,List.length_take,← Lib.size_eq];omega
  have hst:=run_storeCells_cells (P:=P) b 0 ((t.data.toList.take dLen).map fun x=>Value.int .u8 (x.toNat:Int)) 0 w (by rw[hl];simpa using hc) (by rw[hl];simpa using hf) (by
   intro v hv
   obtain ⟨x,_,rfl⟩:=List.mem_map.1 hv
   rfl)
  rw[hmin]
  simp[Builtin.copy_,run_underlying hu,Builtin.lenOf,Builtin.firstCells,hz,hmin]
  rw[List.map_take] at hst
  rw[hst]
  rfl
def padB (s:ByteArray):Bs:=(s.data.toList.take 32++List.replicate (32-s.data.toList.length) 0).toArray
theorem padB_size (s:ByteArray):(padB s).size=32:=by
 unfold padB
 rw[List.size_toArray,List.length_append,List.length_take,List.length_replicate]
 omega
theorem padB_at (s:ByteArray) (j:Nat) (hj:j<32):(padB s)[j]! = (s.data.toList.take 32++List.replicate (32-s.data.toList.length) 0)[j]'(by rw[List.length_append,List.length_take,List.length_replicate];omega):=by
 rw[getElem!_pos (padB s) j (by rw[padB_size];exact hj)]
 rfl
theorem seed_c (s:ByteArray) (w:World):∃ W1 W2:World,
 (Instr.makeSlice 23 (.int .i64 32) (.int .i64 32)).run Tryd.prog w=.ok (.slice (some ⟨w.heap.size,0,none⟩) 32 32) W1 ∧
 (Builtin.copy_ #[23,9] 3 #[.slice (some ⟨w.heap.size,0,none⟩) 32 32,.string s]).run Tryd.prog W1=.ok (goInt (Nat.min s.size 32)) W2 ∧
 Below w.heap.size w W2∧SP.PartOk W2 (.slice (some ⟨w.heap.size,0,none⟩) 32 32) (padB s).toList:=by
 have hmk:=run_make_row' (P:=Tryd.prog) 23 5 (.int .u8 0) 1 SP.slice22 SP.info5 rfl .i64 .i64 32 (by omega) (by omega) w
 have hH0:Holds encB (w.alloc (.cells (madeCells #[.int .u8 0] 32) 5)) w.heap.size 0 (Array.replicate 32 0):=SP.Holds.made (enc:=encB) w 5 32 0
 have hcp:=copy_cut (P:=Tryd.prog) (w.alloc (.cells (madeCells #[.int .u8 0] 32) 5)) 23 9 3 5 w.heap.size 32 32 s SP.slice22 SP.size5
  (fun j hj=>by rw[(hH0 j (by rw[Array.size_replicate];omega)).1];rfl) (fun j hj=>(hH0 j (by rw[Array.size_replicate];omega)).2)
 refine ⟨_,_,hmk,hcp,RG.below_setCells (Nat.le_refl _) _ _ _ (below1 w _),some ⟨w.heap.size,0,none⟩,w.heap.size,0,32,padB s,by rw[padB_size],rfl,by rw[padB_size];omega,by rw[padB_size];omega,Or.inr ⟨rfl,?_⟩⟩
 refine SP.Holds.setCells (o:=0) (p:=0) hH0 _ (by rw[padB_size,Array.size_replicate]) (by rw[List.length_map,List.length_take,Array.size_replicate];omega) (fun j hj=>?_) (fun j hj hout=>?_)
 ·rw[List.length_map] at hj
  have hj':=hj
  rw[List.length_take] at hj'
  rw[Nat.zero_add,padB_at s j (by omega),List.getElem_map,List.getElem_append_left hj]
  rfl
 ·rw[Array.size_replicate] at hj
  rw[List.length_map] at hout
  have ho:(s.data.toList.take 32).length≤j:=by omega
  rw[padB_at s j hj,SP.rep_at 32 j hj,List.getElem_append_right ho,List.getElem_replicate]
theorem shl1 (j:Nat) (hj:j<20):IntKind.u64.wrap ((2:Int)^j)=((2^j:Nat):Int):=by
 have:j=0∨j=1∨j=2∨j=3∨j=4∨j=5∨j=6∨j=7∨j=8∨j=9∨j=10∨j=11∨j=12∨j=13∨j=14∨j=15∨j=16∨j=17∨j=18∨j=19:=by omega
 rcases this with rfl|rfl|rfl|rfl|rfl|rfl|rfl|rfl|rfl|rfl|rfl|rfl|rfl|rfl|rfl|rfl|rfl|rfl|rfl|rfl<;>rfl
structure Kt (w W:World) (g b:Nat) (r:Nat) (C:List Value) (S:Nat→Bs):Prop where
 bl:Below w.heap.size w W
 row:Row W g C
 len:C.length=20
 el:∀ i,i<20→∃ v,C[i]? = some v∧El 33 W v (S i)
 ks:Row W b [.slice (some ⟨r,0,none⟩) 8 8,.slice (some ⟨g,0,none⟩) 20 20]
theorem Kt.below {w W W':World} {g b r:Nat} {C:List Value} {S:Nat→Bs} (h:Kt w W g b r C S) (hb:Below W.heap.size W W'):Kt w W' g b r C S:=
 ⟨h.bl.trans (hb.mono h.bl.size),h.row.below hb,h.len,fun i hi=>by
  obtain ⟨v,h1,h2⟩:=h.el i hi
  exact ⟨v,h1,el_bel h2 hb⟩,h.ks.below hb⟩
theorem fld:∃ (P:Nat) (_:NeZero P),Fld P:=by
 obtain ⟨P,hz,hP,hc⟩:=EC.cur
 have h0:P=Go.Proofs.YtgdfkblfggnnfaaDoor.p0:=by rw[hP];decide +kernel
 have hg:=gap0
 have h2:2≤Go.Proofs.YtgdfkblfggnnfaaDoor.p0%18446744073709551616:=by decide +kernel
 have h4:Go.Proofs.YtgdfkblfggnnfaaDoor.p0/4%18446744073709551616<18446744073709551615:=by decide +kernel
 have h3:Go.Proofs.YtgdfkblfggnnfaaDoor.p0%4=3:=by decide +kernel
 have h7:7<Go.Proofs.YtgdfkblfggnnfaaDoor.p0:=by decide +kernel
 rw[← h0] at hg h2 h4 h3 h7
 exact ⟨P,hz,⟨hg,hc,h2,h4,h3,h7⟩⟩
end
/-
  THE ROW OF 'KeysTrue' round its walk: a text, two numbers; a table that the program lays; and the tied card.
-/
namespace keysTrue
open Go.ChangeShapes Go.WideShapes Go.ChangeAt Go.RowKit
open Go.ChangeMaps (open_string shut_string)
theorem own:ownKnob Tryd.prog.godebug=none:=by kernel_rfl
theorem gTab : Tryd.prog.globalNamed "math/bits.deBruijn64tab" = some 0 := by kernel_rfl
theorem tTab:(Tryd.prog.globals[0]?).map (·.type)=some 88:=by kernel_rfl
theorem uTab:Tryd.prog.underlying 88=some (.array 64 5):=by kernel_rfl
theorem u5:Tryd.prog.underlying 5=some (.int .u8):=by kernel_rfl
theorem c5:Tryd.prog.cellsOf 5=1:=by kernel_rfl
theorem cTab:Tryd.prog.cellsOf 88=64:=by kernel_rfl
theorem door_met (os:Os) (args:Array Value):laidMetH Tryd.prog Rows.keysTrueRow.laid ((World.doorLaid Tryd.prog 14 os).forCall (fun _ _=>0) ⟨#[],args,[]⟩).memory:=
 laidMetH_of_parts3 (fuel:=8) (laidMet_of_run' 8 (by kernel_rfl) (by kernel_rfl)) (by kernel_rfl) (by kernel_rfl)
def zs:List Int:=Lib.deBruijn64tab.map fun n:Nat=>(n:Int)
theorem laid_is : (Rows.keysTrueRow.laid : List (String × DataW Unit)) = [("math/bits.deBruijn64tab", Lib.tabData .u8 zs)] := by kernel_rfl
theorem of_laid {W:World} (h:laidMetH Tryd.prog Rows.keysTrueRow.laid W):TabX W:=by
 rw[MakeChecks.laidMetH_plain _ _ _ (by kernel_rfl),laid_is] at h
 have hT:=Lib.tabIs_of_head gTab tTab uTab u5 c5 cTab h
 intro i hi
 have hl:i<zs.length:=by show i<(Lib.deBruijn64tab.map _).length;rw[List.length_map];exact hi
 rw[hT.cell gTab i hl]
 congr 2
 unfold zs
 rw[List.getD_eq_getElem?_getD,List.getElem?_map,List.getD_eq_getElem?_getD]
 cases Lib.deBruijn64tab[i]? <;> rfl
theorem ordT:Ord Go.Proofs.YtgdfkblfggnnfaaDoor.p1:=⟨gap1,refP1,by decide +kernel,by decide +kernel⟩
end keysTrue
section
theorem keysTrue_holds:Rows.KeysTrueCardSaid:=keysTrue.card_holds
#print axioms keysTrue_holds
end
end Go.Proofs.YtgdfkblfggnnfaaDoor
