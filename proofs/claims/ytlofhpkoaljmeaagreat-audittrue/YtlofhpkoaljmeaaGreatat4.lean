import Derived.Deep.LoopGhost
import Derived.Deep.RegionHeld3
import Derived.Lib.LazyBuf
import Derived.RangeFuncNested
import Derived.RangeFuncBound
import Derived.RangeFuncCalls
import Derived.RangeFuncLeaves
import Derived.Shelf.Abstract
import Derived.Shelf.RegionOpen
import Derived.WalkKit
import Derived.OwnWalkIn
import Derived.TacticsInMore
import Derived.LoopNIn
import Derived.LoopIn
import Derived.Deep.RegionWith
import Derived.Deep.CutRange
import Derived.Deep.DeepCutAuto
import Derived.Deep.OwnRows
import Derived.Great.BuildSlice
import Derived.Laws.AppendOwn
import Derived.Laws.IdiomCopy
import Derived.Lib.AppendZeros
import Derived.Test.YtlofhpkoaljmeaaGreatat3
set_option linter.unusedVariables false
set_option linter.constructorNameAsVariable false
set_option linter.unusedSimpArgs false
set_option maxRecDepth 1000000
set_option maxHeartbeats 4000000
namespace Go.Proofs.YtlofhpkoaljmeaaGreat
section
open Go.RowKit Go.Sort
variable {P:Nat} [NeZero P] {N:Nat}
def ArgsPts (w:World) (q:Option Addr) (n:Nat) (L:Nat→Bs):Prop:=0<n→∃ k,q=some ⟨k,0,none⟩∧k<w.heap.size∧∀ j,j<n→∃ v,w.cell? ⟨k,j,none⟩=some v∧Arg33 w v (L j)
def PtsR (P:Nat) [NeZero P] (w:World) (n:Nat) (L:Nat→Bs) (e:Value) (w':World):Prop:=
 (∃ k,w.heap.size≤k∧k<w'.heap.size∧e=.tuple #[.slice (some ⟨k,0,none⟩) n n,.int .i64 0]∧∀ j,j<n→∃ p,rd P (L j)=some p∧w'.rangeAt k (8*j) (ws p.1++ws p.2)) ∨
 ((∃ j,j<n∧rd P (L j)=none)∧e=.tuple #[.slice none 0 0,.int .i64 4])
theorem Pts_c (F:Fld P) (n cap:Nat) (hn:n≤512) (q:Option Addr) (L:Nat→Bs) (w:World) (hA:ArgsPts w q n L):Calls Tryz.prog 111 #[.slice q n cap] w (Ret fun e w'=>Below w.heap.size w w'∧PtsR P w n L e w'):=by
 obtain ⟨C,h6,hg⟩:=mk112 n hn
 obtain ⟨i,-⟩:∃ i:Nat,i=0:=⟨_,rfl⟩
 obtain ⟨d,-⟩:∃ i:Nat,i=0:=⟨_,rfl⟩
 obtain ⟨m,-⟩:∃ i:Nat,i=0:=⟨_,rfl⟩
 obtain ⟨v,-⟩:∃ v:Value,v=.bool true:=⟨_,rfl⟩
 obtain ⟨x,-⟩:∃ x:Fin P,x=0:=⟨_,rfl⟩
 obtain ⟨y,-⟩:∃ x:Fin P,x=0:=⟨_,rfl⟩
 obtain ⟨I,-⟩:∃ c:List Value,c=C:=⟨_,rfl⟩
 go_enter Tryz.func111,Tryz.ntmps111
 refine RG.var1 (v0:=.slice q n cap) (n:=32) kR kR kR ?_
 intro a0 h3 f0
 have ha:=RG.St.begin w
 have M0:RG.M w w.heap.size [] 32 [] [] [(0,(.v (.slice q n cap)))] a0 _:=⟨ha,h3,⟨f0,trivial⟩⟩
 repeat refine wp_seq ?_
 refine M0.U [.x (.slice none 0 0),.x (.int .i64 0)] [0,2,3] ⟨RG.st,RG.st,trivial⟩ ?_
 intro a1 w1 M1
 repeat refine wp_seq ?_
 refine M1.t [.x 9 [] (.slice q n cap),.x 10 [(9,0)] (.int .i64 n),⟨some 11,[(10,1)],(.s 0 n n),.make 0⟩,.s 4 [(11,2)] (.s 0 n n)] [(2,C)] [] [C] [(0,(.v (.slice q n cap))),(2,(.v (.slice none 0 0))),(3,(.v (.int .i64 0))),(4,(.s 0 n n))] ⟨RG.st,RG.cert_one rfl 9 (.v (.slice q n cap)) (.int .i64 n) rfl RG.sx (fun a w=>kR) (fun μ w=>kR),RG.cert_makes 0 rfl _ rfl 138 131 10 10 n rfl rfl RG.sx RG.sx (hg),RG.st,trivial⟩ ?_
 intro j2 a2 w2 M2
 repeat refine wp_seq ?_
 refine M2.U [.x (.slice q n cap),.x (.int .i64 n),.x (.int .i64 0)] [2,3,4,12,13,14] ⟨RG.st,RG.cert_one rfl 12 (.v (.slice q n cap)) (.int .i64 n) rfl RG.sx (fun a w=>kR) (fun μ w=>kR),RG.st,trivial⟩ ?_
 intro U w3 G
 have hl:U.tmps[2]? = some (.slice none 0 0):=G.at (s:=(.v (.slice none 0 0)))
 have hm:U.tmps[3]? = some (.int .i64 0):=G.at (s:=(.v (.int .i64 0)))
 have Z:U.tmps[4]? = some (.slice (some ⟨j2,0,none⟩) n n):=G.at (s:=(.s 0 n n))
 have S:U.tmps[12]? = some (.slice q n cap):=G.at (s:=(.v (.slice q n cap)))
 have K:U.tmps[13]? = some (.int .i64 n):=G.at (s:=(.v (.int .i64 n)))
 have N:U.tmps[14]? = some (.int .i64 0):=G.at (s:=(.v (.int .i64 0)))
 repeat refine wp_seq ?_
 refine wp_block ?_
 refine wp_loop_ghost (fun m a wr=>∃ (i:Nat) (C:List Value),i+m=n∧(∀ j,j<i→(rd P (L j)).isSome=true)∧Rows 8 n (fun j=>match rd P (L j) with|some p=>ws p.1++ws p.2|none=>[]) i C∧RG.Sl a 32∧a.tmps[4]? = some (.slice (some ⟨j2,0,none⟩) n n)∧a.tmps[12]? = some (.slice q n cap)∧a.tmps[13]? = some (.int .i64 n)∧a.tmps[14]? = some (.int .i64 i)∧RG.St w w.heap.size [] [C] [j2] wr) n ⟨0,C,oM,fun j hj=>oM,⟨h6,fun j r hj=>oM⟩,G.sl,Z,S,K,N,G.st⟩ ?_
 intro m' a wr
 rintro ⟨i,C,k8,E,hR,sl,p4,D,J,M,B⟩
 generalize j2=R at p4 B
 by_cases z:i<n
 ·obtain ⟨d,h0,X,hc⟩:=hA oM
  rw[h0] at D
  obtain ⟨v,hv,H⟩:=hc i z
  have f:w.cell? ⟨d,0+i,none⟩=some v:=by rw[Nat.zero_add];exact hv
  cases k:rd P (L i) with
  | some pp =>
   obtain ⟨x,y⟩:=pp
   have Q:∀ w',RG.BelX w.heap.size [] w w'→Calls Tryz.prog 156 #[v] w' (Ret fun e T=>Below w'.heap.size w' T∧e=.tuple #[pv x y,.bool true]):=fun w' hb=>by
    have:=readPoint_c F v (L i) w' (H.below hb.below)
    rw[k] at this
    exact this
   have W:=hR.len
   have l:0+8*i+(ws x++ws y).length≤C.length:=by rw[W];show 0+8*i+8≤8*n;omega
   obtain ⟨I,g⟩:∃ c,RG.rep C (0+8*i) (ws x++ws y)=c:=⟨_,rfl⟩
   have h7:=g ▸ RG.rep_at l
   have h1:I.length=C.length:=g ▸ RG.rep_length l
   have h9:Rows 8 n (fun j=>match rd P (L j) with|some p=>ws p.1++ws p.2|none=>[]) (i+1) I:=by
    have:=hR.next z (by show List.length (match rd P (L i) with|some p=>_|none=>_)=_;rw[k];rfl)
    rw[← g]
    have e:(fun j=>match rd P (L j) with|some p=>ws p.1++ws p.2|none=>[]) i=(ws x++ws y):=by show (match rd P (L i) with|some p=>_|none=>_)=_;rw[k]
    rw[← e]
    exact this
   have hk:RG.M w w.heap.size [] 32 [C] [R] [(4,(.s 0 n n)),(12,(.v (.slice (some ⟨d,0,none⟩) n cap))),(13,(.v (.int .i64 n))),(14,(.v (.int .i64 i)))] a _:=⟨B,sl,⟨p4,D,J,M,trivial⟩⟩
   repeat refine wp_seq ?_
   refine hk.U [.x (.bool true)] [4,12,13,14,15] ⟨RG.cert_bin rfl .lss 3 3 14 13 (.int .i64 i) (.int .i64 n) (.bool true) rfl rfl RG.sx RG.sx (fun w=>kR) (lssn_t z),trivial⟩ ?_
   intro hp k1 V
   repeat refine wp_seq ?_
   refine wp_cond_true V.ev ?_
   refine wp_skip ?_
   refine wp_seq ?_
   refine wp_block ?_
   repeat refine wp_seq ?_
   refine V.U [.x (.int .i64 i),.x (.pointer (some ⟨d,(0+i),none⟩)),.x v,.x (.int .i64 i),.x v] [4,5,6,12,13,14] ⟨RG.st,RG.cert_idx rfl 27 12 14 rfl (.v (.slice (some ⟨d,0,none⟩) n cap)) (.int .i64 i) RG.sx RG.sx (fun μ w=>at46 _ 0 _ _ i z w),RG.cert_load1B rfl d (0+i) X List.not_mem_nil 23 17 rfl v rfl RG.sx f u23,RG.st,RG.st,trivial⟩ ?_
   intro k9 hu h8
   repeat refine wp_seq ?_
   refine h8.T [.x v,.c (.tuple #[(pv x y),(.bool true)]),.x (.tuple #[(pv x y),(.bool true)]),.x (pv x y),.x (.bool true),.m 1,.u 1,.x (.bool true)] [(5,(RG.z 8))] [(1,6,(ws x++(ws y)))] [C,(ws x++(ws y))] [4,5,7,8,12,13,14] ⟨RG.st,RG.cert_callB1 rfl 156 20 v (.tuple #[(pv x y),(.bool true)]) rfl (fun a w=>kR) RG.sx Q,RG.st,RG.st,RG.st,RG.mk 1 131,RG.pt i109,RG.st,trivial⟩ ?_
   intro k0 k6 hy he
   repeat refine wp_seq ?_
   refine he.U [.x (.bool true),.x (.bool false)] [4,5,7,12,13,14,25] ⟨RG.st,RG.st,trivial⟩ ?_
   intro k7 ka Y
   repeat refine wp_seq ?_
   refine wp_cond_false Y.ev ?_
   refine wp_skip ?_
   repeat refine wp_seq ?_
   refine Y.tx [.s 26 [] (.s 0 n n),.x 27 [] (.int .i64 i),.x 28 [] (pv x y),.s 29 [(26,0),(27,1)] (.p 0 (0+8*i)),.u [(29,3),(28,2)] 0] [] [(0,4,I)] [I,(ws x++(ws y))] [(4,(.s 0 n n)),(12,(.v (.slice (some ⟨d,0,none⟩) n cap))),(13,(.v (.int .i64 n))),(14,(.v (.int .i64 i)))] kR (congrArg (fun n=>[n]) h1) ⟨RG.st,RG.st,RG.ld u109 i109,RG.cert_idx rfl 138 26 27 rfl (.s 0 n n) (.int .i64 i) RG.sx RG.sx (fun μ w=>at112 _ 0 _ _ i z w),RG.cert_putAt 0 (0+8*i) rfl _ rfl 131 (.tmp 29) (.tmp 28) (ws x++ws y) rfl rfl RG.sx RG.sx l h7 i109 rfl,trivial⟩ ?_
   intro hq k3 h4
   repeat refine wp_seq ?_
   refine h4.U [.x (.int .i64 ((i+1:Nat):Int)),.x (.int .i64 ((i+1:Nat):Int))] [4,12,13,14] ⟨RG.cert_binc rfl .add 3 3 14 (.int .i64 i) (.int .i64 1) (.int .i64 ((i+1:Nat):Int)) rfl rfl RG.sx (fun w=>kR) (addn i 1 oM oM),RG.st,trivial⟩ ?_
   intro A k2 b
   have O:A.tmps[4]? = some (.slice (some ⟨R,0,none⟩) n n):=b.at (s:=(.s 0 n n))
   have o:A.tmps[12]? = some (.slice (some ⟨d,0,none⟩) n cap):=b.at (s:=(.v (.slice (some ⟨d,0,none⟩) n cap)))
   have t:A.tmps[13]? = some (.int .i64 n):=b.at (s:=(.v (.int .i64 n)))
   have u:A.tmps[14]? = some (.int .i64 ((i+1:Nat):Int)):=b.at (s:=(.v (.int .i64 ((i+1:Nat):Int))))
   show ∃ n',_
   exact ⟨m'-1,oM,i+1,I,oM,fun j hj=>(by
    by_cases h2:j=i
    ·rw[h2,k];rfl
    ·exact E j oM),h9,b.sl,O,(by rw[h0];exact o),t,u,RG.St.init (cs:=[I]) (ks:=[R]) b.st⟩
  | none =>
   have Q:∀ w',RG.BelX w.heap.size [] w w'→Calls Tryz.prog 156 #[v] w' (Ret fun e T=>Below w'.heap.size w' T∧e=.tuple #[pv (0:Fin P) 0,.bool false]):=fun w' hb=>by
    have:=readPoint_c F v (L i) w' (H.below hb.below)
    rw[k] at this
    exact this
   have o:RG.M w w.heap.size [] 32 [C] [R] [(4,(.s 0 n n)),(12,(.v (.slice (some ⟨d,0,none⟩) n cap))),(13,(.v (.int .i64 n))),(14,(.v (.int .i64 i)))] a _:=⟨B,sl,⟨p4,D,J,M,trivial⟩⟩
   repeat refine wp_seq ?_
   refine o.U [.x (.bool true)] [12,14,15] ⟨RG.cert_bin rfl .lss 3 3 14 13 (.int .i64 i) (.int .i64 n) (.bool true) rfl rfl RG.sx RG.sx (fun w=>kR) (lssn_t z),trivial⟩ ?_
   intro hs V g
   repeat refine wp_seq ?_
   refine wp_cond_true g.ev ?_
   refine wp_skip ?_
   refine wp_seq ?_
   refine wp_block ?_
   repeat refine wp_seq ?_
   refine g.U [.x (.int .i64 i),.x (.pointer (some ⟨d,(0+i),none⟩)),.x v,.x (.int .i64 i),.x v] [6] ⟨RG.st,RG.cert_idx rfl 27 12 14 rfl (.v (.slice (some ⟨d,0,none⟩) n cap)) (.int .i64 i) RG.sx RG.sx (fun μ w=>at46 _ 0 _ _ i z w),RG.cert_load1B rfl d (0+i) X List.not_mem_nil 23 17 rfl v rfl RG.sx f u23,RG.st,RG.st,trivial⟩ ?_
   intro hw k5 u
   repeat refine wp_seq ?_
   refine u.T [.x v,.c (.tuple #[(pv (0:Fin P) (0:Fin P)),(.bool false)]),.x (.tuple #[(pv (0:Fin P) (0:Fin P)),(.bool false)]),.x (pv (0:Fin P) (0:Fin P)),.x (.bool false),.m 1,.u 1,.x (.bool false)] [(5,(RG.z 8))] [(1,6,(ws (0:Fin P)++(ws (0:Fin P))))] [C,(ws (0:Fin P)++(ws (0:Fin P)))] [8] ⟨RG.st,RG.cert_callB1 rfl 156 20 v (.tuple #[(pv (0:Fin P) (0:Fin P)),(.bool false)]) rfl (fun a w=>kR) RG.sx Q,RG.st,RG.st,RG.st,RG.mk 1 131,RG.pt i109,RG.st,trivial⟩ ?_
   intro hz Y ht t
   repeat refine wp_seq ?_
   refine t.U [.x (.bool false),.x (.bool true)] [25] ⟨RG.st,RG.st,trivial⟩ ?_
   intro k4 A l
   repeat refine wp_seq ?_
   refine wp_cond_true l.ev ?_
   repeat refine wp_seq ?_
   refine l.U [.x (.slice none 0 0),.x (.int .i64 4)] [2,3] ⟨RG.st,RG.st,trivial⟩ ?_
   intro W O b
   refine wp_ret ?_
   refine bodyPost_ret (v:=.tuple #[.slice none 0 0,.int .i64 4]) (RG.results_tt 2 3 rfl _ _ (b.at (s:=(.v (.slice none 0 0)))) (b.at (s:=(.v (.int .i64 4))))) b.sl.defers ?_
   exact ⟨_,rfl,b.st.bel.below,Or.inr ⟨⟨i,z,k⟩,rfl⟩⟩
 ·have t:i=n:=oM
  have g:RG.M w w.heap.size [] 32 [C] [R] [(4,(.s 0 n n)),(12,(.v (.slice q n cap))),(13,(.v (.int .i64 n))),(14,(.v (.int .i64 i)))] a _:=⟨B,sl,⟨p4,D,J,M,trivial⟩⟩
  repeat refine wp_seq ?_
  refine g.U [.x (.bool false)] [4,15] ⟨RG.cert_bin rfl .lss 3 3 14 13 (.int .i64 i) (.int .i64 n) (.bool false) rfl rfl RG.sx RG.sx (fun w=>kR) (lssn_f z),trivial⟩ ?_
  intro u H b
  repeat refine wp_seq ?_
  refine wp_cond_false b.ev ?_
  refine wp_exit ?_
  dsimp only[Exit.then,Exit.inBlock]
  rw[if_pos rfl]
  repeat refine wp_seq ?_
  refine b.U [.s (.s 0 n n),.s (.s 0 n n),.x (.int .i64 0)] [2,3] ⟨RG.st,RG.st,RG.st,trivial⟩ ?_
  intro o O k
  refine wp_ret ?_
  refine bodyPost_ret (v:=.tuple #[.slice (some ⟨R,0,none⟩) n n,.int .i64 0]) (RG.results_tt 2 3 rfl _ _ (k.at (s:=(.s 0 n n))) (k.at (s:=(.v (.int .i64 0))))) k.sl.defers ?_
  refine ⟨_,rfl,k.st.bel.below,Or.inl ⟨R,?_,?_,rfl,fun j hj=>?_⟩⟩
  ·exact (k.st.has 0 C rfl).2.2.2.elim id (fun h=>absurd h List.not_mem_nil)
  ·exact (k.st.has 0 C rfl).2.2.1
  ·obtain ⟨pp,f⟩:=Option.isSome_iff_exists.1 (E j oM)
   refine ⟨pp,f,RG.range_sub (k.st.has 0 C rfl).1 (fun r A=>?_)⟩
   have l:=hR.row j r oM A
   rw[l]
   show (match rd P (L j) with|some p=>_|none=>_)[r]? = _
   rw[f]
def ArgsScs (w:World) (q:Option Addr) (n:Nat) (L:Nat→Bs):Prop:=0<n→∃ k,q=some ⟨k,0,none⟩∧k<w.heap.size∧∀ j,j<n→∃ v,w.cell? ⟨k,j,none⟩=some v∧Arg w v (L j)
def ScsR (N:Nat) (w:World) (n:Nat) (L:Nat→Bs) (e:Value) (w':World):Prop:=
 (∃ k,w.heap.size≤k∧k<w'.heap.size∧e=.tuple #[.slice (some ⟨k,0,none⟩) n n,.int .i64 0]∧∀ j,j<n→∃ p,rq N (L j)=some p∧w'.rangeAt k (4*j) (wn p)) ∨
 ((∃ j,j<n∧rq N (L j)=none)∧e=.tuple #[.slice none 0 0,.int .i64 3])
theorem Scs_c {N:Nat} (hG:Gap 4624529908474429119 4994812053365940164 1 N) (n cap:Nat) (hn:n≤512) (q:Option Addr) (L:Nat→Bs) (w:World) (hA:ArgsScs w q n L):Calls Tryz.prog 65 #[.slice q n cap] w (Ret fun e w'=>Below w.heap.size w w'∧ScsR N w n L e w'):=by
 obtain ⟨C,h4,he⟩:=mk82 n hn
 obtain ⟨i,-⟩:∃ i:Nat,i=0:=⟨_,rfl⟩
 obtain ⟨f,-⟩:∃ i:Nat,i=0:=⟨_,rfl⟩
 obtain ⟨m,-⟩:∃ i:Nat,i=0:=⟨_,rfl⟩
 obtain ⟨v,-⟩:∃ v:Value,v=.bool true:=⟨_,rfl⟩
 obtain ⟨G,-⟩:∃ c:List Value,c=C:=⟨_,rfl⟩
 go_enter Tryz.func65,Tryz.ntmps65
 refine RG.var1 (v0:=.slice q n cap) (n:=33) kR kR kR ?_
 intro a0 h2 f0
 have h9:=RG.St.begin w
 have M0:RG.M w w.heap.size [] 33 [] [] [(0,(.v (.slice q n cap)))] a0 _:=⟨h9,h2,⟨f0,trivial⟩⟩
 repeat refine wp_seq ?_
 refine M0.U [.x (.slice none 0 0),.x (.int .i64 0)] [0,2,3] ⟨RG.st,RG.st,trivial⟩ ?_
 intro a1 w1 M1
 repeat refine wp_seq ?_
 refine M1.t [.x 9 [] (.slice q n cap),.x 10 [(9,0)] (.int .i64 n),⟨some 11,[(10,1)],(.s 0 n n),.make 0⟩,.s 4 [(11,2)] (.s 0 n n)] [(2,C)] [] [C] [(0,(.v (.slice q n cap))),(2,(.v (.slice none 0 0))),(3,(.v (.int .i64 0))),(4,(.s 0 n n))] ⟨RG.st,RG.cert_one rfl 9 (.v (.slice q n cap)) (.int .i64 n) rfl RG.sx (fun a w=>kR) (fun μ w=>kR),RG.cert_makes 0 rfl _ rfl 127 42 10 10 n rfl rfl RG.sx RG.sx (he),RG.st,trivial⟩ ?_
 intro Z a2 w2 M2
 repeat refine wp_seq ?_
 refine M2.U [.x (.slice q n cap),.x (.int .i64 n),.x (.int .i64 0)] [2,3,4,12,13,14] ⟨RG.st,RG.cert_one rfl 12 (.v (.slice q n cap)) (.int .i64 n) rfl RG.sx (fun a w=>kR) (fun μ w=>kR),RG.st,trivial⟩ ?_
 intro S w3 E
 have hk:S.tmps[2]? = some (.slice none 0 0):=E.at (s:=(.v (.slice none 0 0)))
 have hl:S.tmps[3]? = some (.int .i64 0):=E.at (s:=(.v (.int .i64 0)))
 have X:S.tmps[4]? = some (.slice (some ⟨Z,0,none⟩) n n):=E.at (s:=(.s 0 n n))
 have Q:S.tmps[12]? = some (.slice q n cap):=E.at (s:=(.v (.slice q n cap)))
 have I:S.tmps[13]? = some (.int .i64 n):=E.at (s:=(.v (.int .i64 n)))
 have K:S.tmps[14]? = some (.int .i64 0):=E.at (s:=(.v (.int .i64 0)))
 repeat refine wp_seq ?_
 refine wp_block ?_
 refine wp_loop_ghost (fun m a wr=>∃ (i:Nat) (C:List Value),i+m=n∧(∀ j,j<i→(rq N (L j)).isSome=true)∧Rows 4 n (fun j=>match rq N (L j) with|some k=>wn k|none=>[]) i C∧RG.Sl a 33∧a.tmps[4]? = some (.slice (some ⟨Z,0,none⟩) n n)∧a.tmps[12]? = some (.slice q n cap)∧a.tmps[13]? = some (.int .i64 n)∧a.tmps[14]? = some (.int .i64 i)∧RG.St w w.heap.size [] [C] [Z] wr) n ⟨0,C,oM,fun j hj=>oM,⟨h4,fun j r hj=>oM⟩,E.sl,X,Q,I,K,E.st⟩ ?_
 intro m' a wr
 rintro ⟨i,C,k7,D,hR,sl,p4,B,H,J,A⟩
 generalize Z=P at p4 A
 by_cases y:i<n
 ·obtain ⟨f,Y,V,hc⟩:=hA oM
  rw[Y] at B
  obtain ⟨v,hv,F⟩:=hc i y
  have g:w.cell? ⟨f,0+i,none⟩=some v:=by rw[Nat.zero_add];exact hv
  cases b:rq N (L i) with
  | some pp =>
   obtain ⟨m,rfl⟩:∃ m,m=pp:=⟨_,rfl⟩
   have O:∀ w',RG.BelX w.heap.size [] w w'→Calls Tryz.prog 29 #[gv1,v] w' (Ret fun e R=>Below w'.heap.size w' R∧e=.tuple #[nv m,.bool true]):=fun w' hb=>by
    have:=readQ_c hG v (L i) w' (F.below hb.below)
    rw[b] at this
    exact this
   have U:=hR.len
   have o:0+4*i+(wn m).length≤C.length:=by rw[U];show 0+4*i+4≤4*n;omega
   obtain ⟨G,l⟩:∃ c,RG.rep C (0+4*i) (wn m)=c:=⟨_,rfl⟩
   have h6:=l ▸ RG.rep_at o
   have h0:G.length=C.length:=l ▸ RG.rep_length o
   have h8:Rows 4 n (fun j=>match rq N (L j) with|some k=>wn k|none=>[]) (i+1) G:=by
    have:=hR.next y (by show List.length (match rq N (L i) with|some p=>_|none=>_)=_;rw[b];rfl)
    rw[← l]
    have e:(fun j=>match rq N (L j) with|some k=>wn k|none=>[]) i=(wn m):=by show (match rq N (L i) with|some p=>_|none=>_)=_;rw[b]
    rw[← e]
    exact this
   have hg:RG.M w w.heap.size [] 33 [C] [P] [(4,(.s 0 n n)),(12,(.v (.slice (some ⟨f,0,none⟩) n cap))),(13,(.v (.int .i64 n))),(14,(.v (.int .i64 i)))] a _:=⟨A,sl,⟨p4,B,H,J,trivial⟩⟩
   repeat refine wp_seq ?_
   refine hg.U [.x (.bool true)] [4,12,13,14,15] ⟨RG.cert_bin rfl .lss 3 3 14 13 (.int .i64 i) (.int .i64 n) (.bool true) rfl rfl RG.sx RG.sx (fun w=>kR) (lssn_t y),trivial⟩ ?_
   intro hm k0 T
   repeat refine wp_seq ?_
   refine wp_cond_true T.ev ?_
   refine wp_skip ?_
   refine wp_seq ?_
   refine wp_block ?_
   repeat refine wp_seq ?_
   refine T.U [.x (.int .i64 i),.x (.pointer (some ⟨f,(0+i),none⟩)),.x v,.x (.int .i64 i),.x v] [4,5,6,12,13,14] ⟨RG.st,RG.cert_idx rfl 27 12 14 rfl (.v (.slice (some ⟨f,0,none⟩) n cap)) (.int .i64 i) RG.sx RG.sx (fun μ w=>at46 _ 0 _ _ i y w),RG.cert_load1B rfl f (0+i) V List.not_mem_nil 23 17 rfl v rfl RG.sx g u23,RG.st,RG.st,trivial⟩ ?_
   intro k8 ht h7
   repeat refine wp_seq ?_
   refine h7.T [.c gv1,.x v,.c (.tuple #[(nv m),(.bool true)]),.x (.tuple #[(nv m),(.bool true)]),.x (nv m),.x (.bool true),.m 1,.u 1,.x (.bool true)] [(6,(RG.z 4))] [(1,7,(wn m))] [C,(wn m)] [4,5,7,8,12,13,14] ⟨RG.cl (Scalars_c),RG.st,RG.cert_callB2 rfl 29 20 21 gv1 v (.tuple #[(nv m),(.bool true)]) rfl (fun a w=>kR) RG.sx RG.sx O,RG.st,RG.st,RG.st,RG.mk 1 42,RG.pt i85,RG.st,trivial⟩ ?_
   intro hz k5 hw ha
   repeat refine wp_seq ?_
   refine ha.U [.x (.bool true),.x (.bool false)] [4,5,7,12,13,14,26] ⟨RG.st,RG.st,trivial⟩ ?_
   intro k6 k9 W
   repeat refine wp_seq ?_
   refine wp_cond_false W.ev ?_
   refine wp_skip ?_
   repeat refine wp_seq ?_
   refine W.tx [.s 27 [] (.s 0 n n),.x 28 [] (.int .i64 i),.x 29 [] (nv m),.s 30 [(27,0),(28,1)] (.p 0 (0+4*i)),.u [(30,3),(29,2)] 0] [] [(0,4,G)] [G,(wn m)] [(4,(.s 0 n n)),(12,(.v (.slice (some ⟨f,0,none⟩) n cap))),(13,(.v (.int .i64 n))),(14,(.v (.int .i64 i)))] kR (congrArg (fun n=>[n]) h0) ⟨RG.st,RG.st,RG.ld u85 i85,RG.cert_idx rfl 127 27 28 rfl (.s 0 n n) (.int .i64 i) RG.sx RG.sx (fun μ w=>at82 _ 0 _ _ i y w),RG.cert_putAt 0 (0+4*i) rfl _ rfl 42 (.tmp 30) (.tmp 29) (wn m) rfl rfl RG.sx RG.sx o h6 i85 rfl,trivial⟩ ?_
   intro hp k2 h3
   repeat refine wp_seq ?_
   refine h3.U [.x (.int .i64 ((i+1:Nat):Int)),.x (.int .i64 ((i+1:Nat):Int))] [4,12,13,14] ⟨RG.cert_binc rfl .add 3 3 14 (.int .i64 i) (.int .i64 1) (.int .i64 ((i+1:Nat):Int)) rfl rfl RG.sx (fun w=>kR) (addn i 1 oM oM),RG.st,trivial⟩ ?_
   intro z k1 d
   have M:z.tmps[4]? = some (.slice (some ⟨P,0,none⟩) n n):=d.at (s:=(.s 0 n n))
   have t:z.tmps[12]? = some (.slice (some ⟨f,0,none⟩) n cap):=d.at (s:=(.v (.slice (some ⟨f,0,none⟩) n cap)))
   have u:z.tmps[13]? = some (.int .i64 n):=d.at (s:=(.v (.int .i64 n)))
   have x:z.tmps[14]? = some (.int .i64 ((i+1:Nat):Int)):=d.at (s:=(.v (.int .i64 ((i+1:Nat):Int))))
   show ∃ n',_
   exact ⟨m'-1,oM,i+1,G,oM,fun j hj=>(by
    by_cases h1:j=i
    ·rw[h1,b];rfl
    ·exact D j oM),h8,d.sl,M,(by rw[Y];exact t),u,x,RG.St.init (cs:=[G]) (ks:=[P]) d.st⟩
  | none =>
   have O:∀ w',RG.BelX w.heap.size [] w w'→Calls Tryz.prog 29 #[gv1,v] w' (Ret fun e R=>Below w'.heap.size w' R∧e=.tuple #[nv 0,.bool false]):=fun w' hb=>by
    have:=readQ_c hG v (L i) w' (F.below hb.below)
    rw[b] at this
    exact this
   have t:RG.M w w.heap.size [] 33 [C] [P] [(4,(.s 0 n n)),(12,(.v (.slice (some ⟨f,0,none⟩) n cap))),(13,(.v (.int .i64 n))),(14,(.v (.int .i64 i)))] a _:=⟨A,sl,⟨p4,B,H,J,trivial⟩⟩
   repeat refine wp_seq ?_
   refine t.U [.x (.bool true)] [12,14,15] ⟨RG.cert_bin rfl .lss 3 3 14 13 (.int .i64 i) (.int .i64 n) (.bool true) rfl rfl RG.sx RG.sx (fun w=>kR) (lssn_t y),trivial⟩ ?_
   intro hq T l
   repeat refine wp_seq ?_
   refine wp_cond_true l.ev ?_
   refine wp_skip ?_
   refine wp_seq ?_
   refine wp_block ?_
   repeat refine wp_seq ?_
   refine l.U [.x (.int .i64 i),.x (.pointer (some ⟨f,(0+i),none⟩)),.x v,.x (.int .i64 i),.x v] [6] ⟨RG.st,RG.cert_idx rfl 27 12 14 rfl (.v (.slice (some ⟨f,0,none⟩) n cap)) (.int .i64 i) RG.sx RG.sx (fun μ w=>at46 _ 0 _ _ i y w),RG.cert_load1B rfl f (0+i) V List.not_mem_nil 23 17 rfl v rfl RG.sx g u23,RG.st,RG.st,trivial⟩ ?_
   intro hu k4 x
   repeat refine wp_seq ?_
   refine x.T [.c gv1,.x v,.c (.tuple #[(nv 0),(.bool false)]),.x (.tuple #[(nv 0),(.bool false)]),.x (nv 0),.x (.bool false),.m 1,.u 1,.x (.bool false)] [(6,(RG.z 4))] [(1,7,(wn 0))] [C,(wn 0)] [8] ⟨RG.cl (Scalars_c),RG.st,RG.cert_callB2 rfl 29 20 21 gv1 v (.tuple #[(nv 0),(.bool false)]) rfl (fun a w=>kR) RG.sx RG.sx O,RG.st,RG.st,RG.st,RG.mk 1 42,RG.pt i85,RG.st,trivial⟩ ?_
   intro hy W hs u
   repeat refine wp_seq ?_
   refine u.U [.x (.bool false),.x (.bool true)] [26] ⟨RG.st,RG.st,trivial⟩ ?_
   intro k3 z o
   repeat refine wp_seq ?_
   refine wp_cond_true o.ev ?_
   repeat refine wp_seq ?_
   refine o.U [.x (.slice none 0 0),.x (.int .i64 3)] [2,3] ⟨RG.st,RG.st,trivial⟩ ?_
   intro U M d
   refine wp_ret ?_
   refine bodyPost_ret (v:=.tuple #[.slice none 0 0,.int .i64 3]) (RG.results_tt 2 3 rfl _ _ (d.at (s:=(.v (.slice none 0 0)))) (d.at (s:=(.v (.int .i64 3))))) d.sl.defers ?_
   exact ⟨_,rfl,d.st.bel.below,Or.inr ⟨⟨i,y,b⟩,rfl⟩⟩
 ·have u:i=n:=oM
  have l:RG.M w w.heap.size [] 33 [C] [P] [(4,(.s 0 n n)),(12,(.v (.slice q n cap))),(13,(.v (.int .i64 n))),(14,(.v (.int .i64 i)))] a _:=⟨A,sl,⟨p4,B,H,J,trivial⟩⟩
  repeat refine wp_seq ?_
  refine l.U [.x (.bool false)] [4,15] ⟨RG.cert_bin rfl .lss 3 3 14 13 (.int .i64 i) (.int .i64 n) (.bool false) rfl rfl RG.sx RG.sx (fun w=>kR) (lssn_f y),trivial⟩ ?_
  intro x F d
  repeat refine wp_seq ?_
  refine wp_cond_false d.ev ?_
  refine wp_exit ?_
  dsimp only[Exit.then,Exit.inBlock]
  rw[if_pos rfl]
  repeat refine wp_seq ?_
  refine d.U [.s (.s 0 n n),.s (.s 0 n n),.x (.int .i64 0)] [2,3] ⟨RG.st,RG.st,RG.st,trivial⟩ ?_
  intro t M b
  refine wp_ret ?_
  refine bodyPost_ret (v:=.tuple #[.slice (some ⟨P,0,none⟩) n n,.int .i64 0]) (RG.results_tt 2 3 rfl _ _ (b.at (s:=(.s 0 n n))) (b.at (s:=(.v (.int .i64 0))))) b.sl.defers ?_
  refine ⟨_,rfl,b.st.bel.below,Or.inl ⟨P,?_,?_,rfl,fun j hj=>?_⟩⟩
  ·exact (b.st.has 0 C rfl).2.2.2.elim id (fun h=>absurd h List.not_mem_nil)
  ·exact (b.st.has 0 C rfl).2.2.1
  ·obtain ⟨pp,g⟩:=Option.isSome_iff_exists.1 (D j oM)
   refine ⟨pp,g,RG.range_sub (b.st.has 0 C rfl).1 (fun r z=>?_)⟩
   have o:=hR.row j r oM z
   rw[o]
   show (match rq N (L j) with|some p=>_|none=>_)[r]? = _
   rw[g]
end
section
open Go.RowKit Go.Sort Go.Deep
variable {P:Nat} [NeZero P] {N:Nat}
omit [NeZero P] in
theorem words2 (x y:Fin P):∃ a b c d p q r s:Nat,pv x y=.agg #[.int .u64 a,.int .u64 b,.int .u64 c,.int .u64 d,.int .u64 p,.int .u64 q,.int .u64 r,.int .u64 s]∧ws x++ws y=[.int .u64 a,.int .u64 b,.int .u64 c,.int .u64 d,.int .u64 p,.int .u64 q,.int .u64 r,.int .u64 s]:=
 ⟨_,_,_,_,_,_,_,_,rfl,rfl⟩
def OutE (c:Int) (e:Value):Prop:=e=.tuple #[.slice none 0 0,.int .i64 c]
def OutP (w:World) (T:Bs) (e:Value) (w':World):Prop:=∃ g cap,e=.tuple #[.slice (some ⟨g,0,none⟩) 33 cap,.int .i64 0]∧33≤cap∧w.heap.size≤g∧g<w'.heap.size∧Holds encB w' g 0 T
theorem gPoint_c (C:Fld P) (v:Value) (g:Bs) (w:World) (hv:Arg33 w v g):Calls Tryz.prog 103 #[v] w (Ret fun e w'=>Below w.heap.size w w'∧e=.bool (rd P g).isSome):=by
 have j:∃ (b b1 c1 c p1 k d s1:Nat),Calls Tryz.prog 156 #[v] w (Ret fun e w'=>Below w.heap.size w w'∧e=.tuple #[.agg #[.int .u64 b,.int .u64 b1,.int .u64 c1,.int .u64 c,.int .u64 p1,.int .u64 k,.int .u64 d,.int .u64 s1],.bool (rd P g).isSome]):=by
  have h:=readPoint_c C v g w hv
  cases f:rd P g with
  | none =>
   obtain ⟨b,b1,c1,c,p1,k,d,s1,i,-⟩:=words2 (0:Fin P) 0
   refine ⟨b,b1,c1,c,p1,k,d,s1,?_⟩
   rw[f] at h
   rw[← i]
   exact h
  | some p =>
   obtain ⟨b,b1,c1,c,p1,k,d,s1,i,-⟩:=words2 p.1 p.2
   refine ⟨b,b1,c1,c,p1,k,d,s1,?_⟩
   rw[f] at h
   rw[← i]
   exact h
 obtain ⟨b,b1,c1,c,p1,k,d,s1,j⟩:=j
 obtain ⟨q,n,cap,rfl,-⟩:=hv
 go_enter Tryz.func103,Tryz.ntmps103
 go_wp2_with fail
 refine j.mono ?_
 rintro e l ⟨v,rfl,f,rfl⟩
 have i:=mk1 (f)
 go_wp2
 go_ret
 exact ⟨_,rfl,i.alloc i.size _,rfl⟩
structure PS (w:World) (k:Nat) (a1 b1 c1 d1 p1 q1 r1 s1 a2 b2 c2 d2 p2 q2 r2 s2:Nat) (W:World):Prop where
 r1:W.rangeAt k 0 [.int .u64 a1,.int .u64 b1,.int .u64 c1,.int .u64 d1,.int .u64 p1,.int .u64 q1,.int .u64 r1,.int .u64 s1]
 r2:W.rangeAt k 8 [.int .u64 a2,.int .u64 b2,.int .u64 c2,.int .u64 d2,.int .u64 p2,.int .u64 q2,.int .u64 r2,.int .u64 s2]
 lt:k<W.heap.size
 bl:Below w.heap.size w W
def ptP (s:T3 P):Fin P × Fin P:=(s.1*(EC.inv s.2.2*EC.inv s.2.2),s.2.1*(EC.inv s.2.2*EC.inv s.2.2)*EC.inv s.2.2)
theorem cell_below {w b:World} {k j:Nat} {v:Value} (h:w.cell? ⟨k,j,none⟩=some v) (d:Below w.heap.size w b) (e:k<w.heap.size):b.cell? ⟨k,j,none⟩=some v:=by
 have f:w.rangeAt k j [v]:=fun i u c=>by
  cases i with
  | zero =>
   obtain rfl:v=u:=Option.some.inj c
   exact h
  | succ i=>exact absurd c (by simp)
 exact RG.range_below f d e 0 v rfl
theorem ArgsPts.below {w c:World} {q:Option Addr} {n:Nat} {L:Nat→Bs} (h:ArgsPts w q n L) (b:Below w.heap.size w c):ArgsPts c q n L:=fun d=>by
 obtain ⟨i,l,k,f⟩:=h d
 refine ⟨i,l,Nat.lt_of_lt_of_le k b.size,fun j g=>?_⟩
 obtain ⟨v,hv,e⟩:=f j g
 exact ⟨v,cell_below hv b k,e.below b⟩
def SumR (P:Nat) [NeZero P] (N:Nat) (w:World) (n a:Nat) (L M:Nat→Bs) (e:Value) (w':World):Prop:=
 (n≠a∧OutE 2 e)∨(n=a∧512<n∧OutE 1 e)∨(n=a∧n≤512∧(((∃ j,j<n∧rq N (L j)=none)∧OutE 3 e) ∨
  ∃ ns:Nat→Nat,(∀ j,j<n→rq N (L j)=some (ns j))∧(((∃ j,j<n∧rd P (M j)=none)∧OutE 4 e) ∨
   ∃ xs ys:Nat→Fin P,(∀ j,j<n→rd P (M j)=some (xs j,ys j))∧OutP w (by33 (ptP (sumJ ns xs ys n 257)).1 (ptP (sumJ ns xs ys n 257)).2) e w')))
theorem choose_nat {A:Type} [Inhabited A] {n:Nat} {p:Nat→A→Prop} (h:∀ j,j<n→∃ a,p j a):∃ f:Nat→A,∀ j,j<n→p j (f j):=
 ⟨fun j=>if k:j<n then (h j k).choose else default,fun j k=>by
  show p j (if k:j<n then (h j k).choose else default)
  rw[dif_pos k]
  exact (h j k).choose_spec⟩
theorem rq_top {N:Nat} (b:N≤top) {k:Bs} {m:Nat} (h:rq N k=some m):m<top:=by
 unfold rq at h
 split at h
 ·rename_i h1
  obtain rfl:beV k.toList=m:=Option.some.inj h
  exact Nat.lt_of_lt_of_le h1.2 b
 ·exact absurd h (by simp)
theorem gSum_c {N:Nat} (C:Fld P) (hG:Gap 4624529908474429119 4994812053365940164 1 N) (hN:N≤top) (q Y:Option Addr) (n cap a p:Nat) (L M:Nat→Bs) (w:World) (hL:ArgsScs w q n L) (hM:ArgsPts w Y a M) :
 Calls Tryz.prog 64 #[.slice q n cap,.slice Y a p] w (Ret fun e w'=>Below w.heap.size w w'∧SumR P N w n a L M e w'):=by
 have HL:=mk1 (hL)
 have HM:=mk1 (hM)
 by_cases H:n=a
 ·subst H
  by_cases F:512<n
  ·go_enter Tryz.func64,Tryz.ntmps64
   go_wp2
   go_ret2
   exact ⟨_,rfl,RowKit.Below.refl _ _,Or.inr (Or.inl ⟨rfl,F,rfl⟩)⟩
  ·have y:n≤512:=oM
   go_enter Tryz.func64,Tryz.ntmps64
   go_wp2_with fail
   refine (Scs_c hG n cap y q L w HL.out).mono ?_
   rintro e V ⟨v,rfl,E,⟨k,X,t,rfl,c⟩|⟨r,rfl⟩⟩
   ·obtain ⟨ns,G⟩:=choose_nat c
    have x:=mk1 (E)
    have Z:Hid (k<V.heap.size∧∀ j,j<n→V.rangeAt k (4*j) (wn (ns j))):=⟨t,fun j l=>(G j l).2⟩
    have R:Hid (∀ j,j<n→rq N (L j)=some (ns j)):=fun j l=>(G j l).1
    go_wp2_with fail
    refine (Pts_c C n p y Y M V (HM.below x.out)).mono ?_
    rintro e m ⟨v,rfl,d,⟨K,X,t,rfl,c⟩|⟨r,rfl⟩⟩
    ·obtain ⟨b,A⟩:=choose_nat c
     have f:=mk1 (x.trans (d.mono x.size))
     have J:Hid (k<m.heap.size∧∀ j,j<n→m.rangeAt k (4*j) (wn (ns j))):=⟨Nat.lt_of_lt_of_le Z.1 d.size,fun j l=>RG.range_below (Z.2 j l) d Z.1⟩
     have HP:Hid (K<m.heap.size∧∀ j,j<n→m.rangeAt K (8*j) (ws (b j).1++ws (b j).2)):=⟨t,fun j l=>(A j l).2⟩
     have S:Hid (∀ j,j<n→rd P (M j)=some ((b j).1,(b j).2)):=fun j l=>(A j l).1
     have D:∀ w,Calls Tryz.prog 70 #[pv (ptP (sumJ ns (fun j=>(b j).1) (fun j=>(b j).2) n 257)).1 (ptP (sumJ ns (fun j=>(b j).1) (fun j=>(b j).2) n 257)).2] w (Ret fun e w'=>Below w.heap.size w w'∧BytesR w (by33 (ptP (sumJ ns (fun j=>(b j).1) (fun j=>(b j).2) n 257)).1 (ptP (sumJ ns (fun j=>(b j).1) (fun j=>(b j).2) n 257)).2) e w'):=bytes_c C _ _
     have hS:Calls Tryz.prog 66 #[.slice (some ⟨k,0,none⟩) n n,.slice (some ⟨K,0,none⟩) n n] m (Ret fun e w'=>Below m.heap.size m w'∧e=pv (ptP (sumJ ns (fun j=>(b j).1) (fun j=>(b j).2) n 257)).1 (ptP (sumJ ns (fun j=>(b j).1) (fun j=>(b j).2) n 257)).2):=by
      refine (sums_c C n y ns (fun j=>(b j).1) (fun j=>(b j).2) (fun i u=>rq_top hN (R i u)) k K m J.1 HP.1 J.2 HP.2).mono ?_
      rintro e w' ⟨v,rfl,o,s,rfl,rfl⟩
      exact ⟨_,rfl,o,rfl⟩
     generalize hz:ptP (sumJ ns (fun j=>(b j).1) (fun j=>(b j).2) n 257)=z at hS D
     have HZ:Hid (ptP (sumJ ns (fun j=>(b j).1) (fun j=>(b j).2) n 257)=z):=hz
     go_wp2_with fail
     refine hS.mono ?_
     rintro e w3 ⟨v,rfl,U,rfl⟩
     have u:=mk1 (f.trans (U.mono f.size))
     go_wp2_with fail
     refine (D _).mono ?_
     rintro e w4 ⟨v,rfl,O,g,o,rfl,h0,Q,B,W⟩
     have T:=mk1 (u.trans (O.mono u.size))
     have I:Hid (OutP w (by33 z.1 z.2) (.tuple #[.slice (some ⟨g,0,none⟩) 33 o,.int .i64 0]) w4):=⟨g,o,rfl,h0,Nat.le_trans u.size Q,B,W⟩
     go_wp2
     go_ret2
     refine ⟨_,rfl,T.out,Or.inr (Or.inr ⟨rfl,y,Or.inr ⟨ns,R.out,Or.inr ⟨_,_,S.out,?_⟩⟩⟩)⟩
     rw[HZ.out]
     exact I.out
    ·have f:=mk1 (x.trans (d.mono x.size))
     have I:=mk1 (r)
     go_wp2
     go_ret2
     exact ⟨_,rfl,f.out,Or.inr (Or.inr ⟨rfl,y,Or.inr ⟨ns,R.out,Or.inl ⟨I.out,rfl⟩⟩⟩)⟩
   ·have x:=mk1 (E)
    have I:=mk1 (r)
    go_wp2
    go_ret2
    exact ⟨_,rfl,x.out,Or.inr (Or.inr ⟨rfl,y,Or.inl ⟨I.out,rfl⟩⟩)⟩
 ·go_enter Tryz.func64,Tryz.ntmps64
  go_wp2
  go_ret2
  exact ⟨_,rfl,RowKit.Below.refl _ _,Or.inl ⟨H,rfl⟩⟩
def zs33:Bs:=Array.replicate 33 0
theorem sq_mod (r d:Nat):d*d%(r+d)=r*r%(r+d):=by
 have h:d*d+(r+d)*r=r*r+(r+d)*d:=by
  rw[Nat.add_mul,Nat.add_mul,Nat.mul_comm d r]
  omega
 have k:=congrArg (· % (r+d)) h
 simp only[Nat.add_mul_mod_self_left] at k
 exact k
theorem rt_sq {m y:Fin P} (h:rt m=some y):y*y=m:=by
 have k:=rt_yes h
 unfold rt at h
 rw[if_pos k] at h
 obtain rfl:=Option.some.inj h
 have d:=Nat.pos_of_neZero P
 have b:m.val^(P/4+1)%P<P:=Nat.mod_lt _ d
 generalize m.val^(P/4+1)%P=r at k b
 apply Fin.ext
 rw[Fin.val_mul]
 show (even P r%P)*(even P r%P)%P=m.val
 rw[Nat.mod_eq_of_lt (even_lt d b),← k]
 unfold even
 split
 ·have c:=sq_mod r (P-r)
  rw[show r+(P-r)=P by omega] at c
  exact c
 ·rfl
theorem zero33_iff {k:Bs} (c:k.size=33):Zero33 k↔k=zs33:=by
 constructor
 ·intro h
  apply Array.ext
  ·rw[c];rfl
  ·intro i g b
   have:=h i (List.mem_range.2 oM)
   rw[getElem!_pos k i g] at this
   have f:k[i].toNat=0:=by
    have d:ub k[i]=(k[i].toNat:Int):=rfl
    rw[d] at this
    omega
   have e:(zs33)[i]=0:=by
    have d:(Array.replicate 33 (0:UInt8))[i]'b=0:=Array.getElem_replicate _
    exact d
   rw[e]
   exact UInt8.toNat_inj.1 f
 ·rintro rfl i b
  have b:=List.mem_range.1 b
  unfold zs33
  rw[getElem!_pos _ i (by rw[Array.size_replicate];exact b),Array.getElem_replicate]
  rfl
theorem on_of {x y:Fin P} (h:y*y=x*x*x+7):EC.On (.some (x,y):EC.Pt P):=by
 show y^2=x^3+7
 grobner
theorem on_neg {x y:Fin P} (h:y*y=x*x*x+7):EC.On (.some (x,0-y):EC.Pt P):=by
 show (0-y)^2=x^3+7
 grobner
def wr:EC.Pt P→Bs
 | none=>zs33
 | some (x,y)=>#[mark y.val]++bx x.val
theorem by33_wr (C:Fld P) {x y:Fin P} {p:EC.Pt P} (h:EC.Pair x y p) (ho:EC.On p):by33 x y=wr p:=by
 unfold by33
 match p,h,ho with
 | none,h,_=>rw[if_pos (show x=0∧y=0 from h)];rfl
 | some (a,b),h,ho =>
  obtain ⟨rfl,rfl⟩:=h
  rw[if_neg (fun e=>C.cur.y_ne ho e.2)]
  rfl
def pt (p:Fin P × Fin P):EC.Pt P:=if p.1=0∧p.2=0 then none else some p
theorem pair_pt (C:Fld P) {x y:Fin P} {q:EC.Pt P} (h:EC.Pair x y q) (ho:EC.On q):q=pt (x,y):=by
 unfold pt
 match q,h,ho with
 | none,h,_=>rw[if_pos (show x=0∧y=0 from h)]
 | some (a,b),h,ho =>
  obtain ⟨rfl,rfl⟩:=h
  rw[if_neg (fun e=>C.cur.y_ne ho e.2)]
theorem rd_on (C:Fld P) {b:Bs} {p:Fin P × Fin P} (h:rd P b=some p):EC.Pair p.1 p.2 (pt p)∧EC.On (pt p):=by
 have key:∃ q:EC.Pt P,EC.Pair p.1 p.2 q∧EC.On q:=by
  unfold rd at h
  split at h
  ·split at h
   ·obtain rfl:=Option.some.inj h
    exact ⟨none,⟨rfl,rfl⟩,EC.none_on⟩
   ·split at h
    ·split at h
     ·obtain ⟨y,c,rfl⟩:=Option.map_eq_some_iff.1 h
      have k:=rt_sq c
      refine ⟨some (rdx P b,if ub b[0]! = 3 then 0-y else y),⟨rfl,rfl⟩,?_⟩
      split
      ·exact on_neg k
      ·exact on_of k
     ·cases h
    ·cases h
  ·cases h
 obtain ⟨q,c,k⟩:=key
 have:=pair_pt C c k
 rw[show pt p=q from this.symm]
 exact ⟨c,k⟩
omit [NeZero P] in
theorem wr_size (p:EC.Pt P):(wr p).size=33:=by
 match p with
 | none=>rfl
 | some (x,y) =>
  show (#[mark y.val]++bx x.val).size=33
  rw[Array.size_append,bx_size]
  rfl
end
section
variable {P:Nat} [NeZero P] {N:Nat}
theorem root_mod {a P:Nat} (h:NT.IsP P) (k:P%4=3):(a*a%P)^(P/4+1)%P*((a*a%P)^(P/4+1)%P)%P=a*a%P:=by
 rw[← Nat.mul_mod,← Nat.pow_add,← Nat.pow_mod,← Nat.pow_two,← Nat.pow_mul,show 2*(P/4+1+(P/4+1))=P+1 by omega,Nat.pow_succ,Nat.mul_mod,h.fermat a,← Nat.mul_mod,Nat.pow_two]
theorem root_is {a R P:Nat} (h:NT.IsP P) (f:a<P) (hR:R<P) (e:R*R%P=a*a%P):R=a∨R+a=P:=by
 have key:∀ x y:Nat,x<P→y<P→y≤x→x*x%P=y*y%P→x=y∨x+y=P:=by
  intro x y hx j g d
  have hd:P ∣ x*x-y*y:=by
   refine Nat.dvd_of_mod_eq_zero ?_
   exact Nat.sub_mod_eq_zero_of_mod_eq d
  have hf:x*x-y*y=(x-y)*(x+y):=by
   rw[Nat.mul_comm (x-y),Nat.mul_self_sub_mul_self_eq]
  rw[hf] at hd
  rcases h.euclid hd with b|b
  ·left
   have:=Nat.eq_zero_of_dvd_of_lt b oM
   omega
  ·obtain ⟨k,i⟩:=b
   have:k=0∨k=1∨2≤k:=oM
   rcases this with rfl|rfl|c
   ·left;omega
   ·right;omega
   ·have:=Nat.mul_le_mul_left P c
    omega
 rcases Nat.le_total a R with b|b
 ·exact key R a hR f b e
 ·rcases key a R f hR b e.symm with c|c
  ·left;exact c.symm
  ·right;omega
end
section
open Go.RowKit Go.Sort Go.Deep
theorem w8_be8 (x:Nat) (hx:x<18446744073709551616) :
 w8 (UInt8.ofNat (x/72057594037927936)) (UInt8.ofNat (x/281474976710656)) (UInt8.ofNat (x/1099511627776)) (UInt8.ofNat (x/4294967296)) (UInt8.ofNat (x/16777216)) (UInt8.ofNat (x/65536)) (UInt8.ofNat (x/256)) (UInt8.ofNat x)=x:=by
 unfold w8
 simp only[UInt8.toNat_ofNat']
 omega
theorem be32_list (a b c d:Nat):(be32 a b c d).toList=[UInt8.ofNat (d/72057594037927936),UInt8.ofNat (d/281474976710656),UInt8.ofNat (d/1099511627776),UInt8.ofNat (d/4294967296),UInt8.ofNat (d/16777216),UInt8.ofNat (d/65536),UInt8.ofNat (d/256),UInt8.ofNat d,UInt8.ofNat (c/72057594037927936),UInt8.ofNat (c/281474976710656),UInt8.ofNat (c/1099511627776),UInt8.ofNat (c/4294967296),UInt8.ofNat (c/16777216),UInt8.ofNat (c/65536),UInt8.ofNat (c/256),UInt8.ofNat c,UInt8.ofNat (b/72057594037927936),UInt8.ofNat (b/281474976710656),UInt8.ofNat (b/1099511627776),UInt8.ofNat (b/4294967296),UInt8.ofNat (b/16777216),UInt8.ofNat (b/65536),UInt8.ofNat (b/256),UInt8.ofNat b,UInt8.ofNat (a/72057594037927936),UInt8.ofNat (a/281474976710656),UInt8.ofNat (a/1099511627776),UInt8.ofNat (a/4294967296),UInt8.ofNat (a/16777216),UInt8.ofNat (a/65536),UInt8.ofNat (a/256),UInt8.ofNat a]:=by
 simp only[be32,be8,Array.toList_append,List.cons_append,List.nil_append]
theorem val_congr {a b c d p q r s:Nat} (g:a=p) (k:b=q) (e:c=r) (f:d=s):val a b c d=val p q r s:=by subst g k e f;rfl
theorem beV_be32 (a b c d:Nat) (f:a<18446744073709551616) (k:b<18446744073709551616) (e:c<18446744073709551616) (hd:d<18446744073709551616):beV (be32 a b c d).toList=val a b c d:=
 (congrArg beV (be32_list a b c d)).trans ((beV_32 _ _ _ _ _ _ _ _ _ _ _ _ _ _ _ _ _ _ _ _ _ _ _ _ _ _ _ _ _ _ _ _).trans (val_congr (w8_be8 a f) (w8_be8 b k) (w8_be8 c e) (w8_be8 d hd)))
theorem bx_val {n:Nat} (k:n<top):beV (bx n).toList=n:=by
 unfold bx
 rw[beV_be32 _ _ _ _ oM oM oM oM]
 unfold val
 unfold top at k
 omega
variable {P:Nat} [NeZero P]
theorem rt_of (C:Fld P) {y m:Fin P} (h:y*y=m):rt m=some (if y.val%2=1 then 0-y else y):=by
 have d:y.val*y.val%P=m.val:=by rw[← h,Fin.val_mul]
 have k:=root_mod (a:=y.val) C.cur.pr C.p3
 rw[d] at k
 unfold rt
 rw[if_pos k]
 have g:=Nat.pos_of_neZero P
 have c:m.val^(P/4+1)%P<P:=Nat.mod_lt _ g
 generalize m.val^(P/4+1)%P=r at k c
 have b:=y.isLt
 have j:=C.p3
 have hor:=root_is C.cur.pr b c (k.trans d.symm)
 congr 1
 apply Fin.ext
 show even P r%P=_
 unfold even
 have f:(0-y:Fin P).val=(P-y.val)%P:=by rw[← sub_fin,EC.val_zero,Nat.zero_add]
 by_cases ho:y.val%2=1
 ·rw[if_pos ho,f]
  rcases hor with e|e
  ·rw[e,if_pos ho]
  ·rw[if_neg oM,show P-y.val=r by omega]
 ·rw[if_neg ho]
  rcases hor with e|e
  ·rw[e,if_neg ho,Nat.mod_eq_of_lt b]
  ·by_cases i:y.val=0
   ·omega
   ·rw[if_pos oM,show P-r=y.val by omega,Nat.mod_eq_of_lt b]
theorem ub_mark (n:Nat):ub (mark n)=if n%2=1 then 3 else 2:=by
 unfold mark
 split<;>rfl
theorem tl_mark {m:UInt8} {b:Bs} (h:b.size=32):tl33 (#[m]++b)=b:=by
 unfold tl33
 rw[Array.extract_append]
 have k:(#[m]:Bs).extract 1 33=#[]:=by rfl
 rw[k]
 simp[h]
theorem mark_0 (m:UInt8) (b:Bs):(#[m]++b)[0]! = m:=by
 rw[getElem!_pos _ 0 (by rw[Array.size_append];simp;omega),Array.getElem_append_left (by simp)]
 rfl
theorem rd_of (C:Fld P) {b:Bs} (d:b.size=33) {x y:Fin P} (c:ub b[0]! = if y.val%2=1 then 3 else 2) (hv:beV (tl33 b).toList=x.val) (h:EC.On (some (x,y):EC.Pt P)):rd P b=some (x,y):=by
 have k:¬ Zero33 b:=fun k=>by
  have:=k 0 (List.mem_range.2 dC)
  rw[c] at this
  split at this<;>omega
 have hx:rdx P b=x:=by
  unfold rdx
  rw[hv]
  exact Fin.ext (Nat.mod_eq_of_lt x.isLt)
 have f:y*y=x*x*x+7:=by
  have:y^2=x^3+7:=h
  grobner
 unfold rd
 rw[if_pos d,if_neg k,c,hv,if_pos x.isLt,hx,rt_of C f]
 by_cases ho:y.val%2=1
 ·rw[if_pos ho,if_pos (Or.inr rfl),if_pos ho,Option.map_some,if_pos rfl]
  have e:0-(0-y)=y:=by grobner
  rw[e]
 ·rw[if_neg ho,if_pos (Or.inl rfl),if_neg ho,Option.map_some,if_neg dC]
theorem rd_wr (C:Fld P) {X:EC.Pt P} (h:EC.On X):∃ p,rd P (wr X)=some p∧pt p=X:=by
 match X,h with
 | none,_ =>
  refine ⟨(0,0),?_,by unfold pt;rw[if_pos ⟨rfl,rfl⟩]⟩
  have k:(wr (none:EC.Pt P)).size=33:=wr_size _
  have b:=(zero33_iff k).2 rfl
  unfold rd
  rw[if_pos k,if_pos b]
 | some (x,y),h =>
  have b:=wr_size (P:=P) (some (x,y))
  have k:(wr (some (x,y):EC.Pt P))[0]! = mark y.val:=mark_0 _ _
  have c:tl33 (wr (some (x,y):EC.Pt P))=bx x.val:=tl_mark (bx_size _)
  refine ⟨(x,y),rd_of C b (by rw[k,ub_mark]) (by rw[c,bx_val (C.top x)]) h,by unfold pt;rw[if_neg (fun e=>C.cur.y_ne h e.2)]⟩
end
section
open Go.RowKit Go.Sort Go.Deep
variable {P:Nat} [NeZero P] {N:Nat}
def gxl:List Value:=[.int .u64 6481385041966929816,.int .u64 188021827762530521,.int .u64 6170039885052185351,.int .u64 8772561819708210092]
def gyl:List Value:=[.int .u64 11261198710074299576,.int .u64 18237243440184513561,.int .u64 6747795201694173352,.int .u64 5204712524664259685]
def gX (P:Nat) [NeZero P]:Fin P:=Fin.ofNat P 55066263022277343669578718895168534326250603453777594175500187360389116729240
def gY (P:Nat) [NeZero P]:Fin P:=Fin.ofNat P 32670510020758816978083085130507043184471273380659243275938904335757337482424
def gG (P:Nat) [NeZero P]:EC.Pt P:=some (gX P,gY P)
theorem Fld.eq (C:Fld P):P=115792089237316195423570985008687907853269984665640564039457584007908834671663:=by
 have h:=C.gap.hP
 have e:val 4294968273 0 0 0=4294968273:=dC
 rw[e] at h
 unfold Go.Proofs.YtlofhpkoaljmeaaGreat.top at h
 omega
theorem gX_val (C:Fld P):(gX P).val=55066263022277343669578718895168534326250603453777594175500187360389116729240:=by
 have h:=C.eq
 exact Nat.mod_eq_of_lt oM
theorem gY_val (C:Fld P):(gY P).val=32670510020758816978083085130507043184471273380659243275938904335757337482424:=by
 have h:=C.eq
 exact Nat.mod_eq_of_lt oM
theorem gxl_ws (C:Fld P):gxl=ws (gX P):=by
 show _=wn (gX P).val
 rw[gX_val C]
 kernel_rfl
theorem gyl_ws (C:Fld P):gyl=ws (gY P):=by
 show _=wn (gY P).val
 rw[gY_val C]
 kernel_rfl
theorem gG_on (C:Fld P):EC.On (gG P):=by
 refine on_of (Fin.ext ?_)
 have k:(7:Fin P).val=7:=Nat.mod_eq_of_lt C.p7
 rw[Fin.val_mul,Fin.val_add,Fin.val_mul,Fin.val_mul,gX_val C,gY_val C,k]
 have h:=C.eq
 rw[h]
theorem base_v:Gives 69 #[] (.agg (gxl++gyl).toArray):=by
 intro w
 go_enter Tryz.func69,Tryz.ntmps69
 refine RG.M.enter [] 4 kR ?_
 intro a0 b
 repeat refine wp_seq ?_
 refine b.T [.m 0] [(0,RG.z 8)] [] [RG.z 8] [0] ⟨RG.mk 0 131,trivial⟩ ?_
 intro g f d c
 repeat refine wp_seq ?_
 refine c.T [.x (.agg gxl.toArray),.x (.agg gyl.toArray),.x (.agg (gxl++gyl).toArray),.u 0] [] [(0,3,gxl++gyl)] [gxl++gyl] [0] ⟨RG.st,RG.st,RG.st,RG.pt i109,trivial⟩ ?_
 intro a2 e k
 refine wp_ret ?_
 refine bodyPost_ret (v:=.agg (gxl++gyl).toArray) (RG.results_row k.st 0 131 rfl 0 _ rfl (k.at (s:=.p 0 0)) u109 i109) k.sl.defers ?_
 exact ⟨_,rfl,k.st.bel.below,rfl⟩
theorem base_c (C:Fld P):Gives 69 #[] (pv (gX P) (gY P)):=by
 unfold pv
 rw[← gxl_ws C,← gyl_ws C]
 exact base_v
theorem gG_wr (C:Fld P):by33 (gX P) (gY P)=wr (gG P):=by33_wr C ⟨rfl,rfl⟩ (gG_on C)
theorem Base_c (C:Fld P) (w:World):Calls Tryz.prog 131 #[] w (Ret fun e w'=>Below w.heap.size w w'∧BytesR w (wr (gG P)) e w'):=by
 have c:Hid (Fld P):=C
 clear C
 go_enter Tryz.func131,Tryz.ntmps131
 go_wp2_with fail
 refine (base_c c.out _).mono ?_
 rintro e n ⟨v,rfl,k,rfl⟩
 go_wp2_with fail
 refine (bytes_c c.out (gX P) (gY P) _).mono ?_
 rintro e i ⟨v,rfl,b,g,cap,rfl,l,f,j,d⟩
 rw[gG_wr c.out] at d
 have m:Hid (Below w.heap.size w i∧BytesR w (wr (gG P)) (.slice (some ⟨g,0,none⟩) 33 cap) i):=⟨k.trans (b.mono k.size),g,cap,rfl,l,Nat.le_trans k.size f,j,d⟩
 clear k b l f j d
 go_wp2
 go_ret
 exact ⟨_,rfl,m.out⟩
end
section
open Go.RowKit Go.Sort Go.Deep Go.Shelf
attribute [local go_sem] Oper.semAt_some
section
variable {F:Fence} {n:Nat} {P:Program} {ops:Array Oper} {rest:List Oper} {op:Oper} {a:Act} {w:World} {Q:Exit→Act→World→Prop}
theorem wpListIn_load_mid (g:op.guard=none) (k:TypeId) (x:Operand) (ho:op.op=.load k x) (b o:Nat) (hx:a.eval x=.pointer (some ⟨b,o,none⟩)) (cs:List Value) (d:TypeDesc) (l:w.rangeAt b o cs)
 (m:P.underlying k=some d) (hd:d.isRow=true) (j:(P.info? k).map (·.size)=some cs.length) (h:wpListIn F n P ops Q rest (a.put op.dst (.agg cs.toArray)) w):wpListIn F n P ops Q (op :: rest) a w:=
 wpListIn_plain g fun K i=>by
  refine ⟨fun f hf=>(by unfold Oper.about at hf;rw[ho] at hf;cases hf),?_⟩
  rw[Oper.semAt_eq _ _ _ (fun c=>by rw[ho];intro e;cases e)]
  unfold execOp
  simp only[ho,hx,Instr.loadAt,Instr.sureAddr,Sem.run_bind,Sem.run_pure,Result.andThen_ok,run_loadVar_mid w b o k cs d l m hd j]
  exact i _ _ h
theorem wpListIn_store_mid (d:op.guard=none) (g:TypeId) (x y:Operand) (ho:op.op=.store g x y) (b o:Nat) (k:Array Value) (hx:a.eval x=.pointer (some ⟨b,o,none⟩)) (l:a.eval y=.agg k)
 (p:w.there b o k.size) (m:(P.info? g).map (·.size)=some k.size) (j:k.all (·.oneCell')=true)
 (h:wpListIn F n P ops Q rest (a.put op.dst undef) (w.setCells b o k.toList)):wpListIn F n P ops Q (op :: rest) a w:=
 wpListIn_plain d fun K i=>by
  refine ⟨fun f hf=>(by unfold Oper.about at hf;rw[ho] at hf;cases hf),?_⟩
  rw[Oper.semAt_eq _ _ _ (fun c=>by rw[ho];intro e;cases e)]
  unfold execOp
  simp only[ho,hx,l,Instr.storeAt,Instr.sureAddr,Sem.run_bind,Sem.run_pure,Result.andThen_ok,run_storeVar_mid w b o g k p m j]
  exact i _ _ h
end
def Row (W:World) (k:Nat) (vs:List Value):Prop:=k<W.heap.size∧W.rangeAt k 0 vs∧W.there k 0 vs.length
theorem row_own (k:Nat) (vs:List Value):Own (fun (_:Unit) W=>Row W k vs):=fun s A B row b c e=>by
 refine ⟨Nat.lt_of_lt_of_le b.1 c.size,fun j v d=>?_,fun j d=>?_⟩
 ·exact cell_kept (b.2.1 j v d) c e
 ·have f:=b.2.1 j vs[j] (List.getElem?_eq_getElem d)
  have g:=cell_kept f c e
  exact ⟨by rw[g];rfl,(frozen_kept f c e).trans (b.2.2 j d).2⟩
theorem ko_setCells (k:Nat):∀ (vs:List Value) (o:Nat) (W:World),KeepsOthers W (W.setCells k o vs)
 | [],_,W=>KeepsOthers.refl W
 | v :: vs,o,W=>(KeepsOthers.setCell W ⟨k,o,none⟩ v).trans (ko_setCells k vs (o+1) _)
theorem Row.alloc {W:World} {k:Nat} {vs:List Value} (h:Row W k vs) (o:Obj):Row (W.alloc o) k vs:=
 row_own k vs () W (W.alloc o) none h (World.grownBy_alloc W o none) (fun _ e=>by cases e)
theorem Row.putObj {W:World} {k D:Nat} {vs:List Value} (h:Row W k vs) {o:Obj} (c:W.heap[D]? = some o) (ho:o.isCells=false) (b:Obj):Row (W.putObj D b) k vs:=
 row_own k vs () W (W.putObj D b) (some D) h (grownBy_putObj' W D b) (fun r e=>by cases e;exact ⟨_,c,ho⟩)
theorem Row.below {W W':World} {k:Nat} {vs:List Value} (h:Row W k vs) (c:Below W.heap.size W W'):Row W' k vs:=by
 have e:=c.block k h.1
 refine ⟨Nat.lt_of_lt_of_le h.1 c.size,fun j v b=>?_,fun j b=>?_⟩
 ·exact (World.cell?_of_block e).trans (h.2.1 j v b)
 ·have d:=h.2.2 j b
  exact ⟨by rw[World.cell?_of_block e];exact d.1,(World.frozen?_of_block e).trans d.2⟩
theorem results_cell {P:Program} {c:Func} {tmps:Array Value} {W:World} {k:Nat} {vs:List Value} (t:Tmp) (T:TypeId) (e:c.results=#[.cell t T]) (h:Row W k vs) (i:tmps[t]? = some (.pointer (some ⟨k,0,none⟩)))
 (b:(P.underlying T).map (·.isRow)=some true) (g:(P.info? T).map (·.size)=some vs.length):(results c tmps).run P W=.ok (.agg vs.toArray) W:=by
 obtain ⟨d,b,hd⟩:=Option.map_eq_some_iff.1 b
 have j:=run_loadVar_mid (P:=P) W k 0 T vs d h.2.1 b hd g
 have f:tmps.getD t undef=.pointer (some ⟨k,0,none⟩):=by rw[Array.getD_eq_getD_getElem?,i];rfl
 unfold results
 rw[e]
 simp only[Array.mapM_eq_mapM_toList,List.mapM_cons,List.mapM_nil,f,asAddr]
 simp[Sem.run_bind,j]
theorem Row.put {W:World} {k:Nat} {vs us:List Value} (h:Row W k vs) (b:us.length=vs.length):Row (W.setCells k 0 us) k us:=
 ⟨by rw[RG.setCells_size];exact h.1,World.rangeAt_setCells_same W k 0 us (by rw[b];exact h.2.2),by rw[b];exact World.there_setCells h.2.2 _ _ _⟩
theorem Row.other {W:World} {k j:Nat} {vs us:List Value} (h:Row W k vs) (b:k≠j):Row (W.setCells j 0 us) k vs:=
 ⟨by rw[RG.setCells_size];exact h.1,World.rangeAt_setCells_apart h.2.1 j 0 us (Or.inl b),World.there_setCells h.2.2 _ _ _⟩
variable {P:Nat} [NeZero P]
theorem first_c (C:Fld P) (lb:Array Value) (L:List (Fin P × Fin P)) (N:Nat) (w:World)
 (z:∀ n,SeqStopsK Fence.wide n Tryz.prog 117 lb (fun x:Fin P × Fin P=>#[pv x.1 x.2]) (Below w.heap.size) (fun xs=>xs=L) (fun b=>b <+: L) N w) :
 Calls Tryz.prog 67 #[.func (.func 117) #[] lb] w (Ret fun e w'=>Below w.heap.size w w'∧e=pv (L.headD (gX P,gY P)).1 (L.headD (gX P,gY P)).2):=by
 refine (callsIn_wide (n:=5)).1 ?_
 refine callsIn_of_wp_marks Tryz.func67 rfl trivial ?_ rfl
 simp only[Tryz.ntmps67,List.size_toArray,List.length_cons,List.length_nil,Nat.reduceAdd,Nat.reduceSub,Array.replicate_succ,Array.replicate_zero,List.push_toArray,List.append_toArray,List.nil_append,List.cons_append]
 gi_wp2
 have y:=RG.Made.alloc w [.int .u64 0,.int .u64 0,.int .u64 0,.int .u64 0,.int .u64 0,.int .u64 0,.int .u64 0,.int .u64 0] 131
 have a:Row (w.alloc (.cells #[.int .u64 0,.int .u64 0,.int .u64 0,.int .u64 0,.int .u64 0,.int .u64 0,.int .u64 0,.int .u64 0] 131)) w.heap.size [.int .u64 0,.int .u64 0,.int .u64 0,.int .u64 0,.int .u64 0,.int .u64 0,.int .u64 0,.int .u64 0]:=⟨y.lt,y.range,y.there⟩
 have j:Below w.heap.size w (w.alloc (.cells #[.int .u64 0,.int .u64 0,.int .u64 0,.int .u64 0,.int .u64 0,.int .u64 0,.int .u64 0,.int .u64 0] 131)):=y.bel
 clear y
 obtain ⟨E,p⟩:∃ E,E=w.alloc (.cells #[.int .u64 0,.int .u64 0,.int .u64 0,.int .u64 0,.int .u64 0,.int .u64 0,.int .u64 0,.int .u64 0] 131):=⟨_,rfl⟩
 have H:E.heap.size=w.heap.size+1:=by rw[p,World.size_alloc]
 rw[← p] at a j ⊢
 clear p
 refine wpIn_rangeFunc_ownH (α:=Fin P × Fin P) rfl dC (gf:=117) (lb:=lb) rfl trivial (enters_of Tryz.func117 kR rfl) (z 4) belowK_t (belowK_b oM) j (fun _=>rfl)
  (fun b W=>(b=[]∧Row W w.heap.size [.int .u64 0,.int .u64 0,.int .u64 0,.int .u64 0,.int .u64 0,.int .u64 0,.int .u64 0,.int .u64 0])∧Below w.heap.size w W)
  (fun c b W=>(c=.ret∧∃ x:Fin P × Fin P,b=[x]∧Row W w.heap.size (ws x.1++ws x.2))∧Below w.heap.size w W)
  (OwnFrom.and (Own.from (fun s A B row k f m=>⟨k.1,row_own _ _ () A B row k.2 f m⟩) _) (ownFrom_below (Nat.le_refl _) oM))
  (fun c=>OwnFrom.and (Own.from (fun s A B row k f m=>⟨k.1,k.2.imp fun x hx=>⟨hx.1,row_own _ _ () A B row hx.2 f m⟩⟩) _) (ownFrom_below (Nat.le_refl _) oM))
  ⟨⟨rfl,a⟩,j⟩
  (fun x u W=>∃ Bx,w.heap.size<Bx∧Row W Bx (ws x.1++ws x.2)∧u = { tmps:=#[.func (.func 117) #[] lb,undef,.pointer (some ⟨w.heap.size,0,none⟩),.pointer (some ⟨Bx,0,none⟩),.func (.func 117) #[] lb,pv x.1 x.2,undef,undef],defers:=[] })
  (fun x u=>Own.from (fun s A B row k f m=>k.imp fun Bx hx=>⟨hx.1,row_own _ _ () A B row hx.2.1 f m,hx.2.2⟩) _) ?assign ?body ?done ?stop
 case assign =>
  intro l b x W K q i
  have k:=RG.Made.alloc W [.int .u64 0,.int .u64 0,.int .u64 0,.int .u64 0,.int .u64 0,.int .u64 0,.int .u64 0,.int .u64 0] 131
  have g:=k.there
  gi_wp2_with (refine wpListIn_store_mid rfl 131 _ _ rfl W.heap.size 0 (ws x.1++ws x.2).toArray rfl rfl g i109 kR ?_)
  have f:=q.1.2.1
  have o:Below w.heap.size W ((W.alloc (.cells #[.int .u64 0,.int .u64 0,.int .u64 0,.int .u64 0,.int .u64 0,.int .u64 0,.int .u64 0,.int .u64 0] 131)).setCells W.heap.size 0 (ws x.1++ws x.2)):=
   RG.below_setCells (Nat.le_of_lt f) _ _ _ ((Below.refl _ W).alloc (Nat.le_of_lt f) _)
  exact i _ _ (((KeepsOthers.alloc W _).trans (ko_setCells _ _ _ _)).from _) o ⟨⟨q.1.1,(q.1.2.alloc _).other (Nat.ne_of_lt f)⟩,q.2.trans o⟩
   ⟨W.heap.size,f,Row.put (vs:=[.int .u64 0,.int .u64 0,.int .u64 0,.int .u64 0,.int .u64 0,.int .u64 0,.int .u64 0,.int .u64 0]) ⟨k.lt,k.range,k.there⟩ rfl,rfl⟩
 case body =>
  rintro l b x u W I ⟨r,m⟩ ⟨⟨rfl,k⟩,t⟩ ⟨Bx,F,A,rfl⟩ G
  obtain ⟨d,f,o⟩:=Option.map_eq_some_iff.1 u109
  have q:=A.2.1
  have g:=k.2.2
  gi_wp2_with (first|refine wpListIn_load_mid rfl 131 _ rfl Bx 0 rfl (ws x.1++ws x.2) d q f o i109 ?_|refine wpListIn_store_mid rfl 131 _ _ rfl w.heap.size 0 (ws x.1++ws x.2).toArray rfl rfl g i109 kR ?_)
  exact ⟨(ko_setCells _ _ _ _).from _,⟨rfl,x,rfl,k.put rfl⟩,RG.below_setCells (Nat.le_refl _) _ _ _ t⟩
 case done =>
  rintro D ys W F rfl ⟨⟨rfl,k⟩,t⟩ i
  have g:=k.2.2
  gi_wp2_with fail
  refine ⟨trivial,(callsIn_wide.2 (base_c C _)).mono ?_⟩
  rintro e A ⟨v,rfl,o,rfl⟩
  have f:Row A w.heap.size [.int .u64 0,.int .u64 0,.int .u64 0,.int .u64 0,.int .u64 0,.int .u64 0,.int .u64 0,.int .u64 0]:=k.below o
  have u:=f.2.2
  gi_wp2_with (refine wpListIn_store_mid rfl 131 _ _ rfl w.heap.size 0 (ws (gX P)++ws (gY P)).toArray rfl rfl u i109 kR ?_)
  have m:(A.setCells w.heap.size 0 (ws (gX P)++ws (gY P))).heap[D]? = some (.deferred (some [])):=by
   rw[RG.setCells_other _ _ _ _ _ oM,o.block D (Array.getElem?_eq_some_iff.1 i).1]
   exact i
  have G:Below w.heap.size w (A.setCells w.heap.size 0 (ws (gX P)++ws (gY P))):=RG.below_setCells (Nat.le_refl _) _ _ _ (t.trans (o.mono t.size))
  have q:Row (A.setCells w.heap.size 0 (ws (gX P)++ws (gY P))) w.heap.size (ws (gX P)++ws (gY P)):=f.put rfl
  refine ⟨by simp,.inl ⟨_,_,rfl,run_takeDeferred m,?_⟩⟩
  exact ⟨_,results_cell 2 131 rfl (q.putObj m rfl _) rfl u109 i109,_,rfl,G.trans (belowK_b (w:=E) oM _ D _ _ F m rfl rfl),rfl⟩
 case stop =>
  rintro D c b W F f ⟨⟨rfl,x,rfl,k⟩,t⟩ i
  gi_wp2
  obtain ⟨m,o⟩:=f
  have g:L=x :: m:=o.symm
  rw[g]
  refine ⟨by simp,.inl ⟨_,_,rfl,run_takeDeferred i,?_⟩⟩
  exact ⟨_,results_cell 2 131 rfl (k.putObj i rfl _) rfl u109 i109,_,rfl,t.trans (belowK_b (w:=E) oM _ D _ _ F i rfl rfl),rfl⟩
end
section
open Go.RowKit Go.Sort Go.Deep
variable {P:Nat} [NeZero P] {N:Nat}
theorem redS_of {w W:World} {k e d b c:Nat} (h:Kept w k [⟨k,0,d,b,c,0⟩,⟨e,0,0,0,0,0⟩] W):W.cell? ⟨k,0,none⟩=some (.int .u64 d)∧W.cell? ⟨k,1,none⟩=some (.int .u64 b)∧W.cell? ⟨k,2,none⟩=some (.int .u64 c)∧W.cell? ⟨k,3,none⟩=some (.int .u64 0)∧Kept w k [⟨k,0,d,b,c,0⟩,⟨e,0,0,0,0,0⟩] W:=⟨h.head.c0,h.head.c1,h.head.c2,h.head.c3,h⟩
theorem redS_get {w W:World} {k e d b c:Nat} (h:W.cell? ⟨k,0,none⟩=some (.int .u64 d)∧W.cell? ⟨k,1,none⟩=some (.int .u64 b)∧W.cell? ⟨k,2,none⟩=some (.int .u64 c)∧W.cell? ⟨k,3,none⟩=some (.int .u64 0)∧Kept w k [⟨k,0,d,b,c,0⟩,⟨e,0,0,0,0,0⟩] W):Kept w k [⟨k,0,d,b,c,0⟩,⟨e,0,0,0,0,0⟩] W:=h.2.2.2.2
theorem redS_alloc {w W:World} {k e d b c:Nat} {o:Obj} (h:W.cell? ⟨k,0,none⟩=some (.int .u64 d)∧W.cell? ⟨k,1,none⟩=some (.int .u64 b)∧W.cell? ⟨k,2,none⟩=some (.int .u64 c)∧W.cell? ⟨k,3,none⟩=some (.int .u64 0)∧Kept w k [⟨k,0,d,b,c,0⟩,⟨e,0,0,0,0,0⟩] W):(W.alloc o).cell? ⟨k,0,none⟩=some (.int .u64 d)∧(W.alloc o).cell? ⟨k,1,none⟩=some (.int .u64 b)∧(W.alloc o).cell? ⟨k,2,none⟩=some (.int .u64 c)∧(W.alloc o).cell? ⟨k,3,none⟩=some (.int .u64 0)∧Kept w k [⟨k,0,d,b,c,0⟩,⟨e,0,0,0,0,0⟩] (W.alloc o):=redS_of ((redS_get h).alloc o)
theorem redS_allocd {w W:World} {k e d b c:Nat} {o:Obj} (h:W.drew.cell? ⟨k,0,none⟩=some (.int .u64 d)∧W.drew.cell? ⟨k,1,none⟩=some (.int .u64 b)∧W.drew.cell? ⟨k,2,none⟩=some (.int .u64 c)∧W.drew.cell? ⟨k,3,none⟩=some (.int .u64 0)∧Kept w k [⟨k,0,d,b,c,0⟩,⟨e,0,0,0,0,0⟩] W.drew):(W.alloc o).drew.cell? ⟨k,0,none⟩=some (.int .u64 d)∧(W.alloc o).drew.cell? ⟨k,1,none⟩=some (.int .u64 b)∧(W.alloc o).drew.cell? ⟨k,2,none⟩=some (.int .u64 c)∧(W.alloc o).drew.cell? ⟨k,3,none⟩=some (.int .u64 0)∧Kept w k [⟨k,0,d,b,c,0⟩,⟨e,0,0,0,0,0⟩] (W.alloc o).drew:=redS_of (((redS_get h).undrew).alloc o).drew
theorem holds_part {w:World} {g o:Nat} {k:Bs} (p l:Nat) (h:Holds encB w g o k) (c:p+l≤k.size):Holds encB w g (o+p) (k.extract p (p+l)):=by
 refine Holds.part h (by rw[Array.size_extract];omega) (fun j b=>?_)
 rw[Array.size_extract] at b
 rw[getElem!_pos (k.extract p (p+l)) j (by rw[Array.size_extract];omega),getElem!_pos k (p+j) oM,Array.getElem_extract]
theorem holds_front {w:World} {g o:Nat} {k:Bs} (f:Nat) (h:Holds encB w g o k) (hf:f≤k.size):Holds encB w g o (k.extract 0 f):=by
 have:=holds_part 0 f h oM
 rwa[Nat.zero_add,Nat.add_zero] at this
def RedR (w:World) (e f l g i N:Nat) (s6:Value) (j:World):Prop:=
 ∃ k a b c d:Nat,s6=.pointer (some ⟨k,0,none⟩)∧Kept w e [⟨k,0,a,b,c,d⟩,⟨e,0,l,g,i,0⟩,⟨f,0,0,0,0,0⟩] j∧k≠e∧k≠f∧e≤k ∧
  Hid (Four (.agg #[.int .u64 a,.int .u64 b,.int .u64 c,.int .u64 d]) N)
theorem RedR.made {w k:World} {f j l g i N a b c d:Nat} (e:Kept w f [⟨f,0,l,g,i,0⟩,⟨j,0,0,0,0,0⟩] k) (m:Hid (Four (.agg #[.int .u64 a,.int .u64 b,.int .u64 c,.int .u64 d]) N)) :
 RedR w f j l g i N (.pointer (some ⟨k.heap.size,0,none⟩)) (k.alloc (.cells #[.int .u64 a,.int .u64 b,.int .u64 c,.int .u64 d] 76)):=
 ⟨k.heap.size,a,b,c,d,rfl,(e.alloc _).cons (At4.made k 76 a b c d rfl).blk,Nat.ne_of_gt e.head.lt,Nat.ne_of_gt e.tail.head.lt,e.le,m⟩
theorem RedR.put {w m:World} {e g k j f i N a b c d x y z u:Nat} (o:Kept w e [⟨e,0,j,f,i,0⟩,⟨g,0,0,0,0,0⟩] m) (T:At4 m k x y z u) (n:e≤k) (l:∀ x∈([⟨e,0,j,f,i,0⟩,⟨g,0,0,0,0,0⟩]:List Blk),x.k<k) (p:Hid (Four (.agg #[.int .u64 a,.int .u64 b,.int .u64 c,.int .u64 d]) N)) :
 RedR w e g j f i N (.pointer (some ⟨k,0,none⟩)) ((((m.setCell ⟨k,0,none⟩ (.int .u64 a)).setCell ⟨k,1,none⟩ (.int .u64 b)).setCell ⟨k,2,none⟩ (.int .u64 c)).setCell ⟨k,3,none⟩ (.int .u64 d)):=
 ⟨k,a,b,c,d,rfl,(o.set4' n (fun x hx=>Nat.ne_of_gt (l x hx)) _ _ _ _).cons (T.self4 a b c d).blk,Nat.ne_of_gt (l ⟨e,0,j,f,i,0⟩ (by simp)),Nat.ne_of_gt (l ⟨g,0,0,0,0,0⟩ (by simp)),n,p⟩
theorem red_step {P:Nat} (k:Bs) (p:Nat) (d:p+32≤k.size):(beV (k.extract p (p+32)).toList+top*(beV (k.extract 0 p).toList%P))%P=beV (k.extract 0 (p+32)).toList%P:=by
 have e:(k.extract 0 (p+32)).toList=(k.extract 0 p).toList++(k.extract p (p+32)).toList:=by
  rw[← Array.toList_append,Array.extract_append_extract,Nat.min_eq_left oM,Nat.max_eq_right oM]
 have b:(k.extract p (p+32)).toList.length=32:=by rw[Array.length_toList,Array.size_extract];omega
 have c:256^32=top:=by unfold top;decide
 rw[e,beV_append,b,c,Nat.add_comm,Nat.add_mod,Nat.mul_mod,Nat.mod_mod,← Nat.mul_mod,← Nat.add_mod,Nat.mul_comm]
theorem PReduce_any (g0 g1 g2 P g o n cap : Nat) (bs : Bs) (hG : Gap g0 g1 g2 P) (w : World) (hs : bs.size = n) (hc : n ≤ cap) (hg : g < w.heap.size) (hB : Holds encB w g o bs) :
    Calls Tryz.prog 204 #[.agg #[.int .u64 (g0 : Int), .int .u64 (g1 : Int), .int .u64 (g2 : Int), .int .u64 0], .slice (some ⟨g, o, none⟩) n cap] w (Ret fun e w' => Below w.heap.size w w' ∧ Four e (beV bs.toList % P)) := by
  obtain ⟨f, hf⟩ : ∃ f, f = n % 32 := ⟨_, rfl⟩
  have hf32 : f < 32 := oM
  have hfn : f ≤ n := oM
  have e1 : (n : Int) % 32 = (f : Int) := oM
  have e2 : (f : Int) ≤ (cap : Int) := oM
  have e3 : (f : Int) ≤ (n : Int) := oM
  have e4 : f ≤ cap := oM
  have hsz0 : (bs.extract 0 f).size = f := by rw [Array.size_extract]; omega
  have Hf : Hid (f = n % 32) := hf
  have HS : Hid ((bs.extract 0 f).size = f) := hsz0
  have hbs : f ≤ bs.size := oM
  have HSZ : Hid (bs.size = n) := hs
  have HG : Hid (Gap g0 g1 g2 P) := hG
  clear hf hsz0 hG
  go_enter Tryz.func204, Tryz.ntmps204
  go_upto_region 2 with fail
  rw [e1]
  clear e1
  have PR := (At4.made w 78 g0 g1 g2 0 rfl).alloc (.cells #[.int .u64 0, .int .u64 0, .int .u64 0, .int .u64 0] 42)
  have RE := At4.made (w.alloc (.cells #[.int .u64 (g0 : Int), .int .u64 (g1 : Int), .int .u64 (g2 : Int), .int .u64 0] 78)) 42 0 0 0 0 (World.size_alloc _ _)
  have KP := ((Kept.mk1 (below2 w (.cells #[.int .u64 (g0 : Int), .int .u64 (g1 : Int), .int .u64 (g2 : Int), .int .u64 0] 78) (.cells #[.int .u64 0, .int .u64 0, .int .u64 0, .int .u64 0] 42)) (below2 w (.cells #[.int .u64 (g0 : Int), .int .u64 (g1 : Int), .int .u64 (g2 : Int), .int .u64 0] 78) (.cells #[.int .u64 0, .int .u64 0, .int .u64 0, .int .u64 0] 42)).size).cons RE.blk).cons PR.blk
  clear PR RE
  generalize World.alloc _ _ = W0 at KP ⊢
  generalize h1 : w.heap.size + 1 = k1 at KP ⊢
  have Q1 : Hid (w.heap.size ≤ k1) := by unfold Hid; omega
  generalize h0 : w.heap.size = k0 at KP Q1 hg ⊢
  have n01 : k0 ≠ k1 := oM
  have H0 : Hid (w.heap.size = k0) := h0
  have HBS : Hid (Holds encB w g o bs) := hB
  clear h0 h1 hB hs
  go_cut [6] (fun s6 wx => RedR w k0 k1 g0 g1 g2 (beV (bs.extract 0 f).toList % P) s6 wx)
  case first =>
    go_region_held3 (fun w' => w'.cell? ⟨k0, 0, none⟩ = some (.int .u64 (g0 : Int)) ∧ w'.cell? ⟨k0, 1, none⟩ = some (.int .u64 (g1 : Int)) ∧ w'.cell? ⟨k0, 2, none⟩ = some (.int .u64 (g2 : Int)) ∧ w'.cell? ⟨k0, 3, none⟩ = some (.int .u64 0) ∧ Kept w k0 [⟨k0, 0, g0, g1, g2, 0⟩, ⟨k1, 0, 0, 0, 0, 0⟩] w') (first | (with_reducible exact redS_of KP) | (with_reducible exact redS_of KP.drew) | (with_reducible exact redS_allocd (by assumption)) | (with_reducible exact redS_alloc (by assumption)) | (with_reducible exact redS_of (KP.alloc _)) | (with_reducible exact redS_of (KP.set4' M7 (fun x hx => Nat.ne_of_gt (N7 x hx)) _ _ _ _)) | (with_reducible exact redS_of (KP.alloc _).drew) | (with_reducible exact redS_of (KP.set4' M7 (fun x hx => Nat.ne_of_gt (N7 x hx)) _ _ _ _).drew) | fail) (first | (go_at_call 53; refine (fromBytes_any (some ⟨g, o, none⟩) g o f cap (bs.extract 0 f) _ (Nat.le_of_lt hf32) e4 HS.out (Or.inr ⟨rfl, holds_front f (Holds.below HBS.out (redS_get (by assumption)).bl hg) hbs⟩)).mono ?_; rintro e w1 ⟨v, rfl, hb1, hF1⟩; obtain ⟨a1, b1, c1, d1, rfl, ha1, hb1', hc1, hd1, es1⟩ := id hF1; clear es1; have HF1 : Hid (Four _ _) := hF1; clear hF1; (try (with_reducible have T1 := T.call hb1; clear T; have T := T1; clear T1)); (try (first | (with_reducible have T := (At4.made _ 76 0 0 0 0 rfl).call hb1) | (with_reducible have T := (At4.made _ 76 0 0 0 0 rfl).drew.call hb1)); have N7 := KP.lts; have M7 := KP.le); have KP1 := Kept.call (redS_get (by assumption)) hb1; clear KP; have KP := KP1; clear KP1 hb1) | (go_at_call 55; refine (four_any _ _ HF1.out _).mono ?_; rintro e w1 ⟨v, rfl, hb1, rfl⟩; (try (with_reducible have T1 := T.call hb1; clear T; have T := T1; clear T1)); (try (first | (with_reducible have T := (At4.made _ 76 0 0 0 0 rfl).call hb1) | (with_reducible have T := (At4.made _ 76 0 0 0 0 rfl).drew.call hb1)); have N7 := KP.lts; have M7 := KP.le); have KP1 := Kept.call (redS_get (by assumption)) hb1; clear KP; have KP := KP1; clear KP1 hb1) | (go_at_call 155; refine (fold_any g0 g1 g2 _ _ _ _ P HG.h0 HG.h1 HG.h2 HG.hor HG.hP HG.hP2 HF1.out (Four.mk (a := 0) (b := 0) (c := 0) (d := 0) dC dC dC dC rfl) _).mono ?_; rintro e w1 ⟨v, rfl, hb1, hF3⟩; obtain ⟨a', b', c', d', rfl, ha', hb', hc', hd', es3⟩ := id hF3; clear es3; have HF3 : Hid (Four _ _) := hF3; clear hF3; (try (with_reducible have T1 := T.call hb1; clear T; have T := T1; clear T1)); (try (first | (with_reducible have T := (At4.made _ 76 0 0 0 0 rfl).call hb1) | (with_reducible have T := (At4.made _ 76 0 0 0 0 rfl).drew.call hb1)); have N7 := KP.lts; have M7 := KP.le); have KP1 := Kept.call (redS_get (by assumption)) hb1; clear KP; have KP := KP1; clear KP1 hb1; (try (obtain ⟨tc0, tc1, tc2, tc3, tf⟩ := id T; have zt := T.lt))))
    all_goals (try go_wp2)
    all_goals (rw [show val 0 0 0 0 = 0 from rfl, Nat.mul_zero, Nat.add_zero] at HF3)
    all_goals (go_meet; first | (with_reducible exact RedR.made KP HF3) | (with_reducible exact (RedR.made KP HF3).drew) | (with_reducible exact RedR.put KP T M7 N7 HF3) | (with_reducible exact (RedR.put KP T M7 N7 HF3).drew) | fail)
  case rest =>
    clear KP
    obtain ⟨k6, a, b, c, d, rfl, KP, n60, n61, M6, HF⟩ := hcut
    have f0 : (0 : Int) ≤ (f : Int) := Int.natCast_nonneg _
    go_upto_region 3 with fail
    go_cut [1] (fun s1 wx => ∃ q : Nat, s1 = .slice (some ⟨g, q, none⟩) (n - f) (cap - f) ∧ Hid (0 < n - f → q = o + f) ∧ Kept w k0 [⟨k6, 0, a, b, c, d⟩, ⟨k0, 0, g0, g1, g2, 0⟩, ⟨k1, 0, 0, 0, 0, 0⟩] wx)
    case first =>
      by_cases ec : cap = f
      · have en : n = f := oM
        have HEN : Hid (n = f ∧ cap = f) := ⟨en, ec⟩
        go_wp2
        go_meet
        refine ⟨o, ?_, fun h => ?_, KP⟩
        · rw [HEN.1, HEN.2]; try simp
        · have := HEN.1; omega
      · go_wp2
        go_meet
        exact ⟨o + f, rfl, fun _ => rfl, KP⟩
    case rest =>
    clear KP
    obtain ⟨q0, rfl, HQ0, KP⟩ := hcut
    go_wp2_with fail
    go_loopg [1] (n - f) (fun gk s1 wr => ∃ (l q lc a b c d : Nat), gk = l ∧ l ≤ n ∧ s1 = .slice (some ⟨g, q, none⟩) l lc ∧ Hid (l % 32 = 0 ∧ (0 < l → q = o + (n - l)) ∧ lc = cap - (n - l)) ∧ Kept w k0 [⟨k6, 0, a, b, c, d⟩, ⟨k0, 0, g0, g1, g2, 0⟩, ⟨k1, 0, 0, 0, 0, 0⟩] wr ∧
      Hid (Four (.agg #[.int .u64 (a : Int), .int .u64 (b : Int), .int .u64 (c : Int), .int .u64 (d : Int)]) (beV (bs.extract 0 (n - l)).toList % P)))
    case atStart =>
      refine ⟨n - f, q0, cap - f, a, b, c, d, rfl, oM, rfl, ⟨by have := Hf.out; omega, fun h => by have := HQ0.out h; omega, oM⟩, KP, ?_⟩
      rw [show n - (n - f) = f by omega]
      exact HF
    case round =>
      clear KP HF
      obtain ⟨l, q, lc, a, b, c, d, hgk, hln, rfl, HQ3, KP, HF⟩ := hrel
      clear e2 e3 e4 f0 hbs HS hf32 hfn HQ0
      have hlcl : l ≤ lc := by have := HQ3.out; omega
      by_cases h0 : l = 0
      · subst h0
        obtain ⟨xc0, xc1, xc2, xc3, xf⟩ := KP.head.at4
        have z7 := KP.head.lt
        go_wp2_with fail
        refine (number_any _ _ HF.out _).mono ?_
        rintro e w3 ⟨v, rfl, hb3, rfl⟩
        have KP3 := KP.call hb3
        clear hb3 xc0 xc1 xc2 xc3 xf z7 KP
        obtain ⟨rc0, rc1, rc2, rc3, rf⟩ := KP3.tail.tail.head.at4
        have z3 := KP3.tail.tail.head.lt
        go_wp2
        have RF := KP3.tail.tail.head.at4.self4 a b c d
        unfold set4 at RF
        refine bodyPost_ret (v := ?v) ?hr rfl ?hR
        case hr => simp [results, Tryz.results204, go_sem, RF.c0, RF.c1, RF.c2, RF.c3]; rfl
        refine ⟨_, rfl, ?_, ?_⟩
        · rw [H0.out]
          exact below_set4 KP3.bl Q1.out _ _ _ _
        · have := HF.out
          rw [Nat.sub_zero, ← HSZ.out, Array.extract_size] at this
          exact this
      · have h32 : 32 ≤ l := by have := HQ3.out; omega
        have HQ : Hid (o + (n - l) = q) := (HQ3.2.1 oM).symm
        have h32c : 32 ≤ lc := oM
        have i1 : (32 : Int) ≤ (lc : Int) := oM
        have i2 : (32 : Int) ≤ (l : Int) := oM
        have i3 : (0 : Int) < (l : Int) := oM
        have HSL : Hid (n - l + 32 ≤ bs.size) := by unfold Hid; have := HSZ.out; omega
        have HS3 : Hid ((bs.extract (n - l) (n - l + 32)).size = 32) := by unfold Hid; rw [Array.size_extract]; have := HSL.out; omega
        obtain ⟨tc0, tc1, tc2, tc3, tf⟩ := KP.head.at4
        have zt := KP.head.lt
        obtain ⟨pc0, pc1, pc2, pc3, pf⟩ := KP.tail.head.at4
        have hl6 : ∀ x ∈ ([⟨k0, 0, g0, g1, g2, 0⟩, ⟨k1, 0, 0, 0, 0, 0⟩] : List Blk), k6 ≠ x.k := by simp only [List.mem_cons, List.not_mem_nil, or_false]; rintro x (rfl | rfl); exact n60; exact n61
        have HFF : Hid (_ = _) := red_step (P := P) bs (n - l) HSL.out
        go_wp2_with fail
        go_region_with (first | (go_at_call 53; refine (fromBytes_any (some ⟨g, q, none⟩) g q 32 lc (bs.extract (n - l) (n - l + 32)) _ (Nat.le_refl 32) h32c HS3.out (Or.inr ⟨rfl, HQ.out ▸ holds_part (n - l) 32 (by first | (with_reducible exact Holds.below HBS.out KP.bl hg) | (with_reducible exact Holds.below HBS.out KP.drew.bl hg) | fail) HSL.out⟩)).mono ?_; rintro e w1 ⟨v, rfl, hb1, hF1⟩; obtain ⟨a1, b1, c1, d1, rfl, ha1, hb1', hc1, hd1, es1⟩ := id hF1; clear es1; have HF1 : Hid (Four _ _) := hF1; clear hF1; (first | (with_reducible have KP1 := KP.call hb1) | (with_reducible have KP1 := KP.drew.call hb1) | fail); clear KP; have KP := KP1; clear KP1 hb1; obtain ⟨tc0, tc1, tc2, tc3, tf⟩ := KP.head.at4; have zt := KP.head.lt; obtain ⟨pc0, pc1, pc2, pc3, pf⟩ := KP.tail.head.at4) | (go_at_call 55; refine (four_any _ _ HF1.out _).mono ?_; rintro e w1 ⟨v, rfl, hb1, rfl⟩; (first | (with_reducible have KP1 := KP.call hb1) | (with_reducible have KP1 := KP.drew.call hb1) | fail); clear KP; have KP := KP1; clear KP1 hb1; obtain ⟨tc0, tc1, tc2, tc3, tf⟩ := KP.head.at4; have zt := KP.head.lt; obtain ⟨pc0, pc1, pc2, pc3, pf⟩ := KP.tail.head.at4) | (go_at_call 155; refine (fold_any g0 g1 g2 _ _ _ _ P HG.h0 HG.h1 HG.h2 HG.hor HG.hP HG.hP2 HF1.out HF.out _).mono ?_; rintro e w1 ⟨v, rfl, hb1, hF3⟩; obtain ⟨a', b', c', d', rfl, ha', hb', hc', hd', es3⟩ := id hF3; clear es3; have HF3 : Hid (Four _ _) := hF3; clear hF3; (first | (with_reducible have KP1 := KP.call hb1) | (with_reducible have KP1 := KP.drew.call hb1) | fail); clear KP; have KP := KP1; clear KP1 hb1; obtain ⟨tc0, tc1, tc2, tc3, tf⟩ := KP.head.at4; have zt := KP.head.lt; obtain ⟨pc0, pc1, pc2, pc3, pf⟩ := KP.tail.head.at4))
        all_goals (rw [HFF.out] at HF3)
        all_goals (by_cases i4 : lc = 32)
        all_goals (try go_wp2)
        all_goals
          (go_roundg (l - 32)
           case measure => omega
           case rel =>
            first
              | refine ⟨l - 32, q + 32, lc - 32, a', b', c', d', rfl, oM, rfl, ⟨by have := HQ3.out; omega, fun _ => by have := HQ.out; omega, by have := HQ3.out; omega⟩, ?_, ?_⟩
              | refine ⟨l - 32, q, lc - 32, a', b', c', d', rfl, oM, by first | rfl | (rw [i4]), ⟨by have := HQ3.out; omega, fun h => oM, by have := HQ3.out; omega⟩, ?_, ?_⟩
              | fail
            · first | (with_reducible exact KP.put M6 hl6 a' b' c' d') | (with_reducible exact (KP.put M6 hl6 a' b' c' d').drew) | fail
            · rw [show n - (l - 32) = n - l + 32 by omega]; exact HF3)
def sPl (N a b:Nat):Nat:=(a+b)%N
theorem sPlus_c (O:Ord N) {a b:Nat} (c:a<N) (k:b<N):Gives 50 #[gv1,nv a,nv b] (nv (sPl N a b)):=fun w =>
 (Plus_any _ _ _ N _ _ a b O.gap (O.four c) (O.four k) c k w).mono (by rintro e w' ⟨v,rfl,k,d⟩;exact ⟨_,rfl,k,d.nv⟩)
theorem sPlu_c (O:Ord N) (a b:Nat) (d:a<N) (c:b<N):Gives 25 #[(nv a),(nv b)] (nv (sPl N a b)):=by
 intro w
 go_enter Tryz.func25,Tryz.ntmps25
 refine RG.M.enter [(0,(.v (nv a))),(1,(.v (nv b)))] 12 kR ?_
 intro a0 e
 repeat refine wp_seq ?_
 refine e.T [.m 0,.m 1,.m 2] [(0,(wn a)),(1,(wn b)),(2,(RG.z 4))] [] [(wn a),(wn b),(RG.z 4)] [2,3,4] ⟨RG.mk 0 44,RG.mk 1 44,RG.mk 2 44,trivial⟩ ?_
 intro g l i n j f
 repeat refine wp_seq ?_
 refine f.D [.c gv1,.s (.p 0 0),.x (nv a),.s (.p 1 0),.x (nv b),.c (nv (sPl N a b)),.x (nv (sPl N a b)),.u 2] [] [(2,7,(wn (sPl N a b)))] [(wn a),(wn b),(wn (sPl N a b))] [4] ⟨RG.cl (Scalars_c),RG.st,RG.ld u38 i38,RG.st,RG.ld u38 i38,RG.cl (sPlus_c O d c),RG.st,RG.pt i40,trivial⟩ ?_
 intro a2 m k
 refine wp_ret ?_
 refine bodyPost_ret (v:=(nv (sPl N a b))) (RG.results_row k.st 4 44 rfl 2 _ rfl (k.at (s:=(.p 2 0))) u40 i40) k.sl.defers ?_
 exact ⟨_,rfl,k.st.bel.below,rfl⟩
def redu (N:Nat) (k:Bs):Nat:=beV k.toList%N
def FSRd_1 (v:Value) (n:Nat):List RG.It:=[.c 3 [] gv1,.x 4 [] v,.c 5 [(3,0),(4,1)] (nv n),.x 6 [(5,2)] (nv n),.u [(6,3)] 0]
theorem reduced_c (O:Ord N) (g:Nat) (k:Bs) (l:k.size=64) (w:World) (f:g<w.heap.size) (j:Holds encB w g 0 k):Calls Tryz.prog 180 #[.slice (some ⟨g,0,none⟩) 64 64] w (Ret fun e w'=>Below w.heap.size w w'∧e=nv (redu N k)):=by
 have m:∀ w',RG.BelX w.heap.size [] w w'→Calls Tryz.prog 204 #[gv1,.slice (some ⟨g,0,none⟩) 64 64] w' (Ret fun e b=>Below w'.heap.size w' b∧e=nv (redu N k)):=fun w' d =>
  (PReduce_any _ _ _ N g 0 64 64 k O.gap w' l (Nat.le_refl _) (Nat.lt_of_lt_of_le f d.below.size) (Holds.below j d.below f)).mono (by rintro e b ⟨v,rfl,d,c⟩;exact ⟨_,rfl,d,c.nv⟩)
 go_enter Tryz.func180,Tryz.ntmps180
 refine RG.M.enter [(0,(.v (.slice (some ⟨g,0,none⟩) 64 64)))] 7 kR ?_
 intro a0 n
 repeat refine wp_seq ?_
 refine n.T [.m 0] [(0,(RG.z 4))] [] [(RG.z 4)] [0,2] ⟨RG.mk 0 44,trivial⟩ ?_
 intro q r o i
 repeat refine wp_seq ?_
 refine i.t (FSRd_1 (.slice (some ⟨g,0,none⟩) 64 64) (redu N k)) [] [(0,4,(wn (redu N k)))] [(wn (redu N k))] [(2,(.p 0 0))] ⟨RG.cl (Scalars_c),RG.st,RG.clB (fun _ _=>kR) m,RG.st,RG.pt i40,trivial⟩ ?_
 intro a2 p c
 refine wp_ret ?_
 refine bodyPost_ret (v:=(nv (redu N k))) (RG.results_row c.st 2 44 rfl 0 _ rfl (c.at (s:=(.p 0 0))) u40 i40) c.sl.defers ?_
 exact ⟨_,rfl,c.st.bel.below,rfl⟩
theorem redu_lt (O:Ord N) (k:Bs):redu N k<N:=Nat.mod_lt _ O.pos
def chL (N:Nat) (k:List UInt8) (b:List (List UInt8)):Nat:=redu N (SP.strmL (SP.tagL k b).toList 64)
theorem row_new (w:World) (c:List Value) (T:TypeId):Row (w.alloc (.cells c.toArray T)) w.heap.size c:=
 have h:=RG.Made.alloc w c T
 ⟨h.lt,h.range,h.there⟩
theorem wn_one (n:Nat):(wn n).toArray.all (·.oneCell')=true:=kR
theorem spread_c (O:Ord N) (j:Nat) (T:Bs) (w:World) (q:T.size=32) (x:Holds encB w j 0 T) :
 Calls Tryz.prog 122 #[.slice (some ⟨j,0,none⟩) 32 32] w (Ret fun e w'=>Below w.heap.size w w'∧e=nv (redu N (SP.strmL T.toList 64))):=by
 obtain ⟨S,r⟩:∃ S,Hid (SP.strmL T.toList 64=S):=⟨_,rfl⟩
 have p:S.size=64:=by rw[← r.out];exact SP.strm_size _ _
 rw[r.out]
 obtain ⟨c,b⟩:∃ c,Hid (w.alloc (.cells #[.int .u64 0,.int .u64 0,.int .u64 0,.int .u64 0] 44)=c):=⟨_,rfl⟩
 have i:Hid (Row c w.heap.size [.int .u64 0,.int .u64 0,.int .u64 0,.int .u64 0]∧Below w.heap.size w c∧Holds encB c j 0 T):=by rw[← b.out];exact ⟨row_new w _ _,below1 w _,Holds.below x (below1 w _) (Holds.lt x oM)⟩
 clear x
 go_enter Tryz.func122,Tryz.ntmps122
 go_wp2_with fail
 rw[b.out]
 clear b
 refine (SP.Stream_yes (some ⟨j,0,none⟩) j 0 32 32 64 T c dC q (Nat.le_refl _) dC (Or.inr ⟨rfl,i.2.2⟩)).mono ?_
 rintro e l ⟨z,rfl,B,o,s⟩
 rw[r.out] at s
 have d:Hid (Row l w.heap.size [.int .u64 0,.int .u64 0,.int .u64 0,.int .u64 0]∧Below w.heap.size w l∧Holds encB l z 0 S):=⟨i.1.below o,i.2.1.trans (o.mono i.2.1.size),s⟩
 clear B o s i
 go_wp2_with fail
 refine (reduced_c O z S p l (Holds.lt d.2.2 oM) d.2.2).mono ?_
 rintro e u ⟨v,rfl,k,rfl⟩
 have t:Hid (Row u w.heap.size [.int .u64 0,.int .u64 0,.int .u64 0,.int .u64 0]∧Below w.heap.size w u):=⟨d.1.below k,d.2.1.trans (k.mono d.2.1.size)⟩
 clear k d
 obtain ⟨m,y⟩:∃ m,Hid (redu N S=m):=⟨_,rfl⟩
 rw[y.out]
 obtain ⟨n,g⟩:∃ n,Hid (u.setCells w.heap.size 0 (wn m)=n):=⟨_,rfl⟩
 have a:Hid (Row n w.heap.size (wn m)∧Below w.heap.size w n):=by rw[← g.out];exact ⟨t.1.put rfl,RG.below_setCells (Nat.le_refl _) _ _ _ t.2⟩
 obtain ⟨A,f⟩:∃ A,Hid (nv m=A):=⟨_,rfl⟩
 rw[f.out]
 go_wp2_with (refine wpList_store_mid rfl 44 _ _ rfl w.heap.size 0 (wn m).toArray ?_ ?_ ?_ ?_ ?_ ?_;rfl;exact f.symm;exact t.1.2.2;exact i40;exact wn_one m;rw[show (wn m).toArray.toList=wn m from rfl,g.out])
 refine bodyPost_ret (results_cell 2 44 rfl a.1 rfl u40 i40) rfl ?_
 exact ⟨_,rfl,a.2,by rw[y.out];rfl⟩
theorem chance_c (O:Ord N) (k:ByteArray) (t:Option Addr) (n cap:Nat) (i:List (List UInt8)) (w:World) (l:k.size≤1048576) (H:i.length=n) (q:n≤1048576) (I:SP.PartsOk w t i) :
 Calls Tryz.prog 74 #[.string k,.slice t n cap] w (Ret fun e w'=>Below w.heap.size w w'∧e=nv (chL N k.data.toList i)):=by
 obtain ⟨T,A⟩:∃ T,Hid (SP.tagL k.data.toList i=T):=⟨_,rfl⟩
 have y:T.size=32:=by rw[← A.out];exact SP.tagL_size _ _
 have E:chL N k.data.toList i=redu N (SP.strmL T.toList 64):=by unfold chL;rw[A.out]
 rw[E]
 clear E
 obtain ⟨c,g⟩:∃ c,Hid (w.alloc (.cells #[.int .u64 0,.int .u64 0,.int .u64 0,.int .u64 0] 44)=c):=⟨_,rfl⟩
 have b:Hid (Row c w.heap.size [.int .u64 0,.int .u64 0,.int .u64 0,.int .u64 0]∧Below w.heap.size w c):=by rw[← g.out];exact ⟨row_new w _ _,below1 w _⟩
 have d:Hid (Calls Tryz.prog 46 #[.string k,.slice t n cap] c fun e w'=>∃ r,e=.returned (.slice (some ⟨r,0,none⟩) 32 32)∧c.heap.size≤r∧Below c.heap.size c w'∧Holds encB w' r 0 T):=by
  subst H
  rw[← A.out]
  exact SP.Tag_any k t cap i c l q (I.below b.2)
 clear I H q
 go_enter Tryz.func74,Tryz.ntmps74
 go_wp2_with fail
 rw[g.out]
 clear g
 refine d.mono ?_
 rintro e s ⟨F,rfl,J,x,C⟩
 have p:Hid (Row s w.heap.size [.int .u64 0,.int .u64 0,.int .u64 0,.int .u64 0]∧Below w.heap.size w s∧Holds encB s F 0 T):=⟨b.1.below x,b.2.trans (x.mono b.2.size),C⟩
 clear J x C d b
 go_wp2_with fail
 refine (spread_c O F T s y p.2.2).mono ?_
 rintro e a ⟨v,rfl,f,rfl⟩
 have z:Hid (Row a w.heap.size [.int .u64 0,.int .u64 0,.int .u64 0,.int .u64 0]∧Below w.heap.size w a):=⟨p.1.below f,p.2.1.trans (f.mono p.2.1.size)⟩
 clear f p
 obtain ⟨m,B⟩:∃ m,Hid (redu N (SP.strmL T.toList 64)=m):=⟨_,rfl⟩
 rw[B.out]
 obtain ⟨u,o⟩:∃ u,Hid (a.setCells w.heap.size 0 (wn m)=u):=⟨_,rfl⟩
 have D:Hid (Row u w.heap.size (wn m)∧Below w.heap.size w u):=by rw[← o.out];exact ⟨z.1.put rfl,RG.below_setCells (Nat.le_refl _) _ _ _ z.2⟩
 obtain ⟨G,j⟩:∃ G,Hid (nv m=G):=⟨_,rfl⟩
 rw[j.out]
 go_wp2_with (refine wpList_store_mid rfl 44 _ _ rfl w.heap.size 0 (wn m).toArray ?_ ?_ ?_ ?_ ?_ ?_;rfl;exact j.symm;exact z.1.2.2;exact i40;exact wn_one m;rw[show (wn m).toArray.toList=wn m from rfl,o.out])
 refine bodyPost_ret (results_cell 4 44 rfl D.1 rfl u40 i40) rfl ?_
 exact ⟨_,rfl,D.2,by rw[B.out];rfl⟩
end
section
open Go.RowKit Go.Sort Go.Deep
section
variable {P:Program} {ops:Array Oper} {rest:List Oper} {op:Oper} {a:Act} {w w':World} {v:Value} {Q:Exit→Act→World→Prop}
theorem wpList_op (k:op.guard=none) (X:Op) (_:op.op=X) (b:(execOp a.eval op).run P w=.ok (.value v) w') (h:wpList P ops Q rest (a.put op.dst v) w'):wpList P ops Q (op :: rest) a w:=
 wpList_plain k fun K c=>by
  unfold Oper.wp
  rw[b]
  exact c _ _ h
end
variable {N:Nat}
theorem Row.only {W W':World} {k b o n:Nat} {vs:List Value} (h:Row W k vs) (e:SP.Only b o n W W') (d:k≠b):Row W' k vs:=by
 refine ⟨Nat.lt_of_lt_of_le h.1 e.size,fun j v f=>?_,fun j f=>?_⟩
 ·rw[(e.other (c:=k) (o:=0+j) d h.1).1];exact h.2.1 j v f
 ·have i:=h.2.2 j f
  have g:=e.other (c:=k) (o:=0+j) d h.1
  exact ⟨by rw[g.1];exact i.1,by rw[g.2];exact i.2⟩
theorem only_setCells {w W:World} {y o n k:Nat} {vs:List Value} (h:SP.Only y o n w W) (e:y<w.heap.size) (g:w.heap.size≤k) (q:Nat):SP.Only y o n w (W.setCells k q vs):=
 have b:=RG.below_setCells g _ _ _ (Below.refl _ _)
 ⟨b.os.trans h.os,b.tape.trans h.tape,b.output.trans h.output,Nat.le_trans h.size b.size,fun j d c=>(b.block j d).trans (h.block j d c),fun p f=>(World.cell?_of_block (a:=⟨y,p,none⟩) (b.block y e)).trans (h.cell p f),fun p=>(World.frozen?_of_block (a:=⟨y,p,none⟩) (b.block y e)).trans (h.froz p)⟩
theorem Hid.mk' {p:Prop} (h:p):Hid p:=h
theorem u124:(Tryz.prog.underlying 157).map (·.isRow)=some true:=kR
theorem i124:(Tryz.prog.info? 157).map (·.size)=some 1:=kR
theorem sNewLog_c (k:ByteArray) (w:World) (l:k.size≤1048576):Calls Tryz.prog 185 #[.string k] w (Ret fun e w'=>Below w.heap.size w w'∧∃ r,e=.agg #[.pointer (some ⟨r,0,none⟩)]∧w.heap.size≤r∧r<w'.heap.size∧Holds encB w' r 0 (SP.newL k.data.toList)):=by
 obtain ⟨L,t⟩:=hE (SP.newL k.data.toList)
 have u:L.size=32:=by rw[← t.out];exact SP.newL_size _
 rw[t.out]
 obtain ⟨c,d⟩:∃ c,Hid (w.alloc (.cells #[.pointer none] 157)=c):=⟨_,rfl⟩
 have n:Hid (Row c w.heap.size [.pointer none]∧Below w.heap.size w c):=by rw[← d.out];exact ⟨row_new w _ _,below1 w _⟩
 go_enter Tryz.func185,Tryz.ntmps185
 go_wp2_with fail
 rw[d.out]
 clear d
 refine (SP.NewLog_any k c l).mono ?_
 rintro e f ⟨rfl,g,b⟩
 rw[t.out] at b
 have o:c.heap.size<f.heap.size:=Holds.lt b oM
 obtain ⟨r,s⟩:∃ r,Hid (c.heap.size=r):=⟨_,rfl⟩
 rw[s.out] at b o ⊢
 have x:w.heap.size<r:=by rw[← s.out];exact n.1.1
 have p:Hid (Row f w.heap.size [.pointer none]∧Below w.heap.size w f∧Holds encB f r 0 L):=⟨n.1.below g,n.2.trans (g.mono n.2.size),b⟩
 clear g b n s
 obtain ⟨i,m⟩:∃ i,Hid (f.setCells w.heap.size 0 [.pointer (some ⟨r,0,none⟩)]=i):=⟨_,rfl⟩
 have q:Hid (Row i w.heap.size [.pointer (some ⟨r,0,none⟩)]∧Below w.heap.size w i∧Holds encB i r 0 L∧r<i.heap.size):=by
  rw[← m.out]
  refine ⟨p.1.put rfl,RG.below_setCells (Nat.le_refl _) _ _ _ p.2.1,fun j y=>?_,by rw[RG.setCells_size];exact o⟩
  have h:=p.2.2 j y
  have e:=RG.setCells_other w.heap.size [.pointer (some ⟨r,0,none⟩)] 0 f r oM
  rw[World.cell?_of_block (a:=⟨r,0+j,none⟩) e,World.frozen?_of_block (a:=⟨r,0+j,none⟩) e]
  exact h
 go_wp2_with (refine wpList_op (v:=.agg #[.pointer (some ⟨r,0,none⟩)]) (w':=f) rfl (.build 157 _) rfl ?_ ?_;kernel_rfl;refine Hid.out ?_)
 show wpList _ _ _ _ _ _
 refine wpList_store_mid rfl 157 _ _ rfl w.heap.size 0 #[.pointer (some ⟨r,0,none⟩)] ?_ ?_ ?_ ?_ ?_ ?_
 ·kernel_rfl
 ·kernel_rfl
 ·exact p.1.2.2
 ·exact i124
 ·kernel_rfl
 rw[show (#[Value.pointer (some ⟨r,0,none⟩)]).toList=[.pointer (some ⟨r,0,none⟩)] from rfl,m.out]
 go_wp2
 refine bodyPost_ret (results_cell 2 157 rfl q.1 rfl u124 i124) rfl ?_
 exact ⟨_,rfl,q.2.1,r,rfl,oM,q.2.2.2,q.2.2.1⟩
def cha (N:Nat) (L:Bs):Nat:=redu N (SP.askL L [99,104,97,108,108,101,110,103,101] 64)
end
namespace SP
open Go.RowKit Go.Sort Go.Deep
attribute [local go_sem] bits_xor64 bits_and64 bits_or64 wrap_u
end SP
namespace SP
open Go.RowKit Go.Sort Go.Deep
attribute [local go_sem] bits_xor64 bits_and64 bits_or64 wrap_u
end SP
namespace SP
open Go.RowKit Go.Sort Go.Deep
attribute [local go_sem] bits_xor64 bits_and64 bits_or64 bits_not64 wrap_u
end SP
namespace SP
open Go.RowKit Go.Sort Go.Deep
attribute [local go_sem] bits_xor64 bits_and64 bits_or64 bits_not64 wrap_u wrap_ub low_u
end SP
namespace SP
open Go.RowKit Go.Sort Go.Deep
attribute [local go_sem] bits_xor8
end SP
namespace SP
open Go.RowKit Go.Sort Go.Deep
end SP
namespace SP
open Go.RowKit Go.Sort Go.Deep
end SP
namespace SP
open Go.RowKit Go.Sort Go.Deep
end SP
namespace SP
open Go.RowKit Go.Sort Go.Deep
end SP
section
open Go.RowKit Go.Sort Go.Deep
variable {P:Nat} [NeZero P] {N:Nat}
end
section
open Go.RowKit Go.Sort
variable {P:Nat} [NeZero P] {N:Nat}
end
section
open Go.RowKit Go.Sort Go.Deep
variable {P:Nat} [NeZero P] {N:Nat}
def n12 (P:Nat) [NeZero P]:List Value:=ws (0:Fin P)++(ws (1:Fin P)++ws (0:Fin P))
end
section
open Go.RowKit Go.Sort
variable {P:Nat} [NeZero P] {N:Nat}
end
section
open Go.RowKit Go.Sort Go.Deep
variable {P:Nat} [NeZero P] {N:Nat}
end
section
open Go.RowKit Go.Sort
variable {P:Nat} [NeZero P] {N:Nat}
end
section
open Go.RowKit Go.Sort Go.Deep
variable {P:Nat} [NeZero P] {N:Nat}
end
section
open Go.RowKit Go.Sort
variable {P:Nat} [NeZero P] {N:Nat}
end
section
open Go.RowKit Go.Sort Go.Deep
variable {P:Nat} [NeZero P] {N:Nat}
theorem mk32 (w:World):(Instr.makeSlice 23 (.int .i64 32) (.int .i64 32)).run Tryz.prog w=.ok (.slice (some ⟨w.heap.size,0,none⟩) 32 32) (w.alloc (.cells (madeCells #[.int .u8 0] 32) 5)):=
 run_make_row' (P:=Tryz.prog) 23 5 (.int .u8 0) 1 und23 info5b rfl .i64 .i64 32 dC dC w
end
section
open Go.RowKit Go.Sort Go.Deep
variable {N:Nat}
variable {P:Nat} [NeZero P]
end
section
open Go.RowKit Go.Sort Go.Deep
variable {P:Nat} [NeZero P] {N:Nat}
theorem undCP:Tryz.prog.underlying 51=some (.array 33 5):=kR
theorem bl33_lit {b:Bs} (h:b.size=33):bl33 b=[.int .u8 (ub b[0]!),.int .u8 (ub b[1]!),.int .u8 (ub b[2]!),.int .u8 (ub b[3]!),.int .u8 (ub b[4]!),.int .u8 (ub b[5]!),.int .u8 (ub b[6]!),.int .u8 (ub b[7]!),.int .u8 (ub b[8]!),.int .u8 (ub b[9]!),.int .u8 (ub b[10]!),.int .u8 (ub b[11]!),.int .u8 (ub b[12]!),.int .u8 (ub b[13]!),.int .u8 (ub b[14]!),.int .u8 (ub b[15]!),.int .u8 (ub b[16]!),.int .u8 (ub b[17]!),.int .u8 (ub b[18]!),.int .u8 (ub b[19]!),.int .u8 (ub b[20]!),.int .u8 (ub b[21]!),.int .u8 (ub b[22]!),.int .u8 (ub b[23]!),.int .u8 (ub b[24]!),.int .u8 (ub b[25]!),.int .u8 (ub b[26]!),.int .u8 (ub b[27]!),.int .u8 (ub b[28]!),.int .u8 (ub b[29]!),.int .u8 (ub b[30]!),.int .u8 (ub b[31]!),.int .u8 (ub b[32]!)]:=by
 apply List.ext_getElem?
 intro i
 by_cases k:i<33
 ·rw[bl33_at b i oM]
  match i,k with
  | 0,_=>rfl
  | 1,_=>rfl
  | 2,_=>rfl
  | 3,_=>rfl
  | 4,_=>rfl
  | 5,_=>rfl
  | 6,_=>rfl
  | 7,_=>rfl
  | 8,_=>rfl
  | 9,_=>rfl
  | 10,_=>rfl
  | 11,_=>rfl
  | 12,_=>rfl
  | 13,_=>rfl
  | 14,_=>rfl
  | 15,_=>rfl
  | 16,_=>rfl
  | 17,_=>rfl
  | 18,_=>rfl
  | 19,_=>rfl
  | 20,_=>rfl
  | 21,_=>rfl
  | 22,_=>rfl
  | 23,_=>rfl
  | 24,_=>rfl
  | 25,_=>rfl
  | 26,_=>rfl
  | 27,_=>rfl
  | 28,_=>rfl
  | 29,_=>rfl
  | 30,_=>rfl
  | 31,_=>rfl
  | 32,_=>rfl
  | n+33,h=>exact absurd h oM
 ·rw[List.getElem?_eq_none (by rw[bl33_length h];omega),List.getElem?_eq_none (by show 33≤i;omega)]
theorem bytes_eq {a b:Bs} (e:a.size=33) (c:b.size=33):(∀ i∈List.range 33,ub a[i]! = ub b[i]!)↔a=b:=by
 constructor
 ·intro h
  apply Array.ext (by rw[e,c])
  intro i g d
  have k:=h i (List.mem_range.2 oM)
  rw[getElem!_pos a i g,getElem!_pos b i d] at k
  have f:a[i].toNat=b[i].toNat:=by unfold ub at k;omega
  exact UInt8.toNat_inj.1 f
 ·rintro rfl i _
  rfl
theorem eqCP {a b:Bs} (e:a.size=33) (d:b.size=33) (w:World):(Op.equal 51 (.agg (bl33 a).toArray) (.agg (bl33 b).toArray)).run Tryz.prog w=.ok (decide (a=b)) w:=by
 have k:(Tryz.prog.info? 5).isSome=true:=kR
 obtain ⟨f,c⟩:=Option.isSome_iff_exists.1 k
 show (Op.equalIn 10000 51 _ _).run Tryz.prog w=_
 rw[run_equalIn_array w 9999 _ _ undCP c,cells5,
  eqI _ _ (fun i=>ub a[i]!) (fun i=>ub b[i]!) 9998 w (List.range 33) (fun i k=>by
   rw[List.getElem?_toArray]
   exact bl33_at a i (by rw[e];exact List.mem_range.1 k)) (fun i k=>by
   rw[List.getElem?_toArray]
   exact bl33_at b i (by rw[d];exact List.mem_range.1 k))]
 rw[decide_eq_decide.2 (bytes_eq e d)]
theorem checkCP {b:Bs} (k:b.size=33) (e:Bool) (w:World):(Instr.checkKey e 10000 51 (.agg (bl33 b).toArray)).run Tryz.prog w=.ok () w:=by
 rw[bl33_lit k]
 kernel_rfl
def at? (b:Bs):List Bs→Nat→Option Nat
 | [],_=>none
 | k :: r,i=>if b=k then some i else at? b r (i+1)
def ents:List Bs→Nat→List MapEntry
 | [],_=>[]
 | k :: r,i=>{ key:=.agg (bl33 k).toArray,val:=.int .i64 i,born:=i } :: ents r (i+1)
theorem find_run {b:Bs} (c:b.size=33) (w:World):∀ (D:List Bs) (i:Nat),(∀ k∈D,k.size=33)→(Instr.findAsking 51 (.agg (bl33 b).toArray) (ents D i) i).run Tryz.prog w=.ok ((at? b D i).map fun j=>(j,.int .i64 j)) w
 | [],i,_=>rfl
 | k :: r,i,h=>by
  have f:=find_run c w r (i+1) (fun x hx=>h x (List.mem_cons_of_mem _ hx))
  have e:=eqCP c (h k List.mem_cons_self) w
  unfold ents Instr.findAsking at?
  simp only[Sem.run_bind,e,Result.andThen_ok]
  by_cases d:b=k
  ·simp only[d,decide_true,if_true,Sem.run_pure,Option.map_some]
  ·simp only[d,decide_false,Bool.false_eq_true,if_false,f]
theorem key_run {b:Bs} (c:b.size=33) (D:List Bs) (h:∀ k∈D,k.size=33) (w:World):(Instr.findKey 51 (.agg (bl33 b).toArray) (ents D 0)).run Tryz.prog w=.ok ((at? b D 0).map fun j=>(j,.int .i64 j)) w:=by
 have d:=run_underlying undCP w
 unfold Instr.findKey
 rw[Sem.run_bind,d,Result.andThen_ok]
 cases D with
 | nil=>rfl
 | cons k r =>
  have e:Instr.findNow (.array 33 5) (.agg (bl33 b).toArray) (ents (k :: r) 0) 0=none:=rfl
  simp only[e]
  exact find_run c w (k :: r) 0 h
theorem at?_none {b:Bs}:∀ {D:List Bs} {i:Nat},at? b D i=none↔b ∉ D
 | [],i=>by simp[at?]
 | k :: r,i=>by
  unfold at?
  by_cases h:b=k
  ·simp[h]
  ·simp[h,at?_none (D:=r) (i:=i+1)]
end
section
open Go.RowKit Go.Sort Go.Deep
section
variable {P:Program} {ops:Array Oper} {rest:List Oper} {op:Oper} {a:Act} {w w':World} {v u:Value} {Q:Exit→Act→World→Prop}
theorem wpList_box (k:op.guard=none) (T:TypeId) (x:Operand) (ho:op.op=.box T x) (hx:a.eval x=u) (b:(Instr.box T u).run P w=.ok v w') (h:wpList P ops Q rest (a.put op.dst v) w'):wpList P ops Q (op :: rest) a w:=
 wpList_plain k fun K c=>by
  unfold Oper.wp execOp
  simp only[ho,hx,Sem.run_bind,b,Result.andThen_ok,Sem.run_pure]
  exact c _ _ h
end
variable {N:Nat}
theorem infoCP:(Tryz.prog.info? 51).map (·.size)=some 33:=kR
theorem uCP:(Tryz.prog.underlying 51).map (·.isRow)=some true:=kR
theorem boxCP {a:Bs} (k:a.size=33) (w:World):(Instr.box 51 (.agg (bl33 a).toArray)).run Tryz.prog w=.ok (.pointer (some ⟨w.heap.size,0,none⟩)) (w.alloc (.cells (bl33 a).toArray 51)):=by
 rw[bl33_lit k]
 kernel_rfl
theorem slCP (k:Nat) (w:World):(Instr.sliceAt 51 (.pointer (some ⟨k,0,none⟩)) none none none).run Tryz.prog w=.ok (.slice (some ⟨k,0,none⟩) 33 33) w:=kR
theorem row_holds {W:World} {k:Nat} {a:Bs} (h:Row W k (bl33 a)):Holds encB W k 0 a:=cb_holds h.2.1 h.2.2
theorem row_part {W:World} {k:Nat} {a:Bs} (b:a.size=33) (h:Row W k (bl33 a)):SP.PartOk W (.slice (some ⟨k,0,none⟩) 33 33) a.toList:=
 ⟨_,k,0,33,a,by rw[b],rfl,oM,oM,Or.inr ⟨rfl,row_holds h⟩⟩
theorem sp_h {W:World} {r:Nat} {L:Bs} (h:Holds encB W r 0 L):Holds SP.encB W r 0 L:=h
theorem sp_k {W:World} {r:Nat} {L:Bs} (h:Holds SP.encB W r 0 L):Holds encB W r 0 L:=h
end
section
open Go.RowKit Go.Sort Go.Deep
variable {P:Nat} [NeZero P] {N:Nat}
theorem arrCP (g k:Nat) (w:World):(Instr.arrayAt 51 (.slice (some ⟨g,0,none⟩) 33 k)).run Tryz.prog w=.ok (.pointer (some ⟨g,0,none⟩)) w:=kR
theorem row_cp {W:World} {k:Nat} {a:Bs} (b:Holds encB W k 0 a) (c:k<W.heap.size):Row W k (bl33 a):=⟨c,(cb_range b).1,(cb_range b).2⟩
theorem bl33_one (a:Bs):(bl33 a).toArray.all (·.oneCell')=true:=by
 rw[Array.all_eq_true']
 intro v hv
 obtain ⟨x,-,rfl⟩:=List.mem_map.1 (List.mem_toArray.1 hv)
 rfl
def pvl (a:Bs):Value:=.agg (bl33 a).toArray
theorem gen_c (C:Fld P):Gives 77 #[] (pvl (wr (gG P))):=by
 intro w
 obtain ⟨T,u⟩:∃ T,Hid (wr (gG P)=T):=⟨_,rfl⟩
 have t:T.size=33:=by rw[← u.out];exact wr_size _
 rw[u.out]
 obtain ⟨f,b⟩:∃ f,Hid (w.alloc (.cells z33.toArray 51)=f):=⟨_,rfl⟩
 have q:Hid (Row f w.heap.size z33∧Below w.heap.size w f):=by rw[← b.out];exact ⟨row_new w _ _,below1 w _⟩
 obtain ⟨d,i,m⟩:=Option.map_eq_some_iff.1 uCP
 have A:Hid (Tryz.prog.underlying 51=some d∧d.isRow=true):=⟨i,m⟩
 clear i m
 go_enter Tryz.func77,Tryz.ntmps77
 go_wp2_with (refine wpList_op (v:=.pointer (some ⟨w.heap.size,0,none⟩)) (w':=f) rfl (.alloc 51) rfl ?_ ?_;(rw[← b.out];kernel_rfl))
 refine (Base_c C f).mono ?_
 rintro e j ⟨E,rfl,c,g,D,rfl,-,B,y,s⟩
 rw[u.out] at s
 have p:Hid (Row j w.heap.size z33∧Below w.heap.size w j∧Row j g (bl33 T)):=⟨q.1.below c,q.2.trans (c.mono q.2.size),row_cp s y⟩
 clear c B y s q b
 have a:=arrCP g D
 obtain ⟨o,l⟩:∃ o,Hid (j.setCells w.heap.size 0 (bl33 T)=o):=⟨_,rfl⟩
 have k:(bl33 T).length=33:=bl33_length t
 have z:Hid (Row o w.heap.size (bl33 T)∧Below w.heap.size w o):=by rw[← l.out];exact ⟨p.1.put (by rw[k];rfl),RG.below_setCells (Nat.le_refl _) _ _ _ p.2.1⟩
 obtain ⟨x,n⟩:∃ x,Hid (Value.agg (bl33 T).toArray=x):=⟨_,rfl⟩
 have r:Hid ((Tryz.prog.info? 51).map (·.size)=some (bl33 T).length∧j.there w.heap.size 0 (bl33 T).toArray.size∧(Tryz.prog.info? 51).map (·.size)=some (bl33 T).toArray.size):=by
  have e:(bl33 T).toArray.size=33:=by rw[List.size_toArray];exact k
  refine ⟨by rw[k];exact infoCP,by rw[e];exact p.1.2.2,by rw[e];exact infoCP⟩
 clear k
 go_wp2_with (first|(refine wpList_load_mid rfl 51 _ rfl g 0 ?_ (bl33 T) d ?_ ?_ ?_ ?_ ?_;rfl;exact p.2.2.2.1;exact A.1;exact A.2;exact r.1;rw[n.out])|(refine wpList_store_mid rfl 51 _ _ rfl w.heap.size 0 (bl33 T).toArray ?_ ?_ ?_ ?_ ?_ ?_;rfl;exact n.symm;exact r.2.1;exact r.2.2;exact bl33_one T;rw[show (bl33 T).toArray.toList=bl33 T from rfl,l.out]))
 refine bodyPost_ret (results_cell 0 51 rfl z.1 rfl uCP r.1) rfl ?_
 exact ⟨_,rfl,z.2,rfl⟩
end
section
open Go.RowKit Go.Sort Go.Deep
section
variable {P:Program} {ops:Array Oper} {rest:List Oper} {op:Oper} {a:Act} {w w':World} {v:Value} {Q:Exit→Act→World→Prop}
theorem wpList_bld (b:op.guard=none) (T:TypeId) (k:Array (Nat × Operand)) (ho:op.op=.build T k) (vs:Array (Nat × Value)) (hx:(k.map fun (i,x)=>(i,a.eval x))=vs) (c:(Instr.build T vs).run P w=.ok v w') (h:wpList P ops Q rest (a.put op.dst v) w'):wpList P ops Q (op :: rest) a w:=
 wpList_plain b fun K d=>by
  unfold Oper.wp execOp
  simp only[ho,hx,Sem.run_bind,c,Result.andThen_ok,Sem.run_pure]
  exact d _ _ h
theorem wpList_bsl (b:op.guard=none) (T:TypeId) (n:Nat) (k:Array (Nat × Operand)) (ho:op.op=.buildSlice T n k) (vs:Array (Nat × Value)) (hx:(k.map fun (i,x)=>(i,a.eval x))=vs) (c:(Instr.buildSlice T n vs).run P w=.ok v w') (h:wpList P ops Q rest (a.put op.dst v) w'):wpList P ops Q (op :: rest) a w:=
 wpList_plain b fun K d=>by
  unfold Oper.wp execOp
  simp only[ho,hx,Sem.run_bind,c,Result.andThen_ok,Sem.run_pure]
  exact d _ _ h
end
theorem bldT {a:Bs} (k:a.size=33) (n:Nat) (w:World):(Instr.build 124 #[(0,nv n),(1,pvl a)]).run Tryz.prog w=.ok (.agg (wn n++bl33 a).toArray) w:=by
 unfold pvl
 rw[bl33_lit k]
 kernel_rfl
theorem bslT {a:Bs} (k:a.size=33) (n:Nat) (w:World):(Instr.buildSlice 82 1 #[(0,.agg (wn n++bl33 a).toArray)]).run Tryz.prog w=.ok (.slice (some ⟨w.heap.size,0,none⟩) 1 1) (w.alloc (.cells (wn n++bl33 a).toArray 124)):=by
 rw[bl33_lit k]
 kernel_rfl
theorem boxS (n:Nat) (w:World):(Instr.box 44 (nv n)).run Tryz.prog w=.ok (.pointer (some ⟨w.heap.size,0,none⟩)) (w.alloc (.cells (wn n).toArray 44)):=kR
theorem ptTimes_c (a:Bs) (p:a.size=33) (n:Nat) (w:World):Calls Tryz.prog 32 #[pvl a,nv n] w (Ret fun e w'=>Below w.heap.size w w'∧∃ k,e=.slice (some ⟨k,0,none⟩) 1 1∧w.heap.size≤k∧Row w' k (wn n++bl33 a)):=by
 have H:=Hid.mk' (boxCP p w)
 obtain ⟨c,i⟩:=hE (w.alloc (.cells (bl33 a).toArray 51))
 rw[i.out] at H
 have t:c.heap.size=w.heap.size+1:=by rw[← i.out,World.size_alloc]
 have A:=Hid.mk' (boxS n c)
 obtain ⟨b,g⟩:=hE (c.alloc (.cells (wn n).toArray 44))
 rw[g.out,t] at A
 have F:b.heap.size=w.heap.size+2:=by rw[← g.out,World.size_alloc,t]
 have E:=Hid.mk' (bldT p n b)
 have r:=Hid.mk' (bslT p n b)
 obtain ⟨m,l⟩:=hE (b.alloc (.cells (wn n++bl33 a).toArray 124))
 rw[l.out,F] at r
 have K:Hid (Row b w.heap.size (bl33 a)∧Row b (w.heap.size+1) (wn n)∧Below w.heap.size w m∧Row m (w.heap.size+2) (wn n++bl33 a)):=by
  have o:Row c w.heap.size (bl33 a):=by rw[← i.out];exact row_new w _ _
  have j:Row b (w.heap.size+1) (wn n):=by rw[← g.out,← t];exact row_new c _ _
  have q:Row m (w.heap.size+2) (wn n++bl33 a):=by rw[← l.out,← F];exact row_new b _ _
  have b1:Below w.heap.size w c:=by rw[← i.out];exact below1 w _
  have f:Below c.heap.size c b:=by rw[← g.out];exact below1 c _
  have s:Below b.heap.size b m:=by rw[← l.out];exact below1 b _
  exact ⟨o.below f,j,(b1.trans (f.mono oM)).trans (s.mono oM),q⟩
 have HL:Hid ((Tryz.prog.info? 51).map (·.size)=some (bl33 a).length):=by show _=_;rw[bl33_length p];exact infoCP
 obtain ⟨d,z,B⟩:=Option.map_eq_some_iff.1 uCP
 obtain ⟨C,D,y⟩:=Option.map_eq_some_iff.1 u40
 have q:Hid ((Tryz.prog.underlying 51=some d∧d.isRow=true)∧Tryz.prog.underlying 44=some C∧C.isRow=true):=⟨⟨z,B⟩,D,y⟩
 obtain ⟨va,j⟩:=hE (pvl a)
 obtain ⟨s,f⟩:=hE (nv n)
 obtain ⟨G,o⟩:=hE (Value.agg (wn n++bl33 a).toArray)
 have x:Hid ((Instr.box 51 va).run Tryz.prog w=.ok (.pointer (some ⟨w.heap.size,0,none⟩)) c):=by rw[← j.out];exact H
 rw[f.out] at A
 rw[j.out,f.out,o.out] at E
 rw[o.out] at r
 rw[j.out,f.out]
 go_enter Tryz.func32,Tryz.ntmps32
 go_wp2_with (first|(refine wpList_box (u:=va) (v:=.pointer (some ⟨w.heap.size,0,none⟩)) (w':=c) rfl 51 (.tmp 0) rfl ?_ ?_ ?_;rfl;exact x.out)|(refine wpList_box (u:=s) (v:=.pointer (some ⟨w.heap.size+1,0,none⟩)) (w':=b) rfl 44 (.tmp 1) rfl ?_ ?_ ?_;rfl;exact A.out)|(refine wpList_load_mid rfl 44 _ rfl (w.heap.size+1) 0 ?_ (wn n) C ?_ ?_ ?_ ?_ ?_;rfl;exact K.2.1.2.1;exact q.2.1;exact q.2.2;exact i40;rw[show Value.agg (wn n).toArray=s from f.out])|(refine wpList_load_mid rfl 51 _ rfl w.heap.size 0 ?_ (bl33 a) d ?_ ?_ ?_ ?_ ?_;rfl;exact K.1.2.1;exact q.1.1;exact q.1.2;exact HL.out;rw[show Value.agg (bl33 a).toArray=va from j.out])|(refine wpList_bld (v:=G) (w':=b) rfl 124 _ rfl #[(0,s),(1,va)] ?_ ?_ ?_;kernel_rfl;exact E.out)|(refine wpList_bsl (v:=.slice (some ⟨w.heap.size+2,0,none⟩) 1 1) (w':=m) rfl 82 1 _ rfl #[(0,G)] ?_ ?_ ?_;kernel_rfl;exact r.out))
 go_ret
 exact ⟨_,rfl,K.2.2.1,w.heap.size+2,rfl,oM,K.2.2.2⟩
end
section
open Go.RowKit Go.Sort Go.Deep
variable {P:Nat} [NeZero P] {N:Nat}
theorem boxT {a:Bs} (k:a.size=33) (n:Nat) (w:World):(Instr.box 124 (.agg (wn n++bl33 a).toArray)).run Tryz.prog w=.ok (.pointer (some ⟨w.heap.size,0,none⟩)) (w.alloc (.cells (wn n++bl33 a).toArray 124)):=by
 rw[bl33_lit k]
 kernel_rfl
theorem bldS (w:World):(Instr.build 44 #[]).run Tryz.prog w=.ok (nv 0) w:=kR
def tvl (n:Nat) (a:Bs):Value:=.agg (wn n++bl33 a).toArray
theorem range_front {W:World} {k:Nat} {xs ys:List Value} (h:W.rangeAt k 0 (xs++ys)):W.rangeAt k 0 xs:=fun j v b=>h j v (by rw[List.getElem?_append_left (List.getElem?_eq_some_iff.1 b).1];exact b)
theorem range_back {W:World} {k:Nat} {xs ys:List Value} (h:W.rangeAt k 0 (xs++ys)):W.rangeAt k xs.length ys:=fun j v b=>by
 have:=h (xs.length+j) v (by rw[List.getElem?_append_right (Nat.le_add_right _ _),Nat.add_sub_cancel_left];exact b)
 rwa[Nat.zero_add] at this
theorem none_c {n:Nat} (x:n<top) {a:Bs} (t:a.size=33):Gives 110 #[tvl n a] (.bool (decide (n=0))):=by
 intro w
 have l:=Hid.mk' (boxT t n w)
 obtain ⟨k,d⟩:=hE (w.alloc (.cells (wn n++bl33 a).toArray 124))
 rw[d.out] at l
 have K:Hid (Row k w.heap.size (wn n++bl33 a)∧Below w.heap.size w k):=by rw[← d.out];exact ⟨row_new w _ _,below1 w _⟩
 obtain ⟨s,j,i⟩:=Option.map_eq_some_iff.1 u40
 have p:=mk2 j i
 obtain ⟨va,e⟩:=hE (tvl n a)
 obtain ⟨m,b⟩:=hE (nv n)
 obtain ⟨v0,c⟩:=hE (nv 0)
 have g:Hid ((Instr.box 124 va).run Tryz.prog w=.ok (.pointer (some ⟨w.heap.size,0,none⟩)) k):=by rw[← e.out];exact l
 have r:Hid ((Instr.build 44 #[]).run Tryz.prog k=.ok v0 k):=by rw[← c.out];exact bldS k
 have f:=Hid.mk' (eqS x (show 0<top by unfold top;omega) k)
 rw[b.out,c.out] at f
 have q:=f.out
 obtain ⟨z,o⟩:=hE (decide (n=0))
 rw[o.out] at q
 have y:(eqGuard .eql 44 (.tmp 4) (.tmp 5) m v0).run Tryz.prog k=.ok () k:=by rw[← b.out,← c.out];kernel_rfl
 rw[e.out,o.out]
 clear l f
 go_enter Tryz.func110,Tryz.ntmps110
 go_wp2_with (first|(refine wpList_box (u:=va) (v:=.pointer (some ⟨w.heap.size,0,none⟩)) (w':=k) rfl 124 (.tmp 0) rfl ?_ ?_ ?_;rfl;exact g.out)|(refine wpList_load_mid rfl 44 _ rfl w.heap.size 0 ?_ (wn n) s ?_ ?_ ?_ ?_ ?_;rfl;exact range_front K.1.2.1;exact p.1;exact p.2;exact i40;rw[show Value.agg (wn n).toArray=m from b.out])|(refine wpList_bld (v:=v0) (w':=k) rfl 44 _ rfl #[] ?_ ?_ ?_;kernel_rfl;exact r.out))
 go_wp2
 go_ret
 exact ⟨_,rfl,K.2,rfl⟩
theorem uT:(Tryz.prog.underlying 124).map (·.isRow)=some true:=kR
theorem iT:(Tryz.prog.info? 124).map (·.size)=some 37:=kR
theorem atT (k o n c i:Nat) (b:i<n) (w:World):(Instr.indexAt 82 (.slice (some ⟨k,o,none⟩) n c) (.int .i64 i)).run Tryz.prog w=.ok (.pointer (some ⟨k,o+37*i,none⟩)) w:=by
 go_simp
def firstZ (ns:Nat→Nat):Nat→Nat→Int
 | _,0=>-1
 | i,m+1=>if ns i=0 then (i:Int) else firstZ ns (i+1) m
def FIx_2 (b:Bool):List RG.It:=[.x 9 [] (.bool b)]
def FIx_4 (g k c i n:Nat) (a:Bs) (z:Bool):List RG.It:=[.x 11 [] (.func (.func 110) #[] #[]),.x 12 [] (.slice (some ⟨g,0,none⟩) k c),.x 13 [] (.int .i64 i),.x 14 [(12,1),(13,2)] (.pointer (some ⟨g,(0+37*i),none⟩)),.x 15 [(14,3)] (tvl n a),.c 16 [(11,0),(15,4)] (.bool z)]
theorem index_c (g k c:Nat) (W:k≤1000000) (ns:Nat→Nat) (I:Nat→Bs) (T:∀ j,j<k→ns j<top) (S:∀ j,j<k→(I j).size=33) (w:World) (N:g<w.heap.size) (Q:∀ j,j<k→w.rangeAt g (37*j) (wn (ns j)++bl33 (I j))) :
 Calls Tryz.prog 165 #[(.slice (some ⟨g,0,none⟩) k c),(.func (.func 110) #[] #[])] w (Ret fun e w'=>Below w.heap.size w w'∧e=.int .i64 (firstZ ns 0 k)):=by
 obtain ⟨R,hR⟩:∃ R,firstZ ns 0 k=R:=⟨_,rfl⟩
 rw[hR]
 go_enter Tryz.func165,Tryz.ntmps165
 refine RG.M.enter [(0,.v (.slice (some ⟨g,0,none⟩) k c)),(1,.v (.func (.func 110) #[] #[]))] 19 kR ?_
 intro a0 V
 repeat refine wp_seq ?_
 refine V.U [.x (.int .i64 0)] [0,1] ⟨RG.st,trivial⟩ ?_
 intro Z X P
 repeat refine wp_seq ?_
 refine P.U [.x (.slice (some ⟨g,0,none⟩) k c),.x (.int .i64 k),.x (.int .i64 0)] [0,1,7,8] ⟨RG.st,RG.st,RG.st,trivial⟩ ?_
 intro a2 Y O
 repeat refine wp_seq ?_
 refine wp_block ?_
 refine wp_loop_ghost (fun m a wr=>∃ i:Nat,i+m=k∧firstZ ns i m=R∧RG.M w w.heap.size [] 19 [] [] [(0,.v (.slice (some ⟨g,0,none⟩) k c)),(1,.v (.func (.func 110) #[] #[])),(7,.v (.int .i64 k)),(8,.v (.int .i64 i))] a wr) k ⟨0,oM,hR,O⟩ ?_
 intro F a wr
 rintro ⟨i,U,hf,x⟩
 by_cases t:i<k
 ·obtain ⟨n,u⟩:∃ n,ns i=n:=⟨_,rfl⟩
  obtain ⟨b,E⟩:∃ b,I i=b:=⟨_,rfl⟩
  have y:=T i t
  have s:=S i t
  have r:=Q i t
  rw[u] at y r
  rw[E] at s r
  have p:w.rangeAt g (0+37*i) (wn n++bl33 b):=by rw[Nat.zero_add];exact r
  have q:(Tryz.prog.info? 124).map (·.size)=some (wn n++bl33 b).length:=by rw[List.length_append,bl33_length s];exact iT
  have A:=none_c y s
  obtain ⟨G,rfl⟩:∃ G,F=G+1:=⟨F-1,oM⟩
  unfold firstZ at hf
  rw[u] at hf
  repeat refine wp_seq ?_
  refine x.u (FIx_2 true) [(0,.v (.slice (some ⟨g,0,none⟩) k c)),(1,.v (.func (.func 110) #[] #[])),(7,.v (.int .i64 k)),(8,.v (.int .i64 i)),(9,.v (.bool true))] ⟨RG.cert_bin rfl .lss 3 3 8 7 (.int .i64 i) (.int .i64 k) (.bool true) rfl rfl RG.sx RG.sx (fun w=>kR) (lssn_t t),trivial⟩ ?_
  intro C D l
  repeat refine wp_seq ?_
  refine wp_cond_true l.ev ?_
  refine wp_skip ?_
  refine wp_seq ?_
  refine wp_block ?_
  repeat refine wp_seq ?_
  refine l.U [.x (.int .i64 i),.x (.int .i64 i)] [0,1,7,8,5] ⟨RG.st,RG.st,trivial⟩ ?_
  intro J L d
  repeat refine wp_seq ?_
  by_cases z:n=0
  ·rw[decide_eq_true z] at A
   rw[if_pos z] at hf
   refine d.u (FIx_4 g k c i n b true) [(0,.v (.slice (some ⟨g,0,none⟩) k c)),(1,.v (.func (.func 110) #[] #[])),(7,.v (.int .i64 k)),(8,.v (.int .i64 i)),(5,.v (.int .i64 i)),(16,.v (.bool true))] ⟨RG.st,RG.st,RG.st,RG.cert_idx rfl 82 12 13 rfl (.v (.slice (some ⟨g,0,none⟩) k c)) (.int .i64 i) RG.sx RG.sx (fun μ w=>atT _ 0 _ _ i t w),RG.cert_loadB rfl g (0+37*i) N List.not_mem_nil 124 14 rfl (wn n++bl33 b) rfl RG.sx p uT q,RG.clB (fun _ _=>kR) (fun w' _=>A w'),trivial⟩ ?_
   intro M H f
   repeat refine wp_seq ?_
   refine wp_cond_true f.ev ?_
   repeat refine wp_seq ?_
   refine f.U [.x (.int .i64 i),.x (.int .i64 i)] [4] ⟨RG.st,RG.st,trivial⟩ ?_
   intro K B o
   refine wp_ret ?_
   refine bodyPost_ret (v:=.int .i64 i) (RG.results_t 4 rfl (.int .i64 i) o.av) o.sl.defers ?_
   exact ⟨_,rfl,o.st.bel.below,by rw[hf]⟩
  ·rw[decide_eq_false z] at A
   rw[if_neg z] at hf
   refine d.u (FIx_4 g k c i n b false) [(0,.v (.slice (some ⟨g,0,none⟩) k c)),(1,.v (.func (.func 110) #[] #[])),(7,.v (.int .i64 k)),(8,.v (.int .i64 i)),(16,.v (.bool false))] ⟨RG.st,RG.st,RG.st,RG.cert_idx rfl 82 12 13 rfl (.v (.slice (some ⟨g,0,none⟩) k c)) (.int .i64 i) RG.sx RG.sx (fun μ w=>atT _ 0 _ _ i t w),RG.cert_loadB rfl g (0+37*i) N List.not_mem_nil 124 14 rfl (wn n++bl33 b) rfl RG.sx p uT q,RG.clB (fun _ _=>kR) (fun w' _=>A w'),trivial⟩ ?_
   intro M H f
   repeat refine wp_seq ?_
   refine wp_cond_false f.ev ?_
   refine wp_skip ?_
   repeat refine wp_seq ?_
   refine f.U [.x (.int .i64 ((i+1:Nat):Int)),.x (.int .i64 ((i+1:Nat):Int))] [0,1,7,8] ⟨RG.cert_binc rfl .add 3 3 8 (.int .i64 i) (.int .i64 1) (.int .i64 ((i+1:Nat):Int)) rfl rfl RG.sx (fun w=>kR) (addn i 1 oM oM),RG.st,trivial⟩ ?_
   intro K B o
   show ∃ n',_
   exact ⟨G,oM,i+1,oM,hf,o⟩
 ·have f:F=0:=oM
  rw[f] at hf
  unfold firstZ at hf
  repeat refine wp_seq ?_
  refine x.u (FIx_2 false) [(9,.v (.bool false))] ⟨RG.cert_bin rfl .lss 3 3 8 7 (.int .i64 i) (.int .i64 k) (.bool false) rfl rfl RG.sx RG.sx (fun w=>kR) (lssn_f t),trivial⟩ ?_
  intro C D l
  repeat refine wp_seq ?_
  refine wp_cond_false l.ev ?_
  refine wp_exit ?_
  dsimp only[Exit.then,Exit.inBlock]
  rw[if_pos rfl]
  repeat refine wp_seq ?_
  refine l.U [.x (.int .i64 (-1))] [4] ⟨RG.st,trivial⟩ ?_
  intro J L d
  refine wp_ret ?_
  refine bodyPost_ret (v:=.int .i64 (-1)) (RG.results_t 4 rfl (.int .i64 (-1)) d.av) d.sl.defers ?_
  exact ⟨_,rfl,d.st.bel.below,by rw[← hf]⟩
theorem firstZ_none {ns:Nat→Nat}:∀ (m i:Nat),(∀ j,i≤j→j<i+m→ns j≠0)→firstZ ns i m = -1
 | 0,_,_=>rfl
 | m+1,i,h=>by
  unfold firstZ
  rw[if_neg (h i (Nat.le_refl _) oM)]
  exact firstZ_none m (i+1) (fun j b k=>h j oM oM)
theorem delete_none (g k c:Nat) (q:k≤1000000) (ns:Nat→Nat) (d:Nat→Bs) (u:∀ j,j<k→ns j<top) (b:∀ j,j<k→ns j≠0) (t:∀ j,j<k→(d j).size=33) (w:World) (l:g<w.heap.size) (s:∀ j,j<k→w.rangeAt g (37*j) (wn (ns j)++bl33 (d j))) :
 Calls Tryz.prog 109 #[(.slice (some ⟨g,0,none⟩) k c),(.func (.func 110) #[] #[])] w (Ret fun e w'=>Below w.heap.size w w'∧e=(.slice (some ⟨g,0,none⟩) k c)):=by
 have p:∀ w',RG.BelX w.heap.size [] w w'→Calls Tryz.prog 165 #[(.slice (some ⟨g,0,none⟩) k c),(.func (.func 110) #[] #[])] w' (Ret fun e i=>Below w'.heap.size w' i∧e=.int .i64 (-1)):=fun w' m=>by
  have h:=index_c g k c q ns d u t w' (Nat.lt_of_lt_of_le l m.below.size) (fun j f=>RG.range_below (s j f) m.below l)
  rw[firstZ_none k 0 (fun j _ n=>b j oM)] at h
  exact h
 go_enter Tryz.func109,Tryz.ntmps109
 refine RG.M.enter [(0,.v (.slice (some ⟨g,0,none⟩) k c)),(1,.v (.func (.func 110) #[] #[]))] 42 kR ?_
 intro a0 x
 repeat refine wp_seq ?_
 refine x.U [.x (.slice none 0 0)] [0,1] ⟨RG.st,trivial⟩ ?_
 intro B z r
 repeat refine wp_seq ?_
 refine r.U [.x (.slice (some ⟨g,0,none⟩) k c),.x (.func (.func 110) #[] #[]),.c (.int .i64 (-1)),.x (.int .i64 (-1))] [0,5] ⟨RG.st,RG.st,RG.clB (fun _ _=>kR) p,RG.st,trivial⟩ ?_
 intro a2 a o
 repeat refine wp_seq ?_
 refine o.U [.x (.int .i64 (-1)),.x (.bool true)] [0,12] ⟨RG.st,RG.st,trivial⟩ ?_
 intro D y n
 repeat refine wp_seq ?_
 refine wp_cond_true n.ev ?_
 repeat refine wp_seq ?_
 refine n.U [.x (.slice (some ⟨g,0,none⟩) k c),.x (.slice (some ⟨g,0,none⟩) k c)] [4] ⟨RG.st,RG.st,trivial⟩ ?_
 intro C A f
 refine wp_ret ?_
 refine bodyPost_ret (v:=(.slice (some ⟨g,0,none⟩) k c)) (RG.results_t 4 rfl _ f.av) f.sl.defers ?_
 exact ⟨_,rfl,f.st.bel.below,rfl⟩
theorem undM:Tryz.prog.underlying 202=some (.map 51 3):=kR
theorem zero3 (w:World):(zeroValue 3).run Tryz.prog w=.ok (.int .i64 0) w:=kR
theorem ents_snoc (b:Bs):∀ (D:List Bs) (i:Nat),ents (D++[b]) i=ents D i++[{ key:=.agg (bl33 b).toArray,val:=.int .i64 ((i+D.length:Nat):Int),born:=i+D.length }]
 | [],i=>rfl
 | k :: r,i=>by
  rw[List.cons_append]
  unfold ents
  rw[ents_snoc b r (i+1),List.length_cons,show i+1+r.length=i+(r.length+1) by omega]
  rfl
theorem look_run {b:Bs} (d:b.size=33) (D:List Bs) (f:∀ k∈D,k.size=33) (m c:Nat) (w:World) (l:w.heap[m]? = some (.map (ents D 0).toArray c)) :
 (Instr.lookup 202 (.map (some m)) (.agg (bl33 b).toArray) true).run Tryz.prog w=.ok (.tuple #[.int .i64 (((at? b D 0).getD 0:Nat):Int),.bool (at? b D 0).isSome]) w:=by
 have o:=run_underlying undM w
 have g:=fun e=>checkCP d e w
 have n:=key_run d D f w
 have i:(getObj m).run Tryz.prog w=.ok (.map (ents D 0).toArray c) w:=by
  simp[getObj,Sem.run,l]
 unfold Instr.lookup
 simp only[Sem.run_bind,o,Result.andThen_ok,i,Sem.run_pure,g,n]
 cases h:at? b D 0 with
 | none=>simp[Sem.run_bind,zero3]
 | some j=>simp
theorem upd_run {b:Bs} (c:b.size=33) (D:List Bs) (g:∀ k∈D,k.size=33) (m:Nat) (w:World) (d:w.heap[m]? = some (.map (ents D 0).toArray D.length)) (j:at? b D 0=none) :
 (Instr.mapUpdate 202 (.map (some m)) (.agg (bl33 b).toArray) (.int .i64 (D.length:Int))).run Tryz.prog w=.ok () (w.putObj m (.map (ents (D++[b]) 0).toArray (D.length+1))):=by
 have n:=run_underlying undM w
 have i:=fun e=>checkCP c e w
 have f:=key_run c D g w
 rw[j] at f
 have l:(getObj m).run Tryz.prog w=.ok (.map (ents D 0).toArray D.length) w:=by
  simp[getObj,Sem.run,d]
 unfold Instr.mapUpdate
 simp only[Sem.run_bind,n,Result.andThen_ok,l,Sem.run_pure,i,f]
 rw[ents_snoc,Nat.zero_add]
 simp[setObj,Sem.run,d,World.putObj]
theorem undS:Tryz.prog.underlying 82=some (.slice 124):=kR
theorem infoT:(Tryz.prog.info? 124).map (fun i=>(i.size,i.bytes,i.zero.map fun z=>z.cells.size))=some (37,72,some 37):=kR
theorem cells_one (n:Nat) (a:Bs):∀ u∈wn n++bl33 a,u.oneCell'=true:=by
 intro u k
 rcases List.mem_append.1 k with h|h
 ·unfold wn at h
  simp only[List.mem_cons,List.not_mem_nil,or_false] at h
  rcases h with rfl|rfl|rfl|rfl<;>rfl
 ·obtain ⟨x,-,rfl⟩:=List.mem_map.1 h
  rfl
theorem app_term {b k g n:Nat} {v:Value} {xs:List Value} {a:Bs} (w:a.size=33) {W:World} (c:W.ownsRow b 124 37 v k xs) (hR:Row W g (wn n++bl33 a)) (B:k≤1000000) (q:b≤W.heap.size) :
 ∃ d W',(Builtin.append_ #[82,82] 82 #[v,.slice (some ⟨g,0,none⟩) 1 1]).run Tryz.prog W=.ok d W'∧W'.ownsRow b 124 37 d (k+1) (xs++(wn n++bl33 a))∧W.grownBy W' v.ownBlock:=by
 obtain ⟨i,t,f⟩:=Option.map_eq_some_iff.1 infoT
 simp only[Prod.mk.injEq] at f
 obtain ⟨o,l,m⟩:=f
 obtain ⟨z,r,e⟩:=Option.map_eq_some_iff.1 m
 obtain ⟨d,W',y,s,p,-⟩:=run_append_own (P:=Tryz.prog) W b 82 82 124 i z 37 72 undS t r o l e dC v k xs c ⟨g,0,none⟩ 1 1 (wn n++bl33 a) (by rw[List.length_append,bl33_length w];rfl)
  (fun j u x=>by
   have:=hR.2.1 j u x
   rw[Nat.zero_add] at this
   rw[show (⟨g,0,none⟩:Addr).add j=⟨g,j,none⟩ by unfold Addr.add;split<;>simp_all]
   exact this) (cells_one n a) (by unfold maxLen;omega) oM q
 exact ⟨d,W',y,s,p⟩
def addT (N:Nat):List (Nat × Bs)→Nat→Bs→List (Nat × Bs)
 | [],n,p=>[(n,p)]
 | (s,q) :: r,n,p=>if p=q then (sPl N s n,q) :: r else (s,q) :: addT N r n p
def mrg (N:Nat) (ns:Nat→Nat) (k:Nat→Bs):Nat→List (Nat × Bs)
 | 0=>[]
 | i+1=>addT N (mrg N ns k i) (ns i) (k i)
def cellsT (l:List (Nat × Bs)):List Value:=l.flatMap fun x=>wn x.1++bl33 x.2
theorem addT_new {N n:Nat} {p:Bs}:∀ {l:List (Nat × Bs)},at? p (l.map (·.2)) 0=none→addT N l n p=l++[(n,p)]
 | [],_=>rfl
 | (s,q) :: r,h=>by
  have k:=at?_none.1 h
  rw[List.map_cons,List.mem_cons,not_or] at k
  unfold addT
  rw[if_neg k.1,addT_new (l:=r) (at?_none.2 k.2)]
  rfl
theorem cellsT_snoc (l:List (Nat × Bs)) (n:Nat) (p:Bs):cellsT (l++[(n,p)])=cellsT l++(wn n++bl33 p):=by
 unfold cellsT
 rw[List.flatMap_append]
 simp
structure Mx (w W:World) (m:Nat) (l:List (Nat × Bs)) (v:Value):Prop where
 bl:Below w.heap.size w W
 mp:W.heap[m]? = some (.map (ents (l.map (·.2)) 0).toArray l.length)
 lm:w.heap.size≤m
 ow:W.ownsRow w.heap.size 124 37 v l.length (cellsT l)
theorem Mx.own_ne {w W:World} {m:Nat} {l:List (Nat × Bs)} {v:Value} (h:Mx w W m l v) {g:Nat} (b:v.ownBlock=some g):g≠m∧w.heap.size≤g∧g<W.heap.size:=by
 rcases h.ow.2 with ⟨rfl,-⟩|⟨c,cap,cur,rfl,d,k,-⟩
 ·cases b
 ·obtain rfl:c=g:=by simpa[Value.ownBlock] using b
  refine ⟨fun e=>?_,d,(Array.getElem?_eq_some_iff.1 k).1⟩
  have:=h.mp
  rw[← e,k] at this
  cases this
theorem owns_kept {W W':World} {b k:Nat} {e:TypeId} {s:Nat} {v:Value} {xs:List Value} (h:W.ownsRow b e s v k xs) (d:∀ g,v.ownBlock=some g→W'.heap[g]? = W.heap[g]?):W'.ownsRow b e s v k xs:=by
 refine ⟨h.1,?_⟩
 rcases h.2 with c|⟨g,cap,cur,rfl,i,c,f⟩
 ·exact Or.inl c
 ·exact Or.inr ⟨g,cap,cur,rfl,i,by rw[d g rfl];exact c,f⟩
theorem Mx.kept {w W W':World} {m:Nat} {l:List (Nat × Bs)} {v:Value} (h:Mx w W m l v) (k:Below W.heap.size W W'):Mx w W' m l v:=
 ⟨h.bl.trans (k.mono h.bl.size),by rw[k.block m (Array.getElem?_eq_some_iff.1 h.mp).1];exact h.mp,h.lm,owns_kept h.ow fun g b=>k.block g (h.own_ne b).2.2⟩
theorem ents_map (l:List (Nat × Bs)) (n:Nat) (p:Bs):(l++[(n,p)]).map (·.2)=l.map (·.2)++[p]:=by simp
theorem Mx.push {w W:World} {m:Nat} {l:List (Nat × Bs)} {v:Value} (h:Mx w W m l v) {p:Bs} (B:p.size=33) (A:l.length≤1000000) (n:Nat) :
 ∃ i b,(Builtin.append_ #[82,82] 82 #[v,.slice (some ⟨W.heap.size,0,none⟩) 1 1]).run Tryz.prog ((W.putObj m (.map (ents (l.map (·.2)++[p]) 0).toArray (l.length+1))).alloc (.cells (wn n++bl33 p).toArray 124))=.ok i b∧Mx w b m (l++[(n,p)]) i∧W.heap.size<b.heap.size∧∀ j,j<W.heap.size→w.heap.size≤j→j≠m→some j≠v.ownBlock→b.heap[j]? = W.heap[j]?:=by
 obtain ⟨c,d⟩:∃ c,W.putObj m (.map (ents (l.map (·.2)++[p]) 0).toArray (l.length+1))=c:=⟨_,rfl⟩
 have s3:c.heap.size=W.heap.size:=by rw[← d];simp[World.putObj]
 have r:=(Array.getElem?_eq_some_iff.1 h.mp).1
 have x:∀ j,j≠m→c.heap[j]? = W.heap[j]?:=fun j z=>by rw[← d];exact World.putObj_heap_other z
 have q:=h.bl.trans ⟨by rw[← d];rfl,by rw[← d];rfl,by rw[← d];rfl,oM,fun j z=>x j (by have:=h.lm;omega)⟩
 have a:=owns_kept h.ow fun g t=>x g (h.own_ne t).1
 have D:c.heap[m]? = some (.map (ents (l.map (·.2)++[p]) 0).toArray (l.length+1)):=by rw[← d];exact World.putObj_heap_same r
 rw[d]
 have R4:=row_new c (wn n++bl33 p) 124
 have o:=below1 c (.cells (wn n++bl33 p).toArray 124)
 have s4:(c.alloc (.cells (wn n++bl33 p).toArray 124)).heap.size=W.heap.size+1:=by rw[World.size_alloc,s3]
 have E:=owns_kept a fun g t=>o.block g (by have:=(h.own_ne t).2.2;omega)
 rw[s3] at R4
 obtain ⟨i,b,F,C,f⟩:=app_term B E R4 A (by have:=q.size;omega)
 have s:some m≠v.ownBlock:=fun e=>(h.own_ne e.symm).1 rfl
 refine ⟨i,b,F,⟨?_,?_,h.lm,?_⟩,by have:=f.size;omega,fun j z _ u y=>?_⟩
 ·exact (q.trans (o.mono q.size)).grown f (by have:=q.size;omega) (fun k e=>(h.own_ne e).2.1)
 ·rw[f.block m oM s,o.block m oM,D,ents_map,List.length_append]
  rfl
 ·rw[cellsT_snoc,List.length_append]
  exact C
 ·rw[f.block j oM y,o.block j oM,x j u]
end
section
open Go.RowKit Go.Sort Go.Deep
variable {N:Nat}
section
variable {P:Program} {ops:Array Oper} {rest:List Oper} {op:Oper} {a:Act} {w w':World} {v x y z:Value} {Q:Exit→Act→World→Prop}
theorem wpList_lk (b:op.guard=none) (T:TypeId) (m k:Operand) (ok:Bool) (ho:op.op=.lookup T m k ok) (f:a.eval m=x) (e:a.eval k=y) (c:(Instr.lookup T x y ok).run P w=.ok v w') (h:wpList P ops Q rest (a.put op.dst v) w'):wpList P ops Q (op :: rest) a w:=
 wpList_plain b fun K d=>by
  unfold Oper.wp execOp
  simp only[ho,f,e,Sem.run_bind,c,Result.andThen_ok,Sem.run_pure]
  exact d _ _ h
theorem wpList_mu (b:op.guard=none) (T:TypeId) (m k u:Operand) (ho:op.op=.mapUpdate T m k u) (g:a.eval m=x) (e:a.eval k=y) (f:a.eval u=z) (c:(Instr.mapUpdate T x y z).run P w=.ok () w') (h:wpList P ops Q rest (a.put op.dst undef) w'):wpList P ops Q (op :: rest) a w:=
 wpList_plain b fun K d=>by
  unfold Oper.wp execOp
  simp only[ho,g,e,f,Sem.run_bind,c,Result.andThen_ok,Sem.run_pure]
  exact d _ _ h
theorem wpList_app (k:op.guard=none) (s u:Operand) (t:TypeId) (ho:op.op=.call { callee:=.builtin .append,args:=#[s,u],argTypes:=#[t,t] }) (d:a.eval s=x) (e:a.eval u=y) (b:(Builtin.append_ #[t,t] op.type #[x,y]).run P w=.ok v w') (h:wpList P ops Q rest (a.put op.dst v) w'):wpList P ops Q (op :: rest) a w:=
 wpList_plain k fun K c=>by
  unfold Oper.wp execOp
  simp only[ho,resolve,invoke,builtin,Sem.run_bind,Sem.run_pure,Result.andThen_ok,List.map_toArray,List.map_cons,List.map_nil,d,e,b]
  exact c _ _ h
end
def zT:List Value:=[.int .u64 0,.int .u64 0,.int .u64 0,.int .u64 0]++z33
theorem owns_form {W:World} {b k:Nat} {e:TypeId} {s:Nat} {v:Value} {xs:List Value} (h:W.ownsRow b e s v k xs):∃ q cap,v=.slice q k cap:=by
 rcases h.2 with ⟨rfl,rfl⟩|⟨g,cap,cur,rfl,-⟩
 ·exact ⟨none,0,rfl⟩
 ·exact ⟨some ⟨g,0,none⟩,cap,rfl⟩
theorem mrg_len (ns:Nat→Nat) (k:Nat→Bs):∀ i,(mrg N ns k i).length≤i
 | 0=>Nat.le_refl _
 | i+1=>by
  have b:=mrg_len ns k i
  have h:∀ (l:List (Nat × Bs)) n p,(addT N l n p).length≤l.length+1:=by
   intro l n p
   induction l with
   | nil=>exact Nat.le_refl _
   | cons x r ihr =>
    unfold addT
    split
    ·simp
    ·simp only[List.length_cons];omega
  exact Nat.le_trans (h _ _ _) oM
theorem mrg_size (ns:Nat→Nat) (b:Nat→Bs) {k:Nat} (d:∀ j,j<k→(b j).size=33):∀ i,i≤k→∀ x∈(mrg N ns b i).map (·.2),x.size=33
 | 0,_=>fun x hx=>by cases hx
 | i+1,hi=>by
  have g:=mrg_size ns b d i oM
  have h:∀ (l:List (Nat × Bs)) n p,p.size=33→(∀ x∈l.map (·.2),x.size=33)→∀ x∈(addT N l n p).map (·.2),x.size=33:=by
   intro l n p f
   induction l with
   | nil=>intro _ x hx;simp[addT] at hx;rw[hx];exact f
   | cons y r ihr =>
    intro c x hx
    unfold addT at hx
    split at hx
    ·exact c x (by simpa using hx)
    ·rw[List.map_cons,List.mem_cons] at hx
     rcases hx with hx|hx
     ·exact c x (by rw[hx];simp)
     ·exact ihr (fun z e=>c z (List.mem_cons_of_mem _ e)) x hx
  exact h _ _ _ (d i oM) g
theorem cellsT_at:∀ (l:List (Nat × Bs)),(∀ x∈l.map (·.2),x.size=33)→∀ (j:Nat) (k:j<l.length) (t:Nat),t<37→(cellsT l)[37*j+t]? = (wn (l[j]).1++bl33 (l[j]).2)[t]?
 | [],_,j,k,_,_=>by cases k
 | x :: r,hs,j,k,t,ht=>by
  have hx:(wn x.1++bl33 x.2).length=37:=by rw[List.length_append,bl33_length (hs x.2 (by simp))];rfl
  have e:cellsT (x :: r)=(wn x.1++bl33 x.2)++cellsT r:=by unfold cellsT;rw[List.flatMap_cons]
  rw[e]
  cases j with
  | zero =>
   rw[Nat.mul_zero,Nat.zero_add,List.getElem?_append_left oM]
   rfl
  | succ j =>
   rw[List.getElem?_append_right oM,hx,show 37*(j+1)+t-37=37*j+t by omega,cellsT_at r (fun y b=>hs y (List.mem_cons_of_mem _ b)) j (by simpa using k) t ht]
   rfl
theorem owns_rows {W:World} {k:Nat} {v:Value} {l:List (Nat × Bs)} (h:W.ownsRow k 124 37 v l.length (cellsT l)) (d:∀ x∈l.map (·.2),x.size=33) (p:0<l.length) :
 ∃ g cap,v=.slice (some ⟨g,0,none⟩) l.length cap∧k≤g∧g<W.heap.size∧∀ j (b:j<l.length),W.rangeAt g (37*j) (wn (l[j]).1++bl33 (l[j]).2):=by
 have m:=h
 rcases h.2 with ⟨-,c⟩|⟨g,cap,cur,rfl,n,c,q⟩
 ·omega
 ·refine ⟨g,cap,rfl,n,(Array.getElem?_eq_some_iff.1 c).1,fun j b t u i=>?_⟩
  have o:t<37:=by
   have:=(List.getElem?_eq_some_iff.1 i).1
   rw[List.length_append,bl33_length (d _ (List.mem_map.2 ⟨_,List.getElem_mem b,rfl⟩))] at this
   exact this
  have f:=m.cells (g:=g) rfl (37*j+t) u (by rw[cellsT_at l d j b t o];exact i)
  have e:(⟨g,0,none⟩:Addr).add (37*j+t)=⟨g,37*j+t,none⟩:=by
   unfold Addr.add
   split
   ·rename_i h;rw[h]
   ·simp
  rw[e] at f
  exact f
end
section
open Go.RowKit Go.Sort Go.Deep
variable {P:Nat} [NeZero P] {N:Nat}
theorem zeroTm (w:World):(zeroValue 124).run Tryz.prog w=.ok (.agg zT.toArray) w:=kR
theorem zT_one:∀ v∈zT,v.oneCell'=true:=by
 intro v hv
 unfold zT z33 at hv
 rcases List.mem_append.1 hv with h|h
 ·simp only[List.mem_cons,List.not_mem_nil,or_false] at h
  rcases h with rfl|rfl|rfl|rfl<;>rfl
 ·rw[(List.mem_replicate.1 h).2];rfl
end
namespace RG
open Go Go.RowKit
variable {P:Program} {ops:Array Oper} {Q:Exit→Act→World→Prop} {w:World} {a0:Act} {L:Array Bool}
structure Flow where
 R:Nat→Value→World→Prop
 B:Nat→World→Prop
 E:Nat→World→World→Prop
 kill:Nat→List Nat
 killB:Nat→List Nat
def dstOf (k:Array Oper) (i:Nat):Option Tmp:=(k[i]?).bind (·.dst)
def depOn (b:Array Oper) (x k:Nat):Bool:=match b[x]? with|some o=>depB o k|none=>true
def okK (b:Array Oper) (k:Nat) (l:List Nat):Bool:=l.all (fun x=>x == k || depOn b x k)
def freeF (b:Array Oper) (k:Nat) (t:Tmp):Bool:=(List.range b.size).all (fun i=>dstOf b i != some t || i == k || depOn b i k)
structure InvF (F:Flow) (ops:Array Oper) (a0:Act) (L:Array Bool) (a:Act) (w:World):Prop where
 size:L.size=ops.size
 cl:∀ (i:Nat) (o:Oper),ops[i]? = some o→on L i=true→∀ e∈o.after,Region.binds .any e=true→on L e.on=true
 def':a.defers=a0.defers
 sz:a.tmps.size=a0.tmps.size
 rest:∀ t:Tmp,(∀ i,on L i=true→dstOf ops i≠some t)→a.tmps[t]? = a0.tmps[t]?
 all:∃ V:Nat→Value,(∀ i d,on L i=true→dstOf ops i=some d→a.tmps[d]? = some (V i))∧(∀ i,on L i=true→(∀ x∈F.kill i,on L x=false)→F.R i (V i) w)
 base:∀ b,(∀ x∈F.killB b,on L x=false)→F.B b w
def CertF (P:Program) (Q:Exit→Act→World→Prop) (F:Flow) (c:Array Oper) (a0:Act) (k:Nat) (o:Oper):Prop:=
 ∀ (a:Act) (w:World) (K:Act→World→Prop),
  (∀ j d,depB o j=true→okK c k (F.kill j)=true→dstOf c j=some d→F.R j (a.eval (.tmp d)) w) →
  (∀ t,freeF c k t=true→a.eval (.tmp t)=a0.eval (.tmp t)) →
  (∀ b,okK c k (F.killB b)=true→F.B b w) →
  (∀ v w',F.E k w w'→F.R k v w'→K (a.put o.dst v) w')→o.wp P a w K Q
def CertH (P:Program) (Q:Exit→Act→World→Prop) (F:Flow) (b:Array Oper) (a0:Act) (k:Nat) (o:Oper):Prop:=
 match o.guard with
 | none=>CertF P Q F b a0 k o
 | some (j,want)=>depB o j=true∧(dstOf b j).isSome=true∧okK b k (F.kill j)=true ∧
  (((∀ v w,F.R j v w→v=.bool want)∧CertF P Q F b a0 k o)∨((∀ v w,F.R j v w→v=.bool (!want))∧∀ w,F.E k w w∧F.R k undef w))
def chkF (k:Array Oper) (n:Nat):Bool:=
 (List.range k.size).all (fun i=>match k[i]? with
  | some o=>o.after.all (fun e=>!Region.binds .any e || e.on<i) && (match o.dst with|none=>true|some d=>decide (d<n) && (List.range k.size).all (fun j=>j == i || dstOf k j != some d))
  | none=>false)
structure RegF (P:Program) (Q:Exit→Act→World→Prop) (F:Flow) (ops:Array Oper) (a0:Act) (m:Nat):Prop where
 chk:chkF ops a0.tmps.size=true
 cert:∀ k o,k<m→ops[k]? = some o→CertH P Q F ops a0 k o
 stab:∀ i j,i<m→j<m→i≠j→(F.kill j).contains i=false→depOn ops j i=false→∀ v w w',F.E i w w'→F.R j v w→F.R j v w'
 stabB:∀ i b,i<m→(F.killB b).contains i=false→∀ w w',F.E i w w'→F.B b w→F.B b w'
variable {F:Flow} {m:Nat}
theorem RegF.of {k:Nat} {o:Oper} (h:RegF P Q F ops a0 m) (ho:ops[k]? = some o):(∀ e∈o.after,Region.binds .any e=true→e.on<k)∧∀ d,o.dst=some d→d<a0.tmps.size∧∀ j,dstOf ops j=some d→j=k:=by
 have p:=(Array.getElem?_eq_some_iff.1 ho).1
 have g:=List.all_eq_true.1 h.chk k (List.mem_range.2 p)
 rw[ho] at g
 simp only[Bool.and_eq_true] at g
 obtain ⟨n,c⟩:=g
 refine ⟨fun e i l=>?_,fun d hd=>?_⟩
 ·have:=Array.all_eq_true'.1 n e i
  simpa[l] using this
 ·rw[hd] at c
  simp only[Bool.and_eq_true,decide_eq_true_eq] at c
  refine ⟨c.1,fun j b=>?_⟩
  have f:j<ops.size:=by
   unfold dstOf at b
   cases hx:ops[j]? with
   | none=>rw[hx] at b;cases b
   | some x=>exact (Array.getElem?_eq_some_iff.1 hx).1
  have:=List.all_eq_true.1 c.2 j (List.mem_range.2 f)
  simpa[b] using this
theorem dstOf_some {i:Nat} {o:Oper} (ho:ops[i]? = some o):dstOf ops i=o.dst:=by unfold dstOf;rw[ho];rfl
theorem dep_on {a:Act} {x k:Nat} {o:Oper} (h:InvF F ops a0 L a w) {ho:ops[x]? = some o} (hd:depB o k=true) (hx:on L x=true):on L k=true:=by
 obtain ⟨e,c,b⟩:=Array.any_eq_true'.1 hd
 simp only[Bool.and_eq_true,beq_iff_eq] at b
 rw[← b.2]
 exact h.cl x o ho hx e c b.1
theorem on_lt {L:Array Bool} {x:Nat} (h:on L x=true):x<L.size:=by
 rcases Nat.lt_or_ge x L.size with k|k
 ·exact k
 ·unfold on at h
  rw[Array.getD_eq_getD_getElem?,Array.getElem?_eq_none k] at h
  cases h
theorem InvF.nt {k:Nat} {a:Act} (c:on L k=false) (h:InvF F ops a0 L a w) (x:Nat) (hx:(x == k || depOn ops x k)=true):on L x=false:=by
 cases b:on L x with
 | false=>rfl
 | true =>
  rcases Bool.or_eq_true _ _ ▸ hx with d|d
  ·rw[show x=k by simpa using d,c] at b;cases b
  ·unfold depOn at d
   have f:x<ops.size:=by rw[← h.size];exact on_lt b
   have e:=Array.getElem?_eq_getElem f
   rw[e] at d
   have:=dep_on (ho:=e) h d b
   rw[c] at this;cases this
theorem InvF.nx {k:Nat} {o:Oper} {a:Act} {v:Value} {w':World} (R:RegF P Q F ops a0 m) (z:k<m) (I:∀ i,on L i=true→i<m) (ho:ops[k]? = some o) (J:on L k=false) (r:∀ e∈o.after,Region.binds .any e=true→on L e.on=true) (h:InvF F ops a0 L a w) (hE:F.E k w w') (hR:F.R k v w'):InvF F ops a0 (L.setIfInBounds k true) (a.put o.dst v) w':=by
 obtain ⟨E,n⟩:=R.of ho
 have H:=(Array.getElem?_eq_some_iff.1 ho).1
 have G:k<L.size:=by rw[h.size];exact H
 have q:=dstOf_some ho
 have A:=fun x hx=>h.nt J x hx
 obtain ⟨V,K,C⟩:=h.all
 have f:∀ x,on (L.setIfInBounds k true) x=(on L x || k == x):=fun x=>on_set G
 refine ⟨by rw[Array.size_setIfInBounds];exact h.size,fun i S p j e M y=>?_,?_,?_,fun t N=>?_,⟨fun x=>if x=k then v else V x,fun i d j hd=>?_,fun i j s=>?_⟩,fun b y=>?_⟩
 ·rw[f] at j ⊢
  by_cases c:k=i
  ·subst c
   rw[ho] at p
   obtain rfl:=Option.some.inj p
   rw[r e M y,Bool.true_or]
  ·rw[h.cl i S p (by simpa[c] using j) e M y,Bool.true_or]
 ·rw[← h.def'];cases o.dst<;>rfl
 ·rw[put_size];exact h.sz
 ·have u:o.dst≠some t:=fun hd=>N k (by rw[f];simp) (by rw[q];exact hd)
  rw[put_other a v u]
  exact h.rest t fun i j=>N i (by rw[f,j,Bool.true_or])
 ·rw[f] at j
  by_cases c:i=k
  ·subst c
   rw[q] at hd
   rw[hd]
   show (a.tmps.setIfInBounds d v)[d]? = some (if i=i then v else V i)
   rw[if_pos (rfl:i=i)]
   rw[Array.getElem?_setIfInBounds,if_pos rfl,if_pos (by rw[h.sz];exact (n d hd).1)]
  ·have l:o.dst≠some d:=fun B=>c ((n d B).2 i hd)
   rw[put_other a v l]
   show _=some (if i=k then v else V i)
   rw[if_neg c]
   have g:¬ k=i:=fun e=>c e.symm
   exact K i d (by simpa[g] using j) hd
 ·rw[f] at j
  by_cases c:i=k
  ·subst c
   show F.R i (if i=i then v else V i) w'
   rw[if_pos rfl];exact hR
  ·show F.R i (if i=k then v else V i) w'
   rw[if_neg c]
   have g:¬ k=i:=fun e=>c e.symm
   have l:on L i=true:=by simpa[g] using j
   have u:∀ x∈F.kill i,on L x=false:=fun x hx=>by
    have:=s x hx
    rw[f,Bool.or_eq_false_iff] at this
    exact this.1
   have D:(F.kill i).contains k=false:=by
    cases B:(F.kill i).contains k with
    | false=>rfl
    | true =>
     have:=s k (by simpa using B)
     rw[f] at this
     simp at this
   have O:depOn ops i k=false:=by
    cases B:depOn ops i k with
    | false=>rfl
    | true=>rw[A i (by rw[B,Bool.or_true])] at l;cases l
   exact R.stab k i z (I i l) (Ne.symm c) D O _ _ _ hE (C i l u)
 ·have u:∀ x∈F.killB b,on L x=false:=fun x hx=>by
   have:=y x hx
   rw[f,Bool.or_eq_false_iff] at this
   exact this.1
  have D:(F.killB b).contains k=false:=by
   cases B:(F.killB b).contains k with
   | false=>rfl
   | true =>
    have:=y k (by simpa using B)
    rw[f] at this
    simp at this
  exact R.stabB k b z D _ _ hE (h.base b u)
theorem stepF {k:Nat} {o:Oper} {a:Act} (R:RegF P Q F ops a0 m) (C:k<m) (N:∀ i,on L i=true→i<m) (ho:ops[k]? = some o) (D:on L k=false) (r:∀ e∈o.after,Region.binds .any e=true→on L e.on=true) (h:InvF F ops a0 L a w) :
 wpOp P ops Q k (InvF F ops a0 (L.setIfInBounds k true)) a w:=by
 obtain ⟨I,U⟩:=R.of ho
 have K:=(Array.getElem?_eq_some_iff.1 ho).1
 have Y:k<L.size:=by rw[h.size];exact K
 have X:=dstOf_some ho
 have n:=fun x hx=>h.nt D x hx
 obtain ⟨V,T,H⟩:=h.all
 have y:∀ j d,depB o j=true→okK ops k (F.kill j)=true→dstOf ops j=some d→a.tmps[d]? = some (V j)∧F.R j (V j) w:=fun j d G q hd=>by
  obtain ⟨e,f,u⟩:=Array.any_eq_true'.1 G
  simp only[Bool.and_eq_true,beq_iff_eq] at u
  have c:on L j=true:=by rw[← u.2];exact r e f u.1
  exact ⟨T j d c hd,H j c fun x hx=>n x (List.all_eq_true.1 q x hx)⟩
 have l:∀ j d,depB o j=true→okK ops k (F.kill j)=true→dstOf ops j=some d→F.R j (a.eval (.tmp d)) w:=fun j d G q hd=>by
  rw[eval_of (y j d G q hd).1]
  exact (y j d G q hd).2
 have g:∀ t,freeF ops k t=true→a.eval (.tmp t)=a0.eval (.tmp t):=fun t hf=>by
  have z:=h.rest t fun i c hd=>by
   have f:i<ops.size:=by rw[← h.size];exact on_lt c
   have p:=List.all_eq_true.1 hf i (List.mem_range.2 f)
   rw[hd] at p
   have s:(i == k || depOn ops i k)=true:=by simpa using p
   rw[n i s] at c;cases c
  show a.tmps.getD t undef=a0.tmps.getD t undef
  rw[Array.getD_eq_getD_getElem?,Array.getD_eq_getD_getElem?,z]
 have p:∀ b,okK ops k (F.killB b)=true→F.B b w:=fun b u=>h.base b fun x hx=>n x (List.all_eq_true.1 u x hx)
 have f:=fun v w' hE hR=>h.nx (v:=v) (w':=w') R C N ho D r hE hR
 have B:=R.cert k o C ho
 unfold CertH at B
 unfold wpOp
 rw[ho]
 dsimp only
 cases E:o.guard with
 | none =>
  rw[E] at B
  rw[wanted_none E,if_pos rfl]
  left
  exact B a w _ l g p f
 | some jw =>
  obtain ⟨j,c⟩:=jw
  rw[E] at B
  obtain ⟨J,M,S,s⟩:=B
  obtain ⟨d,hd⟩:=Option.isSome_iff_exists.1 M
  obtain ⟨Z,A⟩:=y j d J S hd
  have W:∀ b,V j=.bool b→Region.wanted o (yielded ops a.tmps)=(b == c):=fun b u=>by
   have O:yielded ops a.tmps j=some b:=by
    unfold dstOf at hd
    unfold yielded
    cases z:ops[j]? with
    | none=>rw[z] at hd;cases hd
    | some oj =>
     rw[z] at hd
     show (match oj.dst.bind (a.tmps[·]?) with|some (.bool b)=>some b|_=>none)=_
     rw[show oj.dst=some d from hd]
     show (match a.tmps[d]? with|some (.bool b)=>some b|_=>none)=_
     rw[Z,u]
   unfold Region.wanted
   rw[E]
   show (yielded ops a.tmps j == some c)=_
   rw[O]
   cases b<;>cases c<;>rfl
  rcases s with ⟨O,hc⟩|⟨O,z⟩
  ·rw[W _ (O _ _ A),show (c == c)=true by cases c<;>rfl,if_pos rfl]
   left
   exact hc a w _ l g p f
  ·rw[W _ (O _ _ A),show ((!c) == c)=false by cases c<;>rfl]
   exact f undef w (z w).1 (z w).2
def putV (V:Nat→Value):List Oper→Nat→Act→Act
 | [],_,a=>a
 | o :: r,i,a=>putV V r (i+1) (a.put o.dst (V i))
theorem putV_defers (V:Nat→Value):∀ (l:List Oper) (i:Nat) (a:Act),(putV V l i a).defers=a.defers
 | [],_,_=>rfl
 | o :: r,i,a=>by
  rw[putV,putV_defers V r]
  cases o.dst<;>rfl
theorem putV_other (V:Nat→Value):∀ (l:List Oper) (i:Nat) (a:Act) (t:Tmp),(∀ o∈l,o.dst≠some t)→(putV V l i a).tmps[t]? = a.tmps[t]?
 | [],_,_,_,_=>rfl
 | o :: r,i,a,t,h=>by
  rw[putV,putV_other V r _ _ t (fun x hx=>h x (List.mem_cons_of_mem _ hx)),put_other a _ (h o List.mem_cons_self)]
theorem putV_same (V:Nat→Value):∀ (l:List Oper) (i:Nat) (a:Act) (j:Nat) (o:Oper) (d:Tmp),l[j]? = some o→o.dst=some d→(∀ k b,l[k]? = some b→b.dst=some d→k=j)→d<a.tmps.size→(putV V l i a).tmps[d]? = some (V (i+j))
 | [],_,_,_,_,_,h,_,_,_=>by simp at h
 | x :: r,i,a,0,o,d,h,hd,hu,hs=>by
  obtain rfl:x=o:=by simpa using h
  rw[putV,putV_other V r _ _ d (fun y f c=>by
   obtain ⟨k,e⟩:=List.getElem?_of_mem f
   have:=hu (k+1) y (by simpa using e) c
   omega),hd]
  show (a.tmps.setIfInBounds d _)[d]? = _
  rw[Array.getElem?_setIfInBounds,if_pos rfl,if_pos hs]
  rfl
 | x :: r,i,a,j+1,o,d,h,hd,hu,hs=>by
  rw[putV,putV_same V r (i+1) _ j o d (by simpa using h) hd (fun k b e c=>by
   have:=hu (k+1) b (by simpa using e) c
   omega) (by rw[put_size];exact hs)]
  congr 2
  omega
theorem InvF.done {a:Act} (R:RegF P Q F ops a0 m) (h:InvF F ops a0 L a w) (k:∀ i,i<ops.size→on L i=true)
 (n:∀ (V:Nat→Value),(∀ i,i<ops.size→F.kill i=[]→F.R i (V i) w)→(∀ b,F.killB b=[]→F.B b w)→Q .normal (putV V ops.toList 0 a0) w):Q .normal a w:=by
 obtain ⟨V,j,d⟩:=h.all
 have e:a=putV V ops.toList 0 a0:=by
  refine Act.ext' ?_ (by rw[putV_defers];exact h.def')
  apply Array.ext_getElem?
  intro t
  by_cases g:∃ (i:Nat) (o:Oper),ops[i]? = some o∧o.dst=some t
  ·obtain ⟨i,o,ho,hd⟩:=g
   rw[j i t (k i (Array.getElem?_eq_some_iff.1 ho).1) (by rw[dstOf_some ho];exact hd)]
   rw[putV_same V ops.toList 0 a0 i o t (by rw[Array.getElem?_toList];exact ho) hd (fun l p c f=>((R.of ho).2 t hd).2 l (by rw[Array.getElem?_toList] at c;rw[dstOf_some c];exact f)) ((R.of ho).2 t hd).1,Nat.zero_add]
  ·rw[h.rest t (fun i c hd=>?_),putV_other V ops.toList 0 a0 t (fun o f hd=>?_)]
   ·obtain ⟨i,c⟩:=List.getElem?_of_mem f
    rw[Array.getElem?_toList] at c
    exact g ⟨i,o,c,hd⟩
   ·unfold dstOf at hd
    cases hx:ops[i]? with
    | none=>rw[hx] at hd;cases hd
    | some x=>rw[hx] at hd;exact g ⟨i,x,hx,hd⟩
 rw[e]
 exact n V (fun i c f=>d i (k i c) (by rw[f];simp)) (fun b g=>h.base b (by rw[g];simp))
theorem InvF.full {a:Act} (R:RegF P Q F ops a0 m) (h:InvF F ops a0 L a w) (g:Region.ready .any ops L=[]):∀ i,i<ops.size→on L i=true:=by
 intro i
 induction i using Nat.strongRecOn with
 | ind i ih =>
  intro c
  have ho:ops[i]? = some ops[i]:=Array.getElem?_eq_getElem _
  cases k:on L i with
  | true=>rfl
  | false =>
   have:i∈Region.ready .any ops L:=mem_ready.2 ⟨?_,_,ho,fun e d f=>?_⟩
   ·rw[g] at this;cases this
   ·unfold on at k
    rw[Array.getD_eq_getD_getElem?,Array.getElem?_eq_getElem (by rw[h.size];exact c)] at k ⊢
    exact k
   ·have b:=(R.of ho).1 e d f
    exact ih e.on b (Nat.lt_trans b c)
theorem flow_draws {id:Nat} (F:Flow) (p:P.follows .mixedOrders=true) (R:RegF P Q F ops a0 ops.size) (s:∀ b,F.B b w.drew)
 (m:∀ (V:Nat→Value) (w':World),(∀ i,i<ops.size→F.kill i=[]→F.R i (V i) w')→(∀ b,F.killB b=[]→F.B b w')→Q .normal (putV V ops.toList 0 a0) w'):(Code.region id ops true).wp P Q a0 w:=by
 have key:∀ (c:Nat) (L:Array Bool) (a:Act) (w:World),unl L=c→InvF F ops a0 L a w→wpAny P .any ops Q c L a w:=by
  intro c
  induction c with
  | zero =>
   intro L a w n f
   have k:∀ i,i<ops.size→on L i=true:=fun i g=>unl_zero n i (by rw[f.size];exact g)
   refine ⟨?_,f.done R k (fun V=>m V w)⟩
   apply List.eq_nil_iff_forall_not_mem.2
   intro i g
   obtain ⟨e,o,ho,-⟩:=mem_ready.1 g
   have j:=k i (Array.getElem?_eq_some_iff.1 ho).1
   unfold on at j
   rw[Array.getD_eq_getD_getElem?] at e j
   cases hh:L[i]? with
   | none=>rw[hh] at e;cases e
   | some b=>rw[hh] at e j;rw[show b=false from e] at j;cases j
  | succ c ih =>
   intro L a w n f
   refine ⟨fun q=>f.done R (f.full R q) (fun V=>m V w),fun i g=>?_⟩
   obtain ⟨e,o,ho,j⟩:=mem_ready.1 g
   have k:on L i=false:=by
    unfold on
    rw[Array.getD_eq_getD_getElem?] at e ⊢
    cases hh:L[i]? with
    | none=>rfl
    | some b=>rw[hh] at e;exact e
   exact wpOp_mono (fun r w' l=>ih _ r w' (by have:=unl_set e;omega) l) (stepF R (Array.getElem?_eq_some_iff.1 ho).1 (fun i g=>by rw[← f.size];exact on_lt g) ho k j f)
 have k:∀ i,on (Array.replicate ops.size false) i=false:=fun i=>by
  unfold on
  rw[Array.getD_eq_getD_getElem?,Array.getElem?_replicate]
  by_cases h:i<ops.size
  ·rw[if_pos h];rfl
  ·rw[if_neg h];rfl
 refine wp_region_any p (key _ _ a0 _ ?_ ⟨Array.size_replicate,(fun i o _ h=>by rw[k] at h;cases h),rfl,rfl,fun _ _=>rfl,⟨fun _=>undef,fun i d h=>(by rw[k] at h;cases h),fun i h=>(by rw[k] at h;cases h)⟩,fun b _=>s b⟩)
 unfold unl
 rw[Array.toList_replicate,List.countP_replicate]
 simp
structure PreF (F:Flow) (ops:Array Oper) (a0:Act) (k:Nat) (o:Oper) (a:Act) (w:World):Prop where
 n:∀ j d,depB o j=true→okK ops k (F.kill j)=true→dstOf ops j=some d→F.R j (a.eval (.tmp d)) w
 o:∀ t,freeF ops k t=true→a.eval (.tmp t)=a0.eval (.tmp t)
 b:∀ b,okK ops k (F.killB b)=true→F.B b w
def CertsF (P:Program) (Q:Exit→Act→World→Prop) (F:Flow) (b:Array Oper) (a0:Act):Nat→List Oper→Prop
 | _,[]=>True
 | k,o :: r=>CertH P Q F b a0 k o∧CertsF P Q F b a0 (k+1) r
theorem certs_go:∀ (l:List Oper) (i:Nat),CertsF P Q F ops a0 i l→∀ k o,l[k]? = some o→CertH P Q F ops a0 (i+k) o
 | [],_,_,k,o,h=>by simp at h
 | x :: r,i,hc,0,o,h=>by
  obtain rfl:x=o:=by simpa using h
  exact hc.1
 | x :: r,i,hc,k+1,o,h=>by
  have:=certs_go r (i+1) hc.2 k o (by simpa using h)
  rwa[show i+1+k=i+(k+1) by omega] at this
theorem certs_of (h:CertsF P Q F ops a0 0 ops.toList):∀ k o,k<ops.size→ops[k]? = some o→CertH P Q F ops a0 k o:=fun k o _ ho=>by
 have:=certs_go ops.toList 0 h k o (by rw[Array.getElem?_toList];exact ho)
 rwa[Nat.zero_add] at this
def evo (ev:Tmp→Value):Operand→Value
 | .tmp t=>ev t
 | .const v=>v
 | .global g=>.pointer (some ⟨g,0,none⟩)
 | .func f=>.func (.func f) #[] #[]
def seenT (T:List Tmp) (o:Oper):Bool:=
 (match o.op with | .select _ _=>false|_=>true) && o.op.operands.all (fun x=>match x with | .tmp t=>T.contains t|_=>true)
theorem exec_ev {a:Act} {o:Oper} (ev:Tmp→Value) (T:List Tmp) (h:seenT T o=true) (k:∀ t∈T,a.eval (.tmp t)=ev t):execOp a.eval o=execOp (evo ev) o:=by
 simp only[seenT,Bool.and_eq_true] at h
 refine execOp_congr o (fun cs b k=>?_) (fun x hx=>?_)
 ·rw[k] at h;exact absurd h.1 (by simp)
 ·have c:=Array.all_eq_true'.1 h.2 x hx
  cases x with
  | tmp t=>exact k t (by simpa using c)
  | const v=>rfl
  | global g=>rfl
  | func f=>rfl
theorem cf_val {k:Nat} {o:Oper} (h:∀ (a:Act) (w:World),PreF F ops a0 k o a w→∃ v w',(execOp a.eval o).run P w=.ok (.value v) w'∧F.E k w w'∧F.R k v w'):CertF P Q F ops a0 k o:=by
 intro a w K f c e b
 obtain ⟨v,w',d,hE,hR⟩:=h a w ⟨f,c,e⟩
 unfold Oper.wp
 rw[d]
 exact b v w' hE hR
theorem cf_one {k:Nat} {o:Oper} (t:Tmp) (h:∀ (a:Act) (w:World),PreF F ops a0 k o a w→∃ v w',(seenT [t] o=true)∧(execOp (evo fun _=>a.eval (.tmp t)) o).run P w=.ok (.value v) w'∧F.E k w w'∧F.R k v w'):CertF P Q F ops a0 k o:=by
 refine cf_val fun a w b=>?_
 obtain ⟨v,w',d,c,hE⟩:=h a w b
 refine ⟨v,w',?_,hE⟩
 rw[exec_ev (fun _=>a.eval (.tmp t)) [t] d (fun x hx=>by rw[show x=t by simpa using hx])]
 exact c
theorem cf_call {k:Nat} {o:Oper} (t:Tmp) (h:∀ (a:Act) (w:World),PreF F ops a0 k o a w→∃ f args,(seenT [t] o=true)∧(execOp (evo fun _=>a.eval (.tmp t)) o).run P w=.ok (.enter f args) w∧Calls P f args w (Ret fun e w'=>F.E k w w'∧F.R k e w')):CertF P Q F ops a0 k o:=by
 intro a w K g c d b
 obtain ⟨f,args,j,i,l⟩:=h a w ⟨g,c,d⟩
 unfold Oper.wp
 rw[exec_ev (fun _=>a.eval (.tmp t)) [t] j (fun x hx=>by rw[show x=t by simpa using hx]),i,Oper.upon_enter]
 refine l.mono ?_
 rintro e w' ⟨v,rfl,hE,hR⟩
 exact b _ _ hE hR
theorem cf_load {k:Nat} {o:Oper} (T:TypeId) (t:Tmp) (ho:o.op=.load T (.tmp t)) (b:(P.underlying T).map (·.isRow)=some true)
 (h:∀ (a:Act) (w:World),PreF F ops a0 k o a w→∃ g off cs,a.eval (.tmp t)=.pointer (some ⟨g,off,none⟩)∧w.rangeAt g off cs∧(P.info? T).map (·.size)=some cs.length∧F.E k w w∧F.R k (.agg cs.toArray) w):CertF P Q F ops a0 k o:=by
 intro a w K j e i c
 obtain ⟨g,off,cs,f,l,m,hE,hR⟩:=h a w ⟨j,e,i⟩
 obtain ⟨d,b,hd⟩:=Option.map_eq_some_iff.1 b
 exact wp_load_mid T (.tmp t) ho g off f cs d l b hd m (c _ _ hE hR)
theorem cf_app {k:Nat} {o:Oper} (s u:Tmp) (t:TypeId) (ho:o.op=.call { callee:=.builtin .append,args:=#[.tmp s,.tmp u],argTypes:=#[t,t] })
 (h:∀ (a:Act) (w:World),PreF F ops a0 k o a w→∃ v w',(Builtin.append_ #[t,t] o.type #[a.eval (.tmp s),a.eval (.tmp u)]).run P w=.ok v w'∧F.E k w w'∧F.R k v w'):CertF P Q F ops a0 k o:=by
 intro a w K e c d b
 obtain ⟨v,w',f,hE,hR⟩:=h a w ⟨e,c,d⟩
 unfold Oper.wp execOp
 simp only[ho,resolve,invoke,builtin,Sem.run_bind,Sem.run_pure,Result.andThen_ok,List.map_toArray,List.map_cons,List.map_nil,f]
 exact b _ _ hE hR
theorem certs_but (h:CertsF P Q F ops a0 0 (ops.toList.take m)):∀ k o,k<m→ops[k]? = some o→CertH P Q F ops a0 k o:=fun k o b ho=>by
 have:=certs_go (ops.toList.take m) 0 h k o (by rw[List.getElem?_take,if_pos b,Array.getElem?_toList];exact ho)
 rwa[Nat.zero_add] at this
theorem InvF.act {a:Act} (R:RegF P Q F ops a0 m) (h:InvF F ops a0 L a w) (l:m≤ops.size) (c:∀ i,on L i=true↔i<m) {V:Nat→Value} (g:∀ i d,on L i=true→dstOf ops i=some d→a.tmps[d]? = some (V i)):a=putV V (ops.toList.take m) 0 a0:=by
 refine Act.ext' ?_ (by rw[putV_defers];exact h.def')
 apply Array.ext_getElem?
 intro t
 by_cases f:∃ (i:Nat) (o:Oper),i<m∧ops[i]? = some o∧o.dst=some t
 ·obtain ⟨i,o,b,ho,hd⟩:=f
  rw[g i t ((c i).2 b) (by rw[dstOf_some ho];exact hd)]
  rw[putV_same V (ops.toList.take m) 0 a0 i o t (by rw[List.getElem?_take,if_pos b,Array.getElem?_toList];exact ho) hd (fun j n k e=>((R.of ho).2 t hd).2 j (by
   rw[List.getElem?_take] at k
   split at k
   ·rw[Array.getElem?_toList] at k;rw[dstOf_some k];exact e
   ·cases k)) ((R.of ho).2 t hd).1,Nat.zero_add]
 ·rw[h.rest t (fun i k hd=>?_),putV_other V (ops.toList.take m) 0 a0 t (fun o e hd=>?_)]
  ·obtain ⟨i,k⟩:=List.getElem?_of_mem e
   rw[List.getElem?_take] at k
   split at k
   ·rename_i b
    rw[Array.getElem?_toList] at k
    exact f ⟨i,o,b,k,hd⟩
   ·cases k
  ·unfold dstOf at hd
   cases hx:ops[i]? with
   | none=>rw[hx] at hd;cases hd
   | some x=>rw[hx] at hd;exact f ⟨i,x,(c i).1 k,hx,hd⟩
theorem flow_last {id:Nat} (F:Flow) (n:Nat) (Y:ops.size=n+1) (hd:(List.range n).all (fun j=>depOn ops n j || (List.range n).any (fun i=>depOn ops n i && depOn ops i j))=true) (T:P.follows .mixedOrders=true) (R:RegF P Q F ops a0 n) (W:∀ b,F.B b w.drew)
 (O:∀ (V:Nat→Value) (w':World),(∀ i,i<n→F.kill i=[]→F.R i (V i) w')→(∀ b,F.killB b=[]→F.B b w')→wpList P ops Q (ops.toList.drop n) (putV V (ops.toList.take n) 0 a0) w'):(Code.region id ops true).wp P Q a0 w:=by
 have key:∀ (c:Nat) (L:Array Bool) (a:Act) (w:World),unl L=c→on L n=false→InvF F ops a0 L a w→wpAny P .any ops Q c L a w:=by
  intro c
  induction c with
  | zero =>
   intro L a w M k p
   have:=unl_zero M n (by rw[p.size];omega)
   rw[k] at this;cases this
  | succ c ih =>
   intro L a w M k p
   refine ⟨fun B=>?_,fun i U=>?_⟩
   ·have:=p.full R B n oM
    rw[k] at this;cases this
   ·obtain ⟨r,o,ho,t⟩:=mem_ready.1 U
    have H:=(Array.getElem?_eq_some_iff.1 ho).1
    have E:on L i=false:=by
     unfold on
     rw[Array.getD_eq_getD_getElem?] at r ⊢
     cases hh:L[i]? with
     | none=>rfl
     | some b=>rw[hh] at r;exact r
    by_cases A:i=n
    ·subst A
     have q:∀ j,on L j=true↔j<i:=fun j=>by
      constructor
      ·intro m
       have g:j<ops.size:=by rw[← p.size];exact on_lt m
       rcases Nat.lt_or_ge j i with h|h
       ·exact h
       ·obtain rfl:j=i:=oM
        rw[k] at m;cases m
      ·intro m
       have s:∀ j,depOn ops i j=true→on L j=true:=fun j g=>by
        unfold depOn at g
        rw[ho] at g
        obtain ⟨e,u,z⟩:=Array.any_eq_true'.1 g
        simp only[Bool.and_eq_true,beq_iff_eq] at z
        have:=t e u z.1
        rw[z.2] at this
        exact this
       have g:=List.all_eq_true.1 hd j (List.mem_range.2 m)
       rw[Bool.or_eq_true] at g
       rcases g with g|g
       ·exact s j g
       ·obtain ⟨x,hx,y⟩:=List.any_eq_true.1 g
        rw[Bool.and_eq_true] at y
        have C:=s x y.1
        have D:x<ops.size:=by have:=List.mem_range.1 hx;omega
        have u:=Array.getElem?_eq_getElem D
        have v:=y.2
        unfold depOn at v
        rw[u] at v
        exact dep_on (ho:=u) p v C
     obtain ⟨V,J,D⟩:=p.all
     have X:=p.act R oM q J
     have v:∀ l:List Nat,l=[]→∀ x∈l,on L x=false:=fun l S x hx=>by rw[S] at hx;cases hx
     have s:=O V w (fun j m N=>D j ((q j).2 m) (v _ N)) (fun b z=>p.base b (v _ z))
     have u:ops.toList.drop i=[o]:=by
      have y:ops.toList.length=i+1:=by rw[Array.length_toList];exact Y
      rw[List.drop_eq_getElem_cons oM,List.drop_of_length_le oM]
      have:ops.toList[i]? = some o:=by rw[Array.getElem?_toList];exact ho
      rw[List.getElem?_eq_getElem oM] at this
      rw[Option.some.inj this]
     rw[u,← X] at s
     have I:wpOp P ops Q i (fun C w'=>Q .normal C w') a w:=by
      unfold wpOp
      rw[ho]
      exact s
     refine wpOp_mono (fun C w' K=>?_) I
     have y:∀ j,j<ops.size→on (L.setIfInBounds i true) j=true:=fun j m=>by
      rw[on_set (by rw[p.size];omega)]
      by_cases h:j<i
      ·rw[(q j).2 h,Bool.true_or]
      ·rw[show j=i by omega];simp
     have B:Region.ready .any ops (L.setIfInBounds i true)=[]:=by
      apply List.eq_nil_iff_forall_not_mem.2
      intro j m
      obtain ⟨r,Z,G,-⟩:=mem_ready.1 m
      have g:=y j (Array.getElem?_eq_some_iff.1 G).1
      unfold on at g
      rw[Array.getD_eq_getD_getElem?] at r g
      cases hh:(L.setIfInBounds i true)[j]? with
      | none=>rw[hh] at r;cases r
      | some b=>rw[hh] at r g;rw[show b=false from r] at g;cases g
     cases c with
     | zero=>exact ⟨B,K⟩
     | succ f=>exact ⟨fun _=>K,fun j m=>by rw[B] at m;cases m⟩
    ·refine wpOp_mono (fun C w' q=>ih _ C w' (by have:=unl_set r;omega) ?_ q) (stepF R oM (fun j m=>?_) ho E t p)
     ·rw[on_set (by rw[p.size];exact H),k]
      simpa using A
     ·have g:j<ops.size:=by rw[← p.size];exact on_lt m
      rcases Nat.lt_or_ge j n with h|h
      ·exact h
      ·obtain rfl:j=n:=oM
       rw[k] at m;cases m
 have k:∀ i,on (Array.replicate ops.size false) i=false:=fun i=>by
  unfold on
  rw[Array.getD_eq_getD_getElem?,Array.getElem?_replicate]
  by_cases h:i<ops.size
  ·rw[if_pos h];rfl
  ·rw[if_neg h];rfl
 refine wp_region_any T (key _ _ a0 _ ?_ (k n) ⟨Array.size_replicate,(fun i o _ h=>by rw[k] at h;cases h),rfl,rfl,fun _ _=>rfl,⟨fun _=>undef,fun i d h=>(by rw[k] at h;cases h),fun i h=>(by rw[k] at h;cases h)⟩,fun b _=>W b⟩)
 unfold unl
 rw[Array.toList_replicate,List.countP_replicate]
 simp
end RG
namespace RG
open Go Go.RowKit
variable {P:Program} {ops:Array Oper} {Q:Exit→Act→World→Prop} {w:World} {a0:Act}
def AllE (a:Act):List (Tmp × Value)→Prop
 | []=>True
 | x :: r=>a.eval (.tmp x.1)=x.2∧AllE a r
def evl (k:List (Tmp × Value)) (t:Tmp):Value:=match k.find? (fun x=>x.1 == t) with|some x=>x.2|none=>undef
theorem AllE.mem {a:Act}:∀ {k:List (Tmp × Value)},AllE a k→∀ x∈k,a.eval (.tmp x.1)=x.2
 | [],_,x,hx=>by cases hx
 | y :: r,h,x,hx=>by
  rcases List.mem_cons.1 hx with rfl|hx
  ·exact h.1
  ·exact AllE.mem h.2 x hx
theorem AllE.ev {a:Act} {k:List (Tmp × Value)} (h:AllE a k):∀ t∈k.map (·.1),a.eval (.tmp t)=evl k t:=fun t c=>by
 obtain ⟨x,hx,rfl⟩:=List.mem_map.1 c
 unfold evl
 cases hf:k.find? (fun y=>y.1 == x.1) with
 | none =>
  have:=List.find?_eq_none.1 hf x hx
  simp at this
 | some y =>
  have d:=List.mem_of_find?_eq_some hf
  have b:y.1=x.1:=by simpa using List.find?_some hf
  have:=h.mem y d
  rw[b] at this
  exact this
structure Gw where
 R:Nat→Value→World→Prop
 B:World→Prop
 sR:∀ i v w w',Below w.heap.size w w'→R i v w→R i v w'
 sB:∀ w w',Below w.heap.size w w'→B w→B w'
def Gw.flow (G:Gw):Flow:=⟨G.R,fun _=>G.B,fun _ w w'=>Below w.heap.size w w',fun _=>[],fun _=>[]⟩
structure PreG (G:Gw) (ops:Array Oper) (a0:Act) (k:Nat) (o:Oper) (a:Act) (w:World):Prop where
 n:∀ j d,depB o j=true→dstOf ops j=some d→G.R j (a.eval (.tmp d)) w
 o:∀ t,freeF ops k t=true→a.eval (.tmp t)=a0.eval (.tmp t)
 b:G.B w
variable {G:Gw}
theorem pre_of {k:Nat} {o:Oper} {a:Act} (h:PreF G.flow ops a0 k o a w):PreG G ops a0 k o a w:=⟨fun j d b hd=>h.n j d b rfl hd,h.o,h.b 0 rfl⟩
theorem gw_val {k:Nat} {o:Oper} (h:∀ (a:Act) (w:World),PreG G ops a0 k o a w→∃ (b:List (Tmp × Value)) (v:Value) (w':World),AllE a b∧(seenT (b.map (·.1)) o,(execOp (evo (evl b)) o).run P w)=(true,.ok (.value v) w')∧Below w.heap.size w w'∧G.R k v w'):CertF P Q G.flow ops a0 k o:=
 cf_val fun a w e=>by
  obtain ⟨b,v,w',d,c,hE⟩:=h a w (pre_of e)
  simp only[Prod.mk.injEq] at c
  refine ⟨v,w',?_,hE⟩
  rw[exec_ev (evl b) (b.map (·.1)) c.1 d.ev]
  exact c.2
theorem gw_call {k:Nat} {o:Oper} (h:∀ (a:Act) (w:World),PreG G ops a0 k o a w→∃ (b:List (Tmp × Value)) (f:FuncId) (args:Array Value),AllE a b∧(seenT (b.map (·.1)) o,(execOp (evo (evl b)) o).run P w)=(true,.ok (.enter f args) w)∧Calls P f args w (Ret fun e w'=>Below w.heap.size w w'∧G.R k e w')):CertF P Q G.flow ops a0 k o:=by
 intro a w K l g j d
 obtain ⟨b,f,args,i,c,m⟩:=h a w (pre_of ⟨l,g,j⟩)
 simp only[Prod.mk.injEq] at c
 unfold Oper.wp
 rw[exec_ev (evl b) (b.map (·.1)) c.1 i.ev,c.2,Oper.upon_enter]
 refine m.mono ?_
 rintro e w' ⟨v,rfl,hE,hR⟩
 exact d _ _ hE hR
theorem gw_load {k:Nat} {o:Oper} (T:TypeId) (t:Tmp) (ho:o.op=.load T (.tmp t)) (d:(P.underlying T).map (·.isRow)=some true)
 (h:∀ (a:Act) (w:World),PreG G ops a0 k o a w→∃ g off cs,a.eval (.tmp t)=.pointer (some ⟨g,off,none⟩)∧w.rangeAt g off cs∧(P.info? T).map (·.size)=some cs.length∧G.R k (.agg cs.toArray) w):CertF P Q G.flow ops a0 k o:=
 cf_load T t ho d fun a w b=>by
  obtain ⟨g,off,cs,e,c,f,i⟩:=h a w (pre_of b)
  exact ⟨g,off,cs,e,c,f,Below.refl _ _,i⟩
theorem gw_bin {k:Nat} {o:Oper} (op:BinOp) (T c:TypeId) (t1 t2:Tmp) (ho:o.op=.binOp op T (.tmp t1) (.tmp t2) c)
 (h:∀ (a:Act) (w:World),PreG G ops a0 k o a w→∃ v1 v2 v,a.eval (.tmp t1)=v1∧a.eval (.tmp t2)=v2∧(eqGuard op T (.tmp t1) (.tmp t2) v1 v2).run P w=.ok () w∧(binOp op T v1 v2).run P w=.ok v w∧G.R k v w):CertF P Q G.flow ops a0 k o:=
 cf_val fun a w d=>by
  obtain ⟨v1,v2,v,f,b,e,g,hR⟩:=h a w (pre_of d)
  refine ⟨v,w,?_,Below.refl _ _,hR⟩
  unfold execOp
  rw[ho]
  dsimp only
  rw[f,b,Sem.run_bind,Sem.run_bind,e]
  dsimp only[Result.andThen]
  rw[g]
  rfl
theorem Gw.reg {m:Nat} (k:chkF ops a0.tmps.size=true) (h:CertsF P Q G.flow ops a0 0 (ops.toList.take m)):RegF P Q G.flow ops a0 m:=
 ⟨k,certs_but h,fun i j _ _ _ _ _ v w w' hE hR=>G.sR j v w w' hE hR,fun i b _ _ w w' hE c=>G.sB w w' hE c⟩
theorem Gw.draws {id:Nat} (G:Gw) (e:P.follows .mixedOrders=true) (c:chkF ops a0.tmps.size=true) (h:CertsF P Q G.flow ops a0 0 (ops.toList.take ops.size)) (f:G.B w.drew)
 (k:∀ (V:Nat→Value) (w':World),(∀ i,i<ops.size→G.R i (V i) w')→G.B w'→Q .normal (putV V ops.toList 0 a0) w'):(Code.region id ops true).wp P Q a0 w:=
 flow_draws G.flow e (Gw.reg c h) (fun _=>f) fun V w' g b=>k V w' (fun i d=>g i d rfl) (b 0 rfl)
theorem Gw.last {id:Nat} (G:Gw) (n:Nat) (k:((ops.size == n+1) && (List.range n).all (fun j=>depOn ops n j || (List.range n).any (fun i=>depOn ops n i && depOn ops i j)))=true) (f:P.follows .mixedOrders=true) (d:chkF ops a0.tmps.size=true) (h:CertsF P Q G.flow ops a0 0 (ops.toList.take n)) (g:G.B w.drew)
 (b:∀ (V:Nat→Value) (w':World),(∀ i,i<n→G.R i (V i) w')→G.B w'→wpList P ops Q (ops.toList.drop n) (putV V (ops.toList.take n) 0 a0) w'):(Code.region id ops true).wp P Q a0 w:=by
 rw[Bool.and_eq_true,beq_iff_eq] at k
 exact flow_last G.flow n k.1 k.2 f (Gw.reg d h) (fun _=>g) fun V w' l c=>b V w' (fun i e=>l i e rfl) (c 0 rfl)
end RG
section
open Go.RowKit Go.Sort Go.Deep
variable {P:Nat} [NeZero P] {N:Nat}
theorem setCell_row {w:World} {g o:Nat} {v:Value} {cur:Array Value} {e:TypeId} {z:Nat × Nat} (h:w.heap[g]? = some (.cells cur e z)):∃ k:Array Value,(w.setCell ⟨g,o,none⟩ v).heap[g]? = some (.cells k e z)∧k.size=cur.size:=by
 have b:=(Array.getElem?_eq_some_iff.1 h).1
 refine ⟨cur.setIfInBounds o v,?_,Array.size_setIfInBounds ..⟩
 have c:w.heap[g]=.cells cur e z:=by rw[Array.getElem?_eq_getElem b] at h;exact Option.some.inj h
 simp[World.setCell,Array.getElem_modify,b,c]
theorem setCells_row {g:Nat} {e:TypeId} {z:Nat × Nat}:∀ (vs:List Value) (o:Nat) (w:World) (cur:Array Value),w.heap[g]? = some (.cells cur e z)→∃ k:Array Value,(w.setCells g o vs).heap[g]? = some (.cells k e z)∧k.size=cur.size
 | [],_,_,cur,h=>⟨cur,h,rfl⟩
 | v :: r,o,w,cur,h=>by
  obtain ⟨c1,f,b⟩:=setCell_row (o:=o) (v:=v) h
  obtain ⟨c2,c,d⟩:=setCells_row r (o+1) _ c1 f
  exact ⟨c2,c,d.trans b⟩
theorem owns_set {W:World} {k n s g o cap:Nat} {e:TypeId} {xs vs:List Value} (h:W.ownsRow k e s (.slice (some ⟨g,0,none⟩) n cap) n xs) (w:o+vs.length≤n*s):(W.setCells g o vs).ownsRow k e s (.slice (some ⟨g,0,none⟩) n cap) n (RG.rep xs o vs):=by
 have hx:o+vs.length≤xs.length:=by rw[h.1];exact w
 refine ⟨by rw[RG.rep_length hx];exact h.1,?_⟩
 rcases h.2 with ⟨d,-⟩|⟨a,t,cur,d,u,r,p,x,l,y⟩
 ·cases d
 ·injection d with e1 e2 e3
  injection e1 with e1
  injection e1 with e1
  subst e1
  subst e3
  obtain ⟨c2,m,v⟩:=setCells_row vs o W cur r
  refine Or.inr ⟨g,cap,c2,rfl,u,m,p,x,by rw[v];exact l,?_⟩
  have z:n*s≤cur.size:=by rw[l];exact Nat.mul_le_mul_right s p
  apply List.ext_getElem?
  intro i
  rw[RG.rep_at hx,List.getElem?_take,← y]
  have c1:∀ i,W.cell? ⟨g,i,none⟩=cur[i]?:=fun i=>cell_of_row W g i cur e (0,0) r
  have q:(W.setCells g o vs).cell? ⟨g,i,none⟩=c2[i]?:=cell_of_row _ g i c2 e (0,0) m
  by_cases c:i<n*s
  ·rw[if_pos c]
   by_cases b:o≤i∧i<o+vs.length
   ·rw[if_pos b]
    have f:i-o<vs.length:=oM
    have:=World.cell?_setCells_in g vs o W (fun j f=>by rw[c1 (o+j),Array.getElem?_eq_getElem oM];rfl) (i-o) f
    rw[show o+(i-o)=i by omega,q] at this
    rw[Array.getElem?_toList,this,List.getElem?_eq_getElem f]
   ·rw[if_neg b,List.getElem?_take,if_pos c,Array.getElem?_toList,Array.getElem?_toList,← q,← c1 i]
    exact World.cell?_setCells_out g vs o W ⟨g,i,none⟩ (fun _ _=>by show i<o∨o+vs.length≤i;omega)
  ·rw[if_neg c,if_neg oM,List.getElem?_take,if_neg c]
theorem rep_app {xs ys vs:List Value} {o:Nat}:RG.rep (xs++ys) (xs.length+o) vs=xs++RG.rep ys o vs:=by
 unfold RG.rep
 rw[List.take_length_add_append,Nat.add_assoc,List.drop_length_add_append,List.append_assoc]
theorem row_len {n:Nat} {p:Bs} (k:p.size=33):(wn n++bl33 p).length=37:=by rw[List.length_append,bl33_length k];rfl
theorem cellsT_cons (x:Nat × Bs) (r:List (Nat × Bs)):cellsT (x :: r)=(wn x.1++bl33 x.2)++cellsT r:=by unfold cellsT;rw[List.flatMap_cons]
theorem cellsT_set (s:Nat):∀ (l:List (Nat × Bs)) (j:Nat) (k:j<l.length),(∀ x∈l.map (·.2),x.size=33)→cellsT (l.set j (s,(l[j]).2))=RG.rep (cellsT l) (37*j) (wn s)
 | [],j,k,_=>by cases k
 | x :: r,0,_,_=>by
  show cellsT ((s,x.2) :: r)=_
  rw[cellsT_cons,cellsT_cons]
  rfl
 | x :: r,j+1,k,hs=>by
  have hx:=row_len (n:=x.1) (hs x.2 (by simp))
  show cellsT (x :: r.set j (s,(r[j]'(by simpa using k)).2))=_
  rw[cellsT_cons,cellsT_cons,cellsT_set s r j (by simpa using k) (fun y b=>hs y (List.mem_cons_of_mem _ b)),show 37*(j+1)=(wn x.1++bl33 x.2).length+37*j by rw[hx];omega,rep_app]
theorem at?_some {p:Bs}:∀ {l:List (Nat × Bs)} {i j:Nat},at? p (l.map (·.2)) i=some j→i≤j∧∃ h:j-i<l.length,(l[j-i]).2=p∧∀ n,addT N l n p=l.set (j-i) (sPl N (l[j-i]).1 n,p)
 | [],i,j,h=>by cases h
 | (s,q) :: r,i,j,h=>by
  rw[List.map_cons] at h
  unfold at? at h
  by_cases k:p=q
  ·rw[if_pos k] at h
   obtain rfl:=Option.some.inj h
   refine ⟨Nat.le_refl _,by simp,?_,fun n=>?_⟩
   ·simp[k]
   ·unfold addT
    rw[if_pos k]
    simp[k]
  ·rw[if_neg k] at h
   obtain ⟨f,d,b,c⟩:=at?_some h
   have e:j-i=(j-(i+1))+1:=oM
   refine ⟨oM,by simp;omega,?_,fun n=>?_⟩
   ·simp only[e,List.getElem_cons_succ];exact b
   ·unfold addT
    rw[if_neg k,c n]
    simp only[e,List.getElem_cons_succ,List.set_cons_succ]
theorem addT_pts {n:Nat} {p:Bs} {l:List (Nat × Bs)} {j:Nat} (h:at? p (l.map (·.2)) 0=some j):(addT N l n p).map (·.2)=l.map (·.2)∧(addT N l n p).length=l.length:=by
 obtain ⟨-,k,c,d⟩:=at?_some (N:=N) h
 rw[d n]
 refine ⟨?_,List.length_set ..⟩
 rw[List.map_set]
 apply List.ext_getElem?
 intro i
 rw[List.getElem?_set]
 by_cases b:j-0=i
 ·subst b
  rw[if_pos rfl,if_pos (by rw[List.length_map];exact k),List.getElem?_map,List.getElem?_eq_getElem k]
  exact congrArg some c.symm
 ·rw[if_neg b]
theorem Mx.again {w W:World} {m g cap:Nat} {l:List (Nat × Bs)} {p:Bs} {j:Nat} (h:Mx w W m l (.slice (some ⟨g,0,none⟩) l.length cap)) (o:∀ x∈l.map (·.2),x.size=33) (d:at? p (l.map (·.2)) 0=some j) (i:j<l.length) (n:Nat) :
 Mx w (W.setCells g (37*j) (wn (sPl N (l[j]).1 n))) m (addT N l n p) (.slice (some ⟨g,0,none⟩) l.length cap):=by
 have k:=h.own_ne (g:=g) rfl
 obtain ⟨f,b⟩:=addT_pts (N:=N) (n:=n) d
 refine ⟨RG.below_setCells k.2.1 _ _ _ h.bl,?_,h.lm,?_⟩
 ·rw[RG.setCells_other _ _ _ _ _ (Ne.symm k.1),f,b]
  exact h.mp
 ·obtain ⟨-,q,c,e⟩:=at?_some (N:=N) d
  have e3:addT N l n p=l.set j (sPl N (l[j]).1 n,(l[j]).2):=by rw[e n];simp only[Nat.sub_zero] at c ⊢;rw[c]
  rw[b,e3,cellsT_set _ l j i o]
  exact owns_set h.ow (by show 37*j+4≤_;omega)
theorem mrg_lt (O:Ord N) (ns:Nat→Nat) (c:Nat→Bs) {k:Nat} (d:∀ j,j<k→ns j<N):∀ i,i≤k→∀ x∈mrg N ns c i,x.1<N
 | 0,_=>fun x hx=>by cases hx
 | i+1,hi=>by
  have e:=mrg_lt O ns c d i oM
  have h:∀ (l:List (Nat × Bs)) n p,n<N→(∀ x∈l,x.1<N)→∀ x∈addT N l n p,x.1<N:=by
   intro l n p f
   induction l with
   | nil=>intro _ x hx;simp[addT] at hx;rw[hx];exact f
   | cons y r ihr =>
    intro b x hx
    unfold addT at hx
    split at hx
    ·rcases List.mem_cons.1 hx with rfl|hx
     ·exact Nat.mod_lt _ O.pos
     ·exact b x (List.mem_cons_of_mem _ hx)
    ·rcases List.mem_cons.1 hx with rfl|hx
     ·exact b _ List.mem_cons_self
     ·exact ihr (fun z g=>b z (List.mem_cons_of_mem _ g)) x hx
  exact h _ _ _ (d i oM) e
end
section
open Go.RowKit Go.Sort Go.Deep
variable {N:Nat}
section
variable (w:World) (m g4 cap k6 j s n z:Nat) (l:List (Nat × Bs)) (p:Bs)
def Ra:Nat→Value→World→Prop
 | 0,v,_=>v=.slice (some ⟨g4,0,none⟩) l.length cap
 | 1,v,_=>v=.int .i64 j
 | 2,v,_=>v=.slice (some ⟨g4,0,none⟩) l.length cap
 | 3,v,_=>v=.int .i64 j
 | 4,v,_=>v=.pointer (some ⟨g4,0+37*j,none⟩)
 | 5,v,_=>v=.pointer (some ⟨g4,0+37*j,none⟩)
 | 6,v,_=>v=nv s
 | 7,v,_=>v=.pointer (some ⟨k6,0,none⟩)
 | 8,v,_=>v=nv n
 | 9,v,_=>v=nv z
 | 10,v,_=>v=.pointer (some ⟨g4,0+37*j,none⟩)
 | 11,v,_=>v=.pointer (some ⟨g4,0+37*j,none⟩)
 | _,_,_=>True
theorem Ra_any {i:Nat} {v:Value} {W W':World} (h:Ra g4 cap k6 j s n z l i v W):Ra g4 cap k6 j s n z l i v W':=by
 match i,h with
 | 0,h=>exact h
 | 1,h=>exact h
 | 2,h=>exact h
 | 3,h=>exact h
 | 4,h=>exact h
 | 5,h=>exact h
 | 6,h=>exact h
 | 7,h=>exact h
 | 8,h=>exact h
 | 9,h=>exact h
 | 10,h=>exact h
 | 11,h=>exact h
 | _+12,_=>trivial
def Ga:RG.Gw:=⟨Ra g4 cap k6 j s n z l,fun W=>Mx w W m l (.slice (some ⟨g4,0,none⟩) l.length cap)∧Row W k6 (wn n++bl33 p),fun _ _ _ _ _ h=>Ra_any g4 cap k6 j s n z l h,fun _ _ k h=>⟨h.1.kept k,h.2.below k⟩⟩
end
theorem range_front' {W:World} {k o:Nat} {xs ys:List Value} (h:W.rangeAt k o (xs++ys)):W.rangeAt k o xs:=fun j v b=>h j v (by rw[List.getElem?_append_left (List.getElem?_eq_some_iff.1 b).1];exact b)
theorem Mx.drew {w W:World} {m:Nat} {l:List (Nat × Bs)} {v:Value} (h:Mx w W m l v):Mx w W.drew m l v:=⟨h.bl.drew,h.mp,h.lm,h.ow⟩
theorem merged_a (O:Ord N) (R:Value→World→Prop) (g k c:Nat) (hk:k≤1000) (ns:Nat→Nat) (o:Nat→Bs) (ha:∀ j,j<k→(o j).size=33) (hn:∀ j,j<k→ns j<N) (w:World) (hg:g<w.heap.size) (hr:∀ j,j<k→w.rangeAt g (37*j) (wn (ns j)++bl33 (o j)))
 (h6:∀ W v,Mx w W w.heap.size (mrg N ns o k) v→Calls Tryz.prog 109 #[v,.func (.func 110) #[] #[]] W (Ret R)) :
 Calls Tryz.prog 63 #[.slice (some ⟨g,0,none⟩) k c] w (Ret R):=by
 have h4:=Hid.mk' h6
 have k6:(Instr.makeMap 202 none).run Tryz.prog w=.ok (.map (some w.heap.size)) (w.alloc (.map #[] 0)):=kR
 obtain ⟨w1,h5⟩:=hE (w.alloc (.map #[] 0))
 rw[h5.out] at k6
 have M1:Hid (Mx w w1 w.heap.size (mrg N ns o 0) (.slice none 0 0)):=by
  rw[← h5.out]
  exact ⟨below1 w _,by show (w.heap.push (.map #[] 0))[w.heap.size]? = _;rw[Array.getElem?_push_size];rfl,Nat.le_refl _,rfl,Or.inl ⟨rfl,rfl⟩⟩
 have K:=mk5 O ha hn hg hr
 obtain ⟨d,hm,k7⟩:=Option.map_eq_some_iff.1 uCP
 obtain ⟨d',k9,hz⟩:=Option.map_eq_some_iff.1 uT
 have J:Hid ((Tryz.prog.underlying 51=some d∧d.isRow=true)∧Tryz.prog.underlying 124=some d'∧d'.isRow=true):=⟨⟨hm,k7⟩,k9,hz⟩
 go_enter Tryz.func63,Tryz.ntmps63
 go_wp2
 go_loopg [4,12] k (fun q s4 s12 W=>∃ i:Nat,i+q=k∧s12=.int .i64 i∧Hid (Mx w W w.heap.size (mrg N ns o i) s4))
 case atStart=>exact ⟨0,oM,rfl,M1⟩
 case round =>
  obtain ⟨i,kh,rfl,KM⟩:=hrel
  by_cases hi:i<k
  ·have k2:(i:Int)<(k:Int):=oM
   obtain ⟨n,D⟩:=hE (ns i)
   obtain ⟨p,G⟩:=hE (o i)
   obtain ⟨l,hl⟩:=hE (mrg N ns o i)
   rw[hl.out] at KM
   have r:Hid (p.size=33):=by have:=K.2.1 i hi;rw[G.out] at this;exact this
   have hw:Hid (l.length≤i):=by have:=mrg_len (N:=N) ns o i;rw[hl.out] at this;exact this
   obtain ⟨q,cap,rfl⟩:=owns_form KM.ow
   obtain ⟨P,U⟩:=hE (wr.alloc (.cells zT.toArray 124))
   obtain ⟨H,Y⟩:=hE (P.setCells wr.heap.size 0 (wn n++bl33 p))
   have m:(wn n++bl33 p).length=37:=by rw[List.length_append,bl33_length r.out];rfl
   have F1:Hid (Row P wr.heap.size zT∧Below wr.heap.size wr P∧P.heap.size=wr.heap.size+1):=by rw[← U.out];exact ⟨row_new wr _ _,below1 wr _,World.size_alloc _ _⟩
   have X:Hid (Row H wr.heap.size (wn n++bl33 p)∧Below wr.heap.size wr H∧H.heap.size=wr.heap.size+1):=by rw[← Y.out];exact ⟨F1.1.put (by rw[m];rfl),RG.below_setCells (Nat.le_refl _) _ _ _ F1.2.1,by rw[RG.setCells_size];exact F1.2.2⟩
   have Q:=mk1 (KM.kept X.2.1)
   have C:∀ x∈l.map (·.2),x.size=33:=by have:=mrg_size (N:=N) ns o K.2.1 i oM;rw[hl.out] at this;exact this
   cases F:at? p (l.map (·.2)) 0 with
   | none =>
    have b:=mk1 (F)
    have Z:=Hid.mk' (look_run r.out (l.map (·.2)) C w.heap.size l.length H Q.mp)
    rw[b.out] at Z
    have B2:Hid ((Instr.mapUpdate 202 (.map (some w.heap.size)) (.agg (bl33 p).toArray) (.int .i64 (l.length:Int))).run Tryz.prog H=.ok () (H.putObj w.heap.size (.map (ents (l.map (·.2)++[p]) 0).toArray (l.length+1)))):=by
     have h:=upd_run r.out (l.map (·.2)) C w.heap.size H (by rw[List.length_map];exact Q.mp) b.out
     rw[List.length_map] at h
     exact h
    obtain ⟨v',W5,f,K5,kg,-⟩:=Q.push r.out (by have:=hw.out;omega) n
    obtain ⟨S,B⟩:=hE (H.putObj w.heap.size (.map (ents (l.map (·.2)++[p]) 0).toArray (l.length+1)))
    have F3:Hid (Row S wr.heap.size (wn n++bl33 p)∧S.heap.size=wr.heap.size+1):=by rw[← B.out];exact ⟨X.1.putObj Q.mp rfl _,by simp[World.putObj];exact X.2.2⟩
    have V:=Hid.mk' (bslT r.out n S)
    obtain ⟨W4,L⟩:=hE (S.alloc (.cells (wn n++bl33 p).toArray 124))
    rw[B.out] at B2 f
    rw[L.out] at V f
    rw[F3.2] at V
    rw[X.2.2] at f
    have kb:Hid (Mx w W5 w.heap.size (mrg N ns o (i+1)) v'):=by
     have e:mrg N ns o (i+1)=l++[(n,p)]:=by
      show addT N (mrg N ns o i) (ns i) (o i)=_
      rw[hl.out,D.out,G.out]
      exact addT_new b.out
     rw[e];exact K5
    have B0:Hid (wr.rangeAt g (37*i) (wn n++bl33 p)):=by
     have h:=RG.range_below (K.2.2.2.2 i hi) KM.bl K.2.2.2.1
     rw[D.out,G.out] at h
     exact h
    have M:Hid ((Tryz.prog.info? 124).map (·.size)=some (wn n++bl33 p).length):=by show _=_;rw[m];exact iT
    have E:Hid ((Tryz.prog.info? 124).map (·.size)=some (wn n++bl33 p).toArray.size∧P.there wr.heap.size 0 (wn n++bl33 p).toArray.size):=by
     have e:(wn n++bl33 p).toArray.size=37:=by rw[List.size_toArray];exact m
     rw[e];exact ⟨iT,F1.1.2.2⟩
    have h0:Hid ((Tryz.prog.info? 51).map (·.size)=some (bl33 p).length):=by show _=_;rw[bl33_length r.out];exact infoCP
    have HB:=mk1 (range_back (xs:=wn n) X.1.2.1)
    have T:Hid ((wn n++bl33 p).toArray.all (·.oneCell')=true):=by
     show _=_
     rw[Array.all_eq_true']
     intro u hu
     exact cells_one n p u (List.mem_toArray.1 hu)
    have hy:=atT g 0 k c i hi
    have kd:=Hid.mk' f
    obtain ⟨vt,A⟩:=hE (Value.agg (wn n++bl33 p).toArray)
    obtain ⟨vp,I⟩:=hE (Value.agg (bl33 p).toArray)
    rw[I.out] at Z B2
    rw[A.out] at V
    go_wp2_with (first|(refine wpList_load_mid rfl 124 _ rfl g (37*i) ?_ (wn n++bl33 p) d' ?_ ?_ ?_ ?_ ?_;rfl;exact B0.out;exact J.2.1;exact J.2.2;exact M.out;rw[A.out])|(refine wpList_op (v:=.pointer (some ⟨wr.heap.size,0,none⟩)) (w':=P) rfl (.alloc 124) rfl ?_ ?_;(rw[← U.out];kernel_rfl))|(refine wpList_store_mid rfl 124 _ _ rfl wr.heap.size 0 (wn n++bl33 p).toArray ?_ ?_ ?_ ?_ ?_ ?_;rfl;exact A.symm;exact E.2;exact E.1;exact T.out;rw[show (wn n++bl33 p).toArray.toList=wn n++bl33 p from rfl,Y.out])|(refine wpList_load_mid rfl 51 _ rfl wr.heap.size 4 ?_ (bl33 p) d ?_ ?_ ?_ ?_ ?_;rfl;exact HB.out;exact J.1.1;exact J.1.2;exact h0.out;rw[I.out])|(refine wpList_lk (x:=.map (some w.heap.size)) (y:=vp) (w':=H) rfl 202 _ _ true rfl ?_ ?_ Z.out ?_;rfl;rfl)|(refine wpList_mu (x:=.map (some w.heap.size)) (y:=vp) (z:=.int .i64 (l.length:Int)) (w':=S) rfl 202 _ _ _ rfl ?_ ?_ ?_ B2.out ?_;rfl;rfl;rfl)|(refine wpList_load_mid rfl 124 _ rfl wr.heap.size 0 ?_ (wn n++bl33 p) d' ?_ ?_ ?_ ?_ ?_;rfl;exact F3.1.2.1;exact J.2.1;exact J.2.2;exact M.out;rw[A.out])|(refine wpList_bsl (v:=.slice (some ⟨wr.heap.size+1,0,none⟩) 1 1) (w':=W4) rfl 82 1 _ rfl #[(0,vt)] ?_ V.out ?_;kernel_rfl)|(refine wpList_app (x:=.slice q l.length cap) (y:=.slice (some ⟨wr.heap.size+1,0,none⟩) 1 1) (v:=v') (w':=W5) rfl _ _ 82 rfl ?_ ?_ ?_ ?_;rfl;rfl;exact kd.out))
    go_roundg (gk-1)
    case measure=>omega
    case rel=>exact ⟨i+1,oM,rfl,kb⟩
   | some j =>
    obtain ⟨-,B,h9,-⟩:=at?_some (N:=N) F
    rw[Nat.sub_zero] at B
    simp only[Nat.sub_zero] at h9
    have Z:=Hid.mk' (look_run r.out (l.map (·.2)) C w.heap.size l.length H Q.mp)
    rw[F] at Z
    obtain ⟨f,kf,ka,-,k5,k3⟩:=owns_rows Q.ow C oM
    injection ka with q1 q2 q3
    subst q1
    obtain ⟨s,h1⟩:∃ s,Hid ((l[j]'B).1=s):=⟨(l[j]'B).1,(rfl:(l[j]'B).1=(l[j]'B).1)⟩
    have k1:Hid (s<N):=by
     have:=mrg_lt K.1 ns o K.2.2.1 i oM
     rw[hl.out] at this
     rw[← h1.out]
     exact this _ (List.getElem_mem B)
    have k4:Hid (n<N):=by rw[← D.out];exact K.2.2.1 i hi
    have B0:Hid (wr.rangeAt g (37*i) (wn n++bl33 p)):=by
     have h:=RG.range_below (K.2.2.2.2 i hi) KM.bl K.2.2.2.1
     rw[D.out,G.out] at h
     exact h
    have M:Hid ((Tryz.prog.info? 124).map (·.size)=some (wn n++bl33 p).length):=by show _=_;rw[m];exact iT
    have E:Hid ((Tryz.prog.info? 124).map (·.size)=some (wn n++bl33 p).toArray.size∧P.there wr.heap.size 0 (wn n++bl33 p).toArray.size):=by
     have e:(wn n++bl33 p).toArray.size=37:=by rw[List.size_toArray];exact m
     rw[e];exact ⟨iT,F1.1.2.2⟩
    have h0:Hid ((Tryz.prog.info? 51).map (·.size)=some (bl33 p).length):=by show _=_;rw[bl33_length r.out];exact infoCP
    have HB:=mk1 (range_back (xs:=wn n) X.1.2.1)
    have T:Hid ((wn n++bl33 p).toArray.all (·.oneCell')=true):=by
     show _=_
     rw[Array.all_eq_true']
     intro u hu
     exact cells_one n p u (List.mem_toArray.1 hu)
    have hy:=atT g 0 k c i hi
    obtain ⟨vt,A⟩:=hE (Value.agg (wn n++bl33 p).toArray)
    obtain ⟨vp,I⟩:=hE (Value.agg (bl33 p).toArray)
    rw[I.out] at Z
    have HL:=mk1 (B)
    have HS:Hid (∀ h:j<l.length,(l[j]'h).1=s):=fun _=>h1.out
    have HJ:=mk2 F C
    have HK:=mk2 Q.out X.1
    have KN:Hid (mrg N ns o (i+1)=addT N l n p):=by
     show addT N (mrg N ns o i) (ns i) (o i)=_
     rw[hl.out,D.out,G.out]
    clear m C Q KM h9 q2 q3 k3 k5
    clear F
    go_wp2_with (first|(refine wpList_load_mid rfl 124 _ rfl g (37*i) ?_ (wn n++bl33 p) d' ?_ ?_ ?_ ?_ ?_;rfl;exact B0.out;exact J.2.1;exact J.2.2;exact M.out;rw[A.out])|(refine wpList_op (v:=.pointer (some ⟨wr.heap.size,0,none⟩)) (w':=P) rfl (.alloc 124) rfl ?_ ?_;(rw[← U.out];kernel_rfl))|(refine wpList_store_mid rfl 124 _ _ rfl wr.heap.size 0 (wn n++bl33 p).toArray ?_ ?_ ?_ ?_ ?_ ?_;rfl;exact A.symm;exact E.2;exact E.1;exact T.out;rw[show (wn n++bl33 p).toArray.toList=wn n++bl33 p from rfl,Y.out])|(refine wpList_load_mid rfl 51 _ rfl wr.heap.size 4 ?_ (bl33 p) d ?_ ?_ ?_ ?_ ?_;rfl;exact HB.out;exact J.1.1;exact J.1.2;exact h0.out;rw[I.out])|(refine wpList_lk (x:=.map (some w.heap.size)) (y:=vp) (w':=H) rfl 202 _ _ true rfl ?_ ?_ Z.out ?_;rfl;rfl)|fail)
    refine (Ga w w.heap.size f cap wr.heap.size j s n (sPl N s n) l p).last 12 kR kR kR ⟨
     RG.gw_val fun a W b=>⟨[(4,.slice (some ⟨f,0,none⟩) l.length cap)],.slice (some ⟨f,0,none⟩) l.length cap,W,⟨b.o 4 kR,trivial⟩,kR,Below.refl _ _,rfl⟩,
     RG.gw_val fun a W b=>⟨[(7,.int .i64 j)],.int .i64 j,W,⟨b.o 7 kR,trivial⟩,kR,Below.refl _ _,rfl⟩,
     RG.gw_val fun a W b=>⟨[(4,.slice (some ⟨f,0,none⟩) l.length cap)],.slice (some ⟨f,0,none⟩) l.length cap,W,⟨b.o 4 kR,trivial⟩,kR,Below.refl _ _,rfl⟩,
     RG.gw_val fun a W b=>⟨[(7,.int .i64 j)],.int .i64 j,W,⟨b.o 7 kR,trivial⟩,kR,Below.refl _ _,rfl⟩,
     RG.gw_val fun a W b=>⟨[(36,.slice (some ⟨f,0,none⟩) l.length cap),(37,.int .i64 j)],.pointer (some ⟨f,0+37*j,none⟩),W,⟨b.n 2 36 kR kR,b.n 3 37 kR kR,trivial⟩,by
      rw[Prod.mk.injEq]
      refine ⟨kR,?_⟩
      show ((Instr.indexAt 82 (.slice (some ⟨f,0,none⟩) l.length cap) (.int .i64 j)) >>= fun v=>pure (Next.value v)).run Tryz.prog W=_
      rw[Sem.run_bind,atT f 0 l.length cap j HL.out]
      rfl,Below.refl _ _,rfl⟩,
     RG.gw_val fun a W b=>⟨[(38,.pointer (some ⟨f,0+37*j,none⟩))],.pointer (some ⟨f,0+37*j,none⟩),W,⟨b.n 4 38 kR kR,trivial⟩,kR,Below.refl _ _,rfl⟩,
     RG.gw_load 44 39 rfl Go.Proofs.YtlofhpkoaljmeaaGreat.u40 fun a W b=>⟨f,0+37*j,wn s,b.n 5 39 kR kR,by
      obtain ⟨g5,ke,V,-,-,kc⟩:=owns_rows b.b.1.ow HJ.2 (by have:=HL.out;omega)
      injection V with q1 q2 q3
      injection q1 with q1
      injection q1 with q1
      subst q1
      have:=kc j HL.out
      rw[(HS HL.out)] at this
      rw[Nat.zero_add]
      exact range_front' this,i40,rfl⟩,
     RG.gw_val fun a W b=>⟨[(6,.pointer (some ⟨wr.heap.size,0,none⟩))],.pointer (some ⟨wr.heap.size,0,none⟩),W,⟨b.o 6 kR,trivial⟩,kR,Below.refl _ _,rfl⟩,
     RG.gw_load 44 41 rfl Go.Proofs.YtlofhpkoaljmeaaGreat.u40 fun a W b=>⟨wr.heap.size,0,wn n,b.n 7 41 kR kR,range_front b.b.2.2.1,i40,rfl⟩,
     RG.gw_call fun a W b=>⟨[(40,nv s),(42,nv n)],25,#[nv s,nv n],⟨b.n 6 40 kR kR,b.n 8 42 kR kR,trivial⟩,kR,(sPlu_c K.1 s n k1.out k4.out W).mono (by
      rintro e W' ⟨u,rfl,V,rfl⟩
      exact ⟨_,rfl,V,rfl⟩)⟩,
     RG.gw_val fun a W b=>⟨[(34,.slice (some ⟨f,0,none⟩) l.length cap),(35,.int .i64 j)],.pointer (some ⟨f,0+37*j,none⟩),W,⟨b.n 0 34 kR kR,b.n 1 35 kR kR,trivial⟩,by
      rw[Prod.mk.injEq]
      refine ⟨kR,?_⟩
      show ((Instr.indexAt 82 (.slice (some ⟨f,0,none⟩) l.length cap) (.int .i64 j)) >>= fun v=>pure (Next.value v)).run Tryz.prog W=_
      rw[Sem.run_bind,atT f 0 l.length cap j HL.out]
      rfl,Below.refl _ _,rfl⟩,
     RG.gw_val fun a W b=>⟨[(44,.pointer (some ⟨f,0+37*j,none⟩))],.pointer (some ⟨f,0+37*j,none⟩),W,⟨b.n 10 44 kR kR,trivial⟩,kR,Below.refl _ _,rfl⟩,trivial⟩ ⟨HK.1.drew,HK.2⟩ ?_
    intro V S h8 h7
    have k0:=h8 9 dC
    have b:=h8 11 dC
    obtain ⟨W4,L⟩:=hE (S.setCells f (37*j) (wn (sPl N s n)))
    have K4:Hid (Mx w W4 w.heap.size (mrg N ns o (i+1)) (.slice (some ⟨f,0,none⟩) l.length cap)):=by
     rw[← L.out,KN.out,← (HS HL.out)]
     exact h7.1.again HJ.2 HJ.1 HL.out n
    have hq:Hid (S.there f (37*j) 4):=by
     intro t ht
     have hj:=HL.out
     rcases h7.1.ow.2 with ⟨h,-⟩|⟨g2,h2,cur,he,-,hc,hn,-,hs,-⟩
     ·cases h
     ·injection he with he1 he2 he3
      injection he1 with he1
      injection he1 with he1
      subst he1
      have k8:37*j+t<cur.size:=by
       rw[hs]
       have:(j+1)*37≤h2*37:=Nat.mul_le_mul_right 37 oM
       omega
      refine ⟨?_,?_⟩
      ·simp[World.cell?,hc,k8]
      ·simp[World.frozen?,hc]
    dsimp only[RG.putV,Nat.reduceAdd,List.take,List.drop]
    simp only[Act.put,List.setIfInBounds_toArray,List.set_cons_succ,List.set_cons_zero]
    obtain ⟨vz,h3⟩:=hE (nv (sPl N s n))
    rw[k0,b,h3.out,Nat.zero_add]
    go_wp2_with (first|(refine wpList_store_mid rfl 44 _ _ rfl f (37*j) (wn (sPl N s n)).toArray ?_ ?_ ?_ ?_ ?_ ?_;rfl;exact h3.symm;exact hq.out;exact i40;exact wn_one (sPl N s n);rw[show (wn (sPl N s n)).toArray.toList=wn (sPl N s n) from rfl,L.out])|fail)
    go_roundg (gk-1)
    case measure=>omega
    case rel=>exact ⟨i+1,oM,rfl,K4⟩
  ·have k2:¬ (i:Int)<(k:Int):=oM
   obtain rfl:i=k:=oM
   go_wp2_with fail
   refine (h4 wr _ KM.out).mono ?_
   rintro e m ⟨r,rfl,f⟩
   have b:=Hid.mk' f
   go_wp2
   go_ret
   exact ⟨_,rfl,b.out⟩
end
section
open Go.RowKit Go.Sort Go.Deep
variable {P:Nat} [NeZero P] {N:Nat}
def LF (l:List (Nat × Bs)):List (Nat × Bs):=l.filter fun x=>x.1 != 0
theorem LF_snoc {l:List (Nat × Bs)} {j:Nat} (k:j<l.length):LF (l.take (j+1))=LF (l.take j)++(if (l[j]).1=0 then [] else [l[j]]):=by
 unfold LF
 rw[List.take_add_one,List.getElem?_eq_getElem k,List.filter_append]
 congr 1
 by_cases h:(l[j]).1=0
 ·simp[h]
 ·simp[h]
theorem LF_le (l:List (Nat × Bs)) (j:Nat):(LF (l.take j)).length≤j:=
 Nat.le_trans (List.length_filter_le _ _) (by rw[List.length_take];exact Nat.min_le_left _ _)
theorem LF_mem {l:List (Nat × Bs)} {x:Nat × Bs} (h:x∈LF l):x∈l:=(List.mem_filter.1 h).1
theorem firstZ_some {ns:Nat→Nat}:∀ (m i:Nat),(∃ j,i≤j∧j<i+m∧ns j=0)→∃ k,firstZ ns i m=((k:Nat):Int)∧i≤k∧k<i+m∧ns k=0∧∀ j,i≤j→j<k→ns j≠0
 | 0,i,h=>by obtain ⟨j,g,e,-⟩:=h;omega
 | m+1,i,h=>by
  unfold firstZ
  by_cases b:ns i=0
  ·rw[if_pos b]
   exact ⟨i,rfl,Nat.le_refl _,oM,b,fun j g e=>oM⟩
  ·rw[if_neg b]
   obtain ⟨j,g,e,f⟩:=h
   obtain ⟨k,l,q,e3,o,n⟩:=firstZ_some m (i+1) ⟨j,by
    rcases Nat.lt_or_ge i j with h|h
    ·omega
    ·obtain rfl:j=i:=oM
     exact absurd f b,oM,f⟩
   refine ⟨k,l,oM,oM,o,fun d p c=>?_⟩
   rcases Nat.lt_or_ge i d with h|h
   ·exact n d h c
   ·obtain rfl:d=i:=oM
    exact b
def Rw (W:World) (g j:Nat) (x:Nat × Bs):Prop:=W.rangeAt g (37*j) (wn x.1++bl33 x.2)
theorem Rw.below {W W':World} {g j:Nat} {x:Nat × Bs} (h:Rw W g j x) (k:Below W.heap.size W W') (b:g<W.heap.size):Rw W' g j x:=RG.range_below h k b
structure Dz (base:Nat) (w W:World) (g:Nat) (l:List (Nat × Bs)) (j:Nat):Prop where
 bl:Below base w W
 hb:base≤W.heap.size
 lt:g<W.heap.size
 th:W.there g 0 (37*l.length)
 lo:∀ a (ha:a<(LF (l.take j)).length),Rw W g a ((LF (l.take j))[a])
 hi:∀ b (hb:b<l.length),j≤b→Rw W g b (l[b])
theorem Dz.grow {k:Nat} {w W W':World} {g:Nat} {l:List (Nat × Bs)} {j:Nat} (h:Dz k w W g l j) (c:Below W.heap.size W W'):Dz k w W' g l j:=
 ⟨h.bl.trans (c.mono h.hb),Nat.le_trans h.hb c.size,Nat.lt_of_lt_of_le h.lt c.size,RG.there_below h.th c h.lt,fun a f=>(h.lo a f).below c h.lt,fun b d e=>(h.hi b d e).below c h.lt⟩
theorem Dz.skip {k:Nat} {w W:World} {g:Nat} {l:List (Nat × Bs)} {j:Nat} (h:Dz k w W g l j) (c:j<l.length) (f:(l[j]).1=0):Dz k w W g l (j+1):=by
 have e:LF (l.take (j+1))=LF (l.take j):=by rw[LF_snoc c,if_pos f,List.append_nil]
 exact ⟨h.bl,h.hb,h.lt,h.th,fun a m=>by
  have i:=h.lo a (by rw[← e];exact m)
  simp only[e]
  exact i,fun b d c=>h.hi b d oM⟩
theorem Dz.put {k:Nat} {w W:World} {g:Nat} {l:List (Nat × Bs)} {j:Nat} (h:Dz k w W g l j) (q:k≤g) (v:∀ x∈l.map (·.2),x.size=33) (n:j<l.length) (p:(l[j]).1≠0) :
 Dz k w (W.setCells g (37*(LF (l.take j)).length) (wn (l[j]).1++bl33 (l[j]).2)) g l (j+1):=by
 have e:LF (l.take (j+1))=LF (l.take j)++[l[j]]:=by rw[LF_snoc n,if_neg p]
 have u:=LF_le l j
 have f:∀ x∈l,(wn x.1++bl33 x.2).length=37:=fun x hx=>row_len (v x.2 (List.mem_map.2 ⟨x,hx,rfl⟩))
 have c:=f (l[j]) (List.getElem_mem n)
 refine ⟨RG.below_setCells q _ _ _ h.bl,by rw[RG.setCells_size];exact h.hb,by rw[RG.setCells_size];exact h.lt,World.there_setCells h.th _ _ _,fun a m=>?_,fun b s o=>?_⟩
 ·simp only[e] at m ⊢
  by_cases d:a<(LF (l.take j)).length
  ·rw[List.getElem_append_left d]
   have r:=h.lo a d
   have i:=List.mem_of_mem_take (LF_mem (List.getElem_mem d))
   exact World.rangeAt_setCells_apart r g _ _ (Or.inr (Or.inl (by rw[f _ i];omega)))
  ·have i:a=(LF (l.take j)).length:=by rw[List.length_append,List.length_singleton] at m;omega
   subst i
   rw[List.getElem_append_right (Nat.le_refl _)]
   simp only[Nat.sub_self,List.getElem_singleton]
   refine World.rangeAt_setCells_same W g _ _ fun t r=>?_
   rw[c] at r
   have:=h.th (37*(LF (l.take j)).length+t) oM
   rwa[Nat.zero_add] at this
 ·exact World.rangeAt_setCells_apart (h.hi b s oM) g _ _ (Or.inr (Or.inr (by rw[c];omega)))
theorem zero_one (n:Nat):∀ v∈(Builtin.zeroCells (Value.agg zT.toArray).cells n).toList,v.oneCell'=true:=by
 intro v hv
 have b:=zT_one
 have d:(Value.agg zT.toArray).cells.size=37:=kR
 unfold Builtin.zeroCells at hv
 rw[Array.toList_map] at hv
 obtain ⟨i,-,rfl⟩:=List.mem_map.1 hv
 have k:i%(Value.agg zT.toArray).cells.size<(Value.agg zT.toArray).cells.size:=Nat.mod_lt _ (by rw[d];decide)
 rw[getElem!_pos (Value.agg zT.toArray).cells _ k]
 exact b _ (by
  have e:(Value.agg zT.toArray).cells.toList=zT:=kR
  have c:=Array.getElem_mem_toList k
  rwa[e] at c)
theorem clear_n (g i n c:Nat) (w:World) (p:0<n) (h:w.there g 0 (37*(i+n))):∃ Z:List Value,∀ e,(Builtin.clear_ #[82] e #[.slice (some ⟨g,37*i,none⟩) n c]).run Tryz.prog w=.ok (.tuple #[]) (w.setCells g (37*i) Z):=by
 have d:=zeroTm w
 have l:=run_underlying undS w
 have ho:=zero_one n
 have k:(Builtin.zeroCells (Value.agg zT.toArray).cells n).toList.length=n*37:=by
  have:(Value.agg zT.toArray).cells.size=37:=kR
  rw[Array.length_toList,size_zeroCells,this]
 generalize (Value.agg zT.toArray)=m at d ho k
 generalize o:(Builtin.zeroCells m.cells n).toList=Z at ho k
 have f:(storeCells ⟨g,37*i,none⟩ Z).run Tryz.prog w=.ok () (w.setCells g (37*i) Z):=
  run_storeCells_cells (P:=Tryz.prog) g (37*i) Z 0 w (fun j b=>by rw[k] at b;have:=(h (37*i+j) oM).1;simpa using this) (fun j b=>by rw[k] at b;have:=(h (37*i+j) oM).2;simpa using this) ho
 refine ⟨Z,fun e=>?_⟩
 obtain ⟨b,rfl⟩:∃ b,n=b+1:=⟨n-1,oM⟩
 unfold Builtin.clear_
 simp[Sem.run_bind,l,d,o,f]
theorem slHi (g n c i:Nat) (d:i≤n) (b:n≤c) (w:World):(Instr.sliceAt 82 (.slice (some ⟨g,0,none⟩) n c) none (some (.int .i64 i)) none).run Tryz.prog w=.ok (.slice (some ⟨g,0,none⟩) i c) w:=by
 have e:¬ (i:Int)<0:=oM
 have k:(i:Int)≤(c:Int):=oM
 go_simp
theorem slLo (g n c i:Nat) (d:i<n) (b:n≤c) (w:World):(Instr.sliceAt 82 (.slice (some ⟨g,0,none⟩) n c) (some (.int .i64 i)) none none).run Tryz.prog w=.ok (.slice (some ⟨g,37*i,none⟩) (n-i) (c-i)) w:=by
 have e:¬ (i:Int)<0:=oM
 have k:(i:Int)≤(n:Int):=oM
 go_simp
 rw[if_neg oM,Nat.mul_comm]
def TmL (W:World) (q:Option Addr) (l:List (Nat × Bs)):Prop:=0<l.length→∃ g,q=some ⟨g,0,none⟩∧g<W.heap.size∧∀ j (k:j<l.length),W.rangeAt g (37*j) (wn (l[j]).1++bl33 (l[j]).2)
def DelR (k:Nat) (l:List (Nat × Bs)) (w:World) (e:Value) (w':World):Prop:=Below k w w'∧∃ q cap,e=.slice q (LF l).length cap∧TmL w' q (LF l)
theorem LF_full {l:List (Nat × Bs)} (h:∀ x∈l,x.1≠0):LF l=l:=List.filter_eq_self.2 fun x hx=>by simpa using h x hx
theorem LF_lt {l:List (Nat × Bs)} {k:Nat} (d:k<l.length) (b:(l[k]).1=0):∀ j,k<j→j≤l.length→(LF (l.take j)).length<j
 | 0,h,_=>oM
 | j+1,h,hj=>by
  rw[LF_snoc oM,List.length_append]
  rcases Nat.lt_or_ge k j with c|c
  ·have:=LF_lt d b j c oM
   split<;>simp<;>omega
  ·obtain rfl:j=k:=oM
   rw[if_pos b]
   have:=LF_le l j
   simp;omega
theorem delete_c (l:List (Nat × Bs)) (hi:0<l.length) (hq:l.length≤1000) (hs:∀ x∈l.map (·.2),x.size=33) (hn:∀ x∈l,x.1<top) (d:Nat) (v:Value) (w:World) (hb:d≤w.heap.size) (ho:w.ownsRow d 124 37 v l.length (cellsT l)) :
 Calls Tryz.prog 109 #[v,.func (.func 110) #[] #[]] w (Ret (DelR d l w)):=by
 obtain ⟨g,c,rfl,h9,A,S⟩:=owns_rows ho hs hi
 have F:∀ (j:Nat) (k:j<l.length),(l[j]).2.size=33:=fun j k=>hs _ (List.mem_map.2 ⟨_,List.getElem_mem k,rfl⟩)
 have C:l.length≤c∧w.there g 0 (37*l.length):=by
  rcases ho.2 with ⟨h,-⟩|⟨z,q,cur,s,-,r,f,-,o,-⟩
  ·cases h
  ·injection s with he1 he2 he3
   injection he1 with he1
   injection he1 with he1
   subst he1
   subst he3
   refine ⟨f,fun t ht=>?_⟩
   have y:0+t<cur.size:=by
    rw[o]
    have:l.length*37≤c*37:=Nat.mul_le_mul_right 37 f
    omega
   exact ⟨by simp only[World.cell?,r];simp;omega,by simp[World.frozen?,r]⟩
 by_cases z:∀ x∈l,x.1≠0
 ·have L:=LF_full z
  refine (delete_none g l.length c oM (fun j=>((l[j]?).getD (0,#[])).1) (fun j=>((l[j]?).getD (0,#[])).2) (fun j k=>by rw[List.getElem?_eq_getElem k];exact hn _ (List.getElem_mem k)) (fun j k=>by rw[List.getElem?_eq_getElem k];exact z _ (List.getElem_mem k)) (fun j k=>by rw[List.getElem?_eq_getElem k];exact F j k) w A (fun j k=>by rw[List.getElem?_eq_getElem k];exact S j k)).mono ?_
  rintro e o ⟨vv,rfl,f,rfl⟩
  refine ⟨_,rfl,f.mono hb,some ⟨g,0,none⟩,c,by rw[L],?_⟩
  rw[L]
  exact fun _=>⟨g,rfl,Nat.lt_of_lt_of_le A f.size,fun j k=>RG.range_below (S j k) f A⟩
 ·have hI:=index_c g l.length c oM (fun j=>((l[j]?).getD (0,#[])).1) (fun j=>((l[j]?).getD (0,#[])).2) (fun j k=>by rw[List.getElem?_eq_getElem k];exact hn _ (List.getElem_mem k)) (fun j k=>by rw[List.getElem?_eq_getElem k];exact F j k) w A (fun j k=>by rw[List.getElem?_eq_getElem k];exact S j k)
  obtain ⟨q,e1,-,e3,T,e5⟩:=firstZ_some (ns:=fun j=>((l[j]?).getD (0,#[])).1) l.length 0 (by
   have:∃ x,x∈l∧x.1=0:=Classical.byContradiction fun h=>z fun x hx J=>h ⟨x,hx,J⟩
   obtain ⟨x,hx,f⟩:=this
   obtain ⟨j,k⟩:=List.getElem?_of_mem hx
   exact ⟨j,Nat.zero_le _,by have:=(List.getElem?_eq_some_iff.1 k).1;omega,by show ((l[j]?).getD (0,#[])).1=0;rw[k];exact f⟩)
  rw[e1] at hI
  have E:q<l.length:=oM
  have G:(l[q]).1=0:=by
   have:((l[q]?).getD (0,#[])).1=0:=T
   rw[List.getElem?_eq_getElem E] at this
   exact this
  have B:LF (l.take q)=l.take q:=LF_full fun x hx=>by
   obtain ⟨j,k⟩:=List.getElem?_of_mem hx
   rw[List.getElem?_take] at k
   split at k
   ·rename_i hji
    have:=e5 j (Nat.zero_le _) hji
    have f:((l[j]?).getD (0,#[])).1≠0:=this
    rw[k] at f
    exact f
   ·cases k
  have D:(LF (l.take q)).length=q:=by rw[B,List.length_take];omega
  have D0:Dz d w w g l q:=⟨Below.refl _ _,hb,A,C.2,fun a N=>by
   simp only[B] at N ⊢
   rw[List.getElem_take]
   exact S a _,fun b f _=>S b f⟩
  have D1:Dz d w w g l (q+1):=D0.skip E G
  have e6:(LF (l.take (q+1))).length=q:=by rw[LF_snoc E,if_pos G,List.append_nil];exact D
  have HI:=Hid.mk' hI
  have HZ:Hid (∀ j,q<j→j≤l.length→(LF (l.take j)).length<j):=LF_lt E G
  have h2:=Hid.mk' D1
  have I:Hid (d≤g∧l.length≤c∧(∀ x∈l.map (·.2),x.size=33)∧(∀ x∈l,x.1<top)∧∀ (j:Nat) (k:j<l.length),(l[j]).2.size=33):=⟨h9,C.1,hs,hn,F⟩
  obtain ⟨d',h7,h3⟩:=Option.map_eq_some_iff.1 uT
  have R:Hid (Tryz.prog.underlying 124=some d'∧d'.isRow=true):=⟨h7,h3⟩
  have hy:¬ ((q:Int) = -1):=oM
  clear h7 h3 hI D0 D1 hs hn ho S F C z e1 T e5 B D G h9 A
  go_enter Tryz.func109,Tryz.ntmps109
  go_wp2_with fail
  refine HI.mono ?_
  rintro e w1 ⟨vv,rfl,h4,rfl⟩
  have K1:Hid (Dz d w w1 g l (q+1)):=h2.grow h4
  clear h4 HI h2
  go_wp2_with fail
  go_loopg [5,6] (l.length-(q+1)) (fun m s5 s6 W=>∃ j:Nat,q<j∧j+m=l.length∧s6=.int .i64 j∧s5=.int .i64 ((LF (l.take j)).length:Int)∧Hid (Dz d w W g l j))
  case atStart=>exact ⟨q+1,oM,oM,rfl,by rw[e6],K1⟩
  case round =>
   clear K1
   obtain ⟨j,h8,hp,rfl,rfl,K⟩:=hrel
   by_cases k:j<l.length
   ·have hk:(j:Int)<(l.length:Int):=oM
    obtain ⟨n,r⟩:∃ n,Hid ((l[j]'k).1=n):=⟨(l[j]'k).1,(rfl:(l[j]'k).1=(l[j]'k).1)⟩
    obtain ⟨p,O⟩:∃ p,Hid ((l[j]'k).2=p):=⟨(l[j]'k).2,(rfl:(l[j]'k).2=(l[j]'k).2)⟩
    obtain ⟨i,f⟩:∃ i,Hid ((LF (l.take j)).length=i):=⟨_,rfl⟩
    have s:i<l.length:=by have:=HZ.out j h8 oM;rw[f.out] at this;omega
    rw[f.out]
    have h1:Hid (p.size=33):=by rw[← O.out];exact I.2.2.2.2 j k
    have hl:Hid (n<top):=by rw[← r.out];exact I.2.2.2.1 _ (List.getElem_mem k)
    have B0:Hid (wr.rangeAt g (37*j) (wn n++bl33 p)):=by
     have h:=K.hi j k (Nat.le_refl _)
     unfold Rw at h
     rw[r.out,O.out] at h
     exact h
    obtain ⟨H,X⟩:∃ H,Hid (wr.alloc (.cells zT.toArray 124)=H):=⟨_,rfl⟩
    obtain ⟨U,Z⟩:∃ U,Hid (H.setCells wr.heap.size 0 (wn n++bl33 p)=U):=⟨_,rfl⟩
    have y:(wn n++bl33 p).length=37:=row_len h1.out
    have F1:Hid (Row H wr.heap.size zT∧Below wr.heap.size wr H∧H.heap.size=wr.heap.size+1):=by rw[← X.out];exact ⟨row_new wr _ _,below1 wr _,World.size_alloc _ _⟩
    have F2:Hid (Row U wr.heap.size (wn n++bl33 p)∧Below wr.heap.size wr U):=by rw[← Z.out];exact ⟨F1.1.put (by rw[y];rfl),RG.below_setCells (Nat.le_refl _) _ _ _ F1.2.1⟩
    have Q:Hid ((Tryz.prog.info? 124).map (·.size)=some (wn n++bl33 p).length):=by show _=_;rw[y];exact iT
    have M:Hid ((Tryz.prog.info? 124).map (·.size)=some (wn n++bl33 p).toArray.size∧H.there wr.heap.size 0 (wn n++bl33 p).toArray.size):=by
     have e:(wn n++bl33 p).toArray.size=37:=by rw[List.size_toArray];exact y
     rw[e];exact ⟨iT,F1.1.2.2⟩
    have V:Hid ((wn n++bl33 p).toArray.all (·.oneCell')=true):=by
     show _=_
     rw[Array.all_eq_true']
     intro u o
     exact cells_one n p u (List.mem_toArray.1 o)
    have hw:=atT g 0 l.length c j k
    obtain ⟨vt,h5⟩:∃ v,Hid (tvl n p=v):=⟨_,rfl⟩
    have o:Hid (Value.agg (wn n++bl33 p).toArray=vt):=h5
    have K2:Hid (Dz d w U g l j):=K.grow F2.2
    have HN:=Hid.mk' (none_c hl.out h1.out U)
    rw[h5.out] at HN
    clear K
    go_wp2_with (first|(refine wpList_load_mid rfl 124 _ rfl g (37*j) ?_ (wn n++bl33 p) d' ?_ ?_ ?_ ?_ ?_;rfl;exact B0.out;exact R.1;exact R.2;exact Q.out;rw[o.out])|(refine wpList_op (v:=.pointer (some ⟨wr.heap.size,0,none⟩)) (w':=H) rfl (.alloc 124) rfl ?_ ?_;(rw[← X.out];kernel_rfl))|(refine wpList_store_mid rfl 124 _ _ rfl wr.heap.size 0 (wn n++bl33 p).toArray ?_ ?_ ?_ ?_ ?_ ?_;rfl;exact o.symm;exact M.2;exact M.1;exact V.out;rw[show (wn n++bl33 p).toArray.toList=wn n++bl33 p from rfl,Z.out])|(refine wpList_load_mid rfl 124 _ rfl wr.heap.size 0 ?_ (wn n++bl33 p) d' ?_ ?_ ?_ ?_ ?_;rfl;exact F2.1.2.1;exact R.1;exact R.2;exact Q.out;rw[o.out])|fail)
    refine HN.mono ?_
    rintro e W3 ⟨vv,rfl,P,rfl⟩
    have K3:Hid (Dz d w W3 g l j∧Row W3 wr.heap.size (wn n++bl33 p)):=⟨K2.grow P,F2.1.below P⟩
    clear P K2 HN F2 F1
    by_cases J:n=0
    ·rw[show decide (n=0)=true by simp[J]]
     have K4:Hid (Dz d w W3 g l (j+1)):=K3.1.skip k (by rw[r.out];exact J)
     have T:Hid ((LF (l.take (j+1))).length=i):=by
      show _=_
      rw[LF_snoc k,if_pos (by rw[r.out];exact J),List.append_nil]
      exact f.out
     go_wp2
     go_roundg (gk-1)
     case measure=>omega
     case rel=>exact ⟨j+1,oM,oM,rfl,by rw[T.out],K4⟩
    ·rw[show decide (n=0)=false by simp[J]]
     obtain ⟨W4,Y⟩:∃ W4,Hid (W3.setCells g (37*i) (wn n++bl33 p)=W4):=⟨_,rfl⟩
     have K4:Hid (Dz d w W4 g l (j+1)):=by
      have h:=K3.1.put I.1 I.2.2.1 k (by rw[r.out];exact J)
      rw[f.out,r.out,O.out,Y.out] at h
      exact h
     have T:Hid ((LF (l.take (j+1))).length=i+1):=by
      show _=_
      rw[LF_snoc k,if_neg (by rw[r.out];exact J),List.length_append,f.out]
      rfl
     have hg:Hid (W3.there g (37*i) (wn n++bl33 p).toArray.size):=by
      have e:(wn n++bl33 p).toArray.size=37:=by rw[List.size_toArray];exact y
      rw[e]
      intro t ht
      have:=K3.1.th (37*i+t) oM
      rwa[Nat.zero_add] at this
     have hm:=atT g 0 l.length c i s
     go_wp2_with (first|(refine wpList_load_mid rfl 124 _ rfl wr.heap.size 0 ?_ (wn n++bl33 p) d' ?_ ?_ ?_ ?_ ?_;rfl;exact K3.2.2.1;exact R.1;exact R.2;exact Q.out;rw[o.out])|(refine wpList_store_mid rfl 124 _ _ rfl g (37*i) (wn n++bl33 p).toArray ?_ ?_ ?_ ?_ ?_ ?_;rfl;exact o.symm;exact hg.out;exact M.1;exact V.out;rw[show (wn n++bl33 p).toArray.toList=wn n++bl33 p from rfl,Y.out])|fail)
     go_roundg (gk-1)
     case measure=>omega
     case rel=>exact ⟨j+1,oM,oM,rfl,by rw[T.out];rfl,K4⟩
   ·have hk:¬ (j:Int)<(l.length:Int):=oM
    obtain rfl:j=l.length:=oM
    have L:LF (l.take l.length)=LF l:=by rw[List.take_length]
    rw[L]
    have s:(LF l).length<l.length:=by have:=HZ.out l.length h8 (Nat.le_refl _);rw[L] at this;exact this
    have y:∀ a (N:a<(LF l).length),Rw wr g a ((LF l)[a]):=fun a N=>by
     have:=K.lo a (by rw[L];exact N)
     simp only[L] at this
     exact this
    have o:∀ x∈LF l,(wn x.1++bl33 x.2).length=37:=fun x hx=>row_len (I.2.2.1 _ (List.mem_map.2 ⟨x,LF_mem hx,rfl⟩))
    obtain ⟨Z,P⟩:=clear_n g (LF l).length (l.length-(LF l).length) (c-(LF l).length) wr oM (by rw[show (LF l).length+(l.length-(LF l).length)=l.length by omega];exact K.th)
    obtain ⟨H,r⟩:∃ H,Hid (wr.setCells g (37*(LF l).length) Z=H):=⟨_,rfl⟩
    rw[r.out] at P
    have O:Hid (Below d w H∧TmL H (some ⟨g,0,none⟩) (LF l)):=by
     rw[← r.out]
     refine ⟨RG.below_setCells I.1 _ _ _ K.bl,fun _=>⟨g,rfl,by rw[RG.setCells_size];exact K.lt,fun a N=>?_⟩⟩
     exact World.rangeAt_setCells_apart (y a N) g _ _ (Or.inr (Or.inl (by rw[o _ (List.getElem_mem N)];omega)))
    have M:=slLo g l.length c (LF l).length s I.2.1
    have J:=slHi g l.length c (LF l).length oM I.2.1
    clear K y o L r
    obtain ⟨i,f⟩:∃ i,Hid ((LF l).length=i):=⟨_,rfl⟩
    rw[f.out] at M J P s ⊢
    go_wp2
    go_ret
    exact ⟨_,rfl,O.1,some ⟨g,0,none⟩,c,by rw[f.out];rfl,O.2⟩
theorem u8_ne {p:Option Addr} {n c:Nat} {x:UInt8}:encB x≠.slice p n c:=fun h=>by cases h
def El (n:Nat) (W:World) (x:Value) (b:Bs):Prop:=∃ k c,x=.slice (some ⟨k,0,none⟩) n c∧n≤c∧b.size=n∧k<W.heap.size∧Holds encB W k 0 b
def isL (n:Nat) (W:World) (g:Nat):Prop:=∃ p c,W.cell? ⟨g,0,none⟩=some (.slice p n c)
structure Gr (n:Nat) (v:Value) (W W':World):Prop where
 gr:W.grownBy W' v.ownBlock
 is:∀ g,v.ownBlock=some g→isL n W g
theorem Gr.of {W W':World} {n:Nat} (h:Below W.heap.size W W'):Gr n (.slice none 0 0) W W':=
 ⟨⟨h.os,h.tape,h.output,h.size,fun k b _=>h.block k b⟩,fun g c=>by cases c⟩
theorem Gr.below {n:Nat} {v:Value} {w W W':World} {B:Nat} (h:Gr n v W W') (b:Below B w W) (d:B≤W.heap.size) (hv:∀ g,v.ownBlock=some g→B≤g):Below B w W':=
 b.grown h.gr d (fun k c=>hv k c)
theorem Gr.block {n k:Nat} {v:Value} {W W':World} (h:Gr n v W W') (d:k<W.heap.size) (b:∀ p c,W.cell? ⟨k,0,none⟩≠some (.slice p n c)):W'.heap[k]? = W.heap[k]? :=
 h.gr.block k d fun e=>by
  obtain ⟨p,c,f⟩:=h.is k e.symm
  exact b p c f
theorem Holds.kept {W W':World} {k:Nat} {b:Bs} (h:Holds encB W k 0 b) (e:W'.heap[k]? = W.heap[k]?):Holds encB W' k 0 b:=fun j c=>by
 rw[World.cell?_of_block (a:=⟨k,0+j,none⟩) e,World.frozen?_of_block (a:=⟨k,0+j,none⟩) e]
 exact h j c
theorem El.kept {m n:Nat} {v x:Value} {W W':World} {b:Bs} (h:El m W x b) (l:0<m) (e:Gr n v W W'):El m W' x b:=by
 obtain ⟨k,c,rfl,i,g,f,d⟩:=h
 refine ⟨k,c,rfl,i,g,Nat.lt_of_lt_of_le f e.gr.size,Holds.kept d (e.block f fun p o j=>?_)⟩
 have:=(d 0 oM).1
 rw[Nat.zero_add,j] at this
 exact u8_ne (Option.some.inj this).symm
theorem Row.kept {n k:Nat} {v:Value} {W W':World} {vs:List Value} (h:Row W k vs) (g:Gr n v W W') (b:∀ p c,vs[0]?≠some (.slice p n c)) (f:0<vs.length):Row W' k vs:=by
 have e:=g.block h.1 fun p c i=>by
  have d:=h.2.1 0 vs[0] (List.getElem?_eq_getElem f)
  rw[Nat.zero_add,i] at d
  exact b p c (by rw[List.getElem?_eq_getElem f,d])
 refine ⟨Nat.lt_of_lt_of_le h.1 g.gr.size,fun j u d=>?_,fun j d=>?_⟩
 ·rw[World.cell?_of_block (a:=⟨k,0+j,none⟩) e];exact h.2.1 j u d
 ·rw[World.cell?_of_block (a:=⟨k,0+j,none⟩) e,World.frozen?_of_block (a:=⟨k,0+j,none⟩) e];exact h.2.2 j d
structure Lo (n base:Nat) (W:World) (v:Value) (bs:List Bs):Prop where
 ex:∃ xs:List Value,xs.length=bs.length∧W.ownsRow base 23 1 v bs.length xs∧∀ (j:Nat) (x:Value) (b:Bs),xs[j]? = some x→bs[j]? = some b→El n W x b
 nil:bs=[]→v=.slice none 0 0
theorem Lo.begin (n k:Nat) (W:World):Lo n k W (.slice none 0 0) []:=⟨⟨[],rfl,World.ownsRow_nil _ _ _ _,fun j x b h=>by cases h⟩,fun _=>rfl⟩
theorem add0 (g j:Nat):(⟨g,0,none⟩:Addr).add j=⟨g,j,none⟩:=by unfold Addr.add;split<;>simp_all
theorem Lo.isL {n d:Nat} {W:World} {v:Value} {j:List Bs} (h:Lo n d W v j) {g:Nat} (i:v.ownBlock=some g):isL n W g:=by
 obtain ⟨xs,o,l,m⟩:=h.ex
 have f:j≠[]:=fun e=>by rw[h.nil e] at i;cases i
 cases j with
 | nil=>exact absurd rfl f
 | cons b r =>
  cases xs with
  | nil=>cases o
  | cons x xr =>
   obtain ⟨k,c,rfl,-⟩:=m 0 x b rfl rfl
   have:=l.cells i 0 _ rfl
   rw[add0] at this
   exact ⟨_,_,this⟩
theorem Lo.lt {n k:Nat} {W:World} {v:Value} {c:List Bs} (h:Lo n k W v c):∀ g,v.ownBlock=some g→k≤g∧g<W.heap.size:=by
 obtain ⟨xs,e,b,d⟩:=h.ex
 exact b.lt
theorem Lo.kept {m n d:Nat} {W W':World} {v u:Value} {l:List Bs} (h:Lo m d W v l) (q:0<m) (f:Gr n u W W') (i:m≠n):Lo m d W' v l:=by
 have y:=fun {g}=>h.isL (g:=g)
 obtain ⟨xs,s,o,r⟩:=h.ex
 refine ⟨⟨xs,s,o.kept f.gr ?_,fun j x b hx t=>(r j x b hx t).kept q f⟩,h.nil⟩
 cases hv:v.ownBlock with
 | none=>exact Or.inl rfl
 | some g =>
  refine Or.inr fun e=>i ?_
  obtain ⟨p,c,w⟩:=y hv
  obtain ⟨z,a,k⟩:=f.is g e.symm
  rw[w] at k
  injection k with k
  injection k with _ h5 _
theorem infoB:(Tryz.prog.info? 23).map (fun i=>(i.size,i.bytes,i.zero.map fun z=>z.cells.size))=some (1,24,some 1):=kR
theorem undB:Tryz.prog.underlying 27=some (.slice 23):=kR
theorem Lo.app {n f g:Nat} {W:World} {v x:Value} {o:List Bs} {b:Bs} (h:Lo n f W v o) (a:0<n) (hx:El n W x b) (M:W.cell? ⟨g,0,none⟩=some x) (O:o.length≤1000000) (H:f≤W.heap.size) :
 ∃ q W',(Builtin.append_ #[27,27] 27 #[v,.slice (some ⟨g,0,none⟩) 1 1]).run Tryz.prog W=.ok q W'∧Lo n f W' q (o++[b])∧Gr n v W W':=by
 obtain ⟨i,K,t⟩:=Option.map_eq_some_iff.1 infoB
 simp only[Prod.mk.injEq] at t
 obtain ⟨E,A,D⟩:=t
 obtain ⟨z,I,r⟩:=Option.map_eq_some_iff.1 D
 obtain ⟨xs,w,B,L⟩:=h.ex
 obtain ⟨q,W',N,J,F,Q⟩:=run_append_own (P:=Tryz.prog) W f 27 27 23 i z 1 24 undB K I E A r dC v o.length xs B ⟨g,0,none⟩ 1 1 [x] rfl
  (fun j u s=>by
   cases j with
   | zero =>
    obtain rfl:x=u:=by simpa using s
    rw[add0];exact M
   | succ j=>simp at s) (fun u l=>by
   obtain rfl:u=x:=by simpa using l
   obtain ⟨k,c,rfl,-⟩:=hx
   rfl) (by unfold maxLen;omega) oM H
 have G:Gr n v W W':=⟨F,fun g C=>h.isL C⟩
 refine ⟨q,W',N,⟨⟨xs++[x],by simp[w],by rw[List.length_append];exact J,fun j y c m l=>?_⟩,fun e=>by simp at e⟩,G⟩
 by_cases s:j<o.length
 ·rw[List.getElem?_append_left oM] at m l
  exact (L j y c m l).kept a G
 ·rw[List.getElem?_append_right oM] at m l
  rw[w] at m
  cases p:j-o.length with
  | zero =>
   rw[p] at m l
   obtain rfl:x=y:=by simpa using m
   obtain rfl:b=c:=by simpa using l
   exact hx.kept a G
  | succ d=>rw[p] at m;simp at m
theorem ptBytes_c {a:Bs} (g:a.size=33) (w:World):Calls Tryz.prog 19 #[pvl a] w (Ret fun e w'=>Below w.heap.size w w'∧El 33 w' e a):=by
 have f:=Hid.mk' (boxCP g w)
 obtain ⟨c,b⟩:=hE (w.alloc (.cells (bl33 a).toArray 51))
 rw[b.out] at f
 have K:Hid (Row c w.heap.size (bl33 a)∧Below w.heap.size w c):=by rw[← b.out];exact ⟨row_new w _ _,below1 w _⟩
 obtain ⟨va,k⟩:=hE (pvl a)
 have d:Hid ((Instr.box 51 va).run Tryz.prog w=.ok (.pointer (some ⟨w.heap.size,0,none⟩)) c):=by rw[← k.out];exact f
 rw[k.out]
 have i:=slCP w.heap.size
 go_enter Tryz.func19,Tryz.ntmps19
 go_wp2_with (first|(refine wpList_box (u:=va) (v:=.pointer (some ⟨w.heap.size,0,none⟩)) (w':=c) rfl 51 (.tmp 0) rfl ?_ ?_ ?_;rfl;exact d.out))
 go_ret
 exact ⟨_,rfl,K.2,w.heap.size,33,rfl,oM,g,K.1.1,row_holds K.1⟩
end
section
open Go.RowKit Go.Sort Go.Deep
variable {P:Nat} [NeZero P] {N:Nat}
def Bo (n c:Nat) (W:World) (v:Value) (b:Bs):Prop:=∃ k x,v=.slice (some ⟨k,0,none⟩) 1 1∧c≤k∧k<W.heap.size∧W.cell? ⟨k,0,none⟩=some x∧El n W x b
theorem Bo.kept {m n d:Nat} {W W':World} {v u:Value} {b:Bs} (h:Bo n d W v b) (o:0<n) (c:Gr m u W W') (p:∀ g,u.ownBlock=some g→g<d):Bo n d W' v b:=by
 obtain ⟨k,x,rfl,l,f,j,i⟩:=h
 refine ⟨k,x,rfl,l,Nat.lt_of_lt_of_le f c.gr.size,?_,i.kept o c⟩
 rw[World.cell?_of_block (a:=⟨k,0,none⟩) (c.gr.block k f fun e=>by have:=p k e.symm;omega)]
 exact j
def Tm (W:World) (q:Option Addr) (k:Nat) (ns:Nat→Nat) (b:Nat→Bs):Prop:=0<k→∃ g,q=some ⟨g,0,none⟩∧g<W.heap.size∧∀ j,j<k→W.rangeAt g (37*j) (wn (ns j)++bl33 (b j))
theorem Tm.kept {m k:Nat} {W W':World} {u:Value} {q:Option Addr} {ns:Nat→Nat} {b:Nat→Bs} (h:Tm W q k ns b) (n:Gr m u W W'):Tm W' q k ns b:=fun f=>by
 obtain ⟨g,r,d,o⟩:=h f
 refine ⟨g,r,Nat.lt_of_lt_of_le d n.gr.size,fun j t i v hv=>?_⟩
 have e:=n.block d fun p c s=>by
  have l:=o 0 f 0 _ (show (wn (ns 0)++bl33 (b 0))[0]? = some _ from rfl)
  rw[show 37*0+0=0 from rfl,s] at l
  cases l
 rw[World.cell?_of_block (a:=⟨g,37*j+i,none⟩) e]
 exact o j t i v hv
section
variable (w0:World) (v3 v4:Value) (k6 n B0 base:Nat) (p:Bs) (bs cs:List Bs) (q:Option Addr) (k:Nat) (ns:Nat→Nat) (az:Nat→Bs)
def PR:Nat→Value→World→Prop
 | 0,v,_=>v=v3
 | 1,v,_=>v=.pointer (some ⟨k6,0,none⟩)
 | 2,v,_=>v=nv n
 | 3,v,w=>El 32 w v (bx n)
 | 4,v,w=>Bo 32 B0 w v (bx n)
 | 5,v,w=>Lo 32 base w v (bs++[bx n])
 | 6,v,_=>v=v4
 | 7,v,_=>v=.pointer (some ⟨k6,4,none⟩)
 | 8,v,_=>v=pvl p
 | 9,v,w=>El 33 w v p
 | 10,v,w=>Bo 33 B0 w v p
 | 11,v,w=>Lo 33 base w v (cs++[p])
 | 12,v,w=>Lo 32 base w v (bs++[bx n])
 | 13,v,w=>Lo 33 base w v (cs++[p])
 | _,_,_=>True
def PBs:Nat→World→Prop
 | 0,w=>Row w k6 (wn n++bl33 p)
 | 1,w=>Lo 32 base w v3 bs
 | 2,w=>Lo 33 base w v4 cs
 | 3,w=>Below base w0 w∧base≤w.heap.size∧B0≤w.heap.size
 | 4,w=>Tm w q k ns az
 | 5,w=>Row w base z33
 | _,_=>True
def PE:Nat→World→World→Prop
 | 5=>Gr 32 v3
 | 11=>Gr 33 v4
 | _=>Gr 0 (.slice none 0 0)
def Pk1:Nat→List Nat
 | 4=>[5]
 | 10=>[11]
 | _=>[]
def Pk2:Nat→List Nat
 | 1=>[5]
 | 2=>[11]
 | _=>[]
def FP:RG.Flow:=⟨PR v3 v4 k6 n B0 base p bs cs,PBs w0 v3 v4 k6 n B0 base p bs cs q k ns az,PE v3 v4,Pk1,Pk2⟩
theorem PE_any {i:Nat} {w w':World} (h:PE v3 v4 i w w'):∃ m u,Gr m u w w'∧((i=5∧m=32∧u=v3)∨(i=11∧m=33∧u=v4)∨(i≠5∧i≠11∧m=0∧u=.slice none 0 0)):=by
 unfold PE at h
 split at h
 ·exact ⟨_,_,h,Or.inl ⟨rfl,rfl,rfl⟩⟩
 ·exact ⟨_,_,h,Or.inr (Or.inl ⟨rfl,rfl,rfl⟩)⟩
 ·rename_i h1 h2
  exact ⟨_,_,h,Or.inr (Or.inr ⟨h1,h2,rfl,rfl⟩)⟩
variable (hv3:∀ g,v3.ownBlock=some g→base≤g∧g<B0) (hv4:∀ g,v4.ownBlock=some g→base≤g∧g<B0)
include hv3 hv4
theorem PE_own {i m:Nat} {u:Value} (h:(i=5∧m=32∧u=v3)∨(i=11∧m=33∧u=v4)∨(i≠5∧i≠11∧m=0∧u=.slice none 0 0)):∀ g,u.ownBlock=some g→base≤g∧g<B0:=by
 rcases h with ⟨-,-,rfl⟩|⟨-,-,rfl⟩|⟨-,-,-,rfl⟩
 ·exact hv3
 ·exact hv4
 ·intro g k;cases k
theorem P_stab (i j:Nat) (r:j<14) (f:i≠j) (t:(Pk1 j).contains i=false) (o:¬ (j=12∧i=5)) (c:¬ (j=13∧i=11)) (v:Value) (w w':World) (hE:PE v3 v4 i w w') (hR:PR v3 v4 k6 n B0 base p bs cs j v w):PR v3 v4 k6 n B0 base p bs cs j v w':=by
 obtain ⟨m,u,k,q⟩:=PE_any v3 v4 hE
 have s:=PE_own v3 v4 B0 base hv3 hv4 q
 have d:m=32→i=5:=fun h=>by rcases q with ⟨o,-⟩|⟨-,c,-⟩|⟨-,-,c,-⟩<;>omega
 have l:m=33→i=11:=fun h=>by rcases q with ⟨-,c,-⟩|⟨o,-⟩|⟨-,-,c,-⟩<;>omega
 match j,r,hR with
 | 0,_,h=>exact h
 | 1,_,h=>exact h
 | 2,_,h=>exact h
 | 3,_,h=>exact El.kept h dC k
 | 4,_,h=>exact Bo.kept h dC k fun g b=>(s g b).2
 | 5,_,h=>exact Lo.kept h dC k fun e=>f (d e.symm)
 | 6,_,h=>exact h
 | 7,_,h=>exact h
 | 8,_,h=>exact h
 | 9,_,h=>exact El.kept h dC k
 | 10,_,h=>exact Bo.kept h dC k fun g b=>(s g b).2
 | 11,_,h=>exact Lo.kept h dC k fun e=>f (l e.symm)
 | 12,_,h=>exact Lo.kept h dC k fun e=>o ⟨rfl,d e.symm⟩
 | 13,_,h=>exact Lo.kept h dC k fun e=>c ⟨rfl,l e.symm⟩
 | _+14,r,_=>omega
theorem P_stabB (i b:Nat) (f:(Pk2 b).contains i=false) (w w':World) (hE:PE v3 v4 i w w') (hR:PBs w0 v3 v4 k6 n B0 base p bs cs q k ns az b w):PBs w0 v3 v4 k6 n B0 base p bs cs q k ns az b w':=by
 obtain ⟨m,u,d,r⟩:=PE_any v3 v4 hE
 have v:=PE_own v3 v4 B0 base hv3 hv4 r
 have l:m=32→i=5:=fun h=>by rcases r with ⟨t,-⟩|⟨-,j,-⟩|⟨-,-,j,-⟩<;>omega
 have o:m=33→i=11:=fun h=>by rcases r with ⟨-,j,-⟩|⟨t,-⟩|⟨-,-,j,-⟩<;>omega
 match b,f,hR with
 | 0,_,h=>exact Row.kept h d (fun p c e=>by cases e) (by rw[List.length_append];exact Nat.lt_of_lt_of_le dC (Nat.le_add_right 4 _))
 | 1,f,h=>exact Lo.kept h dC d fun e=>by rw[l e.symm] at f;cases f
 | 2,f,h=>exact Lo.kept h dC d fun e=>by rw[o e.symm] at f;cases f
 | 3,_,h=>exact ⟨d.below h.1 h.2.1 fun g s=>(v g s).1,Nat.le_trans h.2.1 d.gr.size,Nat.le_trans h.2.2 d.gr.size⟩
 | 4,_,h=>exact Tm.kept h d
 | 5,_,h=>exact Row.kept h d (fun p c e=>by cases e) dC
 | _+6,_,_=>trivial
end
end
section
open Go.RowKit Go.Sort Go.Deep
variable {P:Nat} [NeZero P] {N:Nat}
theorem Lo.drew {n k:Nat} {W:World} {v:Value} {b:List Bs} (h:Lo n k W v b):Lo n k W.drew v b:=⟨h.ex,h.nil⟩
theorem SumR.all (C:Fld P) (O:Ord N) {w w':World} {k:Nat} (y:k≤512) {ns:Nat→Nat} {X:Nat→EC.Pt P} (m:∀ j,j<k→ns j<N) (u:∀ j,j<k→EC.On (X j)) {L M:Nat→Bs} (x:∀ j,j<k→L j=bx (ns j)) (v:∀ j,j<k→M j=wr (X j)) {e:Value} (h:SumR P N w k k L M e w') :
 OutP w (wr (EC.tot X k (fun j=>(ns j:Int)))) e w':=by
 have r:∀ j,j<k→rq N (L j)=some (ns j):=fun j b=>by
  rw[x j b]
  have c:=bx_val (Nat.lt_of_lt_of_le (m j b) O.le)
  unfold rq
  rw[if_pos ⟨bx_size _,by rw[c];exact m j b⟩,c]
 have s:∀ j,j<k→∃ p,rd P (M j)=some p∧pt p=X j:=fun j b=>by rw[v j b];exact rd_wr C (u j b)
 rcases h with ⟨h,-⟩|⟨-,h,-⟩|⟨-,-,⟨⟨j,b,c⟩,-⟩|⟨f,l,⟨⟨j,b,c⟩,-⟩|⟨xs,ys,o,h⟩⟩⟩
 ·exact absurd rfl h
 ·omega
 ·rw[r j b] at c;cases c
 ·obtain ⟨p,d,-⟩:=s j b
  rw[d] at c;cases c
 ·have q:∀ j,j<k→f j=ns j:=fun j b=>by
   have:=l j b
   rw[r j b] at this
   exact (Option.some.inj this).symm
  have d:∀ j,j<k→EC.Pair (xs j) (ys j) (X j)∧EC.On (X j):=fun j b=>by
   obtain ⟨p,d,hpt⟩:=s j b
   have n:=o j b
   rw[d] at n
   have t:=Option.some.inj n
   have g:=rd_on C d
   rw[hpt] at g
   rw[t] at g
   exact g
  have n:=sumJ_all C (ns:=f) (xs:=xs) (ys:=ys) (p:=X) (N:=k) (fun i g=>by rw[q i g];exact Nat.lt_of_lt_of_le (m i g) O.le) (fun i g=>(d i g).1) (fun i g=>(d i g).2)
  have t:EC.tot X k (fun j=>(f j:Int))=EC.tot X k (fun j=>(ns j:Int)):=EC.tot_congr k fun j b=>by rw[q j b]
  rw[t] at n
  rw[← by33_wr C (n.pair C) n.2]
  exact h
structure Pz (w W:World) (q:Option Addr) (k i:Nat) (ns:Nat→Nat) (az:Nat→Bs) (s3 s4:Value):Prop where
 bl:Below w.heap.size w W
 l3:Lo 32 w.heap.size W s3 ((List.range i).map fun j=>bx (ns j))
 l4:Lo 33 w.heap.size W s4 ((List.range i).map az)
 tm:Tm W q k ns az
 r2:Row W w.heap.size z33
theorem El.of_made {w w':World} {k n:Nat} {b:Bs} (h:RG.Made w k (cb b) w') (c:b.size=n):El n w' (.slice (some ⟨k,0,none⟩) n n) b:=⟨k,n,rfl,Nat.le_refl _,c,h.lt,cb_holds h.range h.there⟩
theorem bsl1 (x:Value) (hx:∃ p n c,x=.slice p n c) (w:World):(Instr.buildSlice 27 1 #[(0,x)]).run Tryz.prog w=.ok (.slice (some ⟨w.heap.size,0,none⟩) 1 1) (w.alloc (.cells #[x] 23)):=by
 obtain ⟨p,n,c,rfl⟩:=hx
 kernel_rfl
theorem Bo.of {n k:Nat} {w:World} {x:Value} {b:Bs} (h:El n w x b) (c:0<n) (d:k≤w.heap.size) (T:TypeId):Bo n k (w.alloc (.cells #[x] T)) (.slice (some ⟨w.heap.size,0,none⟩) 1 1) b:=
 ⟨w.heap.size,x,rfl,d,by rw[World.size_alloc];omega,by rw[World.cell?_alloc_new];rfl,h.kept c (Gr.of (n:=0) (below1 w _))⟩
theorem Lo.args {n k:Nat} {W:World} {v:Value} {c:List Bs} (h:Lo n k W v c):∃ q cap,v=.slice q c.length cap∧(0<c.length→∃ g,q=some ⟨g,0,none⟩∧g<W.heap.size∧∀ (j:Nat) (b:Bs),c[j]? = some b→∃ x,W.cell? ⟨g,j,none⟩=some x∧El n W x b):=by
 obtain ⟨xs,o,d,m⟩:=h.ex
 have i:=fun {g:Nat}=>d.cells (g:=g)
 rcases d.2 with ⟨rfl,l⟩|⟨g,cap,cur,rfl,-,p,-⟩
 ·exact ⟨none,0,by rw[l],fun h=>oM⟩
 ·refine ⟨_,_,rfl,fun _=>⟨g,rfl,(Array.getElem?_eq_some_iff.1 p).1,fun j b e=>?_⟩⟩
  have f:j<xs.length:=by rw[o];exact (List.getElem?_eq_some_iff.1 e).1
  have:=i (g:=g) rfl j xs[j] (List.getElem?_eq_getElem f)
  rw[add0] at this
  exact ⟨_,this,m j _ b (List.getElem?_eq_getElem f) e⟩
theorem El.arg {W:World} {x:Value} {b:Bs} (h:El 32 W x b):Arg W x b:=by
 obtain ⟨k,c,rfl,g,d,e,f⟩:=h
 exact ⟨_,_,_,rfl,d,fun _=>⟨k,0,rfl,g,e,f⟩⟩
theorem El.arg33 {W:World} {x:Value} {b:Bs} (h:El 33 W x b):Arg33 W x b:=by
 obtain ⟨k,c,rfl,g,d,e,f⟩:=h
 exact ⟨_,_,_,rfl,d,fun _=>⟨k,0,rfl,g,e,f⟩⟩
theorem sumPoint_g (C:Fld P) (O:Ord N) (v:Value) (w:World) (k:Nat) (hk:k≤512) (ns:Nat→Nat) (X:Nat→EC.Pt P) (hn:∀ j,j<k→ns j<N) (hX:∀ j,j<k→EC.On (X j))
 (F:∀ W,Below w.heap.size w W→Calls Tryz.prog 63 #[v] W (Ret fun e w'=>Below W.heap.size W w'∧∃ q cap,e=.slice q k cap∧Tm w' q k ns (fun j=>wr (X j)))) :
 Calls Tryz.prog 33 #[v] w (Ret fun e w'=>Below w.heap.size w w'∧e=pvl (wr (EC.tot X k (fun j=>(ns j:Int))))):=by
 have HM:=Hid.mk' F
 have y:Hid (Fld P∧Ord N∧(∀ j,j<k→ns j<N)∧∀ j,j<k→EC.On (X j)):=⟨C,O,hn,hX⟩
 obtain ⟨r,J⟩:∃ r:Nat→Bs,Hid ((fun j=>wr (X j))=r):=⟨_,rfl⟩
 have E:Hid (∀ j,r j=wr (X j)):=fun j=>by rw[← J.out]
 rw[J.out] at HM
 obtain ⟨Y,K⟩:∃ Y,Hid (w.alloc (.cells z33.toArray 51)=Y):=⟨_,rfl⟩
 have K1:Hid (Row Y w.heap.size z33∧Below w.heap.size w Y):=by rw[← K.out];exact ⟨row_new w _ _,below1 w _⟩
 obtain ⟨d,h5,hc⟩:=Option.map_eq_some_iff.1 uCP
 obtain ⟨d',hl,ha⟩:=Option.map_eq_some_iff.1 uT
 have HD:Hid ((Tryz.prog.underlying 51=some d∧d.isRow=true)∧Tryz.prog.underlying 124=some d'∧d'.isRow=true):=⟨⟨h5,hc⟩,hl,ha⟩
 clear h5 hc hl ha F hn hX J C O
 go_enter Tryz.func33,Tryz.ntmps33
 go_wp2_with (refine wpList_op (v:=.pointer (some ⟨w.heap.size,0,none⟩)) (w':=Y) rfl (.alloc 51) rfl ?_ ?_;(rw[← K.out];kernel_rfl))
 clear K
 refine (HM Y K1.2).mono ?_
 rintro e w2 ⟨vv,rfl,G,q,cap,rfl,U⟩
 have K2:Hid (Pz w w2 q k 0 ns r (.slice none 0 0) (.slice none 0 0)):=⟨K1.2.trans (G.mono K1.2.size),Lo.begin _ _ _,Lo.begin _ _ _,U,K1.1.below G⟩
 clear G U K1 HM
 go_wp2_with fail
 go_loopg [3,4,12] k (fun m s3 s4 s12 W=>∃ i:Nat,i+m=k∧s12=.int .i64 i∧Hid (Pz w W q k i ns r s3 s4))
 case atStart=>exact ⟨0,oM,rfl,K2⟩
 case round =>
  clear K2
  obtain ⟨i,k3,rfl,l⟩:=hrel
  by_cases hi:i<k
  ·have ht:(i:Int)<(k:Int):=oM
   obtain ⟨g,hq,D,hr⟩:=l.tm oM
   subst hq
   obtain ⟨n,H⟩:∃ n,Hid (ns i=n):=⟨_,rfl⟩
   obtain ⟨p,Q⟩:∃ p,Hid (r i=p):=⟨_,rfl⟩
   have B0:Hid (wr.rangeAt g (37*i) (wn n++bl33 p)):=by
    have h:=hr i hi
    rw[H.out,Q.out] at h
    exact h
   have I:Hid (p.size=33):=by rw[← Q.out,E.out i];exact wr_size _
   have hw:Hid (n<N):=by rw[← H.out];exact y.2.2.1 i hi
   obtain ⟨B,Z⟩:∃ B,Hid (wr.alloc (.cells zT.toArray 124)=B):=⟨_,rfl⟩
   obtain ⟨s,h8⟩:∃ s,Hid (B.setCells wr.heap.size 0 (wn n++bl33 p)=s):=⟨_,rfl⟩
   have f:(wn n++bl33 p).length=37:=by rw[List.length_append,bl33_length I.out];rfl
   have F1:Hid (Row B wr.heap.size zT∧Below wr.heap.size wr B∧B.heap.size=wr.heap.size+1):=by rw[← Z.out];exact ⟨row_new wr _ _,below1 wr _,World.size_alloc _ _⟩
   have A:Hid (Row s wr.heap.size (wn n++bl33 p)∧Below wr.heap.size wr s):=by rw[← h8.out];exact ⟨F1.1.put (by rw[f];rfl),RG.below_setCells (Nat.le_refl _) _ _ _ F1.2.1⟩
   have hz:Hid ((Tryz.prog.info? 124).map (·.size)=some (wn n++bl33 p).length):=by show _=_;rw[f];exact iT
   have h9:Hid ((Tryz.prog.info? 124).map (·.size)=some (wn n++bl33 p).toArray.size∧B.there wr.heap.size 0 (wn n++bl33 p).toArray.size):=by
    have e:(wn n++bl33 p).toArray.size=37:=by rw[List.size_toArray];exact f
    rw[e];exact ⟨iT,F1.1.2.2⟩
   have hs:Hid ((wn n++bl33 p).toArray.all (·.oneCell')=true):=by
    show _=_
    rw[Array.all_eq_true']
    intro u c
    exact cells_one n p u (List.mem_toArray.1 c)
   have k2:=atT g 0 k cap i hi
   obtain ⟨vt,t⟩:∃ v,Hid (Value.agg (wn n++bl33 p).toArray=v):=⟨_,rfl⟩
   have G2:Gr 0 (.slice none 0 0) wr s:=Gr.of A.2
   have HB:Hid (∀ b,PBs w u3 u4 wr.heap.size n s.heap.size w.heap.size p ((List.range i).map fun j=>bx (ns j)) ((List.range i).map r) (some ⟨g,0,none⟩) k ns r b s.drew):=fun b=>by
    match b with
    | 0=>exact A.1
    | 1=>exact (l.l3.kept dC G2 dC).drew
    | 2=>exact (l.l4.kept dC G2 dC).drew
    | 3=>exact ⟨(l.bl.trans (A.2.mono l.bl.size)).drew,Nat.le_trans l.bl.size A.2.size,Nat.le_refl _⟩
    | 4=>exact l.tm.kept (W':=s) G2
    | 5=>exact l.r2.below (W':=s) A.2
    | _+6=>trivial
   have H3:Hid (∀ g,u3.ownBlock=some g→w.heap.size≤g∧g<s.heap.size):=fun g D=>⟨(l.l3.lt g D).1,Nat.lt_of_lt_of_le (l.l3.lt g D).2 A.2.size⟩
   have H4:Hid (∀ g,u4.ownBlock=some g→w.heap.size≤g∧g<s.heap.size):=fun g D=>⟨(l.l4.lt g D).1,Nat.lt_of_lt_of_le (l.l4.lt g D).2 A.2.size⟩
   have HG:=Hid.mk' D
   clear f hr G2 l A D
   go_wp2_with (first|(refine wpList_load_mid rfl 124 _ rfl g (37*i) ?_ (wn n++bl33 p) d' ?_ ?_ ?_ ?_ ?_;rfl;exact B0.out;exact HD.2.1;exact HD.2.2;exact hz.out;rw[t.out])|(refine wpList_op (v:=.pointer (some ⟨wr.heap.size,0,none⟩)) (w':=B) rfl (.alloc 124) rfl ?_ ?_;(rw[← Z.out];kernel_rfl))|(refine wpList_store_mid rfl 124 _ _ rfl wr.heap.size 0 (wn n++bl33 p).toArray ?_ ?_ ?_ ?_ ?_ ?_;rfl;exact t.symm;exact h9.2;exact h9.1;exact hs.out;rw[show (wn n++bl33 p).toArray.toList=wn n++bl33 p from rfl,h8.out])|fail)
   refine RG.flow_draws (FP w u3 u4 wr.heap.size n s.heap.size w.heap.size p ((List.range i).map fun j=>bx (ns j)) ((List.range i).map r) (some ⟨g,0,none⟩) k ns r) kR ⟨kR,RG.certs_of ?_,fun i' j k1 hj hy R z=>P_stab u3 u4 wr.heap.size n s.heap.size w.heap.size p _ _ H3.out H4.out i' j hj hy R (fun h=>by rw[h.1,h.2] at z;exact absurd (show false=true from z.symm.trans kR) dC) (fun h=>by rw[h.1,h.2] at z;exact absurd (show false=true from z.symm.trans kR) dC),fun i' b _ R=>P_stabB w u3 u4 wr.heap.size n s.heap.size w.heap.size p _ _ _ k ns r H3.out H4.out i' b R⟩ HB.out ?_
   ·have o:∀ W:World,Gr 0 (.slice none 0 0) W W:=fun W=>Gr.of (Below.refl _ _)
    refine ⟨RG.cf_one 3 fun a W c=>⟨a.eval (.tmp 3),W,kR,kR,o W,c.o 3 kR⟩,
     RG.cf_one 6 fun a W c=>⟨.pointer (some ⟨wr.heap.size,0,none⟩),W,kR,by rw[show a.eval (.tmp 6)=.pointer (some ⟨wr.heap.size,0,none⟩) from c.o 6 kR];kernel_rfl,o W,rfl⟩,
     RG.cf_load 44 17 rfl u40 fun a W c=>⟨wr.heap.size,0,wn n,c.n 1 17 kR kR kR,range_front (show Row W wr.heap.size (wn n++bl33 p) from c.b 0 kR).2.1,i40,o W,rfl⟩,
     RG.cf_call 18 fun a W c=>⟨10,#[nv n],kR,by rw[show a.eval (.tmp 18)=nv n from c.n 2 18 kR kR kR];kernel_rfl,(sbytes_c y.2.1 hw.out W).mono (by
      rintro e W' ⟨u,rfl,V,L,rfl⟩
      exact ⟨_,rfl,Gr.of L.bel,El.of_made L (bx_size n)⟩)⟩,
     RG.cf_one 19 fun a W c=>⟨.slice (some ⟨W.heap.size,0,none⟩) 1 1,W.alloc (.cells #[a.eval (.tmp 19)] 23),kR,by
      obtain ⟨V,M,L,-⟩:=show El 32 W (a.eval (.tmp 19)) (bx n) from c.n 3 19 kR kR kR
      rw[L];kernel_rfl,Gr.of (below1 W _),Bo.of (show El 32 W (a.eval (.tmp 19)) (bx n) from c.n 3 19 kR kR kR) dC (c.b 3 kR).2.2 _⟩,
     RG.cf_app 16 20 27 rfl fun a W c=>?_,
     RG.cf_one 4 fun a W c=>⟨a.eval (.tmp 4),W,kR,kR,o W,c.o 4 kR⟩,
     RG.cf_one 6 fun a W c=>⟨.pointer (some ⟨wr.heap.size,4,none⟩),W,kR,by rw[show a.eval (.tmp 6)=.pointer (some ⟨wr.heap.size,0,none⟩) from c.o 6 kR];kernel_rfl,o W,rfl⟩,
     RG.cf_load 51 23 rfl uCP fun a W c=>⟨wr.heap.size,4,bl33 p,c.n 7 23 kR kR kR,range_back (xs:=wn n) (show Row W wr.heap.size (wn n++bl33 p) from c.b 0 kR).2.1,by rw[bl33_length I.out];exact infoCP,o W,rfl⟩,
     RG.cf_call 24 fun a W c=>⟨19,#[pvl p],kR,by rw[show a.eval (.tmp 24)=pvl p from c.n 8 24 kR kR kR];kernel_rfl,(ptBytes_c I.out W).mono (by
      rintro e W' ⟨u,rfl,S,hE⟩
      exact ⟨_,rfl,Gr.of S,hE⟩)⟩,
     RG.cf_one 25 fun a W c=>⟨.slice (some ⟨W.heap.size,0,none⟩) 1 1,W.alloc (.cells #[a.eval (.tmp 25)] 23),kR,by
      obtain ⟨V,M,L,-⟩:=show El 33 W (a.eval (.tmp 25)) p from c.n 9 25 kR kR kR
      rw[L];kernel_rfl,Gr.of (below1 W _),Bo.of (show El 33 W (a.eval (.tmp 25)) p from c.n 9 25 kR kR kR) dC (c.b 3 kR).2.2 _⟩,
     RG.cf_app 22 26 27 rfl fun a W c=>?_,
     RG.cf_one 21 fun a W c=>⟨a.eval (.tmp 21),W,kR,kR,o W,c.n 5 21 kR kR kR⟩,
     RG.cf_one 27 fun a W c=>⟨a.eval (.tmp 27),W,kR,kR,o W,c.n 11 27 kR kR kR⟩,trivial⟩
    ·obtain ⟨V,x,L,h1,h2,S,M⟩:=show Bo 32 s.heap.size W (a.eval (.tmp 20)) (bx n) from c.n 4 20 kR kR kR
     obtain ⟨v',W',r1,r2,r3⟩:=Lo.app (show Lo 32 w.heap.size W u3 _ from c.b 1 kR) dC M S (by rw[List.length_map,List.length_range];omega) (c.b 3 kR).2.1
     refine ⟨v',W',?_,r3,r2⟩
     rw[L,show a.eval (.tmp 16)=u3 from c.n 0 16 kR kR kR]
     exact r1
    ·obtain ⟨V,x,L,h1,h2,S,M⟩:=show Bo 33 s.heap.size W (a.eval (.tmp 26)) p from c.n 10 26 kR kR kR
     obtain ⟨v',W',r1,r2,r3⟩:=Lo.app (show Lo 33 w.heap.size W u4 _ from c.b 2 kR) dC M S (by rw[List.length_map,List.length_range];omega) (c.b 3 kR).2.1
     refine ⟨v',W',?_,r3,r2⟩
     rw[L,show a.eval (.tmp 22)=u4 from c.n 6 22 kR kR kR]
     exact r1
   ·intro V w5 o c
    have L:Hid (Pz w w5 (some ⟨g,0,none⟩) k (i+1) ns r (V 12) (V 13)):=by
     have h1:=o 12 (Nat.lt_of_succ_le (Nat.le_of_ble_eq_true kR)) rfl
     have h2:=o 13 (Nat.lt_of_succ_le (Nat.le_of_ble_eq_true kR)) rfl
     refine ⟨(c 3 rfl).1,?_,?_,c 4 rfl,c 5 rfl⟩
     ·rw[List.range_succ,List.map_append]
      show Lo 32 w.heap.size w5 (V 12) (_++[bx (ns i)])
      rw[H.out];exact h1
     ·rw[List.range_succ,List.map_append]
      show Lo 33 w.heap.size w5 (V 13) (_++[r i])
      rw[Q.out];exact h2
    clear o c HB H3 H4
    dsimp only[RG.putV,Nat.reduceAdd]
    generalize V 12=s3 at L ⊢
    generalize V 13=s4 at L ⊢
    go_wp2
    go_roundg (gk-1)
    case measure=>omega
    case rel=>exact ⟨i+1,oM,rfl,L⟩
  ·have ht:¬ (i:Int)<(k:Int):=oM
   obtain rfl:i=k:=oM
   obtain ⟨q3,c3,rfl,S⟩:=l.l3.args
   obtain ⟨V,c4,rfl,M⟩:=l.l4.args
   rw[List.length_map,List.length_range] at S M
   have HA:Hid (ArgsScs wr q3 i (fun j=>bx (ns j))):=fun L=>by
    obtain ⟨g,o,z,e3⟩:=S L
    refine ⟨g,o,z,fun j hj=>?_⟩
    obtain ⟨x,c,s⟩:=e3 j (bx (ns j)) (by rw[List.getElem?_map,List.getElem?_range hj];rfl)
    exact ⟨x,c,s.arg⟩
   have HP:Hid (ArgsPts wr V i r):=fun L=>by
    obtain ⟨g,o,z,e3⟩:=M L
    refine ⟨g,o,z,fun j hj=>?_⟩
    obtain ⟨x,c,s⟩:=e3 j (r j) (by rw[List.getElem?_map,List.getElem?_range hj];rfl)
    exact ⟨x,c,s.arg33⟩
   rw[List.length_map,List.length_range,List.length_map,List.length_range]
   have A:Hid (Below w.heap.size w wr∧Row wr w.heap.size z33):=⟨l.bl,l.r2⟩
   clear S M l
   go_wp2_with fail
   refine (gSum_c y.1 y.2.1.gap y.2.1.le q3 V i c3 i c4 (fun j=>bx (ns j)) r wr HA.out HP.out).mono ?_
   rintro e s ⟨vv,rfl,c,hS⟩
   obtain ⟨H,cs,rfl,-,-,R,I⟩:=SumR.all y.1 y.2.1 oM y.2.2.1 y.2.2.2 (fun _ _=>rfl) (fun j _=>E.out j) hS
   obtain ⟨T,U⟩:∃ T,Hid (Go.Proofs.YtlofhpkoaljmeaaGreat.wr (EC.tot X i (fun j=>(ns j:Int)))=T):=⟨_,rfl⟩
   have Q:T.size=33:=by rw[← U.out];exact wr_size _
   rw[U.out] at I
   have z:Hid (Row s w.heap.size z33∧Below w.heap.size w s∧Row s H (bl33 T)):=⟨A.2.below c,A.1.trans (c.mono A.1.size),row_cp I R⟩
   clear c hS R I A HA HP
   have k0:=arrCP H cs
   obtain ⟨D,o⟩:∃ D,Hid (s.setCells w.heap.size 0 (bl33 T)=D):=⟨_,rfl⟩
   have f:(bl33 T).length=33:=bl33_length Q
   have Z:Hid (Row D w.heap.size (bl33 T)∧Below w.heap.size w D):=by rw[← o.out];exact ⟨z.1.put (by rw[f];rfl),RG.below_setCells (Nat.le_refl _) _ _ _ z.2.1⟩
   obtain ⟨vt,t⟩:∃ vt,Hid (Value.agg (bl33 T).toArray=vt):=⟨_,rfl⟩
   have B:Hid ((Tryz.prog.info? 51).map (·.size)=some (bl33 T).length∧s.there w.heap.size 0 (bl33 T).toArray.size∧(Tryz.prog.info? 51).map (·.size)=some (bl33 T).toArray.size):=by
    have e:(bl33 T).toArray.size=33:=by rw[List.size_toArray];exact f
    refine ⟨by rw[f];exact infoCP,by rw[e];exact z.1.2.2,by rw[e];exact infoCP⟩
   clear f
   go_wp2_with (first|(refine wpList_load_mid rfl 51 _ rfl H 0 ?_ (bl33 T) d ?_ ?_ ?_ ?_ ?_;rfl;exact z.2.2.2.1;exact HD.1.1;exact HD.1.2;exact B.1;rw[t.out])|(refine wpList_store_mid rfl 51 _ _ rfl w.heap.size 0 (bl33 T).toArray ?_ ?_ ?_ ?_ ?_ ?_;rfl;exact t.symm;exact B.2.1;exact B.2.2;exact bl33_one T;rw[show (bl33 T).toArray.toList=bl33 T from rfl,o.out]))
   refine bodyPost_ret (results_cell 2 51 rfl Z.1 rfl uCP B.1) rfl ?_
   exact ⟨_,rfl,Z.2,by rw[U.out];rfl⟩
end
namespace EC
variable {P:Nat} [NeZero P]
def pts (P:Nat) [NeZero P]:List (Pt P):=
 none :: (List.finRange P).flatMap fun x=>((List.finRange P).filter fun y=>decide (y^2=x^3+7)).map fun y=>some (x,y)
theorem mem_pts (a:Pt P):a∈pts P↔On a:=by
 unfold pts
 rcases a with _|⟨x,y⟩
 ·exact ⟨fun _=>trivial,fun _=>List.mem_cons_self⟩
 ·rw[List.mem_cons,List.mem_flatMap]
  constructor
  ·rintro (h|⟨u,-,h⟩)
   ·cases h
   ·obtain ⟨v,hv,e⟩:=List.mem_map.1 h
    cases e
    have k:=(List.mem_filter.1 hv).2
    exact (decide_eq_true_iff (p:=y^2=x^3+7)).1 k
  ·intro h
   have h:=h
   exact Or.inr ⟨x,List.mem_finRange x,List.mem_map.2 ⟨y,List.mem_filter.2 ⟨List.mem_finRange y,decide_eq_true h⟩,rfl⟩⟩
theorem nodup_pts:(pts P).Nodup:=by
 unfold pts
 refine List.nodup_cons.2 ⟨fun h=>?_,?_⟩
 ·obtain ⟨u,-,h⟩:=List.mem_flatMap.1 h
  obtain ⟨v,-,e⟩:=List.mem_map.1 h
  cases e
 ·refine List.pairwise_flatMap.2 ⟨fun x _=>List.pairwise_map.2 ?_,?_⟩
  ·refine List.Pairwise.imp ?_ ((List.nodup_finRange P).sublist List.filter_sublist)
   intro a b h e
   exact h (by cases e;rfl)
  ·refine List.Pairwise.imp ?_ (List.nodup_finRange P)
   intro a b h u k v hv e
   obtain ⟨c,-,rfl⟩:=List.mem_map.1 k
   obtain ⟨d,-,rfl⟩:=List.mem_map.1 hv
   exact h (by cases e;rfl)
theorem sq_diff {u v c:Fin P} (k:u^2=c) (hv:v^2=c):(u-v)*(u+v)=0:=by grobner
theorem opp_one {a b d:Fin P} (c:a+b=0) (k:a+d=0):b=d:=by grobner
theorem two_roots (C:Cur P) {c:Fin P}:∀ l:List (Fin P),l.Nodup→(∀ y,y∈l→y^2=c)→l.length≤2
 | [],_,_=>Nat.zero_le _
 | [_],_,_=>Nat.le_succ _
 | [_,_],_,_=>Nat.le_refl _
 | a :: b :: d :: l,k,h=>by
  exfalso
  have g:=h a (by simp)
  have o:=h b (by simp)
  have hd:=h d (by simp)
  have i:a≠b:=fun e=>(List.nodup_cons.1 k).1 (by rw[e];simp)
  have n:a≠d:=fun e=>(List.nodup_cons.1 k).1 (by rw[e];simp)
  have p:b≠d:=fun e=>(List.nodup_cons.1 (List.nodup_cons.1 k).2).1 (by rw[e];simp)
  have f:∀ u v:Fin P,u^2=c→v^2=c→u≠v→u+v=0:=fun u v q hv k=>by
   exact Classical.byContradiction fun j=>mul_ne C.pr (sub_ne k) j (sq_diff q hv)
  have j:=f a b g o i
  have m:=f a d g hd n
  exact p (opp_one j m)
theorem flat_len {α β:Type} (f:α→List β) (k:Nat) (h:∀ a,(f a).length≤k):∀ l:List α,(l.flatMap f).length≤k*l.length
 | []=>Nat.zero_le _
 | a :: l=>by
  rw[List.flatMap_cons,List.length_append,List.length_cons,Nat.mul_succ,Nat.add_comm]
  exact Nat.add_le_add (flat_len f k h l) (h a)
theorem len_pts (C:Cur P):(pts P).length≤2*P+1:=by
 unfold pts
 rw[List.length_cons]
 refine Nat.succ_le_succ (Nat.le_trans (flat_len _ 2 (fun x=>?_) _) (by rw[List.length_finRange];exact Nat.le_refl _))
 rw[List.length_map]
 exact two_roots C (c:=x^3+7) _ ((List.nodup_finRange P).sublist List.filter_sublist) fun y k=>of_decide_eq_true (List.mem_filter.1 k).2
theorem pts_pos:0<(pts P).length:=Nat.succ_pos _
def lsum:List (Pt P)→Pt P
 | []=>none
 | a :: l=>add a (lsum l)
theorem lsum_on (C:Cur P):∀ l:List (Pt P),(∀ a,a∈l→On a)→On (lsum l)
 | [],_=>none_on
 | a :: l,h=>C.on (h a List.mem_cons_self) (lsum_on C l fun b k=>h b (List.mem_cons_of_mem _ k))
theorem lsum_perm (C:Cur P) {l m:List (Pt P)} (p:l.Perm m):(∀ a,a∈l→On a)→lsum l=lsum m:=by
 induction p with
 | nil=>intro _;rfl
 | cons x _ ih =>
  intro h
  show add x _=add x _
  rw[ih fun b k=>h b (List.mem_cons_of_mem _ k)]
 | swap x y l =>
  intro h
  have c:=h y List.mem_cons_self
  have hx:=h x (List.mem_cons_of_mem _ List.mem_cons_self)
  have d:=lsum_on C l fun b k=>h b (List.mem_cons_of_mem _ (List.mem_cons_of_mem _ k))
  show add y (add x (lsum l))=add x (add y (lsum l))
  rw[← C.assoc c hx d,C.comm c hx,C.assoc hx c d]
 | trans p _ ih1 ih2 =>
  intro h
  rw[ih1 h,ih2 fun a k=>h a (p.mem_iff.2 k)]
theorem lsum_shift (C:Cur P) {r:Pt P} (k:On r):∀ l:List (Pt P),(∀ a,a∈l→On a)→lsum (l.map fun a=>add a r)=add (lsum l) (mul l.length r)
 | [],_=>rfl
 | a :: l,h=>by
  have e:=h a List.mem_cons_self
  have c:∀ b,b∈l→On b:=fun b d=>h b (List.mem_cons_of_mem _ d)
  show add (add a r) (lsum (l.map _))=add (add a (lsum l)) (add (mul l.length r) r)
  rw[lsum_shift C k l c,C.comm (mul_on C k _) k,C.swap e k (lsum_on C l c) (mul_on C k _)]
theorem add_cancel (C:Cur P) {a b r:Pt P} (d:On a) (c:On b) (k:On r) (e:add a r=add b r):a=b:=by
 have:add (add a r) (neg r)=add (add b r) (neg r):=by rw[e]
 rwa[C.assoc d k (neg_on k),C.assoc c k (neg_on k),add_neg,add_none,add_none] at this
theorem shift_perm (C:Cur P) {r:Pt P} (k:On r):((pts P).map fun a=>add a r).Perm (pts P):=by
 refine (List.perm_ext_iff_of_nodup ?_ nodup_pts).2 fun a=>?_
 ·refine List.pairwise_map.2 (List.Pairwise.imp_of_mem ?_ (nodup_pts (P:=P)))
  intro a b c d h e
  exact h (add_cancel C ((mem_pts a).1 c) ((mem_pts b).1 d) k e)
 ·rw[mem_pts,List.mem_map]
  constructor
  ·rintro ⟨b,d,rfl⟩
   exact C.on ((mem_pts b).1 d) k
  ·intro c
   refine ⟨add a (neg r),(mem_pts _).2 (C.on c (neg_on k)),?_⟩
   rw[C.assoc c (neg_on k) k,C.neg_l k,add_none]
theorem mul_pts (C:Cur P) {r:Pt P} (k:On r):mul (pts P).length r=none:=by
 have c:∀ a,a∈pts P→On a:=fun a b=>(mem_pts a).1 b
 have f:=lsum_shift C k (pts P) c
 rw[lsum_perm C (shift_perm C k) fun a b=>(mem_pts a).1 ((shift_perm C k).mem_iff.1 b)] at f
 have d:=lsum_on C (pts P) c
 have e:=mul_on C k (pts P).length
 have g:add (mul (pts P).length r) (lsum (pts P))=add none (lsum (pts P)):=by
  rw[C.comm e d,← f,none_add]
 exact add_cancel C e none_on d g
theorem mul_mul (C:Cur P) {a:Pt P} (k:On a) (m:Nat):∀ n,mul (m*n) a=mul n (mul m a)
 | 0=>rfl
 | n+1=>by
  rw[Nat.mul_succ,mul_add C k,mul_mul C k m n]
  rfl
theorem mul_none:∀ n,mul n (none:Pt P)=none
 | 0=>rfl
 | n+1=>by
  show add (mul n none) none=none
  rw[mul_none n]
  rfl
theorem twice_none (C:Cur P) {a:Pt P} (k:On a) (e:add a a=none):a=none:=by
 rcases a with _|⟨x,y⟩
 ·rfl
 ·exfalso
  have ho:=C.opp_ne k
  rw[add_line C.pr C.two k k ho (slope_line C.pr C.two k k ho)] at e
  cases e
theorem order_of (C:Cur P) {n:Nat} (f:NT.IsP n) (p:2*P+1<3*n) {g:Pt P} (k:On g) (j:g≠none) (m:mul n g=none) {r:Pt P} (d:On r):mul n r=none:=by
 have hd:n ∣ (pts P).length:=Classical.byContradiction fun hd=>by
  have i:=f.fermat1 _ hd
  have b:mul ((pts P).length^(n-1)) g=none:=by
   have:n-1=(n-2)+1:=by have:=f.1;omega
   rw[this,Nat.pow_succ,Nat.mul_comm,mul_mul C k,mul_pts C k,mul_none]
  have e:=Nat.div_add_mod ((pts P).length^(n-1)) n
  rw[i] at e
  rw[← e,mul_add C k,mul_mul C k,m,mul_none,none_add] at b
  exact j b
 obtain ⟨c,o⟩:=hd
 have l:=len_pts C
 have i:=pts_pos (P:=P)
 have b:=mul_pts C d
 rw[o] at l i b
 have e:c<3:=Nat.lt_of_mul_lt_mul_left (a:=n) oM
 match c,e with
 | 0,_=>omega
 | 1,_=>rwa[Nat.mul_one] at b
 | 2,_ =>
  rw[mul_mul C d] at b
  exact twice_none C (mul_on C d n) b
end EC
section
open Go.RowKit Go.Sort Go.Deep
variable {P:Nat} [NeZero P] {N:Nat}
def unwr (P:Nat) [NeZero P] (b:Bs):EC.Pt P:=match rd P b with|some p=>pt p|none=>none
theorem unwr_wr (C:Fld P) {X:EC.Pt P} (h:EC.On X):unwr P (wr X)=X:=by
 obtain ⟨p,b,k⟩:=rd_wr C h
 unfold unwr
 rw[b]
 exact k
def sumL (P:Nat) [NeZero P]:List (Nat × Bs)→EC.Pt P
 | []=>none
 | x :: r=>EC.add (EC.mul x.1 (unwr P x.2)) (sumL P r)
def PtsL (P:Nat) [NeZero P] (l:List (Nat × Bs)):Prop:=∀ x∈l,∃ X:EC.Pt P,EC.On X∧x.2=wr X
theorem PtsL.on (C:Fld P) {l:List (Nat × Bs)} (h:PtsL P l) {x:Nat × Bs} (hx:x∈l):EC.On (unwr P x.2):=by
 obtain ⟨X,k,b⟩:=h x hx
 rw[b,unwr_wr C k];exact k
theorem sumL_on (C:Fld P):∀ {l:List (Nat × Bs)},PtsL P l→EC.On (sumL P l)
 | [],_=>EC.none_on
 | x :: r,h=>C.cur.on (EC.mul_on C.cur (h.on C List.mem_cons_self) _) (sumL_on C fun y k=>h y (List.mem_cons_of_mem _ k))
theorem sumL_snoc (C:Fld P) (y:Nat × Bs) (b:EC.On (unwr P y.2)):∀ {l:List (Nat × Bs)},PtsL P l→sumL P (l++[y])=EC.add (sumL P l) (EC.mul y.1 (unwr P y.2))
 | [],_=>EC.add_none _
 | x :: r,h=>by
  have k:PtsL P r:=fun z c=>h z (List.mem_cons_of_mem _ c)
  show EC.add (EC.mul x.1 (unwr P x.2)) (sumL P (r++[y]))=_
  rw[sumL_snoc C y b k]
  exact (C.cur.assoc (EC.mul_on C.cur (h.on C List.mem_cons_self) _) (sumL_on C k) (EC.mul_on C.cur b _)).symm
theorem sumL_LF:∀ l:List (Nat × Bs),sumL P (LF l)=sumL P l
 | []=>rfl
 | x :: r=>by
  unfold LF
  rw[List.filter_cons]
  by_cases h:x.1=0
  ·rw[if_neg (by simp[h])]
   show sumL P (LF r)=EC.add (EC.mul x.1 (unwr P x.2)) (sumL P r)
   rw[h,sumL_LF r]
   rfl
  ·rw[if_pos (by simp[h])]
   show EC.add _ (sumL P (LF r))=EC.add _ (sumL P r)
   rw[sumL_LF r]
theorem mul_mod (C:Fld P) (k:∀ r:EC.Pt P,EC.On r→EC.mul N r=none) {X:EC.Pt P} (b:EC.On X) (n:Nat):EC.mul (n%N) X=EC.mul n X:=by
 have h:=EC.mul_add C.cur b (N*(n/N)) (n%N)
 rw[Nat.div_add_mod,EC.mul_mul C.cur b N (n/N),k X b,EC.mul_none,EC.none_add] at h
 exact h.symm
theorem sumL_addT (C:Fld P) (k:∀ r:EC.Pt P,EC.On r→EC.mul N r=none) (n:Nat) (p:Bs) (b:EC.On (unwr P p)):∀ {l:List (Nat × Bs)},PtsL P l→sumL P (addT N l n p)=EC.add (sumL P l) (EC.mul n (unwr P p))
 | [],_=>EC.add_none _
 | (s,q) :: r,h=>by
  have g:PtsL P r:=fun z i=>h z (List.mem_cons_of_mem _ i)
  have j:=h.on C (x:=(s,q)) List.mem_cons_self
  have f:=EC.mul_on C.cur j s
  have c:=sumL_on C g
  have d:=EC.mul_on C.cur b n
  unfold addT
  by_cases e:p=q
  ·rw[if_pos e]
   subst e
   show EC.add (EC.mul (sPl N s n) (unwr P p)) (sumL P r)=EC.add (EC.add (EC.mul s (unwr P p)) (sumL P r)) (EC.mul n (unwr P p))
   unfold sPl
   rw[mul_mod C k b,EC.mul_add C.cur b,C.cur.assoc f d c,C.cur.assoc f c d,C.cur.comm d c]
  ·rw[if_neg e]
   show EC.add (EC.mul s (unwr P q)) (sumL P (addT N r n p))=EC.add (EC.add (EC.mul s (unwr P q)) (sumL P r)) (EC.mul n (unwr P p))
   rw[sumL_addT C k n p b g,C.cur.assoc f c d]
theorem addT_pt {n:Nat} {p:Bs} (k:∃ X:EC.Pt P,EC.On X∧p=wr X):∀ {l:List (Nat × Bs)},PtsL P l→PtsL P (addT N l n p)
 | [],_=>fun x hx=>by
  have:x=(n,p):=by simpa[addT] using hx
  rw[this];exact k
 | (s,q) :: r,h=>by
  have b:PtsL P r:=fun z c=>h z (List.mem_cons_of_mem _ c)
  unfold addT
  split
  ·intro x hx
   rcases List.mem_cons.1 hx with rfl|hx
   ·exact h (s,q) List.mem_cons_self
   ·exact b x hx
  ·intro x hx
   rcases List.mem_cons.1 hx with rfl|hx
   ·exact h (s,q) List.mem_cons_self
   ·exact addT_pt k b x hx
theorem mrg_pts (ns:Nat→Nat) (X:Nat→EC.Pt P) {k:Nat} (b:∀ j,j<k→EC.On (X j)):∀ i,i≤k→PtsL P (mrg N ns (fun j=>wr (X j)) i)
 | 0,_=>fun x hx=>by cases hx
 | i+1,hi=>addT_pt ⟨X i,b i oM,rfl⟩ (mrg_pts ns X b i oM)
theorem mrg_sum (C:Fld P) (b:∀ r:EC.Pt P,EC.On r→EC.mul N r=none) (ns:Nat→Nat) (X:Nat→EC.Pt P) {k:Nat} (d:∀ j,j<k→EC.On (X j)):∀ i,i≤k→sumL P (mrg N ns (fun j=>wr (X j)) i)=EC.tot X i (fun j=>(ns j:Int))
 | 0,_=>rfl
 | i+1,hi=>by
  have c:=d i oM
  show sumL P (addT N (mrg N ns (fun j=>wr (X j)) i) (ns i) (wr (X i)))=EC.add (EC.tot X i (fun j=>(ns j:Int))) (EC.mul (ns i) (X i))
  rw[sumL_addT C b _ _ (by rw[unwr_wr C c];exact c) (mrg_pts ns X d i oM),mrg_sum C b ns X d i oM,unwr_wr C c]
theorem tot_sumL (C:Fld P) (l:List (Nat × Bs)) (h:PtsL P l):∀ i,i≤l.length→EC.tot (fun j=>unwr P ((l[j]?).getD (0,#[])).2) i (fun j=>(((l[j]?).getD (0,#[])).1:Int))=sumL P (l.take i)
 | 0,_=>by rw[List.take_zero];rfl
 | i+1,hi=>by
  have k:i<l.length:=oM
  show EC.add (EC.tot _ i _) (EC.mul ((l[i]?).getD (0,#[])).1 (unwr P ((l[i]?).getD (0,#[])).2))=_
  rw[tot_sumL C l h i oM,List.take_add_one,List.getElem?_eq_getElem k]
  exact (sumL_snoc C (l[i]) (h.on C (List.getElem_mem k)) fun x hx=>h x (List.mem_of_mem_take hx)).symm
theorem sumPoint_c (C:Fld P) (O:Ord N) (o:∀ r:EC.Pt P,EC.On r→EC.mul N r=none) (g k c:Nat) (S:0<k) (T:k≤512) (ns:Nat→Nat) (X:Nat→EC.Pt P) (F:∀ j,j<k→ns j<N) (B:∀ j,j<k→EC.On (X j)) (w:World) (D:g<w.heap.size) (Q:∀ j,j<k→w.rangeAt g (37*j) (wn (ns j)++bl33 (wr (X j)))) :
 Calls Tryz.prog 33 #[.slice (some ⟨g,0,none⟩) k c] w (Ret fun e w'=>Below w.heap.size w w'∧e=pvl (wr (EC.tot X k (fun j=>(ns j:Int))))):=by
 have E:=mrg_pts (N:=N) ns X B k (Nat.le_refl _)
 have n:=mrg_lt O ns (fun j=>wr (X j)) F k (Nat.le_refl _)
 have p:=mrg_size (N:=N) ns (fun j=>wr (X j)) (k:=k) (fun j _=>wr_size _) k (Nat.le_refl _)
 have y:=mrg_len (N:=N) ns (fun j=>wr (X j)) k
 have f:=mrg_sum C o ns X B k (Nat.le_refl _)
 have l:0<(mrg N ns (fun j=>wr (X j)) k).length:=by
  obtain ⟨b,rfl⟩:∃ b,k=b+1:=⟨k-1,oM⟩
  show 0<(addT N _ _ _).length
  cases mrg N ns (fun j=>wr (X j)) b with
  | nil=>exact Nat.lt_succ_self 0
  | cons x r=>unfold addT;split<;>simp
 have i:=fun W (s:Below w.heap.size w W)=>merged_a O (fun e w'=>Below W.heap.size W w'∧∃ q cap,e=.slice q (LF (mrg N ns (fun j=>wr (X j)) k)).length cap∧TmL w' q (LF (mrg N ns (fun j=>wr (X j)) k))) g k c oM ns (fun j=>wr (X j)) (fun j _=>wr_size _) F W (Nat.lt_of_lt_of_le D s.size) (fun j d=>RG.range_below (Q j d) s D) (fun W' v m=>by
  refine (delete_c _ l oM p (fun x hx=>Nat.lt_of_lt_of_le (n x hx) O.le) W.heap.size v W' m.bl.size m.ow).mono ?_
  rintro e w' ⟨u,rfl,b,z⟩
  exact ⟨_,rfl,m.bl.trans b,z⟩)
 generalize mrg N ns (fun j=>wr (X j)) k=L at E n p y f l i
 have t:PtsL P (LF L):=fun x hx=>E x (LF_mem hx)
 have R:(LF L).length≤L.length:=List.length_filter_le _ _
 refine (sumPoint_g C O _ w (LF L).length oM (fun j=>(((LF L)[j]?).getD (0,#[])).1) (fun j=>unwr P (((LF L)[j]?).getD (0,#[])).2) (fun j d=>by rw[List.getElem?_eq_getElem d];exact n _ (LF_mem (List.getElem_mem d))) (fun j d=>by rw[List.getElem?_eq_getElem d];exact t.on C (List.getElem_mem d)) fun W s=>?_).mono ?_
 ·refine (i W s).mono ?_
  rintro e w' ⟨u,rfl,b,q,cap,rfl,z⟩
  refine ⟨_,rfl,b,q,cap,rfl,fun J=>?_⟩
  obtain ⟨a,H,I,e3⟩:=z J
  refine ⟨a,H,I,fun j d=>?_⟩
  have M:=e3 j d
  obtain ⟨Y,K,G⟩:=t _ (List.getElem_mem d)
  show w'.rangeAt a (37*j) (wn (((LF L)[j]?).getD (0,#[])).1++bl33 (wr (unwr P (((LF L)[j]?).getD (0,#[])).2)))
  rw[List.getElem?_eq_getElem d]
  show w'.rangeAt a (37*j) (wn ((LF L)[j]).1++bl33 (wr (unwr P ((LF L)[j]).2)))
  rw[G,unwr_wr C K,← G]
  exact M
 ·rintro e w' ⟨u,rfl,b,rfl⟩
  refine ⟨_,rfl,b,?_⟩
  rw[tot_sumL C (LF L) t _ (Nat.le_refl _),List.take_length,sumL_LF,f]
theorem undU:Tryz.prog.underlying 23=some (.slice 5):=kR
theorem undI:Tryz.prog.underlying 3=some (.int .i64):=kR
theorem infoU:(Tryz.prog.info? 5).map (fun i=>(i.size,i.bytes,i.zero.map fun z=>z.cells.size))=some (1,1,some 1):=kR
theorem atB (k o n c i:Nat) (b:i<n) (w:World):(Instr.indexAt 27 (.slice (some ⟨k,o,none⟩) n c) (.int .i64 i)).run Tryz.prog w=.ok (.pointer (some ⟨k,o+1*i,none⟩)) w:=by
 go_simp
theorem grow_c (n:Nat) (a:n≤10000000) (w:World):Calls Tryz.prog 45 #[.slice none 0 0,.int .i64 n] w (Ret fun e w'=>Below w.heap.size w w'∧w'.ownsRow w.heap.size 5 1 e 0 []):=by
 by_cases t:n=0
 ·subst t
  go_enter Tryz.func45,Tryz.ntmps45
  go_wp2
  go_ret
  exact ⟨_,rfl,Below.refl _ _,World.ownsRow_nil _ _ _ _⟩
 ·obtain ⟨i,r,o⟩:=Option.map_eq_some_iff.1 infoU
  simp only[Prod.mk.injEq] at o
  obtain ⟨v,m,p⟩:=o
  obtain ⟨z,q,d⟩:=Option.map_eq_some_iff.1 p
  have f:=Lib.run_append_nil_zeros (P:=Tryz.prog) w 23 3 23 5 i z .i64 .i64 undU undI r q n oM oM oM (by rw[m];omega)
  have g:=grownCap_ge w n 0 5
  have k:=grownCap_le_maxLen w n 0 5 (by unfold maxLen;omega)
  have b:(Builtin.zeroCells z.cells n++Builtin.zeroCells z.cells (grownCap w n 0 5-n)).size=grownCap w n 0 5*1:=by rw[Array.size_append,size_zeroCells,size_zeroCells,d];omega
  generalize grownCap w n 0 5=l at f g k b
  generalize Builtin.zeroCells z.cells n++Builtin.zeroCells z.cells (l-n)=cur at f b
  obtain ⟨j,c⟩:∃ j,Hid (w.drew.alloc (.cells cur 5)=j):=⟨_,rfl⟩
  rw[c.out] at f
  have s:=Hid.mk' f
  have K:Hid (Below w.heap.size w j∧j.ownsRow w.heap.size 5 1 (.slice (some ⟨w.heap.size,0,none⟩) 0 l) 0 []):=by
   rw[← c.out]
   exact ⟨(Below.refl _ _).drew.alloc (Nat.le_refl _) _,World.ownsRow_made w.drew cur l (Nat.le_refl _) k b⟩
  clear f c b r q d v m p
  have u:(0:Int)<(n:Int):=oM
  have x:¬ ((n:Int)<0):=oM
  have y:IntKind.i64.wrap (n:Int)=n:=by rw[IntKind.wrap_i64];omega
  go_enter Tryz.func45,Tryz.ntmps45
  go_wp2_with (at_builtin;refine Lib.wpList_append_run _ rfl _ _ _ _ rfl _ _ rfl rfl _ _ s.out ?_)
  go_ret
  exact ⟨_,rfl,K.1,K.2⟩
def catL (L:Nat→Bs) (k:Nat):List UInt8:=(List.range k).flatMap fun j=>(L j).toList
theorem catL_succ (L:Nat→Bs) (i:Nat):catL L (i+1)=catL L i++(L i).toList:=by
 unfold catL
 rw[List.range_succ,List.flatMap_append]
 simp
theorem catL_le (L:Nat→Bs) {k m:Nat} (b:∀ j,j<k→(L j).size≤m):∀ i,i≤k→(catL L i).length≤m*i
 | 0,_=>Nat.le_refl _
 | i+1,hi=>by
  have d:=catL_le L b i oM
  have c:=b i oM
  have e:(L i).toList.length=(L i).size:=rfl
  rw[catL_succ,List.length_append,e,Nat.mul_succ]
  omega
theorem El.below {n B:Nat} {W W':World} {x:Value} {b:Bs} (h:El n W x b) (d:Below B W W') (j:W.heap.size≤B):El n W' x b:=by
 obtain ⟨k,c,rfl,f,e,g,i⟩:=h
 exact ⟨k,c,rfl,f,e,Nat.lt_of_lt_of_le g d.size,Holds.kept i (d.block k oM)⟩
theorem own_app {d n m:Nat} {W:World} {v x:Value} {xs:List Value} {b:Bs} (e:W.ownsRow d 5 1 v n xs) (hx:El m W x b) (G:n+m≤100000000) (t:d≤W.heap.size) :
 ∃ f W',(Builtin.append_ #[23,23] 23 #[v,x]).run Tryz.prog W=.ok f W'∧W'.ownsRow d 5 1 f (n+m) (xs++cb b)∧W.grownBy W' v.ownBlock:=by
 obtain ⟨i,A,l⟩:=Option.map_eq_some_iff.1 infoU
 simp only[Prod.mk.injEq] at l
 obtain ⟨r,o,q⟩:=l
 obtain ⟨z,w,g⟩:=Option.map_eq_some_iff.1 q
 obtain ⟨k,c,rfl,F,p,e3,B⟩:=hx
 obtain ⟨f,W',D,a,s,-⟩:=run_append_own (P:=Tryz.prog) W d 23 23 5 i z 1 1 undU A w r o g dC v n xs e ⟨k,0,none⟩ m c (cb b) (by rw[cb_length,p];omega)
  (fun j u C=>by
   have:=(cb_range B).1 j u C
   rw[Nat.zero_add] at this
   rw[add0];exact this) (fun u E=>by
   obtain ⟨y,-,rfl⟩:=List.mem_map.1 E
   rfl) (by unfold maxLen;omega) oM t
 exact ⟨f,W',D,a,s⟩
theorem cb_cat (L:Nat→Bs) (i:Nat):(catL L (i+1)).map encB=(catL L i).map encB++cb (L i):=by rw[catL_succ,List.map_append];rfl
theorem concat_c (g k c:Nat) (L:Nat→Bs) (C:k≤1000) (M:∀ j,j<k→(L j).size≤10000) (w:World) (E:g<w.heap.size) (Q:∀ j,j<k→∃ x,w.cell? ⟨g,j,none⟩=some x∧El (L j).size w x (L j)) :
 Calls Tryz.prog 23 #[.slice (some ⟨g,0,none⟩) k c] w (Ret fun e w'=>Below w.heap.size w w'∧w'.ownsRow w.heap.size 5 1 e (catL L k).length ((catL L k).map encB)):=by
 have HL:=Hid.mk' Q
 have t:Hid (∀ i,i≤k→(catL L i).length≤10000*i):=catL_le L M
 have S:=Hid.mk' E
 clear Q M E
 go_enter Tryz.func23,Tryz.ntmps23
 go_wp2_with fail
 go_loopg [3,11] k (fun m s3 s11 W=>∃ i:Nat,i+m=k∧s11=.int .i64 i∧s3=.int .i64 ((catL L i).length:Int)∧w=W)
 case atStart=>exact ⟨0,oM,rfl,rfl,rfl⟩
 case round =>
  obtain ⟨i,U,rfl,rfl,rfl⟩:=hrel
  by_cases J:i<k
  ·have z:(i:Int)<(k:Int):=oM
   obtain ⟨x,N,hE⟩:=HL.out i J
   obtain ⟨G,D,rfl,r,-⟩:=hE
   have n:=atB g 0 k c i J
   rw[show 0+1*i=i by omega] at n
   have d:(catL L (i+1)).length=(catL L i).length+(L i).size:=by rw[catL_succ,List.length_append];rfl
   have l:=t.out i oM
   have q:=t.out (i+1) oM
   obtain ⟨a,o⟩:∃ a,Hid ((catL L i).length=a):=⟨_,rfl⟩
   obtain ⟨b,f⟩:∃ b,Hid ((L i).size=b):=⟨_,rfl⟩
   rw[o.out] at d l
   rw[f.out] at d r
   rw[o.out]
   have u:IntKind.i64.wrap ((a:Int)+(b:Int))=((a+b:Nat):Int):=by rw[IntKind.wrap_i64];omega
   have s:¬ (((a+b:Nat):Int)<0):=oM
   rw[f.out] at N
   go_wp2
   go_roundg (gk-1)
   case measure=>omega
   case rel=>exact ⟨i+1,oM,rfl,by rw[d,Int.natCast_add],rfl⟩
  ·have z:¬ (i:Int)<(k:Int):=oM
   obtain rfl:i=k:=oM
   go_wp2_with fail
   refine (grow_c (catL L i).length (by have:=t.out i (Nat.le_refl _);omega) w).mono ?_
   rintro e F ⟨v,rfl,l,o⟩
   have I:Hid (Below w.heap.size w F∧F.ownsRow w.heap.size 5 1 v (catL L 0).length ((catL L 0).map encB)):=⟨l,o⟩
   clear l o
   go_wp2_with fail
   go_loopg [6,27] i (fun m s6 s27 W=>∃ j:Nat,j+m=i∧s27=.int .i64 j∧Hid (Below w.heap.size w W∧W.ownsRow w.heap.size 5 1 s6 (catL L j).length ((catL L j).map encB)))
   case atStart=>exact ⟨0,oM,rfl,I⟩
   case round =>
    clear I
    obtain ⟨j,T,rfl,f⟩:=hrel
    by_cases P:j<i
    ·have A:(j:Int)<(i:Int):=oM
     obtain ⟨x,s,r⟩:=HL.out j P
     have N:wr.cell? ⟨g,j,none⟩=some x:=by rw[f.1.cell (p:=⟨g,j,none⟩) S.out];exact s
     have hE:=r.below f.1 (Nat.le_refl _)
     have q:=t.out (j+1) oM
     have d:(catL L (j+1)).length=(catL L j).length+(L j).size:=by rw[catL_succ,List.length_append];rfl
     obtain ⟨K,W',O,u,H⟩:=own_app f.2 hE oM f.1.size
     rw[← d,← cb_cat] at u
     have R:Hid (Below w.heap.size w W'∧W'.ownsRow w.heap.size 5 1 K (catL L (j+1)).length ((catL L (j+1)).map encB)):=⟨f.1.grown H f.1.size (fun k C=>(f.2.lt k C).1),u⟩
     have B:=Hid.mk' O
     obtain ⟨G,D,rfl,-⟩:=hE
     have n:=atB g 0 i c j P
     rw[show 0+1*j=j by omega] at n
     clear O u H d q f r s
     go_wp2_with (first|(refine wpList_app (x:=u6) (y:=.slice (some ⟨G,0,none⟩) (L j).size D) (v:=K) (w':=W') rfl _ _ 23 rfl ?_ ?_ ?_ ?_;rfl;rfl;exact B.out)|fail)
     go_roundg (gk-1)
     case measure=>omega
     case rel=>exact ⟨j+1,oM,rfl,R⟩
    ·have A:¬ (j:Int)<(i:Int):=oM
     obtain rfl:j=i:=oM
     go_wp2
     go_ret
     exact ⟨_,rfl,f.1,f.2⟩
end
section
open Go.RowKit Go.Sort Go.Deep Go.Shelf
attribute [local go_sem] Oper.semAt_some
variable {P:Nat} [NeZero P]
theorem grown_b {w w':World} (h:Below w.heap.size w w') (row:Option Nat):w.grownBy w' row:=⟨h.os,h.tape,h.output,h.size,fun k b _=>h.block k b⟩
theorem holds_lt {w:World} {g o:Nat} {k:Bs} (h:Holds encB w g o k) (b:0<k.size):g<w.heap.size:=by
 obtain ⟨c,ho,-⟩:=cells_of_cell (h 0 b).1
 exact (Array.getElem?_eq_some_iff.1 ho).1
noncomputable def cand (P:Nat) [NeZero P] (k:ByteArray) (b:List UInt8) (i:Nat):Option (Fin P × Fin P):=
 if beV (SP.tagL ((⟨#[112,111,105,110,116,32]⟩:ByteArray)++k).data.toList [b,[UInt8.ofNat i]]).toList<P then
  (rt (Fin.ofNat P (beV (SP.tagL ((⟨#[112,111,105,110,116,32]⟩:ByteArray)++k).data.toList [b,[UInt8.ofNat i]]).toList)*Fin.ofNat P (beV (SP.tagL ((⟨#[112,111,105,110,116,32]⟩:ByteArray)++k).data.toList [b,[UInt8.ofNat i]]).toList)*Fin.ofNat P (beV (SP.tagL ((⟨#[112,111,105,110,116,32]⟩:ByteArray)++k).data.toList [b,[UInt8.ofNat i]]).toList)+7)).map fun y=>(Fin.ofNat P (beV (SP.tagL ((⟨#[112,111,105,110,116,32]⟩:ByteArray)++k).data.toList [b,[UInt8.ofNat i]]).toList),y)
 else none
noncomputable def cands (P:Nat) [NeZero P] (k:ByteArray) (b:List UInt8) (i:Nat):List (Fin P × Fin P):=(List.range i).filterMap (cand P k b)
theorem cands_succ (k:ByteArray) (b:List UInt8) (i:Nat):cands P k b (i+1)=cands P k b i++(cand P k b i).toList:=by
 unfold cands
 rw[List.range_succ,List.filterMap_append]
 cases h:cand P k b i<;>simp[h]
theorem cands_pre (k:ByteArray) (b:List UInt8) {i j:Nat} (h:i≤j):cands P k b i <+: cands P k b j:=by
 induction j with
 | zero=>rw[Nat.le_zero.1 h];exact List.prefix_rfl
 | succ j ih =>
  rcases Nat.lt_or_ge i (j+1) with c|c
  ·rw[cands_succ]
   exact (ih oM).trans (List.prefix_append _ _)
  ·rw[show i=j+1 by omega];exact List.prefix_rfl
theorem cands_len (k:ByteArray) (b:List UInt8) (i:Nat):(cands P k b i).length≤i:=by
 unfold cands
 exact Nat.le_trans (List.length_filterMap_le _ _) (by rw[List.length_range];exact Nat.le_refl _)
end
section
open Go.RowKit Go.Sort Go.Deep Go.Shelf
attribute [local go_sem] Oper.semAt_some
section
variable {F:Fence} {n:Nat} {P:Program} {ops:Array Oper} {rest:List Oper} {op:Oper} {a:Act} {w:World} {Q:Exit→Act→World→Prop}
theorem wpListIn_load_mid_g (g:Region.wanted op (yielded ops a.tmps)=true) (k:TypeId) (x:Operand) (ho:op.op=.load k x) (b o:Nat) (hx:a.eval x=.pointer (some ⟨b,o,none⟩)) (cs:List Value) (d:TypeDesc) (l:w.rangeAt b o cs)
 (m:P.underlying k=some d) (hd:d.isRow=true) (j:(P.info? k).map (·.size)=some cs.length) (h:wpListIn F n P ops Q rest (a.put op.dst (.agg cs.toArray)) w):wpListIn F n P ops Q (op :: rest) a w:=
 wpListIn_step fun K i=>by
  rw[g,if_pos rfl]
  refine ⟨fun f hf=>(by unfold Oper.about at hf;rw[ho] at hf;cases hf),?_⟩
  rw[Oper.semAt_eq _ _ _ (fun c=>by rw[ho];intro e;cases e)]
  unfold execOp
  simp only[ho,hx,Instr.loadAt,Instr.sureAddr,Sem.run_bind,Sem.run_pure,Result.andThen_ok,run_loadVar_mid w b o k cs d l m hd j]
  exact i _ _ h
end
variable {P:Nat} [NeZero P]
theorem Hid.mk {p:Prop} (h:p):Hid p:=h
theorem iter_c (C:Fld P) (c:ByteArray) (vb:Value) (b:List UInt8) (k1 k2:Nat) (w:World) (ke:c.size≤1000000) (h1:w.cell? ⟨k1,0,none⟩=some (.string c)) (h2:w.cell? ⟨k2,0,none⟩=some vb) (l1:k1<w.heap.size) (l2:k2<w.heap.size) (hb:SP.PartOk w vb b) (n:Nat) :
 SeqStopsK Fence.wide n Tryz.prog 117 #[.pointer (some ⟨k1,0,none⟩),.pointer (some ⟨k2,0,none⟩)] (fun x:Fin P × Fin P=>#[pv x.1 x.2]) (Below w.heap.size) (fun xs=>xs=cands P c b 256) (fun k=>k <+: cands P c b 256) 256 w:=by
 have HP:=hb
 obtain ⟨a0,sb,so,cap,bs,rfl,-,-,-,-⟩:=hb
 intro l J Jx W hW hJ kh hY h0
 refine callsIn_of_wp Tryz.func117 rfl trivial ?_ rfl
 simp only[Tryz.ntmps117,List.size_toArray,List.length_cons,List.length_nil,Nat.reduceAdd,Nat.reduceSub,Array.replicate_succ,Array.replicate_zero,List.push_toArray,List.append_toArray,List.nil_append,List.cons_append]
 gi_wp2
 gi_loopw [10] (fun p wr=>∃ i:Nat,i≤256∧p=.int .i64 i∧J (cands P c b i) wr∧Below w.heap.size w wr∧W.heap.size≤wr.heap.size) (fun p wr=>256-(intOf p).toNat)
 case atStart =>
  exact ⟨0,dC,rfl,h0,hW,Nat.le_refl _⟩
 case round =>
  obtain ⟨i,hi,rfl,Q,S,hk⟩:=hrel
  have k9:=S
  by_cases he:i=256
  ·subst he
   gi_wp2
   go_end0
   exact ⟨⟨_,rfl⟩,.inl ⟨_,rfl,Q⟩⟩
  ·have kd:(i:Int)<256:=oM
   have c1:wr.cell? ⟨k1,0,none⟩=some (.string c):=(World.cell?_of_block (S.block k1 l1)).trans h1
   have c2:wr.cell? ⟨k2,0,none⟩=some (.slice a0 bs.size cap):=(World.cell?_of_block (S.block k2 l2)).trans h2
   have hs:=RG.Made.alloc wr [.int .u8 i] 5
   have hl:=RG.Made.alloc (wr.alloc (.cells #[.int .u8 i] 5)) [.slice a0 bs.size cap,.slice (some ⟨wr.heap.size,0,none⟩) 1 1] 23
   rw[World.size_alloc] at hl
   have kb:ub (UInt8.ofNat i)=(i:Int):=by
    show (((UInt8.ofNat i).toNat:Nat):Int)=_
    rw[UInt8.toNat_ofNat',Nat.mod_eq_of_lt oM]
   obtain ⟨W1,O⟩:∃ W1,W1=(wr.alloc (.cells #[.int .u8 i] 5)).alloc (.cells #[.slice a0 bs.size cap,.slice (some ⟨wr.heap.size,0,none⟩) 1 1] 23):=⟨_,rfl⟩
   have K:Below wr.heap.size wr W1:=by rw[O];exact ((Below.refl _ wr).alloc (Nat.le_refl _) _).alloc (by rw[World.size_alloc];omega) _
   have hP:SP.PartsOk W1 (some ⟨wr.heap.size+1,0,none⟩) [b,[UInt8.ofNat i]]:=by
    have k:W1.rangeAt (wr.heap.size+1) 0 [.slice a0 bs.size cap,.slice (some ⟨wr.heap.size,0,none⟩) 1 1]:=by rw[O];exact hl.range
    refine Or.inr ⟨_,_,rfl,fun j f=>?_⟩
    have g:j=0∨j=1:=by simp at f;omega
    rcases g with rfl|rfl
    ·exact ⟨_,k 0 _ rfl,(HP.below k9).below K⟩
    ·refine ⟨_,k 1 _ rfl,some ⟨wr.heap.size,0,none⟩,wr.heap.size,0,1,#[UInt8.ofNat i],rfl,rfl,Nat.le_refl _,Nat.le_of_ble_eq_true rfl,Or.inr ⟨rfl,?_⟩⟩
     have o:=hs.range
     have s:wr.heap.size<(wr.alloc (.cells #[.int .u8 i] 5)).heap.size:=by rw[World.size_alloc];omega
     intro j f
     have m:j=0:=by simp at f;omega
     subst m
     have q:W1.heap[wr.heap.size]? = (wr.alloc (.cells #[.int .u8 i] 5)).heap[wr.heap.size]?:=by rw[O];exact Below.heap_alloc _ _ _ s
     refine ⟨?_,?_⟩
     ·rw[World.cell?_of_block (a:=⟨wr.heap.size,0+0,none⟩) q]
      show _=some (Value.int .u8 (ub (UInt8.ofNat i)))
      rw[kb]
      exact o 0 _ rfl
     ·rw[World.frozen?_of_block (a:=⟨wr.heap.size,0+0,none⟩) q]
      exact (hs.there 0 (Nat.le_refl _)).2
   have h5:=SP.Tag_any ((⟨#[112,111,105,110,116,32]⟩:ByteArray)++c) (some ⟨wr.heap.size+1,0,none⟩) 2 [b,[UInt8.ofNat i]] W1 (by rw[ByteArray.size_append];show 6+c.size≤_;omega) (Nat.le_of_ble_eq_true rfl) hP
   gi_wp2_with fail
   rw[← O]
   refine ⟨trivial,fun h=>(by cases h),(callsIn_wide.2 h5).mono ?_⟩
   rintro e w2 ⟨r,rfl,ka,h9,V⟩
   clear h5 hP c1 c2 hs hl kd
   obtain ⟨T,U⟩:∃ T,Hid (SP.tagL ((⟨#[112,111,105,110,116,32]⟩:ByteArray)++c).data.toList [b,[UInt8.ofNat i]]=T):=⟨_,rfl⟩
   rw[U.out] at V
   gi_wp2_with fail
   refine ⟨trivial,fun h=>(by cases h),(callsIn_wide.2 (Coordinates_c _)).mono ?_⟩
   rintro e w3 ⟨v,rfl,X,rfl⟩
   have hg:r<w2.heap.size:=holds_lt V (by rw[← U.out,SP.tagL_size];decide)
   have hn:T.size=32:=by rw[← U.out];exact SP.tagL_size _ _
   have hm:Holds encB w3 r 0 T:=Holds.below V X hg
   have I:r<w3.heap.size:=Nat.lt_of_lt_of_le hg X.size
   have B:Below wr.heap.size wr w3:=(K.trans (h9.mono K.size)).trans (X.mono (Nat.le_trans K.size h9.size))
   by_cases hx:beV T.toList<P
   ·obtain ⟨x,Y⟩:∃ x:Fin P,Hid (beV T.toList=x.val):=⟨Fin.ofNat P (beV T.toList),(Nat.mod_eq_of_lt hx).symm⟩
    have R:Hid (Fin.ofNat P (beV T.toList)=x):=Fin.ext (by show beV T.toList%P=_;rw[Nat.mod_eq_of_lt hx];exact Y.out)
    have hx:Hid (beV T.toList<P):=hx
    gi_wp2_with fail
    refine ⟨trivial,fun h=>(by cases h),(callsIn_wide.2 (Read_y C hn (Nat.le_refl _) Y.out I hm)).mono ?_⟩
    rintro e t ⟨v,rfl,N,rfl⟩
    have u:=(RG.Made.alloc t [.int .u64 0,.int .u64 0,.int .u64 0,.int .u64 0] 42).there
    have g:=B.trans (N.mono B.size)
    have k6:=World.rangeAt_setCells_same _ _ 0 (ws x) u
    obtain ⟨d,hu,k4⟩:=Option.map_eq_some_iff.1 u85
    clear u k6 hn hm hg I X N V ka h9 K
    obtain ⟨w5,ha⟩:∃ w5,Hid ((t.alloc (.cells #[.int .u64 0,.int .u64 0,.int .u64 0,.int .u64 0] 42)).setCells t.heap.size 0 (ws x)=w5):=⟨_,rfl⟩
    have o:Hid (Below wr.heap.size wr w5):=by rw[← ha.out];exact RG.below_setCells g.size _ _ _ (g.alloc g.size _)
    have h8:w5.rangeAt t.heap.size 0 (ws x):=by rw[← ha.out];exact World.rangeAt_setCells_same _ _ 0 (ws x) (RG.Made.alloc t [.int .u64 0,.int .u64 0,.int .u64 0,.int .u64 0] 42).there
    gi_wp2_with (first|(refine wpListIn_store_mid rfl 42 _ _ rfl t.heap.size 0 (ws x).toArray rfl rfl (RG.Made.alloc t [.int .u64 0,.int .u64 0,.int .u64 0,.int .u64 0] 42).there i85 kR ?_;rw[show (ws x).toArray.toList=ws x from rfl,ha.out])|refine wpListIn_load_mid rfl 42 _ rfl t.heap.size 0 rfl (ws x) d h8 hu k4 i85 ?_)
    refine ⟨trivial,fun h=>(by cases h),?_⟩
    clear h8 hu k4
    have kf:True:=trivial
    obtain ⟨d8,h7,h3⟩:=Option.map_eq_some_iff.1 u109
    cases F:rt (x*x*x+7) with
    | none =>
     obtain ⟨z,L⟩:∃ z:Fin P,Hid (z=0):=⟨_,rfl⟩
     have k:=above_n_c C x F w5
     rw[← L.out] at k
     obtain ⟨vz,D⟩:∃ vz,Hid (pv z z=vz):=⟨_,rfl⟩
     rw[D.out] at k
     refine (callsIn_wide.2 k).mono ?_
     clear k
     rintro e s ⟨v,rfl,H,rfl⟩
     have f:Hid (cand P c b i=none):=by
      show cand P c b i=none
      unfold cand
      rw[U.out,if_pos hx.out,R.out,F]
      rfl
     clear F
     have q:Hid (Below wr.heap.size wr ((s.alloc (.cells #[.int .u64 0,.int .u64 0,.int .u64 0,.int .u64 0,.int .u64 0,.int .u64 0,.int .u64 0,.int .u64 0] 131)).setCells s.heap.size 0 (ws z++ws z))):=
      have Z:=o.trans (H.mono o.size)
      RG.below_setCells Z.size _ _ _ (Z.alloc Z.size _)
     clear H
     have E:(ws z++ws z).toArray.size=8:=kR
     have A:Hid <| (s.alloc (.cells #[.int .u64 0,.int .u64 0,.int .u64 0,.int .u64 0,.int .u64 0,.int .u64 0,.int .u64 0,.int .u64 0] 131)).there s.heap.size 0 (ws z++ws z).toArray.size:=by show World.there _ _ _ _;rw[E];exact (RG.Made.alloc s [.int .u64 0,.int .u64 0,.int .u64 0,.int .u64 0,.int .u64 0,.int .u64 0,.int .u64 0,.int .u64 0] 131).there
     have M:Hid ((Tryz.prog.info? 131).map (·.size)=some (ws z++ws z).toArray.size):=by show _=_;rw[E];exact i109
     clear E
     obtain ⟨G,m⟩:∃ G,Hid ((s.alloc (.cells #[.int .u64 0,.int .u64 0,.int .u64 0,.int .u64 0,.int .u64 0,.int .u64 0,.int .u64 0,.int .u64 0] 131)).setCells s.heap.size 0 (ws z++ws z)=G):=⟨_,rfl⟩
     rw[m.out] at q
     gi_wp2_with (refine wpListIn_store_mid rfl 131 _ _ rfl s.heap.size 0 (ws z++ws z).toArray ?_ ?_ ?_ ?_ ?_ ?_;rfl;exact D.symm;exact A.out;exact M.out;kernel_rfl;rw[show (ws z++ws z).toArray.toList=ws z++ws z from rfl,m.out];refine Hid.out ?_)
     clear A M D L m o R Y hx U
     show wpListIn _ _ _ _ _ _ _ _
     gi_wp2_with fail
     refine ⟨fun _ h=>(by cases h),?_⟩
     gi_wp2_with fail
     refine ⟨⟨i+1,oM,rfl,?_,S.trans (q.mono S.size),Nat.le_trans hk q.size⟩,?_⟩
     ·rw[cands_succ,f.out]
      exact hJ _ wr _ none (by simpa using Q) (grown_b q.out none) (fun _ e=>by cases e)
     ·simp[intOf]
      omega
    | some y =>
     have k:=above_y_c C x y F w5
     obtain ⟨vz,D⟩:∃ vz,Hid (pv x y=vz):=⟨_,rfl⟩
     rw[D.out] at k
     refine (callsIn_wide.2 k).mono ?_
     clear k
     rintro e s ⟨v,rfl,H,rfl⟩
     have f:Hid (cand P c b i=some (x,y)):=by
      show cand P c b i=some (x,y)
      unfold cand
      rw[U.out,if_pos hx.out,R.out,F]
      rfl
     clear F
     obtain ⟨G,m⟩:∃ G,Hid ((s.alloc (.cells #[.int .u64 0,.int .u64 0,.int .u64 0,.int .u64 0,.int .u64 0,.int .u64 0,.int .u64 0,.int .u64 0] 131)).setCells s.heap.size 0 (ws x++ws y)=G):=⟨_,rfl⟩
     have L:Hid (Below wr.heap.size wr G):=by
      rw[← m.out]
      have Z:=o.trans (H.mono o.size)
      exact RG.below_setCells Z.size _ _ _ (Z.alloc Z.size _)
     clear H
     have Z:G.rangeAt s.heap.size 0 (ws x++ws y):=by rw[← m.out];exact World.rangeAt_setCells_same _ _ 0 (ws x++ws y) (RG.Made.alloc s [.int .u64 0,.int .u64 0,.int .u64 0,.int .u64 0,.int .u64 0,.int .u64 0,.int .u64 0,.int .u64 0] 131).there
     have kc:Hid (J (cands P c b i) G):=hJ _ wr _ none (by simpa using Q) (grown_b L.out none) (fun _ e=>by cases e)
     have E:(ws x++ws y).toArray.size=8:=kR
     have A:Hid <| (s.alloc (.cells #[.int .u64 0,.int .u64 0,.int .u64 0,.int .u64 0,.int .u64 0,.int .u64 0,.int .u64 0,.int .u64 0] 131)).there s.heap.size 0 (ws x++ws y).toArray.size:=by show World.there _ _ _ _;rw[E];exact (RG.Made.alloc s [.int .u64 0,.int .u64 0,.int .u64 0,.int .u64 0,.int .u64 0,.int .u64 0,.int .u64 0,.int .u64 0] 131).there
     have M:Hid ((Tryz.prog.info? 131).map (·.size)=some (ws x++ws y).toArray.size):=by show _=_;rw[E];exact i109
     clear E
     obtain ⟨fn,tmps,k7,kg,hy,hR⟩:=hY (cands P c b i) (x,y) G kc.out (Nat.lt_of_le_of_lt (cands_len c b i) oM)
     dsimp only at hy
     obtain ⟨va,hr⟩:∃ va,Hid (Value.agg (ws x++ws y).toArray=va):=⟨_,rfl⟩
     rw[show pv x y=va from hr.out] at hy
     gi_wp2_with (refine wpListIn_store_mid rfl 131 _ _ rfl s.heap.size 0 (ws x++ws y).toArray ?_ ?_ ?_ ?_ ?_ ?_;rfl;exact D.symm;exact A.out;exact M.out;kernel_rfl;rw[show (ws x++ws y).toArray.toList=ws x++ws y from rfl,m.out];refine Hid.out ?_)
     clear A M m o R Y hx U
     have k3:=Hid.mk hR
     have h4:=Hid.mk Z
     have hw:=Hid.mk h7
     have k0:=Hid.mk h3
     clear hR Z h7 h3
     show wpListIn _ _ _ _ _ _ _ _
     gi_wp2_with (refine wpListIn_load_mid_g rfl 131 _ rfl s.heap.size 0 ?_ (ws x++ws y) d8 ?_ ?_ ?_ ?_ ?_;rfl;exact h4.out;exact hw.out;exact k0.out;exact i109;rw[hr.out];refine Hid.out ?_)
     clear h4 hw k0 hr D
     show wpListIn _ _ _ _ _ _ _ _
     gi_wp2_with fail
     refine ⟨fun h=>(by cases h),k3.mono ?_⟩
     clear k3 hy
     rintro e W8 (⟨rfl,k8,ht⟩|⟨rfl,k5⟩)
     ·gi_wp2_with fail
      refine ⟨⟨i+1,oM,rfl,?_,(S.trans (L.mono S.size)).trans ht,Nat.le_trans hk (Nat.le_trans L.size ht.size)⟩,?_⟩
      ·rw[cands_succ,f.out]
       exact k8
      ·simp[intOf]
       omega
     ·gi_wp2_with fail
      refine bodyPost_ret (results_none rfl _ _ _) rfl ?_
      refine ⟨⟨_,rfl⟩,.inr ⟨_,?_,k5⟩⟩
      have hp:=cands_pre (P:=P) c b (i:=i+1) (j:=256) oM
      rw[cands_succ,f.out] at hp
      exact hp
   ·have f:cand P c b i=none:=by
     unfold cand
     rw[U.out,if_neg hx]
    gi_wp2_with fail
    refine ⟨trivial,fun h=>(by cases h),(callsIn_wide.2 (Read_n C hn (Nat.le_refl _) hx I hm)).mono ?_⟩
    rintro e t ⟨v,rfl,N,rfl⟩
    have u:Hid ((t.alloc (.cells #[.int .u64 0,.int .u64 0,.int .u64 0,.int .u64 0] 42)).there t.heap.size 0 4):=(RG.Made.alloc t [.int .u64 0,.int .u64 0,.int .u64 0,.int .u64 0] 42).there
    have g:=B.trans (N.mono B.size)
    have q:Hid (Below wr.heap.size wr ((t.alloc (.cells #[.int .u64 0,.int .u64 0,.int .u64 0,.int .u64 0] 42)).setCells t.heap.size 0 (ws (0:Fin P)))):=RG.below_setCells g.size _ _ _ (g.alloc g.size _)
    have f:Hid (cand P c b i=none):=f
    obtain ⟨G,m⟩:∃ G,Hid ((t.alloc (.cells #[.int .u64 0,.int .u64 0,.int .u64 0,.int .u64 0] 42)).setCells t.heap.size 0 (ws (0:Fin P))=G):=⟨_,rfl⟩
    rw[m.out] at q
    gi_wp2_with (refine wpListIn_store_mid rfl 42 _ _ rfl t.heap.size 0 (ws (0:Fin P)).toArray ?_ ?_ ?_ ?_ ?_ ?_;rfl;rfl;exact u.out;exact i85;kernel_rfl;rw[show (ws (0:Fin P)).toArray.toList=ws (0:Fin P) from rfl,m.out];refine Hid.out ?_)
    clear u g B N U m
    show wpListIn _ _ _ _ _ _ _ _
    gi_wp2_with fail
    refine ⟨⟨i+1,oM,rfl,?_,S.trans (q.mono S.size),Nat.le_trans hk q.size⟩,?_⟩
    ·rw[cands_succ,f.out]
     exact hJ _ wr _ none (by simpa using Q) (grown_b q.out none) (fun _ e=>by cases e)
    ·simp[intOf]
     omega
end
end Go.Proofs.YtlofhpkoaljmeaaGreat
