import Derived.Deep.LoopGhost
import Derived.Deep.AppendSrc
import Derived.Lib.ConvBytes
import Derived.OwnWalk
import Derived.Test.YtgbjainaafdpgaaGreatBt7
set_option linter.unusedVariables false
set_option linter.unusedSimpArgs false
set_option maxRecDepth 1000000
set_option maxHeartbeats 4000000
namespace Go.Proofs.YtgbjainaafdpgaaGreat
open Go.Proofs.Tryz (prog)
section
open Go.RowKit Go.Sort Go.Deep
variable {P:Nat}[NeZero P]{N:Nat}
theorem u22:(prog.underlying 22).map (·.isRow)=some false:=by kernel_rfl
theorem NH(k o n c i:Nat)(hi:i<n)(w:World):(Instr.indexAt 48 (.slice (some ⟨k,o,none⟩) n c) (.int .i64 i)).run prog w=.ok (.pointer (some ⟨k,o+i,none⟩)) w:=by
 have h1:¬(i:Int)<0:=by omega
 have h2:(i:Int)<n:=by omega
 go_simp
theorem OU(k o n c i:Nat)(hi:i<n)(w:World):(Instr.indexAt 147 (.slice (some ⟨k,o,none⟩) n c) (.int .i64 i)).run prog w=.ok (.pointer (some ⟨k,o+4*i,none⟩)) w:=by
 have h1:¬(i:Int)<0:=by omega
 have h2:(i:Int)<n:=by omega
 go_simp
theorem Oy(N:Nat)(hN:N<=512):∃C0:List Value,C0.length=4*N/\∀w:World,(Instr.makeSlice 147 (.int .i64 N) (.int .i64 N)).run prog w=.ok (.slice (some ⟨w.heap.size,0,none⟩) N N) (w.alloc (.cells C0.toArray 82)):=by
 have hu:prog.underlying 147=some (.slice 82):=by kernel_rfl
 have hi:(prog.info? 82).map (fun i=>(i.size,decide (i.bytes<=4000),i.zero.isSome))=some (4,true,true):=by kernel_rfl
 obtain⟨i,hi1,hi2⟩:=Option.map_eq_some_iff.1 hi;simp only[Prod.mk.injEq,decide_eq_true_eq]at hi2;obtain⟨h1,h2,h3⟩:=hi2;obtain⟨z,hz⟩:=Option.isSome_iff_exists.1 h3;refine⟨(madeCells z.cells (N*4)).toList,by rw[Array.length_toList,size_madeCells,Nat.mul_comm],fun w=>?_⟩;have hb:(i.bytes:Int)*(N:Int)<=281474976710656:=by
  have:i.bytes*N<=4000*512:=Nat.mul_le_mul h2 hN;have h5:((i.bytes*N:Nat):Int)<=281474976710656:=by omega
  rwa[Int.natCast_mul]at h5
 have:=run_make (P:=prog) w 147 82 i z hu hi1 hz .i64 .i64 (N:Int) (N:Int) (by omega) (by omega) hb (by omega);rw[Int.toNat_natCast,h1]at this;rw[Array.toArray_toList];exact this
def O7(N:Nat)(w:World)(n:Nat)(L:Nat->Bs)(e:Value)(w':World):Prop:=
 ((∃j,j<n/\rq N (L j)=none)/\Below w.heap.size w w'/\e=.tuple #[.slice none 0 0,.bool false]) \/
 ((∀j,j<n->(rq N (L j)).isSome=true)/\∃k C,RG.Made w k C w'/\Rows 4 n (fun j=>wn ((rq N (L j)).getD 0)) n C/\e=.tuple #[.slice (some ⟨k,0,none⟩) n n,.bool true])
theorem JL(O:Ord N)(n cap:Nat)(hn:n<=512)(q:Option Addr)(L:Nat->Bs)(w:World)(hA:Args w q n L):Calls prog 135 #[(.func (.func 46) #[] #[]),.slice q n cap] w (Ret fun e w'=>O7 N w n L e w'):=by
 obtain⟨C,hCl,hmk⟩:=Oy n hn;go_enter Tryz.func135,Tryz.ntmps135;refine RG.M.enter [(0,.v (.func (.func 46) #[] #[])),(1,.v (.slice q n cap))] 35 (by kernel_rfl) ?_;intro a0 M0;repeat refine wp_seq ?_
 refine M0.u [.x 4 [] (.slice none 0 0),.x 5 [] (.bool false)] [(0,(.v (.func (.func 46) #[] #[]))),(1,(.v (.slice q n cap)))] ⟨RG.st,RG.st,trivial⟩ ?_;intro a1 w1 M1;repeat refine wp_seq ?_
 refine M1.t [.x 11 [] (.slice q n cap),.x 12 [(11,0)] (.int .i64 n),⟨some 13,[(12,1)],(.s 0 n n),.make 0⟩,.s 6 [(13,2)] (.s 0 n n)] [(2,C)] [] [C] [(0,(.v (.func (.func 46) #[] #[]))),(1,(.v (.slice q n cap))),(6,(.s 0 n n))] ⟨RG.st,RG.st,RG.kA 0 rfl _ rfl 147 82 12 12 n rfl rfl RG.sx RG.sx (hmk),RG.st,trivial⟩ ?_;intro j2 a2 w2 M2;repeat refine wp_seq ?_
 refine M2.u [.x 14 [] (.slice q n cap),.x 15 [(14,0)] (.int .i64 n),.x 16 [] (.int .i64 0)] [(0,(.v (.func (.func 46) #[] #[]))),(6,(.s 0 n n)),(14,(.v (.slice q n cap))),(15,(.v (.int .i64 n))),(16,(.v (.int .i64 0)))] ⟨RG.st,RG.st,RG.st,trivial⟩ ?_;intro a3 w3 M3;repeat refine wp_seq ?_
 refine wp_block ?_;refine wp_loop_ghost (fun m a wr=>∃(i:Nat) (C:List Value) (kt:Nat),i+m=n/\(∀j,j<i->(rq N (L j)).isSome=true)/\Rows 4 n (fun j=>wn ((rq N (L j)).getD 0)) i C/\RG.M w w.heap.size [] 35 [C] [kt] [(0,.v (.func (.func 46) #[] #[])),(6,.s 0 n n),(14,.v (.slice q n cap)),(15,.v (.int .i64 n)),(16,.v (.int .i64 i))] a wr) n ⟨0,C,_,by omega,fun j hj=>by omega,⟨hCl,fun j r hj=>by omega⟩,M3⟩ ?_;clear hmk;intro m' a wr;rintro⟨i,C,kt,him,hall,hR,M20⟩;by_cases hi:i<n
 ·obtain⟨gg,hqe,hgg,hc⟩:=hA (by omega);subst hqe;obtain⟨v,hv,harg⟩:=hc i hi;have hcell:w.cell? ⟨gg,0+i,none⟩=some v:=by rw[Nat.zero_add];exact hv
  have hrd0:=fun w' (hb:RG.BelX w.heap.size [] w w')=>nE O v (L i) w' (harg.below hb.below)
  obtain⟨m,hm⟩:∃m,m=(rq N (L i)).getD 0:=⟨_,rfl⟩
  cases hok:(rq N (L i)).isSome with
  | true =>
   have hrd:∀w',RG.BelX w.heap.size [] w w'->Calls prog 46 #[v] w' (Ret fun e w''=>Below w'.heap.size w' w''/\e=.tuple #[nv m,.bool true]):=fun w' hb=>by
    have h:=hrd0 w' hb;rw[hok,<-hm]at h;exact h
   have hlen:=hR.len;have hoff:0+4*i+(wn m).length<=C.length:=by rw[hlen];show 0+4*i+4<=4*n;omega
   obtain⟨C2,hC2e⟩:∃c,RG.rep C (0+4*i) (wn m)=c:=⟨_,rfl⟩
   have hC2:=hC2e ▸ RG.rep_at hoff;have hcl:C2.length=C.length:=hC2e ▸ RG.cM hoff;have hR2:Rows 4 n (fun j=>wn ((rq N (L j)).getD 0)) (i+1) C2:=by
    have:=hR.next hi rfl;rw[<-hC2e,hm];exact this
   repeat refine wp_seq ?_
   refine M20.u [.x 17 [] (.bool true)] [(0,(.v (.func (.func 46) #[] #[]))),(6,(.s 0 n n)),(14,(.v (.slice (some ⟨gg,0,none⟩) n cap))),(15,(.v (.int .i64 n))),(16,(.v (.int .i64 i))),(17,(.v (.bool true)))] ⟨RG.aM rfl .lss 3 3 16 15 (.int .i64 i) (.int .i64 n) (.bool true) rfl rfl RG.sx RG.sx (fun w=>by kernel_rfl) (dK hi),trivial⟩ ?_;intro a21 w21 M21;repeat refine wp_seq ?_
   refine wp_cond_true M21.ev ?_;refine wp_skip ?_;refine wp_seq ?_;refine wp_block ?_;repeat refine wp_seq ?_
   refine M21.u [.x 18 [] (.int .i64 i),.x 19 [] (.pointer (some ⟨gg,(0+i),none⟩)),.x 20 [(19,1)] v,.x 7 [(18,0)] (.int .i64 i),.x 8 [(20,2)] v] [(0,(.v (.func (.func 46) #[] #[]))),(6,(.s 0 n n)),(7,(.v (.int .i64 i))),(8,(.v v)),(14,(.v (.slice (some ⟨gg,0,none⟩) n cap))),(15,(.v (.int .i64 n))),(16,(.v (.int .i64 i)))] ⟨RG.st,RG.aZ rfl 48 14 16 rfl (.v (.slice (some ⟨gg,0,none⟩) n cap)) (.int .i64 i) RG.sx RG.sx (fun μ w=>NH _ 0 _ _ i hi w),RG.bO rfl gg (0+i) hgg List.not_mem_nil 22 19 rfl v rfl RG.sx hcell u22,RG.st,RG.st,trivial⟩ ?_;intro a22 w22 M22;repeat refine wp_seq ?_
   refine M22.t [.x 22 [] (.func (.func 46) #[] #[]),.x 23 [] v,.c 24 [(22,0),(23,1)] (.tuple #[(nv m),(.bool true)]),.x 21 [(24,2)] (.tuple #[(nv m),(.bool true)]),.x 25 [(21,3)] (nv m),.x 26 [(21,3)] (.bool true),.m 9 [] 1,.u [(9,6),(25,4)] 1,.x 10 [(26,5)] (.bool true)] [(6,(RG.z 4))] [(1,7,(wn m))] [C,(wn m)] [(0,(.v (.func (.func 46) #[] #[]))),(6,(.s 0 n n)),(7,(.v (.int .i64 i))),(9,(.p 1 0)),(10,(.v (.bool true))),(14,(.v (.slice (some ⟨gg,0,none⟩) n cap))),(15,(.v (.int .i64 n))),(16,(.v (.int .i64 i)))] ⟨RG.st,RG.st,RG.clB (fun _ _=>by kernel_rfl) hrd,RG.st,RG.st,RG.st,RG.mk 1 82,RG.pt i40,RG.st,trivial⟩ ?_;intro j23 a23 w23 M23;repeat refine wp_seq ?_
   refine M23.u [.x 27 [] (.bool true),.x 28 [(27,0)] (.bool false)] [(0,(.v (.func (.func 46) #[] #[]))),(6,(.s 0 n n)),(7,(.v (.int .i64 i))),(9,(.p 1 0)),(14,(.v (.slice (some ⟨gg,0,none⟩) n cap))),(15,(.v (.int .i64 n))),(16,(.v (.int .i64 i))),(28,(.v (.bool false)))] ⟨RG.st,RG.st,trivial⟩ ?_;intro a24 w24 M24;repeat refine wp_seq ?_
   refine wp_cond_false M24.ev ?_;refine wp_skip ?_;repeat refine wp_seq ?_
   refine M24.tx [.s 29 [] (.s 0 n n),.x 30 [] (.int .i64 i),.x 31 [] (nv m),.s 32 [(29,0),(30,1)] (.p 0 (0+4*i)),.u [(32,3),(31,2)] 0] [] [(0,4,C2)] [C2,(wn m)] [(0,(.v (.func (.func 46) #[] #[]))),(6,(.s 0 n n)),(14,(.v (.slice (some ⟨gg,0,none⟩) n cap))),(15,(.v (.int .i64 n))),(16,(.v (.int .i64 i)))] (by kernel_rfl) (congrArg (fun n=>[n]) hcl) ⟨RG.st,RG.st,RG.ld u40 i40,RG.aZ rfl 147 29 30 rfl (.s 0 n n) (.int .i64 i) RG.sx RG.sx (fun μ w=>OU _ 0 _ _ i hi w),RG.dR 0 (0+4*i) rfl _ rfl 82 (.tmp 32) (.tmp 31) (wn m) rfl rfl RG.sx RG.sx hoff hC2 i40 rfl,trivial⟩ ?_;intro a25 w25 M25;repeat refine wp_seq ?_
   refine M25.u [.x 33 [] (.int .i64 ((i+1:Nat):Int)),.x 16 [(33,0)] (.int .i64 ((i+1:Nat):Int))] [(0,(.v (.func (.func 46) #[] #[]))),(6,(.s 0 n n)),(14,(.v (.slice (some ⟨gg,0,none⟩) n cap))),(15,(.v (.int .i64 n))),(16,(.v (.int .i64 ((i+1:Nat):Int))))] ⟨RG.aH rfl .add 3 3 16 (.int .i64 i) (.int .i64 1) (.int .i64 ((i+1:Nat):Int)) rfl rfl RG.sx (fun w=>by kernel_rfl) (oR i 1 (by omega) (by omega)),RG.st,trivial⟩ ?_;intro a26 w26 M26;show ∃n',_;exact⟨m'-1,by omega,i+1,C2,kt,by omega,fun j hj=>(by
    by_cases hji:j=i
    ·rw[hji];exact hok
    ·exact hall j (by omega)),hR2,RG.M.drop (cs:=[C2]) (cs2:=[_]) (ks:=[kt]) (ks2:=[_]) M26 rfl rfl⟩
  | false =>
   have hrd:∀w',RG.BelX w.heap.size [] w w'->Calls prog 46 #[v] w' (Ret fun e w''=>Below w'.heap.size w' w''/\e=.tuple #[nv m,.bool false]):=fun w' hb=>by
    have h:=hrd0 w' hb;rw[hok,<-hm]at h;exact h
   repeat refine wp_seq ?_
   refine M20.u [.x 17 [] (.bool true)] [(0,(.v (.func (.func 46) #[] #[]))),(14,(.v (.slice (some ⟨gg,0,none⟩) n cap))),(16,(.v (.int .i64 i))),(17,(.v (.bool true)))] ⟨RG.aM rfl .lss 3 3 16 15 (.int .i64 i) (.int .i64 n) (.bool true) rfl rfl RG.sx RG.sx (fun w=>by kernel_rfl) (dK hi),trivial⟩ ?_;intro a21 w21 M21;repeat refine wp_seq ?_
   refine wp_cond_true M21.ev ?_;refine wp_skip ?_;refine wp_seq ?_;refine wp_block ?_;repeat refine wp_seq ?_
   refine M21.u [.x 18 [] (.int .i64 i),.x 19 [] (.pointer (some ⟨gg,(0+i),none⟩)),.x 20 [(19,1)] v,.x 7 [(18,0)] (.int .i64 i),.x 8 [(20,2)] v] [(0,(.v (.func (.func 46) #[] #[]))),(8,(.v v))] ⟨RG.st,RG.aZ rfl 48 14 16 rfl (.v (.slice (some ⟨gg,0,none⟩) n cap)) (.int .i64 i) RG.sx RG.sx (fun μ w=>NH _ 0 _ _ i hi w),RG.bO rfl gg (0+i) hgg List.not_mem_nil 22 19 rfl v rfl RG.sx hcell u22,RG.st,RG.st,trivial⟩ ?_;intro a22 w22 M22;repeat refine wp_seq ?_
   refine M22.t [.x 22 [] (.func (.func 46) #[] #[]),.x 23 [] v,.c 24 [(22,0),(23,1)] (.tuple #[(nv m),(.bool false)]),.x 21 [(24,2)] (.tuple #[(nv m),(.bool false)]),.x 25 [(21,3)] (nv m),.x 26 [(21,3)] (.bool false),.m 9 [] 1,.u [(9,6),(25,4)] 1,.x 10 [(26,5)] (.bool false)] [(6,(RG.z 4))] [(1,7,(wn m))] [C,(wn m)] [(10,(.v (.bool false)))] ⟨RG.st,RG.st,RG.clB (fun _ _=>by kernel_rfl) hrd,RG.st,RG.st,RG.st,RG.mk 1 82,RG.pt i40,RG.st,trivial⟩ ?_;intro j23 a23 w23 M23;repeat refine wp_seq ?_
   refine M23.u [.x 27 [] (.bool false),.x 28 [(27,0)] (.bool true)] [(28,(.v (.bool true)))] ⟨RG.st,RG.st,trivial⟩ ?_;intro a24 w24 M24;repeat refine wp_seq ?_
   refine wp_cond_true M24.ev ?_;repeat refine wp_seq ?_
   refine M24.u [.x 4 [] (.slice none 0 0),.x 5 [] (.bool false)] [(4,(.v (.slice none 0 0))),(5,(.v (.bool false)))] ⟨RG.st,RG.st,trivial⟩ ?_;intro a25 w25 M25;refine wp_ret ?_;refine bodyPost_ret (v:=.tuple #[.slice none 0 0,.bool false]) (RG.cU 4 5 rfl (.slice none 0 0) (.bool false) M25.av M25.av) M25.sl.defers ?_;exact⟨_,rfl,Or.inl ⟨⟨i,hi,by simpa using hok⟩,M25.st.bel.below,rfl⟩⟩
 ·have hiN:i=n:=by omega
  rw[hiN]at hall hR;repeat refine wp_seq ?_
  refine M20.u [.x 17 [] (.bool false)] [(6,(.s 0 n n)),(17,(.v (.bool false)))] ⟨RG.aM rfl .lss 3 3 16 15 (.int .i64 i) (.int .i64 n) (.bool false) rfl rfl RG.sx RG.sx (fun w=>by kernel_rfl) (jW hi),trivial⟩ ?_;intro a21 w21 M21;repeat refine wp_seq ?_
  refine wp_cond_false M21.ev ?_;refine wp_exit ?_;dsimp only[Exit.then,Exit.inBlock];rw[if_pos rfl];repeat refine wp_seq ?_
  refine M21.u [.s 34 [] (.s 0 n n),.s 4 [(34,0)] (.s 0 n n),.x 5 [] (.bool true)] [(4,(.s 0 n n)),(5,(.v (.bool true)))] ⟨RG.st,RG.st,RG.st,trivial⟩ ?_;intro a22 w22 M22;refine wp_ret ?_;refine bodyPost_ret (v:=_) (RG.cU 4 5 rfl _ (.bool true) (M22.at (s:=.s 0 n n)) M22.av) M22.sl.defers ?_;exact⟨_,rfl,Or.inr ⟨hall,_,C,M22.st.made (b:=0) rfl,hR,rfl⟩⟩
end
section
open Go.RowKit Go.Sort Go.Deep
variable {P:Nat}[NeZero P]{N:Nat}
section
variable (w:World) (k6 k8 k9 k10 x kk c z B0:Nat) (X A B F G:Bs)
def RP8:Nat->Value->World->Prop
 | 0,v,_=>v=pvl X
 | 1,v,_=>v=nv x
 | 2,v,_=>v=pvl X
 | 3,v,_=>v=prv A B
 | 4,v,_=>v=nv kk
 | 5,v,_=>v=pvl X
 | 6,v,_=>v=prv F G
 | 7,v,_=>v=nv c
 | 8,v,W=>Nw B0 [.int .u64 0,.int .u64 0,.int .u64 0,.int .u64 0] v W
 | _,_,_=>True
def GP8:RG.Gw:=⟨RP8 x kk c B0 X A B F G,fun W=>Kp w W [(k9,wn kk),(k8,aA X),(k6,wn x)]/\B0<=W.heap.size,fun i v W W' hb h=>by
 match i,h with
 | 0,h=>exact h
 | 1,h=>exact h
 | 2,h=>exact h
 | 3,h=>exact h
 | 4,h=>exact h
 | 5,h=>exact h
 | 6,h=>exact h
 | 7,h=>exact h
 | 8,h=>exact Nw.grow h hb
 | _+9,_=>trivial,fun W W' hb h=>⟨h.1.grow hb,Nat.le_trans h.2 hb.size⟩⟩
def Twn(v:Value)(W:World):Prop:=∃k y0 y1,v=.slice (some ⟨k,0,none⟩) 2 2/\k<W.heap.size/\W.cell? ⟨k,0,none⟩=some y0/\W.cell? ⟨k,1,none⟩=some y1/\El 32 W y0 (bx c)/\El 32 W y1 (bx z)
def Anp(v:Value)(W:World):Prop:=W.ownsRow B0 5 1 v 64 (((bx c).toList++(bx z).toList).map encB)
def RP9:Nat->Value->World->Prop
 | 0,v,_=>v=nv c
 | 1,v,W=>El 32 W v (bx c)
 | 2,v,_=>v=nv c
 | 3,v,_=>v=nv kk
 | 4,v,_=>v=nv x
 | 5,v,_=>v=nv z
 | 6,v,W=>El 32 W v (bx z)
 | 7,v,W=>Twn c z v W
 | 8,v,W=>Anp c z B0 v W
 | 9,v,W=>Anp c z B0 v W
 | 10,v,_=>v=.int .i64 0
 | _,_,_=>True
theorem Anp.grow{v:Value}{W W':World}(h:Anp c z B0 v W)(hb:Below W.heap.size W W'):Anp c z B0 v W':=
 h.kept (row:=none) ⟨hb.os,hb.tape,hb.output,hb.size,fun k hk _=>hb.block k hk⟩ (by cases hv:v.ownBlock<;>simp)
theorem Twn.grow{v:Value}{W W':World}(h:Twn c z v W)(hb:Below W.heap.size W W'):Twn c z v W':=by
 obtain⟨k,y,y',h1,h2,h3,h4,h5,h6⟩:=h;exact⟨k,y,y',h1,Nat.lt_of_lt_of_le h2 hb.size,by rw[hb.cell (p:=⟨k,0,none⟩) h2];exact h3,by rw[hb.cell (p:=⟨k,1,none⟩) h2];exact h4,h5.below hb (Nat.le_refl _),h6.below hb (Nat.le_refl _)⟩
def GP9:RG.Gw:=⟨RP9 x kk c z B0,fun W=>Kp w W [(k10,wn c),(k9,wn kk),(k8,aA X),(k6,wn x)]/\B0<=W.heap.size,fun i v W W' hb h=>by
 match i,h with
 | 0,h=>exact h
 | 1,h=>exact El.below h hb (Nat.le_refl _)
 | 2,h=>exact h
 | 3,h=>exact h
 | 4,h=>exact h
 | 5,h=>exact h
 | 6,h=>exact El.below h hb (Nat.le_refl _)
 | 7,h=>exact Twn.grow c z h hb
 | 8,h=>exact Anp.grow c z B0 h hb
 | 9,h=>exact Anp.grow c z B0 h hb
 | 10,h=>exact h
 | _+11,_=>trivial,fun W W' hb h=>⟨h.1.grow hb,Nat.le_trans h.2 hb.size⟩⟩
end
theorem Ma(a b:Bs):gZ (fun j=>if j=0 then a else b) 2=a.toList++b.toList:=by
 rw[fZ,fZ];rfl
theorem el2{W:World}{y0 y1:Value}{a b:Bs}{k':Nat}(ha:a.size=32)(hb:b.size=32)(h2:W.cell? ⟨k',0,none⟩=some y0)(h3:W.cell? ⟨k',1,none⟩=some y1)(h4:El 32 W y0 a)(h5:El 32 W y1 b)(j:Nat)(hj:j<2):∃x,W.cell? ⟨k',j,none⟩=some x/\El ((fun j=>if j=0 then a else b) j).size W x ((fun j=>if j=0 then a else b) j):=by
 have hj2:j=0\/j=1:=by omega
 rcases hj2 with rfl|rfl
 ·refine⟨_,h2,?_⟩;show El a.size W y0 a;rw[ha];exact h4
 ·refine⟨_,h3,?_⟩;show El b.size W y1 b;rw[hb];exact h5
def Be:ByteArray:=⟨#[110,111,110,99,101,32,115,97,109,101]⟩
theorem IP(C:Fld P)(O:Ord N)(p0 p1:Option Addr)(n0 c0 n1 c1:Nat)(sk:Bs)(w:World)(hA:Arg w (.slice p0 n0 c0) sk)(h0:SP.PartOk w (.slice p0 n0 c0) sk.toList)(X:EC.Pt P)(hX:EC.On X)(hA1:Arg33 w (.slice p1 n1 c1) (wr X))(h1:SP.PartOk w (.slice p1 n1 c1) (wr X).toList)(hre:real P (wr X)=true)
 (x:Nat) (hx:rq N sk=some x) (hx0:x≠0) (kk c z:Nat) (hkk:chL N Be.data.toList [sk.toList,(wr X).toList]=kk)
 (hc:asm N (wr X).toList (wr (EC.mul x (gG P))).toList (wr (EC.mul x X)).toList (wr (EC.mul kk (gG P))).toList (wr (EC.mul kk X)).toList=c) (hz:sPl N kk (sTi N c x)=z) :
 Calls prog 54 #[.slice p0 n0 c0,.slice p1 n1 c1] w (Ret fun e w'=>Below w.heap.size w w'/\∃v,e=.tuple #[v,.int .i64 0]/\Anp c z w.heap.size v w'):=by
 have hxN:x<N:=by
  unfold rq at hx;split at hx
  ·rename_i h
   rw[<-Option.some.inj hx];exact h.2
  ·cases hx
 have hkN:kk<N:=by rw[<-hkk];exact Cp O _
 have hcN:c<N:=by rw[<-hc];exact BV O _ _ _ _ _
 have hR:=jC O (.slice p0 n0 c0) sk w hA;rw[hx]at hR;have e1:(!decide (x=0))=true:=by simp[hx0]
 rw[show(some x).getD 0=x from rfl,show((some x).isSome && !decide (x=0))=true by rw[e1];rfl]at hR;have HR:=Hid.mk' hR;have hrB:rdB P (wr X)=wr X:=by
  unfold rdB;unfold real at hre;rw[if_pos ((Bool.and_eq_true _ _).mp hre).1]
 have HS:Hid (∀W,Below w.heap.size w W->Calls prog 53 #[.slice p1 n1 c1] W (Ret fun e w'=>Below W.heap.size W w'/\e=.tuple #[pvl (wr X),.bool true])):=fun W hb=>by
  have:=nH C (.slice p1 n1 c1) (wr X) W (hA1.below hb);rw[hrB,hre]at this;exact this
 have HC:Hid (Ord N/\x<N/\kk<N/\c<N/\sPl N kk (sTi N c x)=z):=⟨O,hxN,hkN,hcN,hz⟩
 have HP:Hid (SP.PartOk w (.slice p0 n0 c0) sk.toList/\SP.PartOk w (.slice p1 n1 c1) (wr X).toList):=⟨h0,h1⟩
 have HK:=Hid.mk' hkk;have HP1:=Hid.mk' (yU C O hxN hX);have HP2:=Hid.mk' (yU C O hkN hX);have HQ:=Hid.mk' (Cn O (wr X) (wr (EC.mul x (gG P))) (wr (EC.mul x X)) (wr (EC.mul kk (gG P))) (wr (EC.mul kk X)) (aL _) (aL _) (aL _) (aL _) (aL _));rw[hc]at HQ;have HF:Hid ((wr X).size=33):=aL _;clear hc hkk hre hrB h1 hA1;generalize wr X=Y at HS HP HK HP1 HP2 HQ HF;generalize wr (EC.mul x (gG P))=A at HP1 HQ;generalize wr (EC.mul x X)=B at HP1 HQ;generalize wr (EC.mul kk (gG P))=F at HP2 HQ;generalize wr (EC.mul kk X)=G at HP2 HQ;clear C O hA h0 hx hx0 hz hxN hkN hcN hR e1 hX;obtain⟨vx,hvx⟩:∃v,Hid (nv x=v):=⟨_,rfl⟩
 rw[hvx.out]at HR;obtain⟨vY,hvY⟩:∃v,Hid (pvl Y=v):=⟨_,rfl⟩
 rw[hvY.out]at HS;obtain⟨d',hd3,hd4⟩:=Option.map_eq_some_iff.1 u40;have HD:Hid (prog.underlying 82=some d'/\d'.isRow=true):=⟨hd3,hd4⟩
 clear hd3 hd4;go_enter Tryz.func54,Tryz.ntmps54;go_wp2_with fail
 refine HR.out.mono ?_;rintro e w1 ⟨vv,rfl,hb1,rfl⟩;obtain⟨w2,hw2⟩:∃w2,Hid (w1.alloc (.cells #[.int .u64 0,.int .u64 0,.int .u64 0,.int .u64 0] 82)=w2):=⟨_,rfl⟩
 obtain⟨w3,hw3⟩:∃w3,Hid (w2.setCells w1.heap.size 0 (wn x)=w3):=⟨_,rfl⟩
 obtain⟨k6,hk6⟩:∃k6,Hid (w1.heap.size=k6):=⟨_,rfl⟩
 rw[hk6.out]at hw3;have F2:Hid (Row w2 k6 [.int .u64 0,.int .u64 0,.int .u64 0,.int .u64 0]/\Below w.heap.size w w2/\w.heap.size<=k6):=by
  rw[<-hw2.out,<-hk6.out];exact⟨aG w1 _ _,hb1.alloc hb1.size _,hb1.size⟩
 have K3:Hid (Kp w w3 [(k6,wn x)]):=by
  rw[<-hw3.out];exact⟨RG.below_setCells F2.out.2.2 _ _ _ F2.out.2.1,fun y hy=>by rw[show y=(k6,wn x) by simpa using hy];exact F2.out.1.put rfl⟩
 clear hb1 HR;go_wp2_with (first|(refine aJ (v:=.pointer (some ⟨k6,0,none⟩)) (w':=w2) rfl (.alloc 82) rfl ?_ ?_;(rw[<-hw2.out,<-hk6.out];kernel_rfl))|(refine wpList_store_mid rfl 82 _ _ rfl k6 0 (wn x).toArray ?_ ?_ ?_ ?_ ?_ ?_;rfl;exact hvx.out.symm;exact F2.out.1.2.2;exact i40;exact dI x;rw[show(wn x).toArray.toList=wn x from rfl,hw3.out])|fail)
 clear hw2 hw3 hk6 F2;refine(HS.out w3 K3.out.bl).mono ?_;rintro e v1 ⟨vv,rfl,hb1,rfl⟩;have K3b:Hid (Kp w v1 [(k6,wn x)]):=K3.out.grow hb1;clear hb1 HS;obtain⟨v2,hv2⟩:∃v2,Hid (v1.alloc (.cells z33.toArray 61)=v2):=⟨_,rfl⟩
 obtain⟨k8,hk8⟩:∃k8,Hid (v1.heap.size=k8):=⟨_,rfl⟩
 obtain⟨v3,hv3⟩:∃v3,Hid (v2.setCells k8 0 (aA Y)=v3):=⟨_,rfl⟩
 have hlen:(aA Y).length=33:=aC HF.out;have F3:Hid (Row v2 k8 z33/\Kp w v2 [(k6,wn x)]):=by
  rw[<-hv2.out,<-hk8.out];exact⟨aG v1 _ _,K3b.out.grow (aE _ _)⟩
 have K3c:Hid (Kp w v3 [(k8,aA Y),(k6,wn x)]):=by
  rw[<-hv3.out];refine F3.out.2.put F3.out.1 (by rw[hlen];rfl) (by rw[<-hk8.out];exact K3b.out.bl.size) fun y hy=>?_
  rw[show y=(k6,wn x) by simpa using hy,<-hk8.out];exact Nat.ne_of_lt (K3b.out.at 0 rfl).1
 have HI:Hid (v2.there k8 0 (aA Y).toArray.size/\(prog.info? 61).map (·.size)=some (aA Y).toArray.size/\(prog.info? 61).map (·.size)=some (aA Y).length):=by
  have e:(aA Y).toArray.size=33:=by rw[List.size_toArray];exact hlen
  rw[e,hlen];exact⟨F3.out.1.2.2,aI,aI⟩
 clear hlen F3 K3;go_wp2_with (first|(refine aJ (v:=.pointer (some ⟨k8,0,none⟩)) (w':=v2) rfl (.alloc 61) rfl ?_ ?_;(rw[<-hv2.out,<-hk8.out];kernel_rfl))|(refine wpList_store_mid rfl 61 _ _ rfl k8 0 (aA Y).toArray ?_ ?_ ?_ ?_ ?_ ?_;rfl;exact hvY.out.symm;exact HI.out.1;exact HI.out.2.1;exact bW Y;rw[show(aA Y).toArray.toList=aA Y from rfl,hv3.out])|fail)
 clear hv2 hv3 hk8 K3b;obtain⟨w4,hw4⟩:∃w4,Hid (v3.alloc (.cells #[.slice p0 n0 c0,.slice p1 n1 c1] 22)=w4):=⟨_,rfl⟩
 have hb4:Below v3.heap.size v3 w4:=by rw[<-hw4.out];exact aE _ _
 have K4:Hid (Kp w w4 [(k8,aA Y),(k6,wn x)]):=K3c.out.grow hb4;have HPs:Hid (SP.PartsOk w4 (some ⟨v3.heap.size,0,none⟩) [sk.toList,Y.toList]):=by
  refine Or.inr ⟨v3.heap.size,0,rfl,fun j hj=>?_⟩;have hM:w4.rangeAt v3.heap.size 0 [.slice p0 n0 c0,.slice p1 n1 c1]:=by rw[<-hw4.out];exact(RG.Made.alloc v3 [.slice p0 n0 c0,.slice p1 n1 c1] 22).range
  have hj2:j=0\/j=1:=by simp at hj;omega
  rcases hj2 with rfl|rfl
  ·exact⟨_,hM 0 _ rfl,HP.out.1.below K4.out.bl⟩
  ·exact⟨_,hM 1 _ rfl,HP.out.2.below K4.out.bl⟩
 rw[hw4.out];refine(Gy HC.out.1 Be (some ⟨v3.heap.size,0,none⟩) 2 2 [sk.toList,Y.toList] w4 (by decide) rfl (by decide) HPs.out).mono ?_;rintro e w5 ⟨vv,rfl,hb5,rfl⟩;rw[HK.out];have K5:Hid (Kp w w5 [(k8,aA Y),(k6,wn x)]):=K4.out.grow hb5;clear hb4 hb5 K3c K4 HPs hw4;obtain⟨vk,hvk⟩:∃v,Hid (nv kk=v):=⟨_,rfl⟩
 rw[hvk.out];obtain⟨w6,hw6⟩:∃w6,Hid (w5.alloc (.cells #[.int .u64 0,.int .u64 0,.int .u64 0,.int .u64 0] 82)=w6):=⟨_,rfl⟩
 obtain⟨k9,hk9⟩:∃k9,Hid (w5.heap.size=k9):=⟨_,rfl⟩
 obtain⟨w7,hw7⟩:∃w7,Hid (w6.setCells k9 0 (wn kk)=w7):=⟨_,rfl⟩
 have F6:Hid (Row w6 k9 [.int .u64 0,.int .u64 0,.int .u64 0,.int .u64 0]/\Kp w w6 [(k8,aA Y),(k6,wn x)]):=by
  rw[<-hw6.out,<-hk9.out];exact⟨aG w5 _ _,K5.out.grow (aE _ _)⟩
 have K7:Hid (Kp w w7 [(k9,wn kk),(k8,aA Y),(k6,wn x)]):=by
  rw[<-hw7.out];refine F6.out.2.put F6.out.1 rfl (by rw[<-hk9.out];exact K5.out.bl.size) fun y hy=>?_
  rw[<-hk9.out];exact Nat.ne_of_lt (K5.out.rw y hy).1
 go_wp2_with (first|(refine aJ (v:=.pointer (some ⟨k9,0,none⟩)) (w':=w6) rfl (.alloc 82) rfl ?_ ?_;(rw[<-hw6.out,<-hk9.out];kernel_rfl))|(refine wpList_store_mid rfl 82 _ _ rfl k9 0 (wn kk).toArray ?_ ?_ ?_ ?_ ?_ ?_;rfl;exact hvk.out.symm;exact F6.out.1.2.2;exact i40;exact dI kk;rw[show(wn kk).toArray.toList=wn kk from rfl,hw7.out])|fail)
 clear hw6 hw7 hk9 F6 K5;refine(GP8 w k6 k8 k9 x kk c w7.heap.size Y A B F G).last 9 (by kernel_rfl) (by kernel_rfl) (by kernel_rfl) ⟨
  RG.bJ 61 8 rfl uCP fun a W hp=>⟨k8,0,aA Y,hp.o 8 (by kernel_rfl),(hp.b.1.at 1 rfl).2.1,HI.out.2.2,rfl⟩,
  RG.bJ 82 6 rfl u40 fun a W hp=>⟨k6,0,wn x,hp.o 6 (by kernel_rfl),(hp.b.1.at 2 rfl).2.1,i40,rfl⟩,
  RG.bJ 61 8 rfl uCP fun a W hp=>⟨k8,0,aA Y,hp.o 8 (by kernel_rfl),(hp.b.1.at 1 rfl).2.1,HI.out.2.2,rfl⟩,
  RG.bG fun a W hp=>⟨[(30,nv x),(31,pvl Y)],90,#[nv x,pvl Y],⟨hp.n 1 30 (by kernel_rfl) (by kernel_rfl),hp.n 2 31 (by kernel_rfl) (by kernel_rfl),trivial⟩,by kernel_rfl,by
   refine(HP1.out W).mono ?_;rintro e W' ⟨u,rfl,hb,rfl⟩;exact⟨_,rfl,hb,rfl⟩⟩,
  RG.bJ 82 9 rfl u40 fun a W hp=>⟨k9,0,wn kk,hp.o 9 (by kernel_rfl),(hp.b.1.at 0 rfl).2.1,i40,rfl⟩,
  RG.bJ 61 8 rfl uCP fun a W hp=>⟨k8,0,aA Y,hp.o 8 (by kernel_rfl),(hp.b.1.at 1 rfl).2.1,HI.out.2.2,rfl⟩,
  RG.bG fun a W hp=>⟨[(33,nv kk),(34,pvl Y)],90,#[nv kk,pvl Y],⟨hp.n 4 33 (by kernel_rfl) (by kernel_rfl),hp.n 5 34 (by kernel_rfl) (by kernel_rfl),trivial⟩,by kernel_rfl,by
   refine(HP2.out W).mono ?_;rintro e W' ⟨u,rfl,hb,rfl⟩;exact⟨_,rfl,hb,rfl⟩⟩,
  RG.bG fun a W hp=>⟨[(29,pvl Y),(32,prv A B),(35,prv F G)],89,#[pvl Y,prv A B,prv F G],⟨hp.n 0 29 (by kernel_rfl) (by kernel_rfl),hp.n 3 32 (by kernel_rfl) (by kernel_rfl),hp.n 6 35 (by kernel_rfl) (by kernel_rfl),trivial⟩,by kernel_rfl,by
   refine(HQ.out W).mono ?_;rintro e W' ⟨u,rfl,hb,rfl⟩;exact⟨_,rfl,hb,rfl⟩⟩,
  RG.aK fun a W hp=>⟨[],.pointer (some ⟨W.heap.size,0,none⟩),W.alloc (.cells #[.int .u64 0,.int .u64 0,.int .u64 0,.int .u64 0] 82),trivial,by kernel_rfl,aE _ _,W.heap.size,rfl,hp.b.2,aG W _ _⟩,trivial⟩ ⟨K7.out.drew,Nat.le_refl _⟩ ?_
 intro V wa hRa hBa;obtain⟨k10,hk10,hk10b,hk10r⟩:=show Nw w7.heap.size [.int .u64 0,.int .u64 0,.int .u64 0,.int .u64 0] (V 8) wa from hRa 8 (by decide)
 have hV7:V 7=nv c:=hRa 7 (by decide);dsimp only[RG.eK,Nat.reduceAdd,List.take,List.drop];obtain⟨vc,hvc⟩:∃v,Hid (nv c=v):=⟨_,rfl⟩
 rw[hk10,hV7,hvc.out];generalize V 0=s0;generalize V 1=s1;generalize V 2=s2;generalize V 3=s3;generalize V 4=s4;generalize V 5=s5;generalize V 6=s6;obtain⟨wb,hwb⟩:∃wb,Hid (wa.setCells k10 0 (wn c)=wb):=⟨_,rfl⟩
 have HBa:Hid (Kp w wa [(k9,wn kk),(k8,aA Y),(k6,wn x)]/\w7.heap.size<=wa.heap.size):=hBa;have Kb:Hid (Kp w wb [(k10,wn c),(k9,wn kk),(k8,aA Y),(k6,wn x)]):=by
  rw[<-hwb.out];refine HBa.out.1.put hk10r rfl (Nat.le_trans K7.out.bl.size hk10b) fun y hy=>?_
  have h8:=(K7.out.rw y hy).1;omega
 have HJ:Hid (wa.there k10 0 [Value.int .u64 0,.int .u64 0,.int .u64 0,.int .u64 0].length):=hk10r.2.2;clear hRa hBa hk10 hk10b hk10r hV7 HBa K7 V;simp only[Act.put,List.setIfInBounds_toArray,List.set_cons_succ,List.set_cons_zero];go_wp2_with (first|(refine wpList_store_mid rfl 82 _ _ rfl k10 0 (wn c).toArray ?_ ?_ ?_ ?_ ?_ ?_;rfl;exact hvc.out.symm;exact HJ.out;exact i40;exact dI c;rw[show(wn c).toArray.toList=wn c from rfl,hwb.out])|fail)
 clear hwb HJ;refine(GP9 w k6 k8 k9 k10 x kk c z w.heap.size Y).draws (by kernel_rfl) (by kernel_rfl) ⟨
  RG.bJ 82 10 rfl u40 fun a W hp=>⟨k10,0,wn c,hp.o 10 (by kernel_rfl),(hp.b.1.at 0 rfl).2.1,i40,rfl⟩,
  RG.bG fun a W hp=>⟨[(37,nv c)],87,#[nv c],⟨hp.n 0 37 (by kernel_rfl) (by kernel_rfl),trivial⟩,by kernel_rfl,by
   refine(rM HC.out.1 HC.out.2.2.2.1 W).mono ?_;rintro e W' ⟨u,rfl,k',hm,rfl⟩;exact⟨_,rfl,hm.bel,El.of_made hm (bK c)⟩⟩,
  RG.bJ 82 10 rfl u40 fun a W hp=>⟨k10,0,wn c,hp.o 10 (by kernel_rfl),(hp.b.1.at 0 rfl).2.1,i40,rfl⟩,
  RG.bJ 82 9 rfl u40 fun a W hp=>⟨k9,0,wn kk,hp.o 9 (by kernel_rfl),(hp.b.1.at 1 rfl).2.1,i40,rfl⟩,
  RG.bJ 82 6 rfl u40 fun a W hp=>⟨k6,0,wn x,hp.o 6 (by kernel_rfl),(hp.b.1.at 3 rfl).2.1,i40,rfl⟩,
  RG.bG fun a W hp=>⟨[(39,nv c),(40,nv kk),(41,nv x)],92,#[nv c,nv kk,nv x],⟨hp.n 2 39 (by kernel_rfl) (by kernel_rfl),hp.n 3 40 (by kernel_rfl) (by kernel_rfl),hp.n 4 41 (by kernel_rfl) (by kernel_rfl),trivial⟩,by kernel_rfl,by
   refine(GU HC.out.1 HC.out.2.2.2.1 HC.out.2.2.1 HC.out.2.1 W).mono ?_;rintro e W' ⟨u,rfl,hb,rfl⟩;exact⟨_,rfl,hb,by rw[HC.out.2.2.2.2];rfl⟩⟩,
  RG.bG fun a W hp=>⟨[(42,nv z)],87,#[nv z],⟨hp.n 5 42 (by kernel_rfl) (by kernel_rfl),trivial⟩,by kernel_rfl,by
   refine(rM HC.out.1 (by rw[<-HC.out.2.2.2.2];exact Nat.mod_lt _ HC.out.1.pos) W).mono ?_;rintro e W' ⟨u,rfl,k',hm,rfl⟩;exact⟨_,rfl,hm.bel,El.of_made hm (bK z)⟩⟩,
  RG.aK fun a W hp=>⟨[(38,a.eval (.tmp 38)),(43,a.eval (.tmp 43))],.slice (some ⟨W.heap.size,0,none⟩) 2 2,W.alloc (.cells #[a.eval (.tmp 38),a.eval (.tmp 43)] 22),⟨rfl,rfl,trivial⟩,by
   obtain⟨k',c',he,-⟩:=show El 32 W (a.eval (.tmp 38)) (bx c) from hp.n 1 38 (by kernel_rfl) (by kernel_rfl)
   obtain⟨k2,c2,he2,-⟩:=show El 32 W (a.eval (.tmp 43)) (bx z) from hp.n 6 43 (by kernel_rfl) (by kernel_rfl)
   rw[he,he2];kernel_rfl,aE _ _,by
   have hE:=show El 32 W (a.eval (.tmp 38)) (bx c) from hp.n 1 38 (by kernel_rfl) (by kernel_rfl)
   have hE2:=show El 32 W (a.eval (.tmp 43)) (bx z) from hp.n 6 43 (by kernel_rfl) (by kernel_rfl)
   refine⟨W.heap.size,a.eval (.tmp 38),a.eval (.tmp 43),rfl,by rw[World.size_alloc];omega,by rw[World.cell?_alloc_new];rfl,by rw[World.cell?_alloc_new];rfl,hE.below (aE _ _) (Nat.le_refl _),hE2.below (aE _ _) (Nat.le_refl _)⟩⟩,
  RG.bG fun a W hp=>⟨[(44,a.eval (.tmp 44))],91,#[a.eval (.tmp 44)],⟨rfl,trivial⟩,by kernel_rfl,by
   obtain⟨k',y0,y1,he,h1,h2,h3,h4,h5⟩:=show Twn c z (a.eval (.tmp 44)) W from hp.n 7 44 (by kernel_rfl) (by kernel_rfl)
   rw[he];refine(Gx k' 2 2 (fun j=>if j=0 then bx c else bx z) (by decide) (fun j hj=>?_) W h1 (fun j hj=>?_)).mono ?_
   ·show(if j=0 then bx c else bx z).size<=_;rw[apply_ite Array.size,bK,bK,ite_self];decide
   ·exact el2 (bK c) (bK z) h2 h3 h4 h5 j hj
   ·rintro e W' ⟨u,rfl,hb,ho⟩;refine⟨_,rfl,hb,?_⟩;have e1:=Ma (bx c) (bx z);rw[e1]at ho;have e2:((bx c).toList++(bx z).toList).length=64:=by
     rw[List.length_append,show(bx c).toList.length=32 from bK c,show(bx z).toList.length=32 from bK z]
    rw[e2]at ho;exact⟨ho.1,ho.2.imp id fun⟨g,cap,cur,q1,q2,q3⟩=>⟨g,cap,cur,q1,Nat.le_trans hp.b.2 q2,q3⟩⟩⟩,
  RG.aK fun a W hp=>⟨[(45,a.eval (.tmp 45))],a.eval (.tmp 45),W,⟨rfl,trivial⟩,by kernel_rfl,Below.refl _ _,hp.n 8 45 (by kernel_rfl) (by kernel_rfl)⟩,
  RG.aK fun a W hp=>⟨[],.int .i64 0,W,trivial,by kernel_rfl,Below.refl _ _,rfl⟩,trivial⟩ ⟨Kb.out.drew,Kb.out.bl.size⟩ ?_
 intro V wc hRc hBc;have hV10:V 10=.int .i64 0:=hRc 10 (Nat.lt_of_succ_le (Nat.le_of_ble_eq_true (by kernel_rfl)));have HA9:Hid (Anp c z w.heap.size (V 9) wc):=hRc 9 (Nat.lt_of_succ_le (Nat.le_of_ble_eq_true (by kernel_rfl)));have HBc:Hid (Below w.heap.size w wc):=hBc.1.bl;dsimp only[RG.eK,Nat.reduceAdd];simp only[Act.put,List.setIfInBounds_toArray,List.set_cons_succ,List.set_cons_zero];rw[hV10];generalize V 9=s9 at HA9⊢;clear hRc hBc Kb;go_wp2
 go_ret2
 exact⟨_,rfl,HBc.out,s9,rfl,HA9.out⟩
end
section
open Go.RowKit Go.Sort Go.Deep
variable {P:Nat}[NeZero P]{N:Nat}
theorem Fv(O:Ord N)(p0 p1:Option Addr)(n0 c0 n1 c1:Nat)(sk:Bs)(w:World)(hA:Arg w (.slice p0 n0 c0) sk)(hx:((rq N sk).isSome && !decide ((rq N sk).getD 0=0))=false):
 Calls prog 54 #[.slice p0 n0 c0,.slice p1 n1 c1] w (Ret fun e w'=>Below w.heap.size w w'/\e=.tuple #[.slice none 0 0,.int .i64 3]):=by
 have hR:=jC O (.slice p0 n0 c0) sk w hA;rw[hx]at hR;have HR:=Hid.mk' hR;obtain⟨x,hxe⟩:∃x,Hid ((rq N sk).getD 0=x):=⟨_,rfl⟩
 rw[hxe.out]at HR;obtain⟨vx,hvx⟩:∃v,Hid (nv x=v):=⟨_,rfl⟩
 rw[hvx.out]at HR;clear O hA hR hx hxe;go_enter Tryz.func54,Tryz.ntmps54;go_wp2_with fail
 refine HR.out.mono ?_;rintro e w1 ⟨vv,rfl,hb1,rfl⟩;obtain⟨w2,hw2⟩:∃w2,Hid (w1.alloc (.cells #[.int .u64 0,.int .u64 0,.int .u64 0,.int .u64 0] 82)=w2):=⟨_,rfl⟩
 obtain⟨k6,hk6⟩:∃k6,Hid (w1.heap.size=k6):=⟨_,rfl⟩
 obtain⟨w3,hw3⟩:∃w3,Hid (w2.setCells k6 0 (wn x)=w3):=⟨_,rfl⟩
 have F2:Hid (Row w2 k6 [.int .u64 0,.int .u64 0,.int .u64 0,.int .u64 0]/\Below w.heap.size w w2/\w.heap.size<=k6):=by
  rw[<-hw2.out,<-hk6.out];exact⟨aG w1 _ _,hb1.alloc hb1.size _,hb1.size⟩
 have K3:Hid (Below w.heap.size w w3):=by
  rw[<-hw3.out];exact RG.below_setCells F2.out.2.2 _ _ _ F2.out.2.1
 clear hb1 HR;go_wp2_with (first|(refine aJ (v:=.pointer (some ⟨k6,0,none⟩)) (w':=w2) rfl (.alloc 82) rfl ?_ ?_;(rw[<-hw2.out,<-hk6.out];kernel_rfl))|(refine wpList_store_mid rfl 82 _ _ rfl k6 0 (wn x).toArray ?_ ?_ ?_ ?_ ?_ ?_;rfl;exact hvx.out.symm;exact F2.out.1.2.2;exact i40;exact dI x;rw[show(wn x).toArray.toList=wn x from rfl,hw3.out])|fail)
 go_ret2
 exact⟨_,rfl,K3.out,rfl⟩
theorem Fu(C:Fld P)(O:Ord N)(p0 p1:Option Addr)(n0 c0 n1 c1:Nat)(sk bb:Bs)(w:World)(hA:Arg w (.slice p0 n0 c0) sk)(hA1:Arg33 w (.slice p1 n1 c1) bb)(hx:((rq N sk).isSome && !decide ((rq N sk).getD 0=0))=true)(hre:real P bb=false):
 Calls prog 54 #[.slice p0 n0 c0,.slice p1 n1 c1] w (Ret fun e w'=>Below w.heap.size w w'/\e=.tuple #[.slice none 0 0,.int .i64 4]):=by
 have hR:=jC O (.slice p0 n0 c0) sk w hA;rw[hx]at hR;have HR:=Hid.mk' hR;have HS:Hid (∀W,Below w.heap.size w W->Calls prog 53 #[.slice p1 n1 c1] W (Ret fun e w'=>Below W.heap.size W w'/\e=.tuple #[pvl (rdB P bb),.bool false])):=fun W hb=>by
  have:=nH C (.slice p1 n1 c1) bb W (hA1.below hb);rw[hre]at this;exact this
 have HF:Hid ((rdB P bb).size=33):=rP bb;generalize rdB P bb=Y at HS HF;obtain⟨x,hxe⟩:∃x,Hid ((rq N sk).getD 0=x):=⟨_,rfl⟩
 rw[hxe.out]at HR;obtain⟨vx,hvx⟩:∃v,Hid (nv x=v):=⟨_,rfl⟩
 rw[hvx.out]at HR;obtain⟨vY,hvY⟩:∃v,Hid (pvl Y=v):=⟨_,rfl⟩
 rw[hvY.out]at HS;clear C O hA hA1 hR hx hxe hre;go_enter Tryz.func54,Tryz.ntmps54;go_wp2_with fail
 refine HR.out.mono ?_;rintro e w1 ⟨vv,rfl,hb1,rfl⟩;obtain⟨w2,hw2⟩:∃w2,Hid (w1.alloc (.cells #[.int .u64 0,.int .u64 0,.int .u64 0,.int .u64 0] 82)=w2):=⟨_,rfl⟩
 obtain⟨k6,hk6⟩:∃k6,Hid (w1.heap.size=k6):=⟨_,rfl⟩
 obtain⟨w3,hw3⟩:∃w3,Hid (w2.setCells k6 0 (wn x)=w3):=⟨_,rfl⟩
 have F2:Hid (Row w2 k6 [.int .u64 0,.int .u64 0,.int .u64 0,.int .u64 0]/\Below w.heap.size w w2/\w.heap.size<=k6):=by
  rw[<-hw2.out,<-hk6.out];exact⟨aG w1 _ _,hb1.alloc hb1.size _,hb1.size⟩
 have K3:Hid (Below w.heap.size w w3):=by
  rw[<-hw3.out];exact RG.below_setCells F2.out.2.2 _ _ _ F2.out.2.1
 clear hb1 HR;go_wp2_with (first|(refine aJ (v:=.pointer (some ⟨k6,0,none⟩)) (w':=w2) rfl (.alloc 82) rfl ?_ ?_;(rw[<-hw2.out,<-hk6.out];kernel_rfl))|(refine wpList_store_mid rfl 82 _ _ rfl k6 0 (wn x).toArray ?_ ?_ ?_ ?_ ?_ ?_;rfl;exact hvx.out.symm;exact F2.out.1.2.2;exact i40;exact dI x;rw[show(wn x).toArray.toList=wn x from rfl,hw3.out])|fail)
 clear hw2 hw3 hk6 F2;refine(HS.out w3 K3.out).mono ?_;rintro e v1 ⟨vv,rfl,hb1,rfl⟩;have K3b:Hid (Below w.heap.size w v1):=K3.out.trans (hb1.mono K3.out.size);clear hb1 HS;obtain⟨v2,hv2⟩:∃v2,Hid (v1.alloc (.cells z33.toArray 61)=v2):=⟨_,rfl⟩
 obtain⟨k8,hk8⟩:∃k8,Hid (v1.heap.size=k8):=⟨_,rfl⟩
 obtain⟨v3,hv3⟩:∃v3,Hid (v2.setCells k8 0 (aA Y)=v3):=⟨_,rfl⟩
 have hlen:(aA Y).length=33:=aC HF.out;have F3:Hid (Row v2 k8 z33/\Below w.heap.size w v2/\w.heap.size<=k8):=by
  rw[<-hv2.out,<-hk8.out];exact⟨aG v1 _ _,K3b.out.alloc K3b.out.size _,K3b.out.size⟩
 have K3c:Hid (Below w.heap.size w v3):=by
  rw[<-hv3.out];exact RG.below_setCells F3.out.2.2 _ _ _ F3.out.2.1
 have HI:Hid (v2.there k8 0 (aA Y).toArray.size/\(prog.info? 61).map (·.size)=some (aA Y).toArray.size):=by
  have e:(aA Y).toArray.size=33:=by rw[List.size_toArray];exact hlen
  rw[e];exact⟨F3.out.1.2.2,aI⟩
 clear hlen F3 K3;go_wp2_with (first|(refine aJ (v:=.pointer (some ⟨k8,0,none⟩)) (w':=v2) rfl (.alloc 61) rfl ?_ ?_;(rw[<-hv2.out,<-hk8.out];kernel_rfl))|(refine wpList_store_mid rfl 61 _ _ rfl k8 0 (aA Y).toArray ?_ ?_ ?_ ?_ ?_ ?_;rfl;exact hvY.out.symm;exact HI.out.1;exact HI.out.2;exact bW Y;rw[show(aA Y).toArray.toList=aA Y from rfl,hv3.out])|fail)
 go_ret2
 exact⟨_,rfl,K3c.out,rfl⟩
end
section
open Go.RowKit Go.Sort Go.Deep
variable {P:Nat}[NeZero P]{N:Nat}
theorem Lp(O:Ord N){a:Nat}(ha:a<N):Gives 96 #[nv a] (nv (sMi N 0 a)):=by
 intro w;have h:=KX O 0 a O.pos ha;generalize sMi N 0 a=m at h⊢;go_enter Tryz.func96,Tryz.ntmps96;refine RG.M.enter [(0,.v (nv a))] 6 (by kernel_rfl) ?_;intro a0 M0;repeat refine wp_seq ?_
 refine M0.t [.m 1 [] 0,.m 2 [] 1] [(0,wn a),(1,RG.z 4)] [] [wn a,RG.z 4] [(1,.p 0 0),(2,.p 1 0)] ⟨RG.mk 0 82,RG.mk 1 82,trivial⟩ ?_;intro j1 j2 a1 w1 M1;repeat refine wp_seq ?_
 refine M1.t [.x 3 [] (nv 0),.x 4 [] (nv a),.c 5 [(3,0),(4,1)] (nv m),.u [(5,2)] 1] [] [(1,3,wn m)] [wn a,wn m] [(2,.p 1 0)] ⟨RG.st,RG.ld u40 i40,RG.cl h,RG.pt i40,trivial⟩ ?_;intro a2 w2 M2;refine wp_ret ?_;refine bodyPost_ret (v:=nv m) (RG.aD M2.st 2 82 rfl 1 _ rfl (M2.at (s:=(.p 1 0))) u40 i40) M2.sl.defers ?_;exact⟨_,rfl,M2.st.bel.below,rfl⟩
theorem Ox(N:Nat)(hN:N<=512):∃C0:List Value,C0.length=37*N/\∀w:World,(Instr.makeSlice 86 (.int .i64 N) (.int .i64 N)).run prog w=.ok (.slice (some ⟨w.heap.size,0,none⟩) N N) (w.alloc (.cells C0.toArray 138)):=by
 have hi:(prog.info? 138).map (fun i=>(i.size,decide (i.bytes<=4000),i.zero.isSome))=some (37,true,true):=by kernel_rfl
 obtain⟨i,hi1,hi2⟩:=Option.map_eq_some_iff.1 hi;simp only[Prod.mk.injEq,decide_eq_true_eq]at hi2;obtain⟨h1,h2,h3⟩:=hi2;obtain⟨z,hz⟩:=Option.isSome_iff_exists.1 h3;refine⟨(madeCells z.cells (N*37)).toList,by rw[Array.length_toList,size_madeCells,Nat.mul_comm],fun w=>?_⟩;have hb:(i.bytes:Int)*(N:Int)<=281474976710656:=by
  have:i.bytes*N<=4000*512:=Nat.mul_le_mul h2 hN;have h5:((i.bytes*N:Nat):Int)<=281474976710656:=by omega
  rwa[Int.natCast_mul]at h5
 have:=run_make (P:=prog) w 86 138 i z Dt hi1 hz .i64 .i64 (N:Int) (N:Int) (by omega) (by omega) hb (by omega);rw[Int.toNat_natCast,h1]at this;rw[Array.toArray_toList];exact this
theorem Ed{W:World}{g:Nat}{l:List (Nat × Bs)}(h33:∀x∈l.map (·.2),x.size=33)(hr:W.rangeAt g 0 (aV l))(j:Nat)(hj:j<l.length):W.rangeAt g (37*j) (wn (l[j]).1++aA (l[j]).2):=fun t u hu=>by
 have ht:t<37:=by
  have:=(List.getElem?_eq_some_iff.1 hu).1;rw[eW (h33 _ (List.mem_map.2 ⟨_,List.getElem_mem hj,rfl⟩))]at this;exact this
 have:=hr (37*j+t) u (by rw[jK l h33 j hj t ht];exact hu);rw[Nat.zero_add]at this;exact this
theorem AP{W:World}{g:Nat}{l:List (Nat × Bs)}(h33:∀x∈l.map (·.2),x.size=33)(hr:∀j (hj:j<l.length),W.rangeAt g (37*j) (wn (l[j]).1++aA (l[j]).2)):W.rangeAt g 0 (aV l):=fun t u hu=>by
 have hlen:t<l.length*37:=by
  have:=(List.getElem?_eq_some_iff.1 hu).1;rwa[mY fun x hx=>h33 _ (List.mem_map.2 ⟨x,hx,rfl⟩)]at this
 have hj:t/37<l.length:=Nat.div_lt_of_lt_mul (by omega);have ht:t%37<37:=Nat.mod_lt _ (by decide);have e:37*(t/37)+t%37=t:=Nat.div_add_mod _ _;have h2:=jK l h33 (t/37) hj (t%37) ht;rw[e,hu]at h2;have:=hr (t/37) hj (t%37) u h2.symm;rw[e]at this;rw[Nat.zero_add];exact this
def tmT(N n:Nat)(x:Nat × Bs):Nat × Bs:=(sTi N n x.1,x.2)
structure Tz(w W:World)(N n K k3 i:Nat)(l:List (Nat × Bs)):Prop where
 bl:Below w.heap.size w W
 lt:K<W.heap.size
 ne:k3≠K
 th:W.there K 0 (37*l.length)
 r3:Row W k3 (wn n)
 rw:∀j (hj:j<l.length),j<i->W.rangeAt K (37*j) (wn (tmT N n (l[j])).1++aA (tmT N n (l[j])).2)
theorem Tz.grow{w W W':World}{n K k3 i:Nat}{l:List (Nat × Bs)}(h:Tz w W N n K k3 i l)(hb:Below W.heap.size W W'):Tz w W' N n K k3 i l:=
 ⟨h.bl.trans (hb.mono h.bl.size),Nat.lt_of_lt_of_le h.lt hb.size,h.ne,RG.dV h.th hb h.lt,h.r3.below hb,fun j hj hji=>RG.aO (h.rw j hj hji) hb h.lt⟩
theorem Tz.drew{w W:World}{n K k3 i:Nat}{l:List (Nat × Bs)}(h:Tz w W N n K k3 i l):Tz w W.drew N n K k3 i l:=⟨h.bl.drew,h.lt,h.ne,h.th,h.r3,h.rw⟩
theorem Tz.put{w W:World}{n K k3 i:Nat}{l:List (Nat × Bs)}(h:Tz w W N n K k3 i l)(hK:w.heap.size<=K)(hi:i<l.length)(h33:∀x∈l.map (·.2),x.size=33):Tz w (W.setCells K (37*i) (wn (tmT N n (l[i])).1++aA (tmT N n (l[i])).2)) N n K k3 (i+1) l:=by
 have hsz:∀(j:Nat) (hj:j<l.length),(wn (tmT N n (l[j])).1++aA (tmT N n (l[j])).2).length=37:=fun j hj=>eW (h33 _ (List.mem_map.2 ⟨_,List.getElem_mem hj,rfl⟩))
 refine⟨RG.below_setCells hK _ _ _ h.bl,by rw[RG.setCells_size];exact h.lt,h.ne,World.there_setCells h.th _ _ _,⟨by rw[RG.setCells_size];exact h.r3.1,World.rangeAt_setCells_apart h.r3.2.1 K _ _ (Or.inl h.ne),World.there_setCells h.r3.2.2 _ _ _⟩,fun j hj hji=>?_⟩;by_cases e:j=i
 ·subst e;refine World.rangeAt_setCells_same W K _ _ fun t ht=>?_
  rw[hsz j hj]at ht;have:=h.th (37*j+t) (by omega);rwa[Nat.zero_add]at this
 ·exact World.rangeAt_setCells_apart (h.rw j hj (by omega)) K _ _ (Or.inr (Or.inl (by rw[hsz j hj];omega)))
section
variable (w:World) (n K k3 k7 i s m:Nat) (p:Bs) (l:List (Nat × Bs))
def Rt:Nat->Value->World->Prop
 | 0,v,_=>v=.slice (some ⟨K,0,none⟩) l.length l.length
 | 1,v,_=>v=.int .i64 i
 | 2,v,_=>v=nv n
 | 3,v,_=>v=.pointer (some ⟨k7,0,none⟩)
 | 4,v,_=>v=nv s
 | 5,v,_=>v=nv m
 | 6,v,_=>v=.pointer (some ⟨k7,4,none⟩)
 | 7,v,_=>v=pvl p
 | 8,v,_=>v=tvl m p
 | 9,v,_=>v=.pointer (some ⟨K,0+37*i,none⟩)
 | _,_,_=>True
def Gt(N:Nat):RG.Gw:=⟨Rt n K k7 i s m p l,fun W=>Tz w W N n K k3 i l/\Row W k7 (wn s++aA p),fun j v W W' hb h=>by
 match j,h with
 | 0,h=>exact h
 | 1,h=>exact h
 | 2,h=>exact h
 | 3,h=>exact h
 | 4,h=>exact h
 | 5,h=>exact h
 | 6,h=>exact h
 | 7,h=>exact h
 | 8,h=>exact h
 | 9,h=>exact h
 | _+10,_=>trivial,fun W W' hb h=>⟨h.1.grow hb,h.2.below hb⟩⟩
end
theorem AG(O:Ord N){n:Nat}(hn:n<N)(B:Nat)(s:Value)(l:List (Nat × Bs))(hl:l.length<=512)(h33:∀x∈l.map (·.2),x.size=33)(hlN:∀x∈l,x.1<N)(w:World)(hS:Sm B w s l):
 Calls prog 95 #[s,nv n] w (Ret fun e w'=>Below w.heap.size w w'/\Sm w.heap.size w' e (l.map (tmT N n))):=by
 obtain⟨g,c,rfl,hc,-,hg,hr⟩:=hS;have HB:=Hid.mk' (boxS n w);obtain⟨w1,hw1⟩:∃w1,Hid (w.alloc (.cells (wn n).toArray 82)=w1):=⟨_,rfl⟩
 rw[hw1.out]at HB;obtain⟨k3,hk3⟩:∃k,Hid (w.heap.size=k):=⟨_,rfl⟩
 obtain⟨K,hK⟩:∃k,Hid (w1.heap.size=k):=⟨_,rfl⟩
 have e1:K=k3+1:=by rw[<-hK.out,<-hk3.out,<-hw1.out,World.size_alloc]
 obtain⟨C0,hC0,hmk⟩:=Ox l.length hl;have hmk':=hmk w1;obtain⟨w2,hw2⟩:∃w2,Hid (w1.alloc (.cells C0.toArray 138)=w2):=⟨_,rfl⟩
 rw[hw2.out,hK.out]at hmk';rw[hk3.out]at HB;have K2:Hid (Tz w w2 N n K k3 0 l):=by
  have hR1:Row w1 k3 (wn n):=by rw[<-hw1.out,<-hk3.out];exact aG w _ _
  have b1:Below w.heap.size w w1:=by rw[<-hw1.out];exact aE _ _
  have b2:Below w1.heap.size w1 w2:=by rw[<-hw2.out];exact aE _ _
  have hR2:Row w2 K C0:=by rw[<-hw2.out,<-hK.out];exact aG w1 _ _
  exact⟨b1.trans (b2.mono b1.size),hR2.1,by omega,by rw[<-hC0];exact hR2.2.2,hR1.below b2,fun j hj hji=>by omega⟩
 have HF:Hid (Ord N/\n<N/\(∀x∈l.map (·.2),x.size=33)/\(∀x∈l,x.1<N)/\g<w.heap.size/\w.rangeAt g 0 (aV l)/\w.heap.size<=K):=⟨O,hn,h33,hlN,hg,hr,by rw[hk3.out];omega⟩
 obtain⟨d',hd3,hd4⟩:=Option.map_eq_some_iff.1 uT;have HD:Hid (prog.underlying 138=some d'/\d'.isRow=true):=⟨hd3,hd4⟩
 obtain⟨vn,hvn⟩:∃v,Hid (nv n=v):=⟨_,rfl⟩
 rw[hvn.out]at HB⊢;clear hd3 hd4 O hn h33 hlN hg hr hmk hC0 hw1 hw2 hK hk3 e1;go_enter Tryz.func95,Tryz.ntmps95;go_wp2_with (first|(refine bI (u:=vn) (v:=.pointer (some ⟨k3,0,none⟩)) (w':=w1) rfl 82 (.tmp 1) rfl ?_ ?_ ?_;rfl;exact HB.out)|fail)
 clear hmk';go_loopg [13] l.length (fun m s13 W=>∃i:Nat,i+m=l.length/\s13=.int .i64 i/\Hid (Tz w W N n K k3 i l))
 case atStart=>exact⟨0,by omega,rfl,K2⟩
 case round =>
  clear K2 HB;obtain⟨i,hik,rfl,KM⟩:=hrel;by_cases hi:i<l.length
  ·have hi':(i:Int)<(l.length:Int):=by omega
   obtain⟨s,hse⟩:∃s,Hid ((l[i]'hi).1=s):=⟨(l[i]'hi).1,(rfl:(l[i]'hi).1=(l[i]'hi).1)⟩
   obtain⟨p,hpe⟩:∃p,Hid ((l[i]'hi).2=p):=⟨(l[i]'hi).2,(rfl:(l[i]'hi).2=(l[i]'hi).2)⟩
   have hps:Hid (p.size=33):=by rw[<-hpe.out];exact HF.out.2.2.1 _ (List.mem_map.2 ⟨_,List.getElem_mem hi,rfl⟩)
   have hsN:Hid (s<N):=by rw[<-hse.out];exact HF.out.2.2.2.1 _ (List.getElem_mem hi)
   have B0:Hid (wr.rangeAt g (37*i) (wn s++aA p)):=by
    have h:=RG.aO (Ed HF.out.2.2.1 HF.out.2.2.2.2.2.1 i hi) KM.out.bl HF.out.2.2.2.2.1;rw[hse.out,hpe.out]at h;exact h
   obtain⟨k7,hk7⟩:∃k,Hid (wr.heap.size=k):=⟨_,rfl⟩
   obtain⟨W1,hW1⟩:∃W1,Hid (wr.alloc (.cells zT.toArray 138)=W1):=⟨_,rfl⟩
   obtain⟨W2,hW2⟩:∃W2,Hid (W1.setCells k7 0 (wn s++aA p)=W2):=⟨_,rfl⟩
   have hlen:(wn s++aA p).length=37:=eW hps.out;have F1:Hid (Row W1 k7 zT/\Below wr.heap.size wr W1):=by rw[<-hW1.out,<-hk7.out];exact⟨aG wr _ _,aE wr _⟩
   have F2:Hid (Row W2 k7 (wn s++aA p)/\Tz w W2 N n K k3 i l):=by
    rw[<-hW2.out];exact⟨F1.out.1.put (by rw[hlen];rfl),KM.out.grow (RG.below_setCells (by rw[hk7.out];exact Nat.le_refl _) _ _ _ F1.out.2)⟩
   have HLT:Hid ((prog.info? 138).map (·.size)=some (wn s++aA p).length):=by show _=_;rw[hlen];exact iT
   have HLS:Hid ((prog.info? 138).map (·.size)=some (wn s++aA p).toArray.size/\W1.there k7 0 (wn s++aA p).toArray.size):=by
    have e:(wn s++aA p).toArray.size=37:=by rw[List.size_toArray];exact hlen
    rw[e];exact⟨iT,F1.out.1.2.2⟩
   have HAL:Hid ((wn s++aA p).toArray.all (·.oneCell')=true):=by
    show _=_;rw[Array.all_eq_true'];intro u hu;exact cells_one s p u (List.mem_toArray.1 hu)
   have hix:=atT g 0 l.length c i hi;obtain⟨vt,hvt⟩:∃v,Hid (Value.agg (wn s++aA p).toArray=v):=⟨_,rfl⟩
   have HL:Hid (i<l.length):=hi;clear hlen KM F1;go_wp2_with (first|(refine wpList_load_mid rfl 138 _ rfl g (37*i) ?_ (wn s++aA p) d' ?_ ?_ ?_ ?_ ?_;rfl;exact B0.out;exact HD.out.1;exact HD.out.2;exact HLT.out;rw[hvt.out])|(refine aJ (v:=.pointer (some ⟨k7,0,none⟩)) (w':=W1) rfl (.alloc 138) rfl ?_ ?_;(rw[<-hW1.out,<-hk7.out];kernel_rfl))|(refine wpList_store_mid rfl 138 _ _ rfl k7 0 (wn s++aA p).toArray ?_ ?_ ?_ ?_ ?_ ?_;rfl;exact hvt.out.symm;exact HLS.out.2;exact HLS.out.1;exact HAL.out;rw[show(wn s++aA p).toArray.toList=wn s++aA p from rfl,hW2.out])|fail)
   clear hW1 hW2 hk7;refine(Gt w n K k3 k7 i s (sTi N n s) p l N).last 10 (by kernel_rfl) (by kernel_rfl) (by kernel_rfl) ⟨
    RG.aK fun a W hp=>⟨[(5,.slice (some ⟨K,0,none⟩) l.length l.length)],.slice (some ⟨K,0,none⟩) l.length l.length,W,⟨hp.o 5 (by kernel_rfl),trivial⟩,by kernel_rfl,Below.refl _ _,rfl⟩,
    RG.aK fun a W hp=>⟨[(6,.int .i64 i)],.int .i64 i,W,⟨hp.o 6 (by kernel_rfl),trivial⟩,by kernel_rfl,Below.refl _ _,rfl⟩,
    RG.bJ 82 3 rfl Go.Proofs.YtgbjainaafdpgaaGreat.u40 fun a W hp=>⟨k3,0,wn n,hp.o 3 (by kernel_rfl),hp.b.1.r3.2.1,i40,rfl⟩,
    RG.aK fun a W hp=>⟨[(7,.pointer (some ⟨k7,0,none⟩))],.pointer (some ⟨k7,0,none⟩),W,⟨hp.o 7 (by kernel_rfl),trivial⟩,by kernel_rfl,Below.refl _ _,rfl⟩,
    RG.bJ 82 21 rfl Go.Proofs.YtgbjainaafdpgaaGreat.u40 fun a W hp=>⟨k7,0,wn s,hp.n 3 21 (by kernel_rfl) (by kernel_rfl),iM hp.b.2.2.1,i40,rfl⟩,
    RG.bG fun a W hp=>⟨[(20,nv n),(22,nv s)],132,#[nv n,nv s],⟨hp.n 2 20 (by kernel_rfl) (by kernel_rfl),hp.n 4 22 (by kernel_rfl) (by kernel_rfl),trivial⟩,by kernel_rfl,(EW HF.out.1 n s HF.out.2.1 hsN.out W).mono (by
     rintro e W' ⟨u,rfl,hb,rfl⟩;exact⟨_,rfl,hb,rfl⟩)⟩,
    RG.aK fun a W hp=>⟨[(7,.pointer (some ⟨k7,0,none⟩))],.pointer (some ⟨k7,4,none⟩),W,⟨hp.o 7 (by kernel_rfl),trivial⟩,by kernel_rfl,Below.refl _ _,rfl⟩,
    RG.bJ 61 24 rfl uCP fun a W hp=>⟨k7,4,aA p,hp.n 6 24 (by kernel_rfl) (by kernel_rfl),gI (xs:=wn s) hp.b.2.2.1,by rw[aC hps.out];exact aI,rfl⟩,
    RG.aK fun a W hp=>⟨[(23,nv (sTi N n s)),(25,pvl p)],tvl (sTi N n s) p,W,⟨hp.n 5 23 (by kernel_rfl) (by kernel_rfl),hp.n 7 25 (by kernel_rfl) (by kernel_rfl),trivial⟩,by
     rw[Prod.mk.injEq];refine⟨by kernel_rfl,?_⟩;refine Eq.trans (b:=((Instr.build 138 #[(0,nv (sTi N n s)),(1,pvl p)]) >>= fun v=>pure (Next.value v)).run prog W) (by kernel_rfl) ?_;rw[Sem.run_bind,NF hps.out];rfl,Below.refl _ _,rfl⟩,
    RG.aK fun a W hp=>⟨[(18,.slice (some ⟨K,0,none⟩) l.length l.length),(19,.int .i64 i)],.pointer (some ⟨K,0+37*i,none⟩),W,⟨hp.n 0 18 (by kernel_rfl) (by kernel_rfl),hp.n 1 19 (by kernel_rfl) (by kernel_rfl),trivial⟩,by
     rw[Prod.mk.injEq];refine⟨by kernel_rfl,?_⟩;show((Instr.indexAt 86 (.slice (some ⟨K,0,none⟩) l.length l.length) (.int .i64 i)) >>= fun v=>pure (Next.value v)).run prog W=_;rw[Sem.run_bind,atT K 0 l.length l.length i HL.out];rfl,Below.refl _ _,rfl⟩,trivial⟩ ⟨F2.out.2.drew,F2.out.1⟩ ?_
   intro V W3 hR3 hB3;have hV8:V 8=tvl (sTi N n s) p:=hR3 8 (by decide);have hV9:V 9=.pointer (some ⟨K,0+37*i,none⟩):=hR3 9 (by decide);have hlen2:(wn (sTi N n s)++aA p).length=37:=eW hps.out;obtain⟨W4,hW4⟩:∃W4,Hid (W3.setCells K (37*i) (wn (sTi N n s)++aA p)=W4):=⟨_,rfl⟩
   have K4:Hid (Tz w W4 N n K k3 (i+1) l):=by
    have h:=hB3.1.put HF.out.2.2.2.2.2.2 HL.out HF.out.2.2.1;have e:tmT N n (l[i]'HL.out)=(sTi N n s,p):=by
     have h1:=hse.out;have h2:=hpe.out;unfold tmT;rw[h1,h2]
    rw[e]at h;rw[<-hW4.out];exact h
   have HT:Hid (W3.there K (37*i) (wn (sTi N n s)++aA p).toArray.size/\(prog.info? 138).map (·.size)=some (wn (sTi N n s)++aA p).toArray.size/\(wn (sTi N n s)++aA p).toArray.all (·.oneCell')=true):=by
    have e:(wn (sTi N n s)++aA p).toArray.size=37:=by rw[List.size_toArray];exact hlen2
    refine⟨fun t ht=>?_,by rw[e];exact iT,?_⟩
    ·rw[e]at ht;have:=hB3.1.th (37*i+t) (by have:=HL.out;omega);rwa[Nat.zero_add]at this
    ·rw[Array.all_eq_true'];intro u hu;exact cells_one _ p u (List.mem_toArray.1 hu)
   dsimp only[RG.eK,Nat.reduceAdd,List.take,List.drop];simp only[Act.put,List.setIfInBounds_toArray,List.set_cons_succ,List.set_cons_zero];obtain⟨vz,hvz⟩:∃v,Hid (tvl (sTi N n s) p=v):=⟨_,rfl⟩
   rw[hV8,hV9,hvz.out,Nat.zero_add];clear hR3 hB3 hV8 hV9 hlen2 F2;generalize V 0=s0;generalize V 1=s1;generalize V 2=s2;generalize V 3=s3;generalize V 4=s4;generalize V 5=s5;generalize V 6=s6;generalize V 7=s7;go_wp2_with (first|(refine wpList_store_mid rfl 138 _ _ rfl K (37*i) (wn (sTi N n s)++aA p).toArray ?_ ?_ ?_ ?_ ?_ ?_;rfl;exact hvz.out.symm;exact HT.out.1;exact HT.out.2.1;exact HT.out.2.2;rw[show(wn (sTi N n s)++aA p).toArray.toList=wn (sTi N n s)++aA p from rfl,hW4.out])|fail)
   go_roundg (gk-1)
   case measure=>omega
   case rel=>exact⟨i+1,by omega,rfl,K4⟩
  ·have hi':¬(i:Int)<(l.length:Int):=by omega
   obtain rfl:i=l.length:=by omega
   have KS:Hid (Below w.heap.size w wr/\Sm w.heap.size wr (.slice (some ⟨K,0,none⟩) l.length l.length) (l.map (tmT N n))):=by
    refine⟨KM.out.bl,K,l.length,by rw[List.length_map],by rw[List.length_map];exact Nat.le_refl _,HF.out.2.2.2.2.2.2,KM.out.lt,AP (fun x hx=>?_) fun j hj=>?_⟩
    ·obtain⟨y,hy,rfl⟩:=List.mem_map.1 hx;obtain⟨z,hz,rfl⟩:=List.mem_map.1 hy;exact HF.out.2.2.1 _ (List.mem_map.2 ⟨z,hz,rfl⟩)
    ·rw[List.getElem_map];rw[List.length_map]at hj;exact KM.out.rw j hj hj
   clear KM;go_wp2;go_ret;exact⟨_,rfl,KS.out.1,KS.out.2⟩
end
section
open Go.RowKit Go.Sort Go.Deep
variable {P:Nat}[NeZero P]{N:Nat}
def Cw(W:World)(q:Option Addr)(n cap:Nat)(T:Bs):Prop:=(q=none/\n=0/\cap=0/\T=#[])\/∃g,q=some ⟨g,0,none⟩/\T.size=n/\g<W.heap.size/\Holds encB W g 0 T/\n<=cap
theorem Cw.grow{W W':World}{q:Option Addr}{n cap:Nat}{T:Bs}(h:Cw W q n cap T)(hb:Below W.heap.size W W'):Cw W' q n cap T:=by
 rcases h with h|⟨g,h1,h2,h3,h4,h5⟩
 ·exact Or.inl h
 ·exact Or.inr ⟨g,h1,h2,Nat.lt_of_lt_of_le h3 hb.size,Holds.below h4 hb h3,h5⟩
theorem Cw.conv{W:World}{q:Option Addr}{n cap:Nat}{T:Bs}(h:Cw W q n cap T):(convert 22 9 (.slice q n cap)).run prog W=.ok (.string ⟨T⟩) W:=by
 rcases h with⟨rfl,rfl,rfl,rfl⟩|⟨g,rfl,h2,h3,h4,-⟩
 ·kernel_rfl
 ·exact conv_str prog 22 9 5 slice22 int5 str9 W g 0 n cap T h4 h2
theorem El.cw{n:Nat}{W:World}{x:Value}{b:Bs}(h:El n W x b):∃q m cap,x=.slice q m cap/\Cw W q m cap b:=by
 obtain⟨k,c,rfl,h1,h2,h3,h4⟩:=h;exact⟨_,_,_,rfl,Or.inr ⟨k,rfl,h2,h3,h4,h1⟩⟩
theorem Cw.el{W:World}{q:Option Addr}{n cap:Nat}{T:Bs}(h:Cw W q n cap T)(hT:0<T.size):El T.size W (.slice q n cap) T/\n=T.size:=by
 rcases h with⟨-,-,-,rfl⟩|⟨g,rfl,rfl,h3,h4,h5⟩
 ·cases hT
 ·exact⟨⟨g,cap,rfl,h5,rfl,h3,h4⟩,rfl⟩
def JS(T:Bs)(ec:Int)(e:Value)(W:World):Prop:=∃q n cap,e=.tuple #[.slice q n cap,.int .i64 ec]/\Cw W q n cap T
end
section
open Go.RowKit Go.Sort Go.Deep
variable {P:Nat}[NeZero P]{N:Nat}
theorem Sm.mono{B B':Nat}{W:World}{v:Value}{l:List (Nat × Bs)}(h:Sm B W v l)(hb:B'<=B):Sm B' W v l:=by
 obtain⟨g,c,h1,h2,h3,h4⟩:=h;exact⟨g,c,h1,h2,Nat.le_trans hb h3,h4⟩
section
variable (w:World) (k6 k8 n:Nat) (Y A T:Bs)
def Rb:Nat->Value->World->Prop
 | 0,v,_=>v=pvl Y
 | 1,v,W=>Sm w.heap.size W v [(1,Y)]
 | 2,v,_=>v=pvl A
 | 3,v,_=>v=nv n
 | 4,v,W=>Sm w.heap.size W v [(n,A)]
 | 5,v,W=>Sm w.heap.size W v [(1,Y),(n,A)]
 | 6,v,_=>v=pvl T
 | 7,v,W=>El 33 W v T
 | 8,v,W=>El 33 W v T
 | 9,v,_=>v=.int .i64 0
 | _,_,_=>True
def Gb:RG.Gw:=⟨Rb w n Y A T,fun W=>Kp w W [(k8,wn n),(k6,aA Y)],fun i v W W' hb h=>by
 match i,h with
 | 0,h=>exact h
 | 1,h=>exact Sm.grow h hb
 | 2,h=>exact h
 | 3,h=>exact h
 | 4,h=>exact Sm.grow h hb
 | 5,h=>exact Sm.grow h hb
 | 6,h=>exact h
 | 7,h=>exact El.below h hb (Nat.le_refl _)
 | 8,h=>exact El.below h hb (Nat.le_refl _)
 | 9,h=>exact h
 | _+10,_=>trivial,fun W W' hb h=>h.grow hb⟩
end
theorem JQ(C:Fld P)(O:Ord N)(hord:∀r:EC.Pt P,EC.On r->EC.mul N r=none)(ta:Option Addr)(tl tc:Nat)(tx:List UInt8)(v1:Value)(rs:Bs)(n:Nat)(w:World)(hP:SP.PartOk w (.slice ta tl tc) tx)(h1:1<=tl)(h2:tl<=64)(hA:Arg w v1 rs)(hr:rq N rs=some n):
 Calls prog 19 #[.slice ta tl tc,v1] w (Ret fun e w'=>Below w.heap.size w w'/\JS (wr (EC.add (.some (hpt P aQ tx)) (EC.mul n (gG P)))) 0 e w'):=by
 have hnN:n<N:=by
  unfold rq at hr;split at hr
  ·rename_i h
   rw[<-Option.some.inj hr];exact h.2
  ·cases hr
 have HL:=Hid.mk' (zC C ta tl tc tx w hP h1 h2);have HR:Hid (∀W,Below w.heap.size w W->Calls prog 46 #[v1] W (Ret fun e w'=>Below W.heap.size W w'/\e=.tuple #[nv n,.bool true])):=fun W hb=>by
  have h:=nE O v1 rs W (hA.below hb);rw[hr]at h;exact h
 have hYon:=pJ C aQ tx;obtain⟨X,hX⟩:∃X:EC.Pt P,Hid ((.some (hpt P aQ tx):EC.Pt P)=X):=⟨_,rfl⟩
 rw[hX.out]at HL⊢;have hXon:EC.On X:=by rw[<-hX.out];exact hYon
 have hsum:eI P [(1,wr X),(n,wr (gG P))]=EC.add X (EC.mul n (gG P)):=by
  show EC.add (EC.mul 1 (d5 P (wr X))) (EC.add (EC.mul n (d5 P (wr (gG P)))) none)=_;rw[dF C hXon,dF C (jJ C),EC.bD];rfl
 have hpts:PtsL P [(1,wr X),(n,wr (gG P))]:=fun y hy=>by
  rcases List.mem_cons.1 hy with rfl|hy
  ·exact⟨X,hXon,rfl⟩
  ·rw[show y=(n,wr (gG P)) by simpa using hy];exact⟨gG P,jJ C,rfl⟩
 have h1N:1<N:=by have:=O.n2;have:2<=N:=Nat.le_trans O.n2 (Nat.mod_le _ _);omega
 have HC:Hid (Fld P/\Ord N/\(∀r:EC.Pt P,EC.On r->EC.mul N r=none)/\n<N/\1<N/\PtsL P [(1,wr X),(n,wr (gG P))]/\eI P [(1,wr X),(n,wr (gG P))]=EC.add X (EC.mul n (gG P))):=⟨C,O,hord,hnN,h1N,hpts,hsum⟩
 obtain⟨Y,hY⟩:∃T,Hid (wr X=T):=⟨_,rfl⟩
 obtain⟨A,hAe⟩:∃T,Hid (wr (gG P)=T):=⟨_,rfl⟩
 obtain⟨T,hT⟩:∃T,Hid (wr (EC.add X (EC.mul n (gG P)))=T):=⟨_,rfl⟩
 have hYs:Hid (Y.size=33/\A.size=33/\T.size=33):=⟨by rw[<-hY.out];exact aL _,by rw[<-hAe.out];exact aL _,by rw[<-hT.out];exact aL _⟩
 rw[hY.out]at HL;rw[hT.out];obtain⟨vn,hvn⟩:∃v,Hid (nv n=v):=⟨_,rfl⟩
 rw[hvn.out]at HR;clear C O hord hP h1 h2 hA hr hnN hYon hXon hsum hpts h1N hX;obtain⟨vt,hvt⟩:∃vt,Hid (pvl Y=vt):=⟨_,rfl⟩
 rw[hvt.out]at HL;go_enter Tryz.func19,Tryz.ntmps19;go_wp2_with fail
 refine HL.out.mono ?_;rintro e w1 ⟨vv,rfl,hb1,rfl⟩;obtain⟨k6,hk6⟩:∃k6,Hid (w1.heap.size=k6):=⟨_,rfl⟩
 obtain⟨w2,hw2⟩:∃w2,Hid (w1.alloc (.cells z33.toArray 61)=w2):=⟨_,rfl⟩
 obtain⟨w3,hw3⟩:∃w3,Hid (w2.setCells k6 0 (aA Y)=w3):=⟨_,rfl⟩
 have hlen:(aA Y).length=33:=aC hYs.out.1;have F2:Hid (Row w2 k6 z33/\Below w.heap.size w w2/\w.heap.size<=k6):=by
  rw[<-hw2.out,<-hk6.out];exact⟨aG w1 _ _,hb1.alloc hb1.size _,hb1.size⟩
 have K3:Hid (Kp w w3 [(k6,aA Y)]):=by
  rw[<-hw3.out];exact⟨RG.below_setCells F2.out.2.2 _ _ _ F2.out.2.1,fun y hy=>by rw[show y=(k6,aA Y) by simpa using hy];exact F2.out.1.put (by rw[hlen];rfl)⟩
 have HI:Hid (w2.there k6 0 (aA Y).toArray.size/\(prog.info? 61).map (·.size)=some (aA Y).toArray.size/\(prog.info? 61).map (·.size)=some (aA Y).length):=by
  have e:(aA Y).toArray.size=33:=by rw[List.size_toArray];exact hlen
  refine⟨by rw[e];exact F2.out.1.2.2,by rw[e];exact aI,by rw[hlen];exact aI⟩
 clear hlen hb1 HL;go_wp2_with (first|(refine aJ (v:=.pointer (some ⟨k6,0,none⟩)) (w':=w2) rfl (.alloc 61) rfl ?_ ?_;(rw[<-hw2.out,<-hk6.out];kernel_rfl))|(refine wpList_store_mid rfl 61 _ _ rfl k6 0 (aA Y).toArray ?_ ?_ ?_ ?_ ?_ ?_;rfl;exact hvt.out.symm;exact HI.out.1;exact HI.out.2.1;exact bW Y;rw[show(aA Y).toArray.toList=aA Y from rfl,hw3.out])|fail)
 clear hw2 hw3 hk6 F2;refine(HR.out w3 K3.out.bl).mono ?_;rintro e w4 ⟨vv,rfl,hb4,rfl⟩;have K4:Hid (Kp w w4 [(k6,aA Y)]):=K3.out.grow hb4;clear hb4 K3 HR;obtain⟨k8,hk8⟩:∃k8,Hid (w4.heap.size=k8):=⟨_,rfl⟩
 obtain⟨w5,hw5⟩:∃w5,Hid (w4.alloc (.cells #[.int .u64 0,.int .u64 0,.int .u64 0,.int .u64 0] 82)=w5):=⟨_,rfl⟩
 obtain⟨w6,hw6⟩:∃w6,Hid (w5.setCells k8 0 (wn n)=w6):=⟨_,rfl⟩
 have F5:Hid (Row w5 k8 [.int .u64 0,.int .u64 0,.int .u64 0,.int .u64 0]/\Kp w w5 [(k6,aA Y)]):=by
  rw[<-hw5.out,<-hk8.out];exact⟨aG w4 _ _,K4.out.grow (aE _ _)⟩
 have K6:Hid (Kp w w6 [(k8,wn n),(k6,aA Y)]):=by
  rw[<-hw6.out];refine F5.out.2.put F5.out.1 rfl (by rw[<-hk8.out];exact K4.out.bl.size) fun y hy=>?_
  rw[show y=(k6,aA Y) by simpa using hy,<-hk8.out];exact Nat.ne_of_lt (K4.out.at 0 rfl).1
 go_wp2_with (first|(refine aJ (v:=.pointer (some ⟨k8,0,none⟩)) (w':=w5) rfl (.alloc 82) rfl ?_ ?_;(rw[<-hw5.out,<-hk8.out];kernel_rfl))|(refine wpList_store_mid rfl 82 _ _ rfl k8 0 (wn n).toArray ?_ ?_ ?_ ?_ ?_ ?_;rfl;exact hvn.out.symm;exact F5.out.1.2.2;exact i40;exact dI n;rw[show(wn n).toArray.toList=wn n from rfl,hw6.out])|fail)
 clear hw5 hw6 hk8 F5 K4;refine(Gb w k6 k8 n Y A T).draws (by kernel_rfl) (by kernel_rfl) ⟨
  RG.bJ 61 6 rfl uCP fun a W hp=>⟨k6,0,aA Y,hp.o 6 (by kernel_rfl),(hp.b.at 1 rfl).2.1,HI.out.2.2,rfl⟩,
  RG.bG fun a W hp=>⟨[(23,pvl Y)],47,#[pvl Y],⟨hp.n 0 23 (by kernel_rfl) (by kernel_rfl),trivial⟩,by kernel_rfl,(FD Y hYs.out.1 W).mono (by
   rintro e W' ⟨u,rfl,hb,hS⟩;exact⟨_,rfl,hb,hS.mono hp.b.bl.size⟩)⟩,
  RG.bG fun a W hp=>⟨[],49,#[],trivial,by kernel_rfl,(F7 HC.out.1 W).mono (by
   rintro e W' ⟨u,rfl,hb,rfl⟩;exact⟨_,rfl,hb,by rw[hAe.out];rfl⟩)⟩,
  RG.bJ 82 8 rfl u40 fun a W hp=>⟨k8,0,wn n,hp.o 8 (by kernel_rfl),(hp.b.at 0 rfl).2.1,i40,rfl⟩,
  RG.bG fun a W hp=>⟨[(25,pvl A),(26,nv n)],50,#[pvl A,nv n],⟨hp.n 2 25 (by kernel_rfl) (by kernel_rfl),hp.n 3 26 (by kernel_rfl) (by kernel_rfl),trivial⟩,by kernel_rfl,(eN A hYs.out.2.1 n W).mono (by
   rintro e W' ⟨u,rfl,hb,k,rfl,hk,hR⟩;exact⟨_,rfl,hb,Sm.one hR (Nat.le_trans hp.b.bl.size hk) rfl⟩)⟩,
  RG.bG fun a W hp=>⟨[(24,a.eval (.tmp 24)),(27,a.eval (.tmp 27))],48,#[a.eval (.tmp 24),a.eval (.tmp 27)],⟨rfl,rfl,trivial⟩,by kernel_rfl,(uB w.heap.size (a.eval (.tmp 24)) (a.eval (.tmp 27)) [(1,Y)] [(n,A)] (by simp) (by simp) (by simp) (fun x hx=>by rw[show x=(1,Y) by simpa using hx];exact hYs.out.1) (fun x hx=>by rw[show x=(n,A) by simpa using hx];exact hYs.out.2.1) W (hp.n 1 24 (by kernel_rfl) (by kernel_rfl)) (hp.n 4 27 (by kernel_rfl) (by kernel_rfl))).mono (by
   rintro e W' ⟨u,rfl,hb,hS⟩;exact⟨_,rfl,hb,hS.mono hp.b.bl.size⟩)⟩,
  RG.bG fun a W hp=>⟨[(28,a.eval (.tmp 28))],51,#[a.eval (.tmp 28)],⟨rfl,trivial⟩,by kernel_rfl,by
   have hS:Sm w.heap.size W (a.eval (.tmp 28)) [(1,Y),(n,A)]:=hp.n 5 28 (by kernel_rfl) (by kernel_rfl);rw[<-hY.out,<-hAe.out]at hS;refine(hS.point HC.out.1 HC.out.2.1 HC.out.2.2.1 (by simp) (by simp) (fun x hx=>?_) HC.out.2.2.2.2.2.1).mono ?_
   ·rcases List.mem_cons.1 hx with rfl|hx
    ·exact HC.out.2.2.2.2.1
    ·rw[show x=(n,wr (gG P)) by simpa using hx];exact HC.out.2.2.2.1
   ·rintro e W' ⟨u,rfl,hb,rfl⟩;exact⟨_,rfl,hb,by rw[HC.out.2.2.2.2.2.2,hT.out];rfl⟩⟩,
  RG.bG fun a W hp=>⟨[(29,pvl T)],52,#[pvl T],⟨hp.n 6 29 (by kernel_rfl) (by kernel_rfl),trivial⟩,by kernel_rfl,(lR hYs.out.2.2 W).mono (by
   rintro e W' ⟨u,rfl,hb,hE⟩;exact⟨_,rfl,hb,hE⟩)⟩,
  RG.aK fun a W hp=>⟨[(30,a.eval (.tmp 30))],a.eval (.tmp 30),W,⟨rfl,trivial⟩,by kernel_rfl,Below.refl _ _,hp.n 7 30 (by kernel_rfl) (by kernel_rfl)⟩,
  RG.aK fun a W hp=>⟨[],.int .i64 0,W,trivial,by kernel_rfl,Below.refl _ _,rfl⟩,trivial⟩ K6.out.drew ?_
 intro V w9 hR9 hB9;have hV9:V 9=.int .i64 0:=hR9 9 (Nat.lt_of_succ_le (Nat.le_of_ble_eq_true (by kernel_rfl)));have hE8:El 33 w9 (V 8) T:=hR9 8 (Nat.lt_of_succ_le (Nat.le_of_ble_eq_true (by kernel_rfl)));obtain⟨q,m,cap,hV8,hC8⟩:=hE8.cw;have K9:Hid (Below w.heap.size w w9/\Cw w9 q m cap T):=⟨hB9.bl,hC8⟩
 dsimp only[RG.eK,Nat.reduceAdd];simp only[Act.put,List.setIfInBounds_toArray,List.set_cons_succ,List.set_cons_zero];rw[hV9,hV8];clear hR9 hB9 K6 hV8 hV9 hE8 hC8;go_wp2
 go_ret2
 exact⟨_,rfl,K9.out.1,q,m,cap,rfl,K9.out.2⟩
end
section
open Go.RowKit Go.Sort Go.Deep
variable {P:Nat}[NeZero P]{N:Nat}
theorem JK{W:World}{g c:Nat}{X:EC.Pt P}(h:33<=c/\g<W.heap.size/\EC.On X/\Holds encB W g 0 (wr X)):Arg33 W (.slice (some ⟨g,0,none⟩) 33 c) (wr X):=
 ⟨_,_,_,rfl,aL _,fun _=>⟨g,0,rfl,h.1,h.2.1,h.2.2.2⟩⟩
theorem Ia{N:Nat}(C:Fld P)(hG:Gap 4624529908474429119 4994812053365940164 1 N)(hN:N<=top){W:World}{g c gs:Nat}{X:EC.Pt P}{K:Bs}(hs:K.size=32)(hk:beV K.toList<N)(hgs:gs<W.heap.size)(hK:Holds encB W gs 0 K)(h:33<=c/\g<W.heap.size/\EC.On X/\Holds encB W g 0 (wr X)):
 Calls prog 6 #[.slice (some ⟨gs,0,none⟩) 32 32,.slice (some ⟨g,0,none⟩) 33 c] W (Ret fun e w'=>Below W.heap.size W w'/\Aq W (wr (EC.mul (beV K.toList) X)) e w'):=by
 obtain⟨p,hp,rfl⟩:=rO C h.2.2.1;refine(F8 C hG hN _ _ K _ W ⟨_,_,_,rfl,hs,fun _=>⟨gs,0,rfl,by omega,hgs,hK⟩⟩ (JK h)).mono ?_;rintro e w' ⟨v,rfl,hb,hR⟩;have:=hR.q C hN;unfold B5 rq at this;rw[if_pos ⟨hs,hk⟩,hp]at this;exact⟨_,rfl,hb,this⟩
theorem DY{N:Nat}(hG:Gap 4624529908474429119 4994812053365940164 1 N):2^248<N:=by
 have:=hG.hP2;unfold top at this;omega
theorem Ah(x:UInt8)(r:List UInt8):beV (x :: r)=x.toNat*256^r.length+beV r:=by
 have h:=dD [x] r;rw[show [x]++r=x :: r from rfl]at h;rw[h];simp[beV]
theorem vX(a:Bs):((⟨a⟩:ByteArray).toList == (⟨a⟩:ByteArray).toList)=true:=by simp
end
section
open Go.RowKit Go.Sort Go.Deep
theorem Dh:∀(l r:List UInt8),l.length=r.length->beV l=beV r->l=r
 | [],[],_,_=>rfl
 | x :: l,y :: r,hl,h=>by
  have h1:l.length=r.length:=Nat.succ.inj hl;rw[Ah,Ah,h1]at h;have b1:=BR l;have b2:=BR r;rw[h1]at b1;have hp:0<256^r.length:=Nat.pow_pos (by decide);have e1:(x.toNat*256^r.length+beV l)/256^r.length=x.toNat:=by
   rw[Nat.mul_comm,Nat.mul_add_div hp,Nat.div_eq_of_lt b1,Nat.add_zero]
  have e2:(y.toNat*256^r.length+beV r)/256^r.length=y.toNat:=by
   rw[Nat.mul_comm,Nat.mul_add_div hp,Nat.div_eq_of_lt b2,Nat.add_zero]
  have e3:x.toNat=y.toNat:=by rw[<-e1,<-e2,h]
  have e4:x=y:=UInt8.toNat_inj.1 e3;subst e4;rw[Dh l r h1 (by omega)]
theorem NE{b:Bs}(hs:b.size=32){n:Nat}(hn:n<top)(h:beV b.toList=n):bx n=b:=by
 have:=Dh (bx n).toList b.toList (by rw[Array.length_toList,Array.length_toList,bK,hs]) (by rw[xH hn,h]);exact Array.toList_inj.1 this
variable {P:Nat}[NeZero P]
theorem KZ(C:Fld P){m y:Fin P}(h:rt m=some y):y.val%2=0:=by
 have h2:=E1 C (Co h);rw[h]at h2;have e:=Option.some.inj h2;by_cases ho:y.val%2=1
 ·rw[if_pos ho]at e;have e3:=congrArg Fin.val e;have h0:(0-y:Fin P).val=(P-y.val)%P:=by rw[<-lL,EC.val_zero,Nat.zero_add]
  rw[h0]at e3;have h3:=C.p3;have hy:=y.isLt;rw[Nat.mod_eq_of_lt (by omega)]at e3;omega
 ·omega
theorem Kg{b:Bs}(hs:b.size=33):b=#[b[0]!]++mC b:=by
 unfold mC;apply Array.ext
 ·rw[Array.size_append,Array.size_extract,hs];rfl
 ·intro i h1 h2;by_cases hi:i=0
  ·subst hi;rw[Array.getElem_append_left (by simp),getElem!_pos b 0 (by omega)];rfl
  ·rw[Array.getElem_append_right (by simp;omega),Array.getElem_extract]
   congr 1
   simp;omega
theorem KI{x:UInt8}(h:ub x=2):x=2:=by
 apply UInt8.toNat_inj.1;have:(x.toNat:Int)=2:=h;show x.toNat=2;omega
theorem EH{x:UInt8}(h:ub x=3):x=3:=by
 apply UInt8.toNat_inj.1;have:(x.toNat:Int)=3:=h;show x.toNat=3;omega
theorem EA(C:Fld P){b:Bs}{p:Fin P × Fin P}(h:rd P b=some p):wr (pt p)=b:=by
 have hon:=uL C h;unfold rd at h;split at h
 ·rename_i hs
  split at h
  ·rename_i hz
   obtain rfl:=Option.some.inj h;unfold pt;rw[if_pos ⟨rfl,rfl⟩];exact((rB hs).1 hz).symm
  ·split at h
   ·rename_i hm
    split at h
    ·rename_i hx
     obtain⟨y,hr,rfl⟩:=Option.map_eq_some_iff.1 h;have hsq:=Co hr;have hpar:=KZ C hr;have hy0:y≠0:=C.cur.y_ne (CB hsq);have hyv:y.val≠0:=fun e=>hy0 (Fin.ext (by rw[EC.val_zero];exact e))
     have hxv:(rdx P b).val=beV (mC b).toList:=Nat.mod_eq_of_lt hx;have hbx:bx (rdx P b).val=mC b:=NE (iY hs) (C.top _) hxv.symm;have h3:=C.p3;have hyl:=y.isLt;have h0:(0-y:Fin P).val=P-y.val:=by rw[<-lL,EC.val_zero,Nat.zero_add,Nat.mod_eq_of_lt (by omega)]
     by_cases h3':ub b[0]! = 3
     ·rw[if_pos h3'];unfold pt;rw[if_neg (fun e=>by
       have:=congrArg Fin.val e.2;rw[EC.val_zero,h0]at this;omega)]
      show #[mark (0-y:Fin P).val]++bx (rdx P b).val=b;rw[hbx,h0];unfold mark;rw[if_pos (by omega),<-EH h3'];exact(Kg hs).symm
     ·rw[if_neg h3'];have h2':ub b[0]! = 2:=hm.resolve_right h3';unfold pt;rw[if_neg (fun e=>hy0 e.2)];show #[mark y.val]++bx (rdx P b).val=b;rw[hbx];unfold mark;rw[if_neg (by omega),<-KI h2'];exact(Kg hs).symm
    ·cases h
   ·cases h
 ·cases h
end
section
open Go.RowKit Go.Sort Go.Deep
variable {P:Nat}[NeZero P]{N:Nat}
theorem rH(O:Ord N)(B:Nat)(s t:Value)(l m:List (Nat × Bs))(hl0:0<l.length)(hl:l.length<=500)(hm:m.length<=500)(hl3:∀x∈l,x.2.size=33)(hm3:∀x∈m,x.2.size=33)(hmN:∀x∈m,x.1<N)(w:World)(hB:B<=w.heap.size)(h1:Sm B w s l)(h2:Sm B w t m):
 Calls prog 57 #[s,t] w (Ret fun e w'=>Below w.heap.size w w'/\Sm w.heap.size w' e (l++m.map (tmT N (sMi N 0 1)))):=by
 have h1N:1<N:=by have:2<=N:=Nat.le_trans O.n2 (Nat.mod_le _ _);omega
 have HOp:=Hid.mk' (Lp O h1N);have hoN:sMi N 0 1<N:=Nat.mod_lt _ O.pos;generalize sMi N 0 1=o at HOp hoN⊢;have HT:Hid (∀W,Below w.heap.size w W->Calls prog 95 #[t,nv o] W (Ret fun e w'=>Below W.heap.size W w'/\Sm W.heap.size w' e (m.map (tmT N o)))):=fun W hb=>by
  have h33:∀x∈m.map (·.2),x.size=33:=fun x hx=>by obtain⟨y,hy,rfl⟩:=List.mem_map.1 hx;exact hm3 y hy
  exact AG O hoN B t m (by omega) h33 hmN W (h2.grow hb)
 have HP:Hid (∀W v,Below w.heap.size w W->Sm w.heap.size W v (m.map (tmT N o))->Calls prog 48 #[s,v] W (Ret fun e w'=>Below W.heap.size W w'/\Sm W.heap.size w' e (l++m.map (tmT N o)))):=fun W v hb hv=>by
  refine uB B s v l (m.map (tmT N o)) hl0 hl (by rw[List.length_map];exact hm) hl3 (fun x hx=>?_) W (h1.grow hb) (hv.mono hB);obtain⟨y,hy,rfl⟩:=List.mem_map.1 hx;exact hm3 y hy
 obtain⟨gs,cs,es,-⟩:=id h1;obtain⟨gt,ct,et,-⟩:=id h2;subst es;subst et;obtain⟨v1,hv1⟩:∃v,Hid (nv 1=v):=⟨_,rfl⟩
 obtain⟨vo,hvo⟩:∃v,Hid (nv o=v):=⟨_,rfl⟩
 rw[hv1.out,hvo.out]at HOp;rw[hvo.out]at HT;have H1:=Hid.mk' (J5);rw[hv1.out]at H1;clear O h1N hoN hl3 hm3 hmN h1 h2;go_enter Tryz.func57,Tryz.ntmps57;go_wp2_with fail
 refine(H1.out w).mono ?_;rintro e w1 ⟨vv,rfl,hb1,rfl⟩;go_wp2_with fail
 refine(HOp.out w1).mono ?_;rintro e w2 ⟨vv,rfl,hb2,rfl⟩;have B2:Hid (Below w.heap.size w w2):=hb1.trans (hb2.mono hb1.size);clear hb1 hb2;go_wp2_with fail
 refine(HT.out w2 B2.out).mono ?_;rintro e w3 ⟨v3,rfl,hb3,hS3⟩;have B3:Hid (Below w.heap.size w w3/\Sm w.heap.size w3 v3 (m.map (tmT N o))):=⟨B2.out.trans (hb3.mono B2.out.size),hS3.mono B2.out.size⟩
 clear hb3 hS3 B2;go_wp2_with fail
 refine(HP.out w3 v3 B3.out.1 B3.out.2).mono ?_;rintro e w4 ⟨v4,rfl,hb4,hS4⟩;have B4:Hid (Below w.heap.size w w4/\Sm w.heap.size w4 v4 (l++m.map (tmT N o))):=⟨B3.out.1.trans (hb4.mono B3.out.1.size),hS4.mono B3.out.1.size⟩
 clear hb4 hS4 B3;go_wp2;go_ret;exact⟨_,rfl,B4.out.1,B4.out.2⟩
theorem eq_neg(C:Fld P){x y:EC.Pt P}(hx:EC.On x)(hy:EC.On y)(h:EC.add x y=none):x=EC.neg y:=by
 have h1:=C.cur.assoc hx hy (EC.bX hy);rw[h,EC.fK,EC.add_neg,EC.bD]at h1;exact h1.symm
theorem CH(C:Fld P)(O:Ord N)(hord:∀r:EC.Pt P,EC.On r->EC.mul N r=none){X:EC.Pt P}(hX:EC.On X)(n:Nat):EC.mul (sTi N (sMi N 0 1) n) X=EC.neg (EC.mul n X):=by
 have h1N:1<N:=by have:2<=N:=Nat.le_trans O.n2 (Nat.mod_le _ _);omega
 have e:sMi N 0 1=N-1:=by unfold sMi;rw[Nat.zero_add,Nat.mod_eq_of_lt (by omega)]
 unfold sTi;rw[e,mul_mod C hord hX];refine eq_neg C (EC.bF C.cur hX _) (EC.bF C.cur hX _) ?_;rw[<-EC.mul_add C.cur hX];have e2:(N-1)*n+n=N*n:=by
  have:(N-1+1)*n=(N-1)*n+n:=Nat.succ_mul _ _;rw[<-this]
  congr 1
  omega
 rw[e2,EC.eY C.cur hX N n,hord X hX,EC.jI]
section
variable (w:World) (K k8 n o:Nat) (S Q T:Bs)
def Ru(N:Nat):Nat->Value->World->Prop
 | 0,v,_=>v=.slice (some ⟨K,0,none⟩) 2 2
 | 1,v,_=>v=.pointer (some ⟨K,0,none⟩)
 | 2,v,_=>v=pvl S
 | 3,v,W=>Sm w.heap.size W v [(1,S)]
 | 4,v,_=>v=.slice (some ⟨K,0,none⟩) 2 2
 | 5,v,_=>v=.pointer (some ⟨K,33,none⟩)
 | 6,v,_=>v=pvl Q
 | 7,v,_=>v=nv n
 | 8,v,W=>Sm w.heap.size W v [(n,Q)]
 | 9,v,W=>Sm w.heap.size W v [(1,S),(sTi N o n,Q)]
 | 10,v,_=>v=pvl T
 | 11,v,W=>El 33 W v T
 | 12,v,W=>El 33 W v T
 | 13,v,_=>v=.int .i64 0
 | _,_,_=>True
def Gu(N:Nat):RG.Gw:=⟨Ru w K n o S Q T N,fun W=>Kp w W [(k8,wn n)]/\W.rangeAt K 0 (aA S)/\W.rangeAt K 33 (aA Q)/\K<W.heap.size,fun i v W W' hb h=>by
 match i,h with
 | 0,h=>exact h
 | 1,h=>exact h
 | 2,h=>exact h
 | 3,h=>exact Sm.grow h hb
 | 4,h=>exact h
 | 5,h=>exact h
 | 6,h=>exact h
 | 7,h=>exact h
 | 8,h=>exact Sm.grow h hb
 | 9,h=>exact Sm.grow h hb
 | 10,h=>exact h
 | 11,h=>exact El.below h hb (Nat.le_refl _)
 | 12,h=>exact El.below h hb (Nat.le_refl _)
 | 13,h=>exact h
 | _+14,_=>trivial,fun W W' hb h=>⟨h.1.grow hb,RG.aO h.2.1 hb h.2.2.2,RG.aO h.2.2.1 hb h.2.2.2,Nat.lt_of_lt_of_le h.2.2.2 hb.size⟩⟩
end
end
section
open Go.RowKit Go.Sort Go.Deep
variable {P:Nat}[NeZero P]{N:Nat}
theorem BZ(O:Ord N)(v0 v1 v2:Value)(rb:Bs)(w:World)(hA:Arg w v1 rb)(hr:rq N rb=none):
 Calls prog 22 #[v0,v1,v2] w (Ret fun e w'=>Below w.heap.size w w'/\JS #[] 3 e w'):=by
 have HR:Hid (Calls prog 46 #[v1] w (Ret fun e w'=>Below w.heap.size w w'/\e=.tuple #[nv 0,.bool false])):=by
  have h:=nE O v1 rb w hA;rw[hr]at h;exact h
 obtain⟨vn,hvn⟩:∃v,Hid (nv 0=v):=⟨_,rfl⟩
 rw[hvn.out]at HR;clear O hA hr;go_enter Tryz.func22,Tryz.ntmps22;go_wp2_with fail
 refine HR.out.mono ?_;rintro e w4 ⟨vv,rfl,hb4,rfl⟩;obtain⟨k8,hk8⟩:∃k8,Hid (w4.heap.size=k8):=⟨_,rfl⟩
 obtain⟨w5,hw5⟩:∃w5,Hid (w4.alloc (.cells #[.int .u64 0,.int .u64 0,.int .u64 0,.int .u64 0] 82)=w5):=⟨_,rfl⟩
 obtain⟨w6,hw6⟩:∃w6,Hid (w5.setCells k8 0 (wn 0)=w6):=⟨_,rfl⟩
 have F5:Hid (Row w5 k8 [.int .u64 0,.int .u64 0,.int .u64 0,.int .u64 0]/\Below w.heap.size w w5/\w.heap.size<=k8):=by
  rw[<-hw5.out,<-hk8.out];exact⟨aG w4 _ _,hb4.alloc hb4.size _,hb4.size⟩
 have K6:Hid (Below w.heap.size w w6):=by
  rw[<-hw6.out];exact RG.below_setCells F5.out.2.2 _ _ _ F5.out.2.1
 clear hb4 HR;go_wp2_with (first|(refine aJ (v:=.pointer (some ⟨k8,0,none⟩)) (w':=w5) rfl (.alloc 82) rfl ?_ ?_;(rw[<-hw5.out,<-hk8.out];kernel_rfl))|(refine wpList_store_mid rfl 82 _ _ rfl k8 0 (wn 0).toArray ?_ ?_ ?_ ?_ ?_ ?_;rfl;exact hvn.out.symm;exact F5.out.1.2.2;exact i40;exact dI 0;rw[show(wn 0).toArray.toList=wn 0 from rfl,hw6.out])|fail)
 go_ret2
 exact⟨_,rfl,K6.out,none,0,0,rfl,Or.inl ⟨rfl,rfl,rfl,rfl⟩⟩
theorem Es(C:Fld P)(O:Ord N)(hord:∀r:EC.Pt P,EC.On r->EC.mul N r=none)(q0 q2:Option Addr)(n0 c0 n2 c2:Nat)(v1:Value)(sb rb pb:Bs)(n:Nat)(w:World)(h0:Arg33 w (.slice q0 n0 c0) sb)(hA:Arg w v1 rb)(h2:Arg33 w (.slice q2 n2 c2) pb)(hr:rq N rb=some n)(T:Bs)(ec:Int)
 (hT:((∃p q,rd P sb=some p/\rd P pb=some q/\T=wr (EC.add (pt p) (EC.neg (EC.mul n (pt q)))))/\ec=0)\/((rd P sb=none\/rd P pb=none)/\T=#[]/\ec=4)) :
 Calls prog 22 #[.slice q0 n0 c0,v1,.slice q2 n2 c2] w (Ret fun e w'=>Below w.heap.size w w'/\JS T ec e w'):=by
 have hnN:n<N:=by
  unfold rq at hr;split at hr
  ·rename_i h
   rw[<-Option.some.inj hr];exact h.2
  ·cases hr
 have HR:Hid (Calls prog 46 #[v1] w (Ret fun e w'=>Below w.heap.size w w'/\e=.tuple #[nv n,.bool true])):=by
  have h:=nE O v1 rb w hA;rw[hr]at h;exact h
 obtain⟨vn,hvn⟩:∃v,Hid (nv n=v):=⟨_,rfl⟩
 rw[hvn.out]at HR;have HC:Hid (Fld P/\Ord N/\(∀r:EC.Pt P,EC.On r->EC.mul N r=none)/\n<N):=⟨C,O,hord,hnN⟩
 have HT:=Hid.mk' hT;have HA:Hid (Arg33 w (.slice q0 n0 c0) sb/\Arg33 w (.slice q2 n2 c2) pb):=⟨h0,h2⟩
 clear C O hord hA hr hnN hT h0 h2;go_enter Tryz.func22,Tryz.ntmps22;go_wp2_with fail
 refine HR.out.mono ?_;rintro e w4 ⟨vv,rfl,hb4,rfl⟩;obtain⟨k8,hk8⟩:∃k8,Hid (w4.heap.size=k8):=⟨_,rfl⟩
 obtain⟨w5,hw5⟩:∃w5,Hid (w4.alloc (.cells #[.int .u64 0,.int .u64 0,.int .u64 0,.int .u64 0] 82)=w5):=⟨_,rfl⟩
 obtain⟨w6,hw6⟩:∃w6,Hid (w5.setCells k8 0 (wn n)=w6):=⟨_,rfl⟩
 have F5:Hid (Row w5 k8 [.int .u64 0,.int .u64 0,.int .u64 0,.int .u64 0]/\Below w.heap.size w w5/\w.heap.size<=k8):=by
  rw[<-hw5.out,<-hk8.out];exact⟨aG w4 _ _,hb4.alloc hb4.size _,hb4.size⟩
 have K6:Hid (Kp w w6 [(k8,wn n)]):=by
  rw[<-hw6.out];exact⟨RG.below_setCells F5.out.2.2 _ _ _ F5.out.2.1,fun y hy=>by rw[show y=(k8,wn n) by simpa using hy];exact F5.out.1.put rfl⟩
 clear hb4 HR;go_wp2_with (first|(refine aJ (v:=.pointer (some ⟨k8,0,none⟩)) (w':=w5) rfl (.alloc 82) rfl ?_ ?_;(rw[<-hw5.out,<-hk8.out];kernel_rfl))|(refine wpList_store_mid rfl 82 _ _ rfl k8 0 (wn n).toArray ?_ ?_ ?_ ?_ ?_ ?_;rfl;exact hvn.out.symm;exact F5.out.1.2.2;exact i40;exact dI n;rw[show(wn n).toArray.toList=wn n from rfl,hw6.out])|fail)
 clear hw5 hw6 hk8 F5;obtain⟨w7,hw7⟩:∃w7,Hid (w6.alloc (.cells #[.slice q0 n0 c0,.slice q2 n2 c2] 22)=w7):=⟨_,rfl⟩
 have hb7:Below w6.heap.size w6 w7:=by rw[<-hw7.out];exact aE _ _
 have K7:Hid (Kp w w7 [(k8,wn n)]):=K6.out.grow hb7;have HM:Hid (w7.rangeAt w6.heap.size 0 [.slice q0 n0 c0,.slice q2 n2 c2]/\w6.heap.size<w7.heap.size):=by
  rw[<-hw7.out];exact⟨(RG.Made.alloc w6 [.slice q0 n0 c0,.slice q2 n2 c2] 22).range,by rw[World.size_alloc];omega⟩
 rw[hw7.out];refine(Mm HC.out.1 w6.heap.size 2 2 (by decide) (fun j=>if j=0 then sb else pb) w7 HM.out.2 (fun j hj=>?_)).mono ?_
 ·have hj2:j=0\/j=1:=by omega
  rcases hj2 with rfl|rfl
  ·exact⟨_,HM.out.1 0 _ rfl,HA.out.1.below K7.out.bl⟩
  ·exact⟨_,HM.out.1 1 _ rfl,HA.out.2.below K7.out.bl⟩
 rintro e w8 ⟨vv,rfl,hb8,hcase⟩;have K8:Hid (Kp w w8 [(k8,wn n)]):=K7.out.grow hb8;clear hb7 hb8 K6 K7 HM hw7;rcases hcase with⟨hall,K,rfl,-,hK,hrow⟩|⟨⟨j,hj,hjn⟩,rfl⟩
 ·obtain⟨p,hp⟩:=hall 0 (by decide);obtain⟨q,hq⟩:=hall 1 (by decide);have hp':rd P sb=some p:=hp;have hq':rd P pb=some q:=hq;have hr0:w8.rangeAt K 0 (aA sb):=hrow 0 (by decide);have hr1:w8.rangeAt K 33 (aA pb):=hrow 1 (by decide);rcases HT.out with⟨⟨p',q',e1,e2,e3⟩,e4⟩|⟨h4,-⟩
  ·rw[hp']at e1;rw[hq']at e2;obtain rfl:=Option.some.inj e1;obtain rfl:=Option.some.inj e2;have hsp:=uL HC.out.1 hp';have hsq:=uL HC.out.1 hq';have ws:sb=wr (pt p):=(EA HC.out.1 hp').symm;have wq:pb=wr (pt q):=(EA HC.out.1 hq').symm;have hpts:PtsL P [(1,sb),(sTi N (sMi N 0 1) n,pb)]:=fun y hy=>by
    rcases List.mem_cons.1 hy with rfl|hy
    ·exact⟨pt p,hsp.2,ws⟩
    ·rw[show y=(sTi N (sMi N 0 1) n,pb) by simpa using hy];exact⟨pt q,hsq.2,wq⟩
   have hsum:eI P [(1,sb),(sTi N (sMi N 0 1) n,pb)]=EC.add (pt p) (EC.neg (EC.mul n (pt q))):=by
    show EC.add (EC.mul 1 (d5 P sb)) (EC.add (EC.mul (sTi N (sMi N 0 1) n) (d5 P pb)) none)=_;rw[ws,wq,dF HC.out.1 hsp.2,dF HC.out.1 hsq.2,EC.bD,CH HC.out.1 HC.out.2.1 HC.out.2.2.1 hsq.2];rfl
   have h1N:1<N:=by have:2<=N:=Nat.le_trans HC.out.2.1.n2 (Nat.mod_le _ _);omega
   have HE:Hid (PtsL P [(1,sb),(sTi N (sMi N 0 1) n,pb)]/\wr (eI P [(1,sb),(sTi N (sMi N 0 1) n,pb)])=T/\1<N/\sTi N (sMi N 0 1) n<N/\sb.size=33/\pb.size=33/\T.size=33):=⟨hpts,by rw[hsum,e3],h1N,Nat.mod_lt _ HC.out.2.1.pos,mF hp',mF hq',by rw[e3];exact aL _⟩
   have HB:Hid (Kp w w8 [(k8,wn n)]/\w8.rangeAt K 0 (aA sb)/\w8.rangeAt K 33 (aA pb)/\K<w8.heap.size):=⟨K8.out,hr0,hr1,hK⟩
   subst e4;clear hall hp hq hp' hq' hr0 hr1 hrow hK K8 HT e1 e2 e3 hsp hsq ws wq hpts hsum h1N HA;go_wp2_with fail
   refine(Gu w K k8 n (sMi N 0 1) sb pb T N).draws (by kernel_rfl) (by kernel_rfl) ⟨
    RG.aK fun a W hp=>⟨[(10,.slice (some ⟨K,0,none⟩) 2 2)],.slice (some ⟨K,0,none⟩) 2 2,W,⟨hp.o 10 (by kernel_rfl),trivial⟩,by kernel_rfl,Below.refl _ _,rfl⟩,
    RG.aK fun a W hp=>⟨[(27,.slice (some ⟨K,0,none⟩) 2 2)],.pointer (some ⟨K,0,none⟩),W,⟨hp.n 0 27 (by kernel_rfl) (by kernel_rfl),trivial⟩,by kernel_rfl,Below.refl _ _,rfl⟩,
    RG.bJ 61 28 rfl uCP fun a W hp=>⟨K,0,aA sb,hp.n 1 28 (by kernel_rfl) (by kernel_rfl),hp.b.2.1,by rw[aC HE.out.2.2.2.2.1];exact aI,rfl⟩,
    RG.bG fun a W hp=>⟨[(29,pvl sb)],47,#[pvl sb],⟨hp.n 2 29 (by kernel_rfl) (by kernel_rfl),trivial⟩,by kernel_rfl,(FD sb HE.out.2.2.2.2.1 W).mono (by
     rintro e W' ⟨u,rfl,hb,hS⟩;exact⟨_,rfl,hb,hS.mono hp.b.1.bl.size⟩)⟩,
    RG.aK fun a W hp=>⟨[(10,.slice (some ⟨K,0,none⟩) 2 2)],.slice (some ⟨K,0,none⟩) 2 2,W,⟨hp.o 10 (by kernel_rfl),trivial⟩,by kernel_rfl,Below.refl _ _,rfl⟩,
    RG.aK fun a W hp=>⟨[(31,.slice (some ⟨K,0,none⟩) 2 2)],.pointer (some ⟨K,33,none⟩),W,⟨hp.n 4 31 (by kernel_rfl) (by kernel_rfl),trivial⟩,by kernel_rfl,Below.refl _ _,rfl⟩,
    RG.bJ 61 32 rfl uCP fun a W hp=>⟨K,33,aA pb,hp.n 5 32 (by kernel_rfl) (by kernel_rfl),hp.b.2.2.1,by rw[aC HE.out.2.2.2.2.2.1];exact aI,rfl⟩,
    RG.bJ 82 8 rfl u40 fun a W hp=>⟨k8,0,wn n,hp.o 8 (by kernel_rfl),(hp.b.1.at 0 rfl).2.1,i40,rfl⟩,
    RG.bG fun a W hp=>⟨[(33,pvl pb),(34,nv n)],50,#[pvl pb,nv n],⟨hp.n 6 33 (by kernel_rfl) (by kernel_rfl),hp.n 7 34 (by kernel_rfl) (by kernel_rfl),trivial⟩,by kernel_rfl,(eN pb HE.out.2.2.2.2.2.1 n W).mono (by
     rintro e W' ⟨u,rfl,hb,k,rfl,hk,hR⟩;exact⟨_,rfl,hb,Sm.one hR (Nat.le_trans hp.b.1.bl.size hk) rfl⟩)⟩,
    RG.bG fun a W hp=>⟨[(30,a.eval (.tmp 30)),(35,a.eval (.tmp 35))],57,#[a.eval (.tmp 30),a.eval (.tmp 35)],⟨rfl,rfl,trivial⟩,by kernel_rfl,(rH HC.out.2.1 w.heap.size (a.eval (.tmp 30)) (a.eval (.tmp 35)) [(1,sb)] [(n,pb)] (by simp) (by simp) (by simp) (fun x hx=>by rw[show x=(1,sb) by simpa using hx];exact HE.out.2.2.2.2.1) (fun x hx=>by rw[show x=(n,pb) by simpa using hx];exact HE.out.2.2.2.2.2.1) (fun x hx=>by rw[show x=(n,pb) by simpa using hx];exact HC.out.2.2.2) W hp.b.1.bl.size (hp.n 3 30 (by kernel_rfl) (by kernel_rfl)) (hp.n 8 35 (by kernel_rfl) (by kernel_rfl))).mono (by
     rintro e W' ⟨u,rfl,hb,hS⟩;exact⟨_,rfl,hb,hS.mono hp.b.1.bl.size⟩)⟩,
    RG.bG fun a W hp=>⟨[(36,a.eval (.tmp 36))],51,#[a.eval (.tmp 36)],⟨rfl,trivial⟩,by kernel_rfl,by
     have hS:Sm w.heap.size W (a.eval (.tmp 36)) [(1,sb),(sTi N (sMi N 0 1) n,pb)]:=hp.n 9 36 (by kernel_rfl) (by kernel_rfl);refine(hS.point HC.out.1 HC.out.2.1 HC.out.2.2.1 (by simp) (by simp) (fun x hx=>?_) HE.out.1).mono ?_
     ·rcases List.mem_cons.1 hx with rfl|hx
      ·exact HE.out.2.2.1
      ·rw[show x=(sTi N (sMi N 0 1) n,pb) by simpa using hx];exact HE.out.2.2.2.1
     ·rintro e W' ⟨u,rfl,hb,rfl⟩;exact⟨_,rfl,hb,by rw[HE.out.2.1];rfl⟩⟩,
    RG.bG fun a W hp=>⟨[(37,pvl T)],52,#[pvl T],⟨hp.n 10 37 (by kernel_rfl) (by kernel_rfl),trivial⟩,by kernel_rfl,(lR HE.out.2.2.2.2.2.2 W).mono (by
     rintro e W' ⟨u,rfl,hb,hE⟩;exact⟨_,rfl,hb,hE⟩)⟩,
    RG.aK fun a W hp=>⟨[(38,a.eval (.tmp 38))],a.eval (.tmp 38),W,⟨rfl,trivial⟩,by kernel_rfl,Below.refl _ _,hp.n 11 38 (by kernel_rfl) (by kernel_rfl)⟩,
    RG.aK fun a W hp=>⟨[],.int .i64 0,W,trivial,by kernel_rfl,Below.refl _ _,rfl⟩,trivial⟩ ⟨HB.out.1.drew,HB.out.2⟩ ?_
   intro V w9 hR9 hB9;have hV13:V 13=.int .i64 0:=hR9 13 (Nat.lt_of_succ_le (Nat.le_of_ble_eq_true (by kernel_rfl)));have hE12:El 33 w9 (V 12) T:=hR9 12 (Nat.lt_of_succ_le (Nat.le_of_ble_eq_true (by kernel_rfl)));obtain⟨qq,m,cap,hV12,hC12⟩:=hE12.cw;have K9:Hid (Below w.heap.size w w9/\Cw w9 qq m cap T):=⟨hB9.1.bl,hC12⟩
   dsimp only[RG.eK,Nat.reduceAdd];simp only[Act.put,List.setIfInBounds_toArray,List.set_cons_succ,List.set_cons_zero];rw[hV13,hV12];clear hR9 hB9 HB hV12 hV13 hE12 hC12;go_wp2
   go_ret2
   exact⟨_,rfl,K9.out.1,qq,m,cap,rfl,K9.out.2⟩
  ·exfalso;rcases h4 with h4|h4
   ·rw[hp']at h4;cases h4
   ·rw[hq']at h4;cases h4
 ·have hbad:rd P sb=none\/rd P pb=none:=by
   have hj2:j=0\/j=1:=by omega
   rcases hj2 with rfl|rfl
   ·exact Or.inl hjn
   ·exact Or.inr hjn
  rcases HT.out with⟨⟨p',q',e1,e2,-⟩,-⟩|⟨-,rfl,rfl⟩
  ·exfalso;rcases hbad with h4|h4
   ·rw[h4]at e1;cases e1
   ·rw[h4]at e2;cases e2
  ·clear hjn hbad HT HA hj;go_wp2
   go_ret2
   exact⟨_,rfl,K8.out.bl,none,0,0,rfl,Or.inl ⟨rfl,rfl,rfl,rfl⟩⟩
def encV(v:Value):Value:=v
theorem C5(s:ByteArray)(w:World):
 ∃cap w',(convert 9 22 (.string s)).run prog w=.ok (.slice (some ⟨w.heap.size,0,none⟩) s.size cap) w'/\s.size<=cap/\Below w.heap.size w w'/\Holds encB w' w.heap.size 0 s.data/\w.heap.size<w'.heap.size:=by
 have h:=Lib.run_convert_string_bytes (P:=prog) w 9 22 5 s str9 slice22 int5;have hcap:s.size<=grownCap w s.size 0 5:=by
  unfold grownCap Question.cut;exact Nat.le_add_right _ _
 have hl:s.data.size=s.size:=rfl;refine⟨_,_,h,hcap,?_,?_,by rw[Lib.bytesWorld_size];omega⟩
 ·refine⟨?_,?_,?_,?_,fun k hk=>Lib.bytesWorld_at_old w 5 s k hk⟩
  ·unfold Lib.bytesWorld World.freeze;rw[if_neg (by decide)];rfl
  ·unfold Lib.bytesWorld World.freeze;rw[if_neg (by decide)];rfl
  ·unfold Lib.bytesWorld World.freeze;rw[if_neg (by decide)];rfl
  ·rw[Lib.bytesWorld_size];omega
 ·intro j hj;have hb:=Lib.bytesWorld_at_new w 5 s;have hsz:(Lib.bytesCells w 5 s).size=grownCap w s.size 0 5:=by
   unfold Lib.bytesCells;rw[Array.size_append,Array.size_map,Array.size_replicate];omega
  have hc:(Lib.bytesCells w 5 s)=(s.data++Array.replicate (grownCap w s.size 0 5-s.size) 0).map encB:=by
   unfold Lib.bytesCells;rw[Array.map_append,Array.map_replicate];rfl
  have hj2:j<(s.data++Array.replicate (grownCap w s.size 0 5-s.size) 0).size:=by rw[Array.size_append,Array.size_replicate];omega
  have hget:(s.data++Array.replicate (grownCap w s.size 0 5-s.size) 0)[j]=s.data[j]!:=by
   rw[Array.getElem_append_left hj,getElem!_pos s.data j hj]
  constructor
  ·unfold World.cell?;rw[hb];simp only[Nat.zero_add];rw[if_neg (by decide),hc,Array.getElem?_map,Array.getElem?_eq_getElem hj2,Option.map_some,hget]
  ·unfold World.frozen?;rw[hb];simp only[Nat.zero_add,hsz];simp;omega
def jF(P:Nat)[NeZero P](bs:Bs):EC.Pt P:=match rd P bs with|some p=>pt p|none=>none
theorem Cv{bs:Bs}{p:Fin P × Fin P}(h:rd P bs=some p):jF P bs=pt p:=by unfold jF;rw[h]
noncomputable def unT (P:Nat) [NeZero P] (N:Nat) (s r p:ByteArray):Bs × Int:=
 match rq N r.data with
 | none=>(#[],3)
 | some n=>match rd P s.data,rd P p.data with
  | some a,some b=>(wr (EC.add (pt a) (EC.neg (EC.mul n (pt b)))),0)
  | _,_=>(#[],4)
omit [NeZero P] in
theorem Ca:(wr (none:EC.Pt P))=o33:=by
 show Av=o33;decide +kernel
noncomputable def pmK (N:Nat) (sk b:Bs):Nat:=chL N Be.data.toList [sk.toList,b.toList]
noncomputable def pmC (P:Nat) [NeZero P] (N:Nat) (sk b:Bs):Nat:=asm N b.toList (wr (EC.mul (nuV sk) (gG P))).toList (wr (EC.mul (nuV sk) (jF P b))).toList (wr (EC.mul (pmK N sk b) (gG P))).toList (wr (EC.mul (pmK N sk b) (jF P b))).toList
noncomputable def pmZ (P:Nat) [NeZero P] (N:Nat) (sk b:Bs):Nat:=sPl N (pmK N sk b) (sTi N (pmC P N sk b) (nuV sk))
noncomputable def pmT (P:Nat) [NeZero P] (N:Nat) (sk b:Bs):Bs × Int:=
 if sec N sk then if real P b then(bx (pmC P N sk b)++bx (pmZ P N sk b),0) else(#[],4) else(#[],3)
theorem Cq{b:Bs}(h:real P b=true):(rd P b).isSome=true:=by
 unfold real at h;exact((Bool.and_eq_true _ _).mp h).1
theorem fR(C:Fl3 P){b:Bs}(h:real P b=true):wr (jF P b)=b/\EC.On (jF P b):=by
 obtain⟨p,hp⟩:=Option.isSome_iff_exists.1 (Cq h);rw[Cv hp];exact⟨EA C.toFld hp,(uL C.toFld hp).2⟩
theorem EU{sk:Bs}(h:sec N sk=true):rq N sk=some (nuV sk)/\nuV sk<N/\nuV sk≠0:=by
 unfold sec at h;rw[Bool.and_eq_true]at h;obtain⟨h1,h2⟩:=h;obtain⟨n,hn⟩:=Option.isSome_iff_exists.1 h1;have e:=nI hn;rw[<-e]at h2⊢;refine⟨hn,?_,by simpa using h2⟩;unfold rq at hn;split at hn
 ·rename_i h
  rw[<-Option.some.inj hn];exact h.2
 ·cases hn
end
section
open Go.RowKit Go.Sort Go.Deep
namespace RG
section
variable {P:Program}{ops:Array Oper}{Q:Exit->Act->World->Prop}{w0 w:World}{k0:Nat}{X:List Nat}{its:List It}{bl:List Bl}{olds:List (Tmp × SV)}{a:Act}{i:Nat}{o:Oper}{it:It}
end
end RG
variable {P:Nat}[NeZero P]{N:Nat}
end
section
open Go.RowKit Go.Sort Go.Deep
variable {P:Nat}[NeZero P]{N:Nat}
noncomputable def vsF (P:Nat) [NeZero P] (a:Bs) (c s:Nat):Bs:=wr (EC.add (EC.mul s (gG P)) (EC.neg (EC.mul c (jF P a))))
noncomputable def vsG (P:Nat) [NeZero P] (g b:Bs) (c s:Nat):Bs:=wr (EC.add (EC.mul s (jF P g)) (EC.neg (EC.mul c (jF P b))))
noncomputable def vsM (P:Nat) [NeZero P] (N:Nat) (a g b:Bs) (c s:Nat):Nat:=asm N g.toList a.toList b.toList (vsF P a c s).toList (vsG P g b c s).toList
theorem E3{bs:Bs}(h:(rq N bs).isSome=true):nuV bs<N:=by
 obtain⟨n,hn⟩:=Option.isSome_iff_exists.1 h;rw[<-nI hn];unfold rq at hn;split at hn
 ·rename_i h
  rw[<-Option.some.inj hn];exact h.2
 ·cases hn
theorem kM{P:Program}{w:World}{fn:Func}{a:Act}(t u x:Tmp)(hr:fn.results=#[.tmp t,.tmp u,.tmp x])(v v' v'':Value)(ht:a.tmps[t]? = some v)(hu:a.tmps[u]? = some v')(hx:a.tmps[x]? = some v''):(results fn a.tmps).run P w=.ok (.tuple #[v,v',v'']) w:=by
 have h2:a.tmps.getD t undef=v:=by rw[Array.getD_eq_getD_getElem?,ht];rfl
 have h3:a.tmps.getD u undef=v':=by rw[Array.getD_eq_getD_getElem?,hu];rfl
 have h4:a.tmps.getD x undef=v'':=by rw[Array.getD_eq_getD_getElem?,hx];rfl
 unfold results;rw[hr];simp only[Array.mapM_eq_mapM_toList,List.mapM_cons,List.mapM_nil,h2,h3,h4];simp[Sem.run_bind]
theorem DX{W:World}{base m:Nat}{T:TypeId}{e:Value}{xs:List Value}(h:W.ownsRow base T 1 e m xs)(hm:0<m):∃g cap,e=.slice (some ⟨g,0,none⟩) m cap/\base<=g/\g<W.heap.size/\∀j,j<m->W.cell? ⟨g,j,none⟩=xs[j]?:=by
 rcases h.2 with⟨_,h0⟩|⟨g,cap,cur,rfl,hb,hg,h1,h2,h3,h4⟩
 ·omega
 ·refine⟨g,cap,rfl,hb,(Array.getElem?_eq_some_iff.1 hg).1,fun j hj=>?_⟩;rw[<-h4,List.getElem?_take_of_lt (by omega)];simp[World.cell?,hg]
theorem t7(w:World)(u v:Value)(T U:TypeId):Below w.heap.size w ((w.alloc (.cells #[u] T)).alloc (.cells #[v] U))/\((w.alloc (.cells #[u] T)).alloc (.cells #[v] U)).heap.size=w.heap.size+2/\((w.alloc (.cells #[u] T)).alloc (.cells #[v] U)).cell? ⟨w.heap.size,0,none⟩=some u/\((w.alloc (.cells #[u] T)).alloc (.cells #[v] U)).cell? ⟨w.heap.size+1,0,none⟩=some v:=by
 have h1:=RG.Made.alloc w [u] T;have h2:=RG.Made.alloc (w.alloc (.cells #[u] T)) [v] U;rw[World.size_alloc]at h2;refine⟨h1.bel.trans (h2.bel.mono (by rw[World.size_alloc];omega)),by rw[World.size_alloc,World.size_alloc],?_,h2.range 0 _ rfl⟩;have hlt:=h1.lt;rw[World.cell?_of_block (a:=⟨w.heap.size,0,none⟩) (Below.heap_alloc _ _ _ hlt)];exact h1.range 0 _ rfl
theorem MO{f:Nat->List Value}{C:List Value}(h:Rows 4 2 f 2 C)(h0:∀j,(f j).length=4):C=f 0++f 1:=by
 apply List.ext_getElem?;intro j;have hl:=h.len;by_cases hj:j<8
 ·have e:j=4*(j/4)+j%4:=by omega
  have hr:=h.row (j/4) (j%4) (by omega) (by omega);rw[<-e]at hr;rw[hr];have h3:j/4=0\/j/4=1:=by omega
  rcases h3 with h3|h3
  ·rw[h3,List.getElem?_append_left (by rw[h0];omega)];congr 1;omega
  ·rw[h3,List.getElem?_append_right (by rw[h0];omega),h0];congr 1;omega
 ·rw[List.getElem?_eq_none (by omega),List.getElem?_eq_none (by simp only[List.length_append,h0];omega)]
theorem GV(q:Option Addr)(c:Nat)(w:World):Calls prog 56 #[.func (.func 25) #[] #[],.slice q 0 c] w (Ret fun e w'=>Below w.heap.size w w'/\∃K,e=.tuple #[.slice (some ⟨K,0,none⟩) 0 0,.bool true]):=by
 obtain⟨C0,hC0,hmk⟩:=Ly 0 (by decide);have hmk':(Instr.makeSlice 91 (.int .i64 0) (.int .i64 0)).run prog w=.ok (.slice (some ⟨w.heap.size,0,none⟩) 0 0) (w.alloc (.cells C0.toArray 61)):=hmk w;obtain⟨w1,hw1⟩:∃w1,Hid (w.alloc (.cells C0.toArray 61)=w1):=⟨_,rfl⟩
 rw[hw1.out]at hmk';have K1:Hid (Below w.heap.size w w1):=by rw[<-hw1.out];exact aE _ _
 clear hmk hC0 hw1;go_enter Tryz.func56,Tryz.ntmps56;go_wp2;clear hmk';go_loopg [16] 0 (fun m s16 W=>s16=.int .i64 0/\Hid (Below w.heap.size w W))
 case atStart=>exact⟨rfl,K1.out⟩
 case round =>
  clear K1;obtain⟨rfl,KM⟩:=hrel;go_wp2
  go_ret2
  exact⟨_,rfl,KM.out,_,rfl⟩
def RpT(N:Nat)(b:Bs):Bool:=decide (b.size=64) && ((rq N (b.extract 0 32)).isSome && (rq N (b.extract 32 64)).isSome)
def RpR(N:Nat)(w:World)(b:Bs)(e:Value)(w':World):Prop:=
 Below w.heap.size w w'/\((RpT N b=true/\∃q k,e=.tuple #[q,.slice (some ⟨k,0,none⟩) 2 2,.bool true]/\w.heap.size<=k/\k<w'.heap.size/\w'.rangeAt k 0 (wn (nuV (b.extract 0 32))++wn (nuV (b.extract 32 64)))/\w'.there k 0 8)\/(RpT N b=false/\∃q1 q2,e=.tuple #[q1,q2,.bool false]))
theorem E2{b:Bs}(h:(rq N b).isSome=true):(rq N b).getD 0=nuV b:=by
 obtain⟨n,hn⟩:=Option.isSome_iff_exists.1 h;rw[hn,Option.getD_some,nI hn]
theorem nR(O:Ord N)(v:Value)(b:Bs)(w:World)(hv:SP.PartOk w v b.toList):Calls prog 93 #[v,.int .i64 0,.int .i64 2] w (Ret (RpR N w b)):=by
 obtain⟨a0,sb,so,cap,bs,rfl,hbe,hcap,-,hor⟩:=hv;obtain rfl:bs=b:=Array.ext' hbe;clear hbe;by_cases h64:bs.size=64
 ·obtain⟨rfl,hH⟩:a0=some ⟨sb,so,none⟩/\Holds encB w sb so bs:=by
   rcases hor with h|h
   ·omega
   ·exact h
  clear hor;have hlt:sb<w.heap.size:=zI hH (by omega);rw[h64]at hcap⊢;have hs1:∀w:World,(Instr.sliceAt 22 (.slice (some ⟨sb,so,none⟩) 64 cap) none (some (.int .i64 0)) none).run prog w=.ok (.slice (some ⟨sb,so,none⟩) 0 cap) w:=fun w=>by
   go_simp
  have hs2:∀w:World,(Instr.sliceAt 22 (.slice (some ⟨sb,so,none⟩) 64 cap) (some (.int .i64 0)) none none).run prog w=.ok (.slice (some ⟨sb,so,none⟩) 64 cap) w:=fun w=>by
   go_simp
  have HH:Hid (Holds encB w sb so bs/\bs.size=64):=⟨hH,h64⟩
  clear hH h64;go_enter Tryz.func93,Tryz.ntmps93;go_wp2_with fail
  refine(zX sb so 0 cap 33 (by decide) w).mono ?_;rintro e w1 ⟨v1,rfl,rfl,hw1⟩;obtain⟨h1,h2,h3,h4⟩:=t7 w (.slice (some ⟨sb,so,none⟩) 0 cap) (.int .i64 33) 22 3;have hw1':w1=(w.alloc (.cells #[.slice (some ⟨sb,so,none⟩) 0 cap] 22)).alloc (.cells #[.int .i64 33] 3):=hw1;rw[<-hw1']at h1 h2 h3 h4;clear hw1 hw1';have hcl:=zW sb so 33 0 0 cap w1 (by decide) rfl (by decide) (Nat.zero_le _) (by decide) w.heap.size (by omega) h3 h4;clear h3 h4;go_wp2_with fail
  refine hcl.mono ?_;rintro e w2 ⟨v2,rfl,hb2,-,hn2⟩;obtain rfl:=hn2.2 trivial;have H2:Hid (Below w.heap.size w w2):=h1.trans (hb2.mono h1.size);clear h1 h2 hcl hb2 hn2;go_wp2_with fail
  refine(GV none 0 w2).mono ?_;rintro e w3 ⟨v3,rfl,hb3,K3,rfl⟩;have H3:Hid (Below w.heap.size w w3):=H2.out.trans (hb3.mono H2.out.size);clear hb3 H2;go_wp2_with fail
  refine(zX sb so 64 cap 32 (by decide) w3).mono ?_;rintro e w4 ⟨v4,rfl,rfl,hw4⟩;obtain⟨h1,h2,h3,h4⟩:=t7 w3 (.slice (some ⟨sb,so,none⟩) 64 cap) (.int .i64 32) 22 3;have hw4':w4=(w3.alloc (.cells #[.slice (some ⟨sb,so,none⟩) 64 cap] 22)).alloc (.cells #[.int .i64 32] 3):=hw4;rw[<-hw4']at h1 h2 h3 h4;clear hw4 hw4';have hcl:=zW sb so 32 2 64 cap w4 (by decide) rfl (by decide) hcap (by decide) w3.heap.size (by omega) h3 h4;clear h3 h4;go_wp2_with fail
  refine hcl.mono ?_;rintro e w5 ⟨v5,rfl,hb5,hr5,-⟩;obtain⟨g5,c5,rfl,hg5,hl5,hc5⟩:=DX hr5 (by decide);have H5:Hid (Below w.heap.size w w5):=(H3.out.trans (h1.mono H3.out.size)).trans (hb5.mono (Nat.le_trans H3.out.size h1.size));clear h1 h2 hcl hb5 hg5 hr5 H3;have HA:Hid (Args w5 (some ⟨g5,0,none⟩) 2 (fun j=>bs.extract (32*j) (32*j+32))):=fun _=>by
   refine⟨g5,rfl,hl5,fun j hj=>⟨chv sb so 32 j,?_,?_⟩⟩
   ·rw[hc5 j hj];simp[hj]
   ·have hsz:=HH.out.2;refine⟨_,32,32,rfl,by rw[Array.size_extract];omega,fun _=>⟨sb,so+32*j,rfl,Nat.le_refl _,Nat.lt_of_lt_of_le hlt H5.out.size,?_⟩⟩;have hH5:Holds encB w5 sb so bs:=Holds.below HH.out.1 H5.out hlt;exact mV (32*j) 32 hH5 (by omega)
  clear hl5 hc5;go_wp2_with fail
  refine(JL O 2 c5 (by decide) (some ⟨g5,0,none⟩) _ w5 HA.out).mono ?_;have HN:Hid (w.heap.size<=w5.heap.size):=H5.out.size;rintro e w6 ⟨v6,rfl,⟨hno,hb6,rfl⟩|⟨hall,k6,C6,hM6,hRo,rfl⟩⟩
  ·have H6:Hid (Below w.heap.size w w6/\RpT N bs=false):=by
    refine⟨H5.out.trans (hb6.mono HN.out),?_⟩;obtain⟨j,hj,hq⟩:=hno;unfold RpT;have hj2:j=0\/j=1:=by omega
    rcases hj2 with rfl|rfl
    ·have hq':rq N (bs.extract 0 32)=none:=hq;rw[hq'];simp
    ·have hq':rq N (bs.extract 32 64)=none:=hq;rw[hq'];simp
   clear hno hb6 H5 HA HH;go_wp2;refine bodyPost_ret (v:=.tuple #[.slice (some ⟨K3,0,none⟩) 0 0,.slice none 0 0,.bool false]) (kM (a:=⟨_,_⟩) 6 7 8 rfl _ _ _ rfl rfl rfl) rfl ?_;exact⟨_,rfl,H6.out.1,Or.inr ⟨H6.out.2,_,_,rfl⟩⟩
  ·have H6:Hid (RpR N w bs (.tuple #[.slice (some ⟨K3,0,none⟩) 0 0,.slice (some ⟨k6,0,none⟩) 2 2,.bool true]) w6):=by
    have q0:(rq N (bs.extract 0 32)).isSome=true:=hall 0 (by decide);have q1:(rq N (bs.extract 32 64)).isSome=true:=hall 1 (by decide);refine⟨H5.out.trans (hM6.bel.mono HN.out),Or.inl ⟨?_,_,k6,rfl,Nat.le_trans HN.out hM6.le,hM6.lt,?_,?_⟩⟩
    ·unfold RpT;rw[q0,q1,HH.out.2];rfl
    ·have hC:=MO hRo (fun _=>rfl);rw[<-E2 q0,<-E2 q1];have:=hM6.range;rw[hC]at this;exact this
    ·have hC:=hRo.len;have:=hM6.there;rw[hC]at this;exact this
   clear hall hM6 hRo H5 HA HH;go_wp2;refine bodyPost_ret (v:=.tuple #[.slice (some ⟨K3,0,none⟩) 0 0,.slice (some ⟨k6,0,none⟩) 2 2,.bool true]) (kM (a:=⟨_,_⟩) 6 7 8 rfl _ _ _ rfl rfl rfl) rfl ?_;exact⟨_,rfl,H6.out⟩
 ·have hne:((bs.size:Int) == 64)=false:=by simpa using(by omega:¬(bs.size:Int)=64)
  have HT:Hid (RpT N bs=false):=by show _=_;unfold RpT;rw[decide_eq_false h64];rfl
  have h64':¬(bs.size:Int)=64:=by omega
  go_enter Tryz.func93,Tryz.ntmps93;go_wp2;refine bodyPost_ret (v:=.tuple #[.slice none 0 0,.slice none 0 0,.bool false]) (kM (a:=⟨_,_⟩) 6 7 8 rfl _ _ _ rfl rfl rfl) rfl ?_;exact⟨_,rfl,Below.refl _ _,Or.inr ⟨HT.out,_,_,rfl⟩⟩
end
section
open Go.RowKit Go.Sort Go.Deep
variable {P:Nat}[NeZero P]{N:Nat}
theorem Ki(n:Nat)(w:World):(Instr.box 82 (nv n)).run prog w=.ok (.pointer (some ⟨w.heap.size,0,none⟩)) (w.alloc (.cells (wn n).toArray 82)):=by kernel_rfl
section
variable (w:World) (k4 k5 k6 k7 k8 c s m B0:Nat) (a b T:Bs)
def RFo:Nat->Value->World->Prop
 | 0,v,_=>v=pvl a
 | 1,v,_=>v=nv s
 | 2,v,W=>Sm B0 W v [(s,a)]
 | 3,v,_=>v=pvl b
 | 4,v,_=>v=nv c
 | 5,v,W=>Sm B0 W v [(c,b)]
 | 6,v,W=>Sm B0 W v [(s,a),(m,b)]
 | 7,v,_=>v=pvl T
 | _,_,_=>True
def GFo:RG.Gw:=⟨RFo c s m B0 a b T,fun W=>Kp w W [(k8,z33),(k7,wn s),(k6,wn c),(k5,aA b),(k4,aA a)]/\B0<=W.heap.size,fun i v W W' hb h=>by
 match i,h with
 | 0,h=>exact h
 | 1,h=>exact h
 | 2,h=>exact Sm.grow h hb
 | 3,h=>exact h
 | 4,h=>exact h
 | 5,h=>exact Sm.grow h hb
 | 6,h=>exact Sm.grow h hb
 | 7,h=>exact h
 | _+8,_=>trivial,fun W W' hb h=>⟨h.1.grow hb,Nat.le_trans h.2 hb.size⟩⟩
end
theorem zQ(C:Fld P)(O:Ord N)(hord:∀r:EC.Pt P,EC.On r->EC.mul N r=none){X Y:EC.Pt P}(hX:EC.On X)(hY:EC.On Y){c s:Nat}(hc:c<N)(hs:s<N):Gives 94 #[pvl (wr X),pvl (wr Y),nv c,nv s] (pvl (wr (EC.add (EC.mul s X) (EC.neg (EC.mul c Y))))):=by
 intro w;have hpts:PtsL P [(s,wr X),(sTi N (sMi N 0 1) c,wr Y)]:=fun y hy=>by
  rcases List.mem_cons.1 hy with rfl|hy
  ·exact⟨X,hX,rfl⟩
  ·rw[show y=(sTi N (sMi N 0 1) c,wr Y) by simpa using hy];exact⟨Y,hY,rfl⟩
 have hsum:eI P [(s,wr X),(sTi N (sMi N 0 1) c,wr Y)]=EC.add (EC.mul s X) (EC.neg (EC.mul c Y)):=by
  show EC.add (EC.mul s (d5 P (wr X))) (EC.add (EC.mul (sTi N (sMi N 0 1) c) (d5 P (wr Y))) none)=_;rw[dF C hX,dF C hY,EC.bD,CH C O hord hY]
 rw[<-hsum];have HE:Hid (PtsL P [(s,wr X),(sTi N (sMi N 0 1) c,wr Y)]/\sTi N (sMi N 0 1) c<N/\(wr X).size=33/\(wr Y).size=33/\(wr (eI P [(s,wr X),(sTi N (sMi N 0 1) c,wr Y)])).size=33):=⟨hpts,Nat.mod_lt _ O.pos,aL _,aL _,aL _⟩
 have HC:Hid (Fld P/\Ord N/\(∀r:EC.Pt P,EC.On r->EC.mul N r=none)/\c<N/\s<N):=⟨C,O,hord,hc,hs⟩
 clear hsum hpts hX hY C O hord hc hs;generalize wr X=a at HE⊢;generalize wr Y=b at HE⊢;obtain⟨T,hT⟩:∃T,Hid (wr (eI P [(s,a),(sTi N (sMi N 0 1) c,b)])=T):=⟨_,rfl⟩
 rw[hT.out]at HE⊢;obtain⟨va,hva⟩:∃v,Hid (pvl a=v):=⟨_,rfl⟩
 obtain⟨vb,hvb⟩:∃v,Hid (pvl b=v):=⟨_,rfl⟩
 obtain⟨vc,hvc⟩:∃v,Hid (nv c=v):=⟨_,rfl⟩
 obtain⟨vs,hvs⟩:∃v,Hid (nv s=v):=⟨_,rfl⟩
 have bA:(Instr.box 61 (pvl a)).run prog w=.ok (.pointer (some ⟨w.heap.size,0,none⟩)) (w.alloc (.cells (aA a).toArray 61)):=qJ HE.out.2.2.1 w;obtain⟨w1,hw1⟩:∃w1,Hid (w.alloc (.cells (aA a).toArray 61)=w1):=⟨_,rfl⟩
 have bB:(Instr.box 61 (pvl b)).run prog w1=.ok (.pointer (some ⟨w1.heap.size,0,none⟩)) (w1.alloc (.cells (aA b).toArray 61)):=qJ HE.out.2.2.2.1 w1;obtain⟨w2,hw2⟩:∃w2,Hid (w1.alloc (.cells (aA b).toArray 61)=w2):=⟨_,rfl⟩
 have bC:=Ki c w2;obtain⟨w3,hw3⟩:∃w3,Hid (w2.alloc (.cells (wn c).toArray 82)=w3):=⟨_,rfl⟩
 have bS:=Ki s w3;obtain⟨w4,hw4⟩:∃w4,Hid (w3.alloc (.cells (wn s).toArray 82)=w4):=⟨_,rfl⟩
 obtain⟨w5,hw5⟩:∃w5,Hid (w4.alloc (.cells z33.toArray 61)=w5):=⟨_,rfl⟩
 rw[hva.out,hw1.out]at bA;rw[hvb.out,hw2.out]at bB;rw[hvc.out,hw3.out]at bC;rw[hvs.out,hw4.out]at bS;rw[hva.out,hvb.out,hvc.out,hvs.out];have e1:w1.heap.size=w.heap.size+1:=by rw[<-hw1.out,World.size_alloc]
 have e2:w2.heap.size=w.heap.size+2:=by rw[<-hw2.out,World.size_alloc,e1]
 have e3:w3.heap.size=w.heap.size+3:=by rw[<-hw3.out,World.size_alloc,e2]
 have e4:w4.heap.size=w.heap.size+4:=by rw[<-hw4.out,World.size_alloc,e3]
 rw[e1]at bB;rw[e2]at bC;rw[e3]at bS;have K5:Hid (Kp w w5 [(w.heap.size+4,z33),(w.heap.size+3,wn s),(w.heap.size+2,wn c),(w.heap.size+1,aA b),(w.heap.size,aA a)]):=by
  have q1:Row w1 w.heap.size (aA a):=by rw[<-hw1.out];exact aG w _ _
  have q2:Row w2 (w.heap.size+1) (aA b):=by rw[<-hw2.out,<-e1];exact aG w1 _ _
  have q3:Row w3 (w.heap.size+2) (wn c):=by rw[<-hw3.out,<-e2];exact aG w2 _ _
  have q4:Row w4 (w.heap.size+3) (wn s):=by rw[<-hw4.out,<-e3];exact aG w3 _ _
  have q5:Row w5 (w.heap.size+4) z33:=by rw[<-hw5.out,<-e4];exact aG w4 _ _
  have b1:Below w.heap.size w w1:=by rw[<-hw1.out];exact aE w _
  have b2:Below w1.heap.size w1 w2:=by rw[<-hw2.out];exact aE w1 _
  have b3:Below w2.heap.size w2 w3:=by rw[<-hw3.out];exact aE w2 _
  have b4:Below w3.heap.size w3 w4:=by rw[<-hw4.out];exact aE w3 _
  have b5:Below w4.heap.size w4 w5:=by rw[<-hw5.out];exact aE w4 _
  have t0:Kp w w1 [(w.heap.size,aA a)]:=⟨b1,fun x hx=>by rw[show x=(w.heap.size,aA a) by simpa using hx];exact q1⟩
  exact(((((((t0.grow b2).cons q2).grow b3).cons q3).grow b4).cons q4).grow b5).cons q5
 have BA:=Hid.mk' bA;have BB:=Hid.mk' bB;have BC:=Hid.mk' bC;have BS:=Hid.mk' bS;have HW5:Hid (w4.alloc (.cells z33.toArray 61)=w5/\w4.heap.size=w.heap.size+4):=⟨hw5.out,e4⟩
 clear bA bB bC bS hw1 hw2 hw3 hw4 hw5 e1 e2 e3 e4;go_enter Tryz.func94,Tryz.ntmps94;go_wp2_with (first|(refine bI (u:=va) (v:=.pointer (some ⟨w.heap.size,0,none⟩)) (w':=w1) rfl 61 (.tmp 0) rfl ?_ ?_ ?_;rfl;exact BA.out)|(refine bI (u:=vb) (v:=.pointer (some ⟨w.heap.size+1,0,none⟩)) (w':=w2) rfl 61 (.tmp 1) rfl ?_ ?_ ?_;rfl;exact BB.out)|(refine bI (u:=vc) (v:=.pointer (some ⟨w.heap.size+2,0,none⟩)) (w':=w3) rfl 82 (.tmp 2) rfl ?_ ?_ ?_;rfl;exact BC.out)|(refine bI (u:=vs) (v:=.pointer (some ⟨w.heap.size+3,0,none⟩)) (w':=w4) rfl 82 (.tmp 3) rfl ?_ ?_ ?_;rfl;exact BS.out)|(refine aJ (v:=.pointer (some ⟨w.heap.size+4,0,none⟩)) (w':=w5) rfl (.alloc 61) rfl ?_ ?_;(rw[<-HW5.out.1,<-HW5.out.2];kernel_rfl))|fail)
 clear BA BB BC BS HW5;refine(GFo w w.heap.size (w.heap.size+1) (w.heap.size+2) (w.heap.size+3) (w.heap.size+4) c s (sTi N (sMi N 0 1) c) w.heap.size a b T).last 8 (by kernel_rfl) (by kernel_rfl) (by kernel_rfl) ⟨
  RG.bJ 61 4 rfl uCP fun a' W hp=>⟨w.heap.size,0,aA a,hp.o 4 (by kernel_rfl),(hp.b.1.at 4 rfl).2.1,by rw[aC HE.out.2.2.1];exact aI,rfl⟩,
  RG.bJ 82 7 rfl u40 fun a' W hp=>⟨w.heap.size+3,0,wn s,hp.o 7 (by kernel_rfl),(hp.b.1.at 1 rfl).2.1,i40,rfl⟩,
  RG.bG fun a' W hp=>⟨[(9,pvl a),(10,nv s)],50,#[pvl a,nv s],⟨hp.n 0 9 (by kernel_rfl) (by kernel_rfl),hp.n 1 10 (by kernel_rfl) (by kernel_rfl),trivial⟩,by kernel_rfl,(eN a HE.out.2.2.1 s W).mono (by
   rintro e W' ⟨u,rfl,hb,k,rfl,hk,hR⟩;exact⟨_,rfl,hb,Sm.one hR (Nat.le_trans hp.b.1.bl.size hk) rfl⟩)⟩,
  RG.bJ 61 5 rfl uCP fun a' W hp=>⟨w.heap.size+1,0,aA b,hp.o 5 (by kernel_rfl),(hp.b.1.at 3 rfl).2.1,by rw[aC HE.out.2.2.2.1];exact aI,rfl⟩,
  RG.bJ 82 6 rfl u40 fun a' W hp=>⟨w.heap.size+2,0,wn c,hp.o 6 (by kernel_rfl),(hp.b.1.at 2 rfl).2.1,i40,rfl⟩,
  RG.bG fun a' W hp=>⟨[(12,pvl b),(13,nv c)],50,#[pvl b,nv c],⟨hp.n 3 12 (by kernel_rfl) (by kernel_rfl),hp.n 4 13 (by kernel_rfl) (by kernel_rfl),trivial⟩,by kernel_rfl,(eN b HE.out.2.2.2.1 c W).mono (by
   rintro e W' ⟨u,rfl,hb,k,rfl,hk,hR⟩;exact⟨_,rfl,hb,Sm.one hR (Nat.le_trans hp.b.1.bl.size hk) rfl⟩)⟩,
  RG.bG fun a' W hp=>⟨[(11,a'.eval (.tmp 11)),(14,a'.eval (.tmp 14))],57,#[a'.eval (.tmp 11),a'.eval (.tmp 14)],⟨rfl,rfl,trivial⟩,by kernel_rfl,(rH HC.out.2.1 w.heap.size (a'.eval (.tmp 11)) (a'.eval (.tmp 14)) [(s,a)] [(c,b)] (by simp) (by simp) (by simp) (fun x hx=>by rw[show x=(s,a) by simpa using hx];exact HE.out.2.2.1) (fun x hx=>by rw[show x=(c,b) by simpa using hx];exact HE.out.2.2.2.1) (fun x hx=>by rw[show x=(c,b) by simpa using hx];exact HC.out.2.2.2.1) W hp.b.1.bl.size (hp.n 2 11 (by kernel_rfl) (by kernel_rfl)) (hp.n 5 14 (by kernel_rfl) (by kernel_rfl))).mono (by
   rintro e W' ⟨u,rfl,hb,hS⟩;exact⟨_,rfl,hb,hS.mono hp.b.1.bl.size⟩)⟩,
  RG.bG fun a' W hp=>⟨[(15,a'.eval (.tmp 15))],51,#[a'.eval (.tmp 15)],⟨rfl,trivial⟩,by kernel_rfl,by
   have hS:Sm w.heap.size W (a'.eval (.tmp 15)) [(s,a),(sTi N (sMi N 0 1) c,b)]:=hp.n 6 15 (by kernel_rfl) (by kernel_rfl);refine(hS.point HC.out.1 HC.out.2.1 HC.out.2.2.1 (by simp) (by simp) (fun x hx=>?_) HE.out.1).mono ?_
   ·rcases List.mem_cons.1 hx with rfl|hx
    ·exact HC.out.2.2.2.2
    ·rw[show x=(sTi N (sMi N 0 1) c,b) by simpa using hx];exact HE.out.2.1
   ·rintro e W' ⟨u,rfl,hb,rfl⟩;exact⟨_,rfl,hb,by rw[hT.out];rfl⟩⟩,trivial⟩ ⟨K5.out.drew,K5.out.bl.size⟩ ?_
 intro V wa hRa hBa;have hV7:V 7=pvl T:=hRa 7 (by decide);dsimp only[RG.eK,Nat.reduceAdd,List.take,List.drop];obtain⟨vT,hvT⟩:∃v,Hid (pvl T=v):=⟨_,rfl⟩
 rw[hV7,hvT.out];generalize V 0=s0;generalize V 1=s1;generalize V 2=s2;generalize V 3=s3;generalize V 4=s4;generalize V 5=s5;generalize V 6=s6;obtain⟨wb,hwb⟩:∃wb,Hid (wa.setCells (w.heap.size+4) 0 (aA T)=wb):=⟨_,rfl⟩
 have hlen:(aA T).length=33:=aC HE.out.2.2.2.2;have hR8:Row wa (w.heap.size+4) z33:=hBa.1.at 0 rfl;have KB:Hid (Row wb (w.heap.size+4) (aA T)/\Below w.heap.size w wb):=by
  rw[<-hwb.out];exact⟨hR8.put (by rw[hlen];rfl),RG.below_setCells (by omega) _ _ _ hBa.1.bl⟩
 have HI:Hid (wa.there (w.heap.size+4) 0 (aA T).toArray.size/\(prog.info? 61).map (·.size)=some (aA T).toArray.size/\(prog.info? 61).map (·.size)=some (aA T).length):=by
  have e:(aA T).toArray.size=33:=by rw[List.size_toArray];exact hlen
  rw[e,hlen];exact⟨hR8.2.2,aI,aI⟩
 clear hlen hR8 hRa hBa hV7 K5 V;simp only[Act.put,List.setIfInBounds_toArray,List.set_cons_succ,List.set_cons_zero];go_wp2_with (first|(refine wpList_store_mid rfl 61 _ _ rfl (w.heap.size+4) 0 (aA T).toArray ?_ ?_ ?_ ?_ ?_ ?_;rfl;exact hvT.out.symm;exact HI.out.1;exact HI.out.2.1;exact bW T;rw[show(aA T).toArray.toList=aA T from rfl,hwb.out])|fail)
 refine bodyPost_ret (aY 8 61 rfl KB.out.1 rfl uCP HI.out.2.2) rfl ?_;exact⟨_,rfl,KB.out.2,rfl⟩
end
section
open Go.RowKit Go.Sort Go.Deep
variable {P:Nat}[NeZero P]{N:Nat}
theorem IY{W:World}{B0 n:Nat}{v:Value}{T:Bs}(h:W.ownsRow B0 5 1 v n (cb T))(hn:0<n)(hT:T.size=n):El n W v T:=by
 have h0:=fun {g:Nat}=>h.cells (g:=g)
 rcases h.2 with⟨-,h2⟩|⟨g,cap,cur,rfl,-,hc,hq⟩
 ·omega
 ·have hr:W.rangeAt g 0 (cb T):=fun j u hu=>by
   have:=h0 (g:=g) rfl j u hu;rw[add0]at this;rw[Nat.zero_add];exact this
  refine⟨g,cap,rfl,?_,hT,(Array.getElem?_eq_some_iff.1 hc).1,cb_holds hr fun j hj=>⟨?_,?_⟩⟩
  ·exact hq.1
  ·rw[hr j _ (List.getElem?_eq_getElem hj)];rfl
  ·simp[World.frozen?,hc]
def Eo(W:World)(v:Value)(T:Bs):Prop:=(v=.slice none 0 0/\T=#[])\/El 64 W v T
theorem Anp.el{c z B0:Nat}{v:Value}{W:World}(h:Anp c z B0 v W):El 64 W v (bx c++bx z):=by
 have h0:W.ownsRow B0 5 1 v 64 (((bx c).toList++(bx z).toList).map encB):=h;rw[<-Array.toList_append]at h0;exact IY (T:=bx c++bx z) h0 (by decide) (by rw[Array.size_append,bK,bK])
theorem DR(C:Fl3 P)(O:Ord N)(p0 p1:Option Addr)(n0 c0 n1 c1:Nat)(sk b:Bs)(w:World)(hA:Arg w (.slice p0 n0 c0) sk)(h0:SP.PartOk w (.slice p0 n0 c0) sk.toList)(hA1:Arg33 w (.slice p1 n1 c1) b)(h1:SP.PartOk w (.slice p1 n1 c1) b.toList):
 Calls prog 54 #[.slice p0 n0 c0,.slice p1 n1 c1] w (Ret fun e w'=>Below w.heap.size w w'/\∃v,e=.tuple #[v,.int .i64 (pmT P N sk b).2]/\Eo w' v (pmT P N sk b).1):=by
 have hk:((rq N sk).isSome && !decide ((rq N sk).getD 0=0))=sec N sk:=by
  unfold sec;cases hr:rq N sk with
  | none=>rfl
  | some n=>rw[<-nI hr];rfl
 unfold pmT;cases hs:sec N sk with
 | false =>
  rw[hs]at hk;refine(Fv O p0 p1 n0 c0 n1 c1 sk w hA hk).mono ?_;rintro e w' ⟨v,rfl,hb,rfl⟩;exact⟨_,rfl,hb,_,rfl,Or.inl ⟨rfl,rfl⟩⟩
 | true =>
  rw[hs]at hk;cases hr:real P b with
  | false =>
   refine(Fu C.toFld O p0 p1 n0 c0 n1 c1 sk b w hA hA1 hk hr).mono ?_;rintro e w' ⟨v,rfl,hb,rfl⟩;exact⟨_,rfl,hb,_,rfl,Or.inl ⟨rfl,rfl⟩⟩
  | true =>
   obtain⟨hwr,hon⟩:=fR C hr;obtain⟨hq,-,hx0⟩:=EU hs;have hm:=IP C.toFld O p0 p1 n0 c0 n1 c1 sk w hA h0 (jF P b) hon (by rw[hwr];exact hA1) (by rw[hwr];exact h1) (by rw[hwr];exact hr) (nuV sk) hq hx0 (pmK N sk b) (pmC P N sk b) (pmZ P N sk b) (by rw[hwr];rfl) (by rw[hwr];rfl) rfl;refine hm.mono ?_;rintro e w' ⟨v,rfl,hb,u,rfl,hu⟩;exact⟨_,rfl,hb,u,rfl,Or.inr hu.el⟩
def NQ(f g h:Nat->UInt8)(c z:Nat):List RG.It:=[.s 39 [] (.s 0 3 3),.s 40 [(39,0)] (.p 0 0),.x 41 [(40,1)] (fpv f),.s 42 [] (.s 0 3 3),.s 43 [(42,3)] (.p 0 66),.x 44 [(43,4)] (fpv h),.x 45 [(41,2),(44,5)] (fpr f h),.s 46 [] (.s 0 3 3),.s 47 [(46,7)] (.p 0 33),.x 48 [(47,8)] (fpv g),.s 49 [] (.s 1 2 2),.s 50 [(49,10)] (.p 1 0),.x 51 [(50,11)] (nv c),.s 52 [] (.s 1 2 2),.s 53 [(52,13)] (.p 1 4),.x 54 [(53,14)] (nv z),.m 14 [] 2,.m 15 [] 3,.m 16 [] 4,.m 17 [] 5,.u [(14,16),(45,6)] 2,.u [(15,17),(48,9)] 3,.u [(16,18),(51,12)] 4,.u [(17,19),(54,15)] 5]
def NP(e f g h r t:Nat->UInt8)(c z:Nat):List RG.It:=[.c 55 [] (fpv e),.s 56 [] (.p 2 0),.x 57 [(56,1)] (fpv f),.x 58 [] (nv c),.x 59 [] (nv z),.c 60 [(55,0),(57,2),(58,3),(59,4)] (fpv r),.x 61 [] (fpv g),.s 62 [] (.p 2 33),.x 63 [(62,7)] (fpv h),.x 64 [] (nv c),.x 65 [] (nv z),.c 66 [(61,6),(63,8),(64,9),(65,10)] (fpv t),.x 67 [(60,5),(66,11)] (fpr r t),.m 18 [] 6,.u [(18,13),(67,12)] 6]
def NN(f g h r t:Nat->UInt8)(c q:Nat):List RG.It:=[.x 68 [] (fpv g),.x 69 [] (fpr f h),.x 70 [] (fpr r t),.c 71 [(68,0),(69,1),(70,2)] (nv q),.x 72 [] (nv c),.x 73 [(71,3),(72,4)] (.bool (decide (q=c))),.x 8 [(73,5)] (.bool (decide (q=c)))]
theorem uM{w:World}{k o:Nat}{xs ys:List Value}(h1:w.rangeAt k o xs)(h2:w.rangeAt k (o+xs.length) ys):w.rangeAt k o (xs++ys):=fun j v hj=>by
 by_cases hl:j<xs.length
 ·rw[List.getElem?_append_left hl]at hj;exact h1 j v hj
 ·rw[List.getElem?_append_right (by omega)]at hj;have:=h2 (j-xs.length) v hj;rwa[show o+xs.length+(j-xs.length)=o+j by omega]at this
theorem NM{P:Program}{Q:Exit->Act->World->Prop}{w0 w:World}{a:Act}{c:Code}{k1 k2 n:Nat}{c1 c2:List Value}(os:List (Tmp × RG.SV))(hb:Below w0.heap.size w0 w)(h1:w.rangeAt k1 0 c1)(h2:w.rangeAt k2 0 c2)(t1:w.there k1 0 c1.length)(t2:w.there k2 0 c2.length)(l1:k1<w.heap.size)(l2:k2<w.heap.size)(b1:w0.heap.size<=k1)(b2:w0.heap.size<=k2)(hne:k1≠k2)
 (h:(os.map fun x=>a.tmps[x.1]?,a.tmps.size,a.defers)=(os.map fun x=>some (x.2.at (RG.ad [k1,k2])),n,[])) (hp:∀a,RG.M w0 w0.heap.size [] n [c1,c2] [k1,k2] os a w->c.wp P Q a w):c.wp P Q a w:=by
 simp only[Prod.mk.injEq]at h;refine hp a ⟨⟨⟨hb.os,hb.tape,hb.output,hb.size,fun j hj _=>hb.block j hj⟩,hb.size,rfl,?_,?_⟩,⟨h.2.1,h.2.2⟩,RG.Olds.mk' fun x hx=>List.map_inj_left.1 h.1 x hx⟩
 ·intro b c hb';match b,hb' with
  | 0,hb'=>cases hb';exact⟨h1,t1,l1,Or.inl b1⟩
  | 1,hb'=>cases hb';exact⟨h2,t2,l2,Or.inl b2⟩
  | n+2,hb'=>simp at hb'
 ·intro b c hb' hc' hbc;have hb2:b<2:=hb';have hc2:c<2:=hc';have hbs:(b=0/\c=1)\/(b=1/\c=0):=by omega
  rcases hbs with⟨rfl,rfl⟩|⟨rfl,rfl⟩
  ·exact hne
  ·exact fun e=>hne e.symm
noncomputable def vsP (P:Nat) [NeZero P] (N:Nat) (a g b pr:Bs):Bool:=((real P a && (real P g && real P b)) && RpT N pr) && decide (vsM P N a g b (nuV (pr.extract 0 32)) (nuV (pr.extract 32 64))=nuV (pr.extract 0 32))
theorem Hq(C:Fl3 P)(O:Ord N)(hord:∀r:EC.Pt P,EC.On r->EC.mul N r=none)(p0 p1 p2 p3:Option Addr)(n0 n1 n2 n3 c0 c1 c2 c3:Nat)(a g b pr:Bs)(w:World)(h0:Arg33 w (.slice p0 n0 c0) a)(h1:Arg33 w (.slice p1 n1 c1) g)(h2:Arg33 w (.slice p2 n2 c2) b)(h3:SP.PartOk w (.slice p3 n3 c3) pr.toList):
 Calls prog 55 #[.slice p0 n0 c0,.slice p1 n1 c1,.slice p2 n2 c2,.slice p3 n3 c3] w (Ret fun e w'=>Below w.heap.size w w'/\e=.bool (vsP P N a g b pr)):=by
 obtain⟨w1,hw1⟩:∃w1,Hid (w.alloc (.cells #[.slice p0 n0 c0,.slice p1 n1 c1,.slice p2 n2 c2] 22)=w1):=⟨_,rfl⟩
 have hM:=RG.Made.alloc w [.slice p0 n0 c0,.slice p1 n1 c1,.slice p2 n2 c2] 22;obtain⟨L,hL⟩:∃L:Nat->Bs,Hid (L=fun j=>if j=0 then a else if j=1 then g else b):=⟨_,rfl⟩
 have HL:Hid (L 0=a/\L 1=g/\L 2=b):=by rw[hL.out];exact⟨rfl,rfl,rfl⟩
 have hM':RG.Made w w.heap.size [.slice p0 n0 c0,.slice p1 n1 c1,.slice p2 n2 c2] w1:=by rw[<-hw1.out];exact hM
 have hall:=Mk C.toFld w.heap.size 3 3 (by decide) L w1 hM'.lt (fun j hj=>by
  have hj3:j=0\/j=1\/j=2:=by omega
  rcases hj3 with rfl|rfl|rfl
  ·rw[HL.out.1];exact⟨_,hM'.range 0 _ rfl,h0.below hM'.bel⟩
  ·rw[HL.out.2.1];exact⟨_,hM'.range 1 _ rfl,h1.below hM'.bel⟩
  ·rw[HL.out.2.2];exact⟨_,hM'.range 2 _ rfl,h2.below hM'.bel⟩)
 have H1:Hid (Below w.heap.size w w1):=hM'.bel;have H3:Hid (SP.PartOk w (.slice p3 n3 c3) pr.toList):=h3;clear hM hM' h0 h1 h2 h3 hL;go_enter Tryz.func55,Tryz.ntmps55;go_wp2_with fail
 rw[hw1.out];refine hall.mono ?_;clear hall hw1;rintro e w2 ⟨v2,rfl,hb2,⟨hre,K,rfl,hK1,hK2,hKt,hKr⟩|⟨⟨j,hj,hrj⟩,rfl⟩⟩
 ·have H2:Hid (Below w.heap.size w w2):=H1.out.trans (hb2.mono H1.out.size);have hrp:=nR O (.slice p3 n3 c3) pr w2 (H3.out.below H2.out);clear hb2;have HK:Hid (w.heap.size<=K/\K<w2.heap.size/\w2.there K 0 (33*3)/\(∀j,j<3->w2.rangeAt K (33*j) (aA (L j)))/\(∀j,j<3->real P (L j)=true)):=⟨Nat.le_trans H1.out.size hK1,hK2,hKt,hKr,hre⟩
  clear hre hK1 hK2 hKt hKr H1;go_wp2_with fail
  refine hrp.mono ?_;clear hrp;rintro e w3 ⟨v3,rfl,hb3,⟨hT,q,k,rfl,hk1,hk2,hk3,hk4⟩|⟨hT,q1,q2,rfl⟩⟩
  ·obtain⟨c,hc⟩:∃c,Hid (nuV (pr.extract 0 32)=c):=⟨_,rfl⟩
   obtain⟨z,hz⟩:∃z,Hid (nuV (pr.extract 32 64)=z):=⟨_,rfl⟩
   have hT':=hT;unfold RpT at hT';simp only[Bool.and_eq_true,decide_eq_true_eq]at hT';have hcN:c<N:=by rw[<-hc.out];exact E3 hT'.2.1
   have hzN:z<N:=by rw[<-hz.out];exact E3 hT'.2.2
   rw[hc.out,hz.out]at hk3;have ra:real P a=true:=by have:=HK.out.2.2.2.2 0 (by decide);rwa[HL.out.1]at this
   have rg:real P g=true:=by have:=HK.out.2.2.2.2 1 (by decide);rwa[HL.out.2.1]at this
   have rb:real P b=true:=by have:=HK.out.2.2.2.2 2 (by decide);rwa[HL.out.2.2]at this
   have sa:=nQ ra;have sg:=nQ rg;have sb:=nQ rb;have hG:=F7 C.toFld;have hF:=zQ C.toFld O hord (jJ C.toFld) (fR C ra).2 hcN hzN;have hH:=zQ C.toFld O hord (fR C rg).2 (fR C rb).2 hcN hzN;rw[(fR C ra).1]at hF;rw[(fR C rg).1,(fR C rb).1]at hH;have hF':Gives 94 #[pvl (wr (gG P)),pvl a,nv c,nv z] (pvl (vsF P a c z)):=by unfold vsF;exact hF
   have hH':Gives 94 #[pvl g,pvl b,nv c,nv z] (pvl (vsG P g b c z)):=by unfold vsG;exact hH
   clear hF hH;have hS:Gives 89 #[pvl g,prv a b,prv (vsF P a c z) (vsG P g b c z)] (nv (vsM P N a g b c z)):=by unfold vsM;exact Cn O g a b (vsF P a c z) (vsG P g b c z) sg sa sb (aL _) (aL _)
   have hQ:Hid (vsP P N a g b pr=decide (vsM P N a g b c z=c)):=by
    show _=_;unfold vsP;rw[ra,rg,rb,hT,hc.out,hz.out];simp only[Bool.and_self,Bool.true_and]
   have hmN:vsM P N a g b c z<N:=by unfold vsM;exact BV O _ _ _ _ _
   have hcont:w3.rangeAt K 0 (cL (fun i=>a[i]!)++(cL (fun i=>g[i]!)++cL (fun i=>b[i]!))):=by
    have k0:=RG.aO (HK.out.2.2.2.1 0 (by decide)) hb3 HK.out.2.1;have k1:=RG.aO (HK.out.2.2.2.1 1 (by decide)) hb3 HK.out.2.1;have k2:=RG.aO (HK.out.2.2.2.1 2 (by decide)) hb3 HK.out.2.1;rw[HL.out.1,iR sa]at k0;rw[HL.out.2.1,iR sg]at k1;rw[HL.out.2.2,iR sb]at k2;exact uM k0 (uM k1 k2)
   have hth:w3.there K 0 99:=RG.dV HK.out.2.2.1 hb3 HK.out.2.1;have hKl:K<w3.heap.size:=Nat.lt_of_lt_of_le HK.out.2.1 hb3.size;have hKb:w.heap.size<=K:=HK.out.1;have hkb:w.heap.size<=k:=Nat.le_trans H2.out.size hk1;have hKk:K≠k:=Nat.ne_of_lt (Nat.lt_of_lt_of_le HK.out.2.1 hk1);have hb4:Below w.heap.size w w3:=H2.out.trans (hb3.mono H2.out.size);rw[gJ (aL _)]at hG;rw[gJ (aL _),gJ sa,gJ (show(vsF P a c z).size=33 from aL _)]at hF';rw[gJ sg,gJ sb,gJ (show(vsG P g b c z).size=33 from aL _)]at hH';rw[gJ sg,A4 sa sb,A4 (show(vsF P a c z).size=33 from aL _) (show(vsG P g b c z).size=33 from aL _)]at hS;clear ra rg rb hT hT' HK H2 H3 hb3 hc hz hk1 sa sg sb;generalize vsM P N a g b c z=mq at hS hmN hQ;generalize (fun i:Nat=>(wr (gG P))[i]!)=e0 at hG hF';generalize (fun i:Nat=>(vsF P a c z)[i]!)=r0 at hF' hS;generalize (fun i:Nat=>(vsG P g b c z)[i]!)=t0 at hH' hS;generalize (fun i:Nat=>a[i]!)=f0 at hF' hS hcont;generalize (fun i:Nat=>g[i]!)=g0 at hH' hS hcont;generalize (fun i:Nat=>b[i]!)=h0 at hH' hS hcont;have HALL:Hid (Gives 49 #[] (fpv e0)/\Gives 94 #[fpv e0,fpv f0,nv c,nv z] (fpv r0)/\Gives 94 #[fpv g0,fpv h0,nv c,nv z] (fpv t0)/\Gives 89 #[fpv g0,fpr f0 h0,fpr r0 t0] (nv mq)/\mq<N/\c<N/\w3.rangeAt K 0 (cL f0++(cL g0++cL h0))/\w3.there K 0 99/\K<w3.heap.size/\w.heap.size<=K/\w.heap.size<=k/\K≠k/\Below w.heap.size w w3/\k<w3.heap.size/\w3.rangeAt k 0 (wn c++wn z)/\w3.there k 0 8):=⟨hG,hF',hH',hS,hmN,hcN,hcont,hth,hKl,hKb,hkb,hKk,hb4,hk2,hk3,hk4⟩
   clear hG hF' hH' hS hmN hcN hcont hth hKl hKb hkb hKk hb4 hk2 hk3 hk4 hzN;go_wp2_with fail
   rename_i KK ha
   obtain⟨hG,hF,hH,hS,hmN,hcN,hcont,hth,hKl,hKb,hkb,hKk,hb4,hk2,hk3,hk4⟩:=HALL.out;refine NM (n:=74) [(9,.s 0 3 3),(12,.s 1 2 2)] hb4 hcont hk3 hth hk4 hKl hk2 hKb hkb hKk (by kernel_rfl) ?_;intro a0 M0;refine M0.d (NQ f0 g0 h0 c z) [(16,zz 66),(17,zz 33),(18,RG.z 4),(19,RG.z 4)] [(2,20,cL f0++cL h0),(3,21,cL g0),(4,22,wn c),(5,23,wn z)] [cL f0++(cL g0++cL h0),wn c++wn z,cL f0++cL h0,cL g0,wn c,wn z] [(14,.p 2 0),(15,.p 3 0),(16,.p 4 0),(17,.p 5 0)] ⟨RG.st,RG.st,RG.ld uCP aI,RG.st,RG.st,RG.ld uCP aI,RG.st,RG.st,RG.st,RG.ld uCP aI,RG.st,RG.st,RG.ld u40 i40,RG.st,RG.st,RG.ld u40 i40,RG.mk 2 143,RG.mk 3 61,RG.mk 4 82,RG.mk 5 82,RG.pt iPr,RG.pt aI,RG.pt i40,RG.pt i40,trivial⟩ ?_;intro j1 j2 j3 j4 a1 w5 M1;refine ha _ _ ?_;clear ha;repeat refine wp_seq ?_
   refine M1.d (NP e0 f0 g0 h0 r0 t0 c z) [(13,zz 66)] [(6,14,cL r0++cL t0)] [cL f0++(cL g0++cL h0),wn c++wn z,cL f0++cL h0,cL g0,wn c,wn z,cL r0++cL t0] [(14,.p 2 0),(15,.p 3 0),(16,.p 4 0),(18,.p 6 0)] ⟨RG.cl hG,RG.st,RG.ld uCP aI,RG.ld u40 i40,RG.ld u40 i40,RG.cl hF,RG.ld uCP aI,RG.st,RG.ld uCP aI,RG.ld u40 i40,RG.ld u40 i40,RG.cl hH,RG.st,RG.mk 6 143,RG.pt iPr,trivial⟩ ?_;intro j5 a2 w6 M2;repeat refine wp_seq ?_
   refine M2.e (NN f0 g0 h0 r0 t0 c mq) [(8,.v (.bool (decide (mq=c))))] ⟨RG.ld uCP aI,RG.ld uPr iPr,RG.ld uPr iPr,RG.cl hS,RG.ld u40 i40,RG.aM rfl .eql 82 82 71 72 (nv mq) (nv c) (.bool (decide (mq=c))) rfl rfl RG.sx RG.sx (fun w=>by kernel_rfl) (fun w=>by rw[eqS (Nat.lt_of_lt_of_le hmN O.le) (Nat.lt_of_lt_of_le hcN O.le)]),RG.st,trivial⟩ ?_;intro a3 w7 M3;refine wp_ret ?_;refine bodyPost_ret (v:=.bool (decide (mq=c))) (RG.cQ 8 rfl _ M3.av) M3.sl.defers ?_;exact⟨_,rfl,M3.st.bel.below,by rw[hQ.out]⟩
  ·have H4:Hid (Below w.heap.size w w3):=H2.out.trans (hb3.mono H2.out.size);have HF:Hid (vsP P N a g b pr=false):=by
    show _=_;unfold vsP;rw[hT];simp
   clear hT hb3;go_wp2;go_ret;exact⟨_,rfl,H4.out,by rw[HF.out];rfl⟩
 ·have H2:Hid (Below w.heap.size w w2):=H1.out.trans (hb2.mono H1.out.size);have hrp:=nR O (.slice p3 n3 c3) pr w2 (H3.out.below H2.out);clear hb2;have HF:Hid (vsP P N a g b pr=false):=by
   show _=_;unfold vsP;have hj3:j=0\/j=1\/j=2:=by omega
   rcases hj3 with rfl|rfl|rfl
   ·rw[HL.out.1]at hrj;rw[hrj];rfl
   ·rw[HL.out.2.1]at hrj;rw[hrj];simp
   ·rw[HL.out.2.2]at hrj;rw[hrj];simp
  clear hrj hj H1;go_wp2_with fail
  refine hrp.mono ?_;clear hrp;rintro e w3 ⟨v3,rfl,hb3,⟨hT,q,k,rfl,hk1,hk2,hk3,hk4⟩|⟨hT,q1,q2,rfl⟩⟩
  ·have H4:Hid (Below w.heap.size w w3):=H2.out.trans (hb3.mono H2.out.size);clear hT hk1 hk2 hk3 hk4 hb3;go_wp2;go_ret;exact⟨_,rfl,H4.out,by rw[HF.out];rfl⟩
  ·have H4:Hid (Below w.heap.size w w3):=H2.out.trans (hb3.mono H2.out.size);clear hT hb3;go_wp2;go_ret;exact⟨_,rfl,H4.out,by rw[HF.out];rfl⟩
def sgF(k:Nat):Value:=.func (.func 59) #[] #[.pointer (some ⟨k,0,none⟩)]
theorem yB(O:Ord N)(v:Value)(kb:Bs)(x:Nat)(w:World)(hA:Arg w v kb)(hx:rq N kb=some x)(hx0:x≠0):
 Calls prog 23 #[v] w (Ret fun e w'=>Below w.heap.size w w'/\∃k,e=.tuple #[sgF k,.bool true]/\w.heap.size<=k/\Row w' k (wn x)):=by
 have hR:=jC O v kb w hA;rw[hx]at hR;have e1:(!decide (x=0))=true:=by simp[hx0]
 rw[show(some x).getD 0=x from rfl,show((some x).isSome && !decide (x=0))=true by rw[e1];rfl]at hR;have HR:=Hid.mk' hR;obtain⟨vx,hvx⟩:∃v,Hid (nv x=v):=⟨_,rfl⟩
 rw[hvx.out]at HR;clear O hA hx hx0 hR e1;go_enter Tryz.func23,Tryz.ntmps23;go_wp2_with fail
 refine HR.out.mono ?_;rintro e w1 ⟨vv,rfl,hb1,rfl⟩;obtain⟨k6,hk6⟩:∃k6,Hid (w1.heap.size=k6):=⟨_,rfl⟩
 obtain⟨w2,hw2⟩:∃w2,Hid (w1.alloc (.cells #[.int .u64 0,.int .u64 0,.int .u64 0,.int .u64 0] 82)=w2):=⟨_,rfl⟩
 obtain⟨w3,hw3⟩:∃w3,Hid (w2.setCells k6 0 (wn x)=w3):=⟨_,rfl⟩
 have F2:Hid (Row w2 k6 [.int .u64 0,.int .u64 0,.int .u64 0,.int .u64 0]/\Below w.heap.size w w2/\w.heap.size<=k6):=by
  rw[<-hw2.out,<-hk6.out];exact⟨aG w1 _ _,hb1.alloc hb1.size _,hb1.size⟩
 have K3:Hid (Below w.heap.size w w3/\Row w3 k6 (wn x)):=by
  rw[<-hw3.out];exact⟨RG.below_setCells F2.out.2.2 _ _ _ F2.out.2.1,F2.out.1.put rfl⟩
 clear hb1 HR;go_wp2_with (first|(refine aJ (v:=.pointer (some ⟨k6,0,none⟩)) (w':=w2) rfl (.alloc 82) rfl ?_ ?_;(rw[<-hw2.out,<-hk6.out];kernel_rfl))|(refine wpList_store_mid rfl 82 _ _ rfl k6 0 (wn x).toArray ?_ ?_ ?_ ?_ ?_ ?_;rfl;exact hvx.out.symm;exact F2.out.1.2.2;exact i40;exact dI x;rw[show(wn x).toArray.toList=wn x from rfl,hw3.out])|fail)
 go_ret2
 exact⟨_,rfl,K3.out.1,k6,rfl,F2.out.2.2,K3.out.2⟩
theorem ET(O:Ord N)(v:Value)(kb:Bs)(w:World)(hA:Arg w v kb)(hx:((rq N kb).isSome && !decide ((rq N kb).getD 0=0))=false):
 Calls prog 23 #[v] w (Ret fun e w'=>Below w.heap.size w w'/\e=.tuple #[.nilFunc,.bool false]):=by
 have hR:=jC O v kb w hA;rw[hx]at hR;have HR:=Hid.mk' hR;obtain⟨x,hxe⟩:∃x,Hid ((rq N kb).getD 0=x):=⟨_,rfl⟩
 rw[hxe.out]at HR;obtain⟨vx,hvx⟩:∃v,Hid (nv x=v):=⟨_,rfl⟩
 rw[hvx.out]at HR;clear O hA hR hx hxe;go_enter Tryz.func23,Tryz.ntmps23;go_wp2_with fail
 refine HR.out.mono ?_;rintro e w1 ⟨vv,rfl,hb1,rfl⟩;obtain⟨k6,hk6⟩:∃k6,Hid (w1.heap.size=k6):=⟨_,rfl⟩
 obtain⟨w2,hw2⟩:∃w2,Hid (w1.alloc (.cells #[.int .u64 0,.int .u64 0,.int .u64 0,.int .u64 0] 82)=w2):=⟨_,rfl⟩
 obtain⟨w3,hw3⟩:∃w3,Hid (w2.setCells k6 0 (wn x)=w3):=⟨_,rfl⟩
 have F2:Hid (Row w2 k6 [.int .u64 0,.int .u64 0,.int .u64 0,.int .u64 0]/\Below w.heap.size w w2/\w.heap.size<=k6):=by
  rw[<-hw2.out,<-hk6.out];exact⟨aG w1 _ _,hb1.alloc hb1.size _,hb1.size⟩
 have K3:Hid (Below w.heap.size w w3):=by
  rw[<-hw3.out];exact RG.below_setCells F2.out.2.2 _ _ _ F2.out.2.1
 clear hb1 HR;go_wp2_with (first|(refine aJ (v:=.pointer (some ⟨k6,0,none⟩)) (w':=w2) rfl (.alloc 82) rfl ?_ ?_;(rw[<-hw2.out,<-hk6.out];kernel_rfl))|(refine wpList_store_mid rfl 82 _ _ rfl k6 0 (wn x).toArray ?_ ?_ ?_ ?_ ?_ ?_;rfl;exact hvx.out.symm;exact F2.out.1.2.2;exact i40;exact dI x;rw[show(wn x).toArray.toList=wn x from rfl,hw3.out])|fail)
 go_ret2
 exact⟨_,rfl,K3.out,rfl⟩
theorem Cl(C:Fld P)(O:Ord N){n:Nat}(hn:n<N){X:EC.Pt P}(hX:EC.On X)(k:Nat)(w:World)(hk:Row w k (wn n)):
 Calls prog 59 #[pvl (wr X),.pointer (some ⟨k,0,none⟩)] w (Ret fun e w'=>Below w.heap.size w w'/\e=pvl (wr (EC.mul n X))):=by
 have HC:Hid (Fld P/\Ord N/\n<N/\EC.On X):=⟨C,O,hn,hX⟩
 obtain⟨a,hae⟩:∃a,Hid (wr X=a):=⟨_,rfl⟩
 have ha:a.size=33:=by rw[<-hae.out];exact aL X
 rw[hae.out];clear C O hn hX;have B1:=Hid.mk' (qJ ha w);obtain⟨w1,hw1⟩:∃w1,Hid (w.alloc (.cells (aA a).toArray 61)=w1):=⟨_,rfl⟩
 rw[hw1.out]at B1;have e1:w1.heap.size=w.heap.size+1:=by rw[<-hw1.out,World.size_alloc]
 obtain⟨w2,hw2⟩:∃w2,Hid (w1.alloc (.cells z33.toArray 61)=w2):=⟨_,rfl⟩
 have K:Hid (Row w2 w.heap.size (aA a)/\Row w2 (w.heap.size+1) z33/\Row w2 k (wn n)/\Below w.heap.size w w2):=by
  have q1:Row w1 w.heap.size (aA a):=by rw[<-hw1.out];exact aG w _ _
  have q2:Row w2 (w.heap.size+1) z33:=by rw[<-hw2.out,<-e1];exact aG w1 _ _
  have b1:Below w.heap.size w w1:=by rw[<-hw1.out];exact aE w _
  have b2:Below w1.heap.size w1 w2:=by rw[<-hw2.out];exact aE w1 _
  exact⟨q1.below b2,q2,(hk.below b1).below b2,b1.trans (b2.mono (by omega))⟩
 have HE:Hid (w1.heap.size=w.heap.size+1):=e1;have HL:Hid ((prog.info? 61).map (·.size)=some (aA a).length):=by show _=_;rw[aC ha];exact aI
 obtain⟨d,hd1,hd2⟩:=Option.map_eq_some_iff.1 uCP;obtain⟨d',hd3,hd4⟩:=Option.map_eq_some_iff.1 u40;have HD:Hid ((prog.underlying 61=some d/\d.isRow=true)/\prog.underlying 82=some d'/\d'.isRow=true):=⟨⟨hd1,hd2⟩,hd3,hd4⟩
 clear hd1 hd2 hd3 hd4 hw1 e1 hk;obtain⟨va,hva⟩:∃v,Hid (pvl a=v):=⟨_,rfl⟩
 obtain⟨vn,hvn⟩:∃v,Hid (nv n=v):=⟨_,rfl⟩
 have B1':Hid ((Instr.box 61 va).run prog w=.ok (.pointer (some ⟨w.heap.size,0,none⟩)) w1):=by rw[<-hva.out];exact B1
 rw[hva.out];clear B1;go_enter Tryz.func59,Tryz.ntmps59;go_wp2_with (first|(refine bI (u:=va) (v:=.pointer (some ⟨w.heap.size,0,none⟩)) (w':=w1) rfl 61 (.tmp 0) rfl ?_ ?_ ?_;rfl;exact B1'.out)|(refine aJ (v:=.pointer (some ⟨w.heap.size+1,0,none⟩)) (w':=w2) rfl (.alloc 61) rfl ?_ ?_;(rw[<-hw2.out,<-HE.out];kernel_rfl))|(refine wpList_load_mid rfl 82 _ rfl k 0 ?_ (wn n) d' ?_ ?_ ?_ ?_ ?_;rfl;exact K.out.2.2.1.2.1;exact HD.out.2.1;exact HD.out.2.2;exact i40;rw[show Value.agg (wn n).toArray=vn from hvn.out])|(refine wpList_load_mid rfl 61 _ rfl w.heap.size 0 ?_ (aA a) d ?_ ?_ ?_ ?_ ?_;rfl;exact K.out.1.2.1;exact HD.out.1.1;exact HD.out.1.2;exact HL.out;rw[show Value.agg (aA a).toArray=va from hva.out])|fail)
 have HT:=eN a ha n w2;rw[hva.out,hvn.out]at HT;refine HT.mono ?_;rintro e w4 ⟨vv,rfl,hb4,k4,rfl,-,hR4⟩;have K4:Hid (Row w4 (w.heap.size+1) z33/\Below w.heap.size w w4/\Row w4 k4 (wn n++aA a)):=⟨K.out.2.1.below hb4,K.out.2.2.2.trans (hb4.mono K.out.2.2.2.size),hR4⟩
 clear hb4 hR4 K HT B1' hw2 HE;go_wp2_with fail
 refine(uU HC.out.1 HC.out.2.1 HC.out.2.2.1 HC.out.2.2.2 w4 (by rw[hae.out];exact K4.out.2.2)).mono ?_;rintro e w5 ⟨vv,rfl,hb5,rfl⟩;obtain⟨T,hT⟩:∃T,Hid (wr (EC.mul n X)=T):=⟨_,rfl⟩
 have hTs:T.size=33:=by rw[<-hT.out];exact aL _
 rw[hT.out];have K5:Hid (Row w5 (w.heap.size+1) z33/\Below w.heap.size w w5):=⟨K4.out.1.below hb5,K4.out.2.1.trans (hb5.mono K4.out.2.1.size)⟩
 clear hb5 K4;obtain⟨w6,hw6⟩:∃w6,Hid (w5.setCells (w.heap.size+1) 0 (aA T)=w6):=⟨_,rfl⟩
 have hlen:(aA T).length=33:=aC hTs;have K6:Hid (Row w6 (w.heap.size+1) (aA T)/\Below w.heap.size w w6):=by rw[<-hw6.out];exact⟨K5.out.1.put (by rw[hlen];rfl),RG.below_setCells (by omega) _ _ _ K5.out.2⟩
 obtain⟨vt,hvt⟩:∃vt,Hid (pvl T=vt):=⟨_,rfl⟩
 have HI:Hid ((prog.info? 61).map (·.size)=some (aA T).length/\w5.there (w.heap.size+1) 0 (aA T).toArray.size/\(prog.info? 61).map (·.size)=some (aA T).toArray.size):=by
  have e:(aA T).toArray.size=33:=by rw[List.size_toArray];exact hlen
  refine⟨by rw[hlen];exact aI,by rw[e];exact K5.out.1.2.2,by rw[e];exact aI⟩
 clear hlen;rw[hvt.out];go_wp2_with (first|(refine wpList_store_mid rfl 61 _ _ rfl (w.heap.size+1) 0 (aA T).toArray ?_ ?_ ?_ ?_ ?_ ?_;rfl;exact hvt.out.symm;exact HI.out.2.1;exact HI.out.2.2;exact bW T;rw[show(aA T).toArray.toList=aA T from rfl,hw6.out])|fail)
 refine bodyPost_ret (aY 3 61 rfl K6.out.1 rfl uCP HI.out.1) rfl ?_;exact⟨_,rfl,K6.out.2,by rw[hT.out];rfl⟩
end
section
open Go.RowKit Go.Sort Go.Deep
variable {P:Nat}[NeZero P]{N:Nat}
section
variable (w:World) (k9 k11 kk x:Nat) (k s g:Bool) (fv:Value) (c9 c11:List Value) (T:Bs) (eqb:Bool)
def Rv:Nat->Value->World->Prop
 | 0,v,_=>v=.bool k
 | 1,v,_=>v=.bool k
 | 2,v,_=>v=bif k then .bool s else undef
 | 3,v,_=>v=.bool (k && s)
 | 4,v,_=>v=.bool (k && s)
 | 5,v,_=>v=bif (k && s) then .bool g else undef
 | 6,v,_=>v=.bool (k && s && g)
 | 7,v,_=>v=.bool (k && s && g)
 | 8,v,_=>v=bif (k && s && g) then .agg c11.toArray else undef
 | 9,v,_=>v=bif (k && s && g) then fv else undef
 | 10,v,_=>v=bif (k && s && g) then .agg c9.toArray else undef
 | 11,v,_=>v=bif (k && s && g) then pvl T else undef
 | 12,v,_=>v=bif (k && s && g) then .bool eqb else undef
 | 13,v,_=>v=.bool (k && s && g && eqb)
 | 14,v,_=>v=.bool (k && s && g && eqb)
 | _,_,_=>True
theorem Mn{i:Nat}{v:Value}{W W':World}(h:Rv k s g fv c9 c11 T eqb i v W):Rv k s g fv c9 c11 T eqb i v W':=by
 match i,h with
 | 0,h=>exact h
 | 1,h=>exact h
 | 2,h=>exact h
 | 3,h=>exact h
 | 4,h=>exact h
 | 5,h=>exact h
 | 6,h=>exact h
 | 7,h=>exact h
 | 8,h=>exact h
 | 9,h=>exact h
 | 10,h=>exact h
 | 11,h=>exact h
 | 12,h=>exact h
 | 13,h=>exact h
 | 14,h=>exact h
 | _+15,_=>trivial
def Gv:RG.Gw:=⟨Rv k s g fv c9 c11 T eqb,fun W=>Row W k9 c9/\Row W k11 c11/\(k=true->Row W kk (wn x))/\Below w.heap.size w W,fun _ _ _ _ _ h=>Mn k s g fv c9 c11 T eqb h,fun _ _ hb h=>⟨h.1.below hb,h.2.1.below hb,fun e=>(h.2.2.1 e).below hb,h.2.2.2.trans (hb.mono h.2.2.2.size)⟩⟩
end
theorem JM(v0 v1 v2:Value)(x:Nat)(k s g:Bool)(c9 c11:List Value)(h9:c9.length=33)(h11:c11.length=33)(o9:∀u∈c9,u.oneCell'=true)(o11:∀u∈c11,u.oneCell'=true)(T:Bs)(eqb:Bool)(w:World)
 (hS:Calls prog 23 #[v0] w (Ret fun e w'=>Below w.heap.size w w'/\∃fv kk,e=.tuple #[fv,.bool k]/\(k=true->fv=sgF kk/\Row w' kk (wn x))))
 (hL:∀W,Below w.heap.size w W->Calls prog 24 #[v1] W (Ret fun e w'=>Below W.heap.size W w'/\e=.tuple #[.agg c9.toArray,.bool s]))
 (hR:∀W,Below w.heap.size w W->Calls prog 25 #[v2] W (Ret fun e w'=>Below W.heap.size W w'/\e=.tuple #[.agg c11.toArray,.bool g]))
 (hT:(k && s && g)=true->(∀W kk,Row W kk (wn x)->Calls prog 59 #[.agg c9.toArray,.pointer (some ⟨kk,0,none⟩)] W (Ret fun e w'=>Below W.heap.size W w'/\e=pvl T))/\∀W,(eqGuard .eql 61 (.tmp 36) (.tmp 39) (.agg c11.toArray) (pvl T)).run prog W=.ok () W/\(binOp .eql 61 (.agg c11.toArray) (pvl T)).run prog W=.ok (.bool eqb) W) :
 Calls prog 9 #[v0,v1,v2] w (Ret fun e w'=>Below w.heap.size w w'/\e=.bool (k && s && g && eqb)):=by
 have HS:=Hid.mk' hS;have HLf:=Hid.mk' hL;have HRd:=Hid.mk' hR;have HT:=Hid.mk' hT;have HL:Hid (c9.length=33/\c11.length=33):=⟨h9,h11⟩
 have HA9:Hid (c9.toArray.all (·.oneCell')=true):=by show _=_;rw[Array.all_eq_true'];intro u hu;exact o9 u (List.mem_toArray.1 hu)
 have HA11:Hid (c11.toArray.all (·.oneCell')=true):=by show _=_;rw[Array.all_eq_true'];intro u hu;exact o11 u (List.mem_toArray.1 hu)
 have HI:Hid ((prog.info? 61).map (·.size)=some c9.toArray.size/\(prog.info? 61).map (·.size)=some c11.toArray.size):=by
  rw[List.size_toArray,List.size_toArray,h9,h11];exact⟨aI,aI⟩
 obtain⟨va9,hva9⟩:∃v,Hid (Value.agg c9.toArray=v):=⟨_,rfl⟩
 obtain⟨va11,hva11⟩:∃v,Hid (Value.agg c11.toArray=v):=⟨_,rfl⟩
 rw[hva9.out]at HLf;rw[hva11.out]at HRd;clear hS hL hR hT h9 h11 o9 o11;go_enter Tryz.func9,Tryz.ntmps9;go_wp2_with fail
 refine HS.out.mono ?_;rintro e w1 ⟨vv,rfl,hb1,fv,kk,rfl,hfv⟩;have K1:Hid (Below w.heap.size w w1/\(k=true->fv=sgF kk/\Row w1 kk (wn x))):=⟨hb1,hfv⟩
 clear hb1 hfv HS;go_wp2_with fail
 refine(HLf.out w1 K1.out.1).mono ?_;rintro e w2 ⟨vv,rfl,hb2,rfl⟩;obtain⟨k9,hk9⟩:∃k9,Hid (w2.heap.size=k9):=⟨_,rfl⟩
 obtain⟨w3,hw3⟩:∃w3,Hid (w2.alloc (.cells z33.toArray 61)=w3):=⟨_,rfl⟩
 obtain⟨w4,hw4⟩:∃w4,Hid (w3.setCells k9 0 c9=w4):=⟨_,rfl⟩
 have F3:Hid (Row w3 k9 z33/\Below w2.heap.size w2 w3):=by rw[<-hw3.out,<-hk9.out];exact⟨aG w2 _ _,aE _ _⟩
 have K4:Hid (Below w.heap.size w w4/\(k=true->fv=sgF kk/\Row w4 kk (wn x))/\Row w4 k9 c9):=by
  have hb24:Below w2.heap.size w2 w4:=by rw[<-hw4.out];exact RG.below_setCells (by rw[hk9.out];exact Nat.le_refl _) _ _ _ F3.out.2
  have hb14:Below w1.heap.size w1 w4:=hb2.trans (hb24.mono hb2.size);refine⟨K1.out.1.trans (hb14.mono K1.out.1.size),fun e=>⟨(K1.out.2 e).1,(K1.out.2 e).2.below hb14⟩,?_⟩;rw[<-hw4.out];exact F3.out.1.put (by rw[HL.out.1];rfl)
 have HT3:Hid (w3.there k9 0 c9.toArray.size):=by rw[List.size_toArray,HL.out.1];exact F3.out.1.2.2
 clear hb2 K1 HLf;go_wp2_with (first|(refine aJ (v:=.pointer (some ⟨k9,0,none⟩)) (w':=w3) rfl (.alloc 61) rfl ?_ ?_;(rw[<-hw3.out,<-hk9.out];kernel_rfl))|(refine wpList_store_mid rfl 61 _ _ rfl k9 0 c9.toArray ?_ ?_ ?_ ?_ ?_ ?_;rfl;exact hva9.out.symm;exact HT3.out;exact HI.out.1;exact HA9.out;rw[show c9.toArray.toList=c9 from rfl,hw4.out])|fail)
 clear hw3 hw4 hk9 F3 HT3;refine(HRd.out w4 K4.out.1).mono ?_;rintro e w5 ⟨vv,rfl,hb5,rfl⟩;obtain⟨k11,hk11⟩:∃k,Hid (w5.heap.size=k):=⟨_,rfl⟩
 obtain⟨w6,hw6⟩:∃w6,Hid (w5.alloc (.cells z33.toArray 61)=w6):=⟨_,rfl⟩
 obtain⟨w7,hw7⟩:∃w7,Hid (w6.setCells k11 0 c11=w7):=⟨_,rfl⟩
 have F6:Hid (Row w6 k11 z33/\Below w5.heap.size w5 w6):=by rw[<-hw6.out,<-hk11.out];exact⟨aG w5 _ _,aE _ _⟩
 have K7:Hid (Row w7 k9 c9/\Row w7 k11 c11/\(k=true->fv=sgF kk/\Row w7 kk (wn x))/\Below w.heap.size w w7):=by
  have hb57:Below w5.heap.size w5 w7:=by rw[<-hw7.out];exact RG.below_setCells (by rw[hk11.out];exact Nat.le_refl _) _ _ _ F6.out.2
  have hb47:Below w4.heap.size w4 w7:=hb5.trans (hb57.mono hb5.size);refine⟨K4.out.2.2.below hb47,?_,fun e=>⟨(K4.out.2.1 e).1,(K4.out.2.1 e).2.below hb47⟩,K4.out.1.trans (hb47.mono K4.out.1.size)⟩;rw[<-hw7.out];exact F6.out.1.put (by rw[HL.out.2];rfl)
 have HT6:Hid (w6.there k11 0 c11.toArray.size):=by rw[List.size_toArray,HL.out.2];exact F6.out.1.2.2
 clear hb5 K4 HRd;go_wp2_with (first|(refine aJ (v:=.pointer (some ⟨k11,0,none⟩)) (w':=w6) rfl (.alloc 61) rfl ?_ ?_;(rw[<-hw6.out,<-hk11.out];kernel_rfl))|(refine wpList_store_mid rfl 61 _ _ rfl k11 0 c11.toArray ?_ ?_ ?_ ?_ ?_ ?_;rfl;exact hva11.out.symm;exact HT6.out;exact HI.out.2;exact HA11.out;rw[show c11.toArray.toList=c11 from rfl,hw7.out])|fail)
 clear hw6 hw7 hk11 F6 HT6;have KB:Hid (Row w7.drew k9 c9/\Row w7.drew k11 c11/\(k=true->Row w7.drew kk (wn x))/\Below w.heap.size w w7.drew):=⟨K7.out.1,K7.out.2.1,fun e=>(K7.out.2.2.1 e).2,K7.out.2.2.2.drew⟩
 cases k with
 | false =>
  clear K7;refine(Gv w k9 k11 kk x false s g fv c9 c11 T eqb).draws (by kernel_rfl) (by kernel_rfl) ⟨
   RG.aK fun a W hp=>⟨[(8,.bool false)],.bool false,W,⟨hp.o 8 (by kernel_rfl),trivial⟩,by kernel_rfl,Below.refl _ _,rfl⟩,
   RG.aK fun a W hp=>⟨[(28,.bool false)],.bool false,W,⟨hp.n 0 28 (by kernel_rfl) (by kernel_rfl),trivial⟩,by kernel_rfl,Below.refl _ _,rfl⟩,
   RG.cD rfl (by kernel_rfl) (fun _ _ h=>h) (fun _=>rfl),
   RG.aK fun a W hp=>⟨[(29,.bool false),(30,undef)],.bool false,W,⟨hp.n 1 29 (by kernel_rfl) (by kernel_rfl),hp.n 2 30 (by kernel_rfl) (by kernel_rfl),trivial⟩,by kernel_rfl,Below.refl _ _,rfl⟩,
   RG.aK fun a W hp=>⟨[(31,.bool false)],.bool false,W,⟨hp.n 3 31 (by kernel_rfl) (by kernel_rfl),trivial⟩,by kernel_rfl,Below.refl _ _,rfl⟩,
   RG.cD rfl (by kernel_rfl) (fun _ _ h=>h) (fun _=>rfl),
   RG.aK fun a W hp=>⟨[(32,.bool false),(33,undef)],.bool false,W,⟨hp.n 4 32 (by kernel_rfl) (by kernel_rfl),hp.n 5 33 (by kernel_rfl) (by kernel_rfl),trivial⟩,by kernel_rfl,Below.refl _ _,rfl⟩,
   RG.aK fun a W hp=>⟨[(34,.bool false)],.bool false,W,⟨hp.n 6 34 (by kernel_rfl) (by kernel_rfl),trivial⟩,by kernel_rfl,Below.refl _ _,rfl⟩,
   RG.cD rfl (by kernel_rfl) (fun _ _ h=>h) (fun _=>rfl),
   RG.cD rfl (by kernel_rfl) (fun _ _ h=>h) (fun _=>rfl),
   RG.cD rfl (by kernel_rfl) (fun _ _ h=>h) (fun _=>rfl),
   RG.cD rfl (by kernel_rfl) (fun _ _ h=>h) (fun _=>rfl),
   RG.cD rfl (by kernel_rfl) (fun _ _ h=>h) (fun _=>rfl),
   RG.aK fun a W hp=>⟨[(35,.bool false),(40,undef)],.bool false,W,⟨hp.n 7 35 (by kernel_rfl) (by kernel_rfl),hp.n 12 40 (by kernel_rfl) (by kernel_rfl),trivial⟩,by kernel_rfl,Below.refl _ _,rfl⟩,
   RG.aK fun a W hp=>⟨[(41,.bool false)],.bool false,W,⟨hp.n 13 41 (by kernel_rfl) (by kernel_rfl),trivial⟩,by kernel_rfl,Below.refl _ _,rfl⟩,trivial⟩ KB.out ?_
  intro V w9 hR9 hB9;have hV14:V 14=.bool false:=hR9 14 (Nat.lt_of_succ_le (Nat.le_of_ble_eq_true (by kernel_rfl)));have K9:Hid (Below w.heap.size w w9):=hB9.2.2.2;dsimp only[RG.eK,Nat.reduceAdd];simp only[Act.put,List.setIfInBounds_toArray,List.set_cons_succ,List.set_cons_zero];rw[hV14];clear hR9 hB9 hV14;go_wp2;go_ret;exact⟨_,rfl,K9.out,rfl⟩
 | true =>
  obtain rfl:=(K7.out.2.2.1 rfl).1;cases s with
  | false =>
   clear K7;refine(Gv w k9 k11 kk x true false g (sgF kk) c9 c11 T eqb).draws (by kernel_rfl) (by kernel_rfl) ⟨
    RG.aK fun a W hp=>⟨[(8,.bool true)],.bool true,W,⟨hp.o 8 (by kernel_rfl),trivial⟩,by kernel_rfl,Below.refl _ _,rfl⟩,
    RG.aK fun a W hp=>⟨[(28,.bool true)],.bool true,W,⟨hp.n 0 28 (by kernel_rfl) (by kernel_rfl),trivial⟩,by kernel_rfl,Below.refl _ _,rfl⟩,
    RG.fA rfl (by kernel_rfl) (fun _ _ h=>h) (RG.aK fun a W hp=>⟨[(10,.bool false)],.bool false,W,⟨hp.o 10 (by kernel_rfl),trivial⟩,by kernel_rfl,Below.refl _ _,rfl⟩),
    RG.aK fun a W hp=>⟨[(29,.bool true),(30,.bool false)],.bool false,W,⟨hp.n 1 29 (by kernel_rfl) (by kernel_rfl),hp.n 2 30 (by kernel_rfl) (by kernel_rfl),trivial⟩,by kernel_rfl,Below.refl _ _,rfl⟩,
    RG.aK fun a W hp=>⟨[(31,.bool false)],.bool false,W,⟨hp.n 3 31 (by kernel_rfl) (by kernel_rfl),trivial⟩,by kernel_rfl,Below.refl _ _,rfl⟩,
    RG.cD rfl (by kernel_rfl) (fun _ _ h=>h) (fun _=>rfl),
    RG.aK fun a W hp=>⟨[(32,.bool false),(33,undef)],.bool false,W,⟨hp.n 4 32 (by kernel_rfl) (by kernel_rfl),hp.n 5 33 (by kernel_rfl) (by kernel_rfl),trivial⟩,by kernel_rfl,Below.refl _ _,rfl⟩,
    RG.aK fun a W hp=>⟨[(34,.bool false)],.bool false,W,⟨hp.n 6 34 (by kernel_rfl) (by kernel_rfl),trivial⟩,by kernel_rfl,Below.refl _ _,rfl⟩,
    RG.cD rfl (by kernel_rfl) (fun _ _ h=>h) (fun _=>rfl),
    RG.cD rfl (by kernel_rfl) (fun _ _ h=>h) (fun _=>rfl),
    RG.cD rfl (by kernel_rfl) (fun _ _ h=>h) (fun _=>rfl),
    RG.cD rfl (by kernel_rfl) (fun _ _ h=>h) (fun _=>rfl),
    RG.cD rfl (by kernel_rfl) (fun _ _ h=>h) (fun _=>rfl),
    RG.aK fun a W hp=>⟨[(35,.bool false),(40,undef)],.bool false,W,⟨hp.n 7 35 (by kernel_rfl) (by kernel_rfl),hp.n 12 40 (by kernel_rfl) (by kernel_rfl),trivial⟩,by kernel_rfl,Below.refl _ _,rfl⟩,
    RG.aK fun a W hp=>⟨[(41,.bool false)],.bool false,W,⟨hp.n 13 41 (by kernel_rfl) (by kernel_rfl),trivial⟩,by kernel_rfl,Below.refl _ _,rfl⟩,trivial⟩ KB.out ?_
   intro V w9 hR9 hB9;have hV14:V 14=.bool false:=hR9 14 (Nat.lt_of_succ_le (Nat.le_of_ble_eq_true (by kernel_rfl)));have K9:Hid (Below w.heap.size w w9):=hB9.2.2.2;dsimp only[RG.eK,Nat.reduceAdd];simp only[Act.put,List.setIfInBounds_toArray,List.set_cons_succ,List.set_cons_zero];rw[hV14];clear hR9 hB9 hV14;go_wp2;go_ret;exact⟨_,rfl,K9.out,rfl⟩
  | true =>
   cases g with
   | false =>
    clear K7;refine(Gv w k9 k11 kk x true true false (sgF kk) c9 c11 T eqb).draws (by kernel_rfl) (by kernel_rfl) ⟨
     RG.aK fun a W hp=>⟨[(8,.bool true)],.bool true,W,⟨hp.o 8 (by kernel_rfl),trivial⟩,by kernel_rfl,Below.refl _ _,rfl⟩,
     RG.aK fun a W hp=>⟨[(28,.bool true)],.bool true,W,⟨hp.n 0 28 (by kernel_rfl) (by kernel_rfl),trivial⟩,by kernel_rfl,Below.refl _ _,rfl⟩,
     RG.fA rfl (by kernel_rfl) (fun _ _ h=>h) (RG.aK fun a W hp=>⟨[(10,.bool true)],.bool true,W,⟨hp.o 10 (by kernel_rfl),trivial⟩,by kernel_rfl,Below.refl _ _,rfl⟩),
     RG.aK fun a W hp=>⟨[(29,.bool true),(30,.bool true)],.bool true,W,⟨hp.n 1 29 (by kernel_rfl) (by kernel_rfl),hp.n 2 30 (by kernel_rfl) (by kernel_rfl),trivial⟩,by kernel_rfl,Below.refl _ _,rfl⟩,
     RG.aK fun a W hp=>⟨[(31,.bool true)],.bool true,W,⟨hp.n 3 31 (by kernel_rfl) (by kernel_rfl),trivial⟩,by kernel_rfl,Below.refl _ _,rfl⟩,
     RG.fA rfl (by kernel_rfl) (fun _ _ h=>h) (RG.aK fun a W hp=>⟨[(12,.bool false)],.bool false,W,⟨hp.o 12 (by kernel_rfl),trivial⟩,by kernel_rfl,Below.refl _ _,rfl⟩),
     RG.aK fun a W hp=>⟨[(32,.bool true),(33,.bool false)],.bool false,W,⟨hp.n 4 32 (by kernel_rfl) (by kernel_rfl),hp.n 5 33 (by kernel_rfl) (by kernel_rfl),trivial⟩,by kernel_rfl,Below.refl _ _,rfl⟩,
     RG.aK fun a W hp=>⟨[(34,.bool false)],.bool false,W,⟨hp.n 6 34 (by kernel_rfl) (by kernel_rfl),trivial⟩,by kernel_rfl,Below.refl _ _,rfl⟩,
     RG.cD rfl (by kernel_rfl) (fun _ _ h=>h) (fun _=>rfl),
     RG.cD rfl (by kernel_rfl) (fun _ _ h=>h) (fun _=>rfl),
     RG.cD rfl (by kernel_rfl) (fun _ _ h=>h) (fun _=>rfl),
     RG.cD rfl (by kernel_rfl) (fun _ _ h=>h) (fun _=>rfl),
     RG.cD rfl (by kernel_rfl) (fun _ _ h=>h) (fun _=>rfl),
     RG.aK fun a W hp=>⟨[(35,.bool false),(40,undef)],.bool false,W,⟨hp.n 7 35 (by kernel_rfl) (by kernel_rfl),hp.n 12 40 (by kernel_rfl) (by kernel_rfl),trivial⟩,by kernel_rfl,Below.refl _ _,rfl⟩,
     RG.aK fun a W hp=>⟨[(41,.bool false)],.bool false,W,⟨hp.n 13 41 (by kernel_rfl) (by kernel_rfl),trivial⟩,by kernel_rfl,Below.refl _ _,rfl⟩,trivial⟩ KB.out ?_
    intro V w9 hR9 hB9;have hV14:V 14=.bool false:=hR9 14 (Nat.lt_of_succ_le (Nat.le_of_ble_eq_true (by kernel_rfl)));have K9:Hid (Below w.heap.size w w9):=hB9.2.2.2;dsimp only[RG.eK,Nat.reduceAdd];simp only[Act.put,List.setIfInBounds_toArray,List.set_cons_succ,List.set_cons_zero];rw[hV14];clear hR9 hB9 hV14;go_wp2;go_ret;exact⟨_,rfl,K9.out,rfl⟩
   | true =>
    obtain⟨h1,h2⟩:=HT.out rfl;have HSG:Hid (∀W,(true=true->Row W kk (wn x))->Calls prog 59 #[.agg c9.toArray,.pointer (some ⟨kk,0,none⟩)] W (Ret fun e w'=>Below W.heap.size W w'/\bif (true && true && true) then e=pvl T else e=undef)):=fun W h=>(h1 W kk (h rfl))
    have HEQ:=Hid.mk' h2;clear K7 h1 h2;refine(Gv w k9 k11 kk x true true true (sgF kk) c9 c11 T eqb).draws (by kernel_rfl) (by kernel_rfl) ⟨
     RG.aK fun a W hp=>⟨[(8,.bool true)],.bool true,W,⟨hp.o 8 (by kernel_rfl),trivial⟩,by kernel_rfl,Below.refl _ _,rfl⟩,
     RG.aK fun a W hp=>⟨[(28,.bool true)],.bool true,W,⟨hp.n 0 28 (by kernel_rfl) (by kernel_rfl),trivial⟩,by kernel_rfl,Below.refl _ _,rfl⟩,
     RG.fA rfl (by kernel_rfl) (fun _ _ h=>h) (RG.aK fun a W hp=>⟨[(10,.bool true)],.bool true,W,⟨hp.o 10 (by kernel_rfl),trivial⟩,by kernel_rfl,Below.refl _ _,rfl⟩),
     RG.aK fun a W hp=>⟨[(29,.bool true),(30,.bool true)],.bool true,W,⟨hp.n 1 29 (by kernel_rfl) (by kernel_rfl),hp.n 2 30 (by kernel_rfl) (by kernel_rfl),trivial⟩,by kernel_rfl,Below.refl _ _,rfl⟩,
     RG.aK fun a W hp=>⟨[(31,.bool true)],.bool true,W,⟨hp.n 3 31 (by kernel_rfl) (by kernel_rfl),trivial⟩,by kernel_rfl,Below.refl _ _,rfl⟩,
     RG.fA rfl (by kernel_rfl) (fun _ _ h=>h) (RG.aK fun a W hp=>⟨[(12,.bool true)],.bool true,W,⟨hp.o 12 (by kernel_rfl),trivial⟩,by kernel_rfl,Below.refl _ _,rfl⟩),
     RG.aK fun a W hp=>⟨[(32,.bool true),(33,.bool true)],.bool true,W,⟨hp.n 4 32 (by kernel_rfl) (by kernel_rfl),hp.n 5 33 (by kernel_rfl) (by kernel_rfl),trivial⟩,by kernel_rfl,Below.refl _ _,rfl⟩,
     RG.aK fun a W hp=>⟨[(34,.bool true)],.bool true,W,⟨hp.n 6 34 (by kernel_rfl) (by kernel_rfl),trivial⟩,by kernel_rfl,Below.refl _ _,rfl⟩,
     RG.fA rfl (by kernel_rfl) (fun _ _ h=>h) (RG.bJ 61 11 rfl uCP fun a W hp=>⟨k11,0,c11,hp.o 11 (by kernel_rfl),hp.b.2.1.2.1,by rw[HL.out.2];exact aI,rfl⟩),
     RG.fA rfl (by kernel_rfl) (fun _ _ h=>h) (RG.aK fun a W hp=>⟨[(7,sgF kk)],sgF kk,W,⟨hp.o 7 (by kernel_rfl),trivial⟩,by kernel_rfl,Below.refl _ _,rfl⟩),
     RG.fA rfl (by kernel_rfl) (fun _ _ h=>h) (RG.bJ 61 9 rfl uCP fun a W hp=>⟨k9,0,c9,hp.o 9 (by kernel_rfl),hp.b.1.2.1,by rw[HL.out.1];exact aI,rfl⟩),
     RG.fA rfl (by kernel_rfl) (fun _ _ h=>h) (RG.bG fun a W hp=>⟨[(37,sgF kk),(38,.agg c9.toArray)],59,#[.agg c9.toArray,.pointer (some ⟨kk,0,none⟩)],⟨hp.n 9 37 (by kernel_rfl) (by kernel_rfl),hp.n 10 38 (by kernel_rfl) (by kernel_rfl),trivial⟩,by kernel_rfl,HSG.out W hp.b.2.2.1⟩),
     RG.fA rfl (by kernel_rfl) (fun _ _ h=>h) (RG.LO .eql 61 61 36 39 rfl fun a W hp=>⟨.agg c11.toArray,pvl T,.bool eqb,hp.n 8 36 (by kernel_rfl) (by kernel_rfl),hp.n 11 39 (by kernel_rfl) (by kernel_rfl),(HEQ.out W).1,(HEQ.out W).2,rfl⟩),
     RG.aK fun a W hp=>⟨[(35,.bool true),(40,.bool eqb)],.bool eqb,W,⟨hp.n 7 35 (by kernel_rfl) (by kernel_rfl),hp.n 12 40 (by kernel_rfl) (by kernel_rfl),trivial⟩,by kernel_rfl,Below.refl _ _,rfl⟩,
     RG.aK fun a W hp=>⟨[(41,.bool eqb)],.bool eqb,W,⟨hp.n 13 41 (by kernel_rfl) (by kernel_rfl),trivial⟩,by kernel_rfl,Below.refl _ _,rfl⟩,trivial⟩ KB.out ?_
    intro V w9 hR9 hB9;have hV14:V 14=.bool eqb:=hR9 14 (Nat.lt_of_succ_le (Nat.le_of_ble_eq_true (by kernel_rfl)));have K9:Hid (Below w.heap.size w w9):=hB9.2.2.2;dsimp only[RG.eK,Nat.reduceAdd];simp only[Act.put,List.setIfInBounds_toArray,List.set_cons_succ,List.set_cons_zero];rw[hV14];clear hR9 hB9 hV14;go_wp2;go_ret;exact⟨_,rfl,K9.out,rfl⟩
end
section
open Go.RowKit Go.Sort Go.Deep
variable {P:Nat}[NeZero P]{N:Nat}
def kOk(N:Nat)(kb:Bs):Bool:=(rq N kb).isSome && !decide ((rq N kb).getD 0=0)
noncomputable def tkT (P:Nat) [NeZero P] (N:Nat) (kb:Bs) (tx:List UInt8):Bs:=wr (EC.mul ((rq N kb).getD 0) (.some (hpt P aQ tx):EC.Pt P))
noncomputable def vld (P:Nat) [NeZero P] (N:Nat) (kb:Bs) (tl:Nat) (tx:List UInt8) (sb:Bs):Bool:=kOk N kb && decide (1<=tl/\tl<=64) && (rd P sb).isSome && decide (sb=tkT P N kb tx)
theorem Dg(a:Bs):∀u∈aA a,u.oneCell'=true:=fun u hu=>by
 obtain⟨x,-,rfl⟩:=List.mem_map.1 hu;rfl
theorem Ez:∀u∈z33,u.oneCell'=true:=fun u hu=>by
 unfold z33 at hu;rw[(List.mem_replicate.1 hu).2];rfl
theorem Nu{a b:Bs}(ha:a.size=33)(hb:b.size=33)(w:World):(eqGuard .eql 61 (.tmp 36) (.tmp 39) (.agg (aA a).toArray) (pvl b)).run prog w=.ok () w:=by
 unfold pvl;rw[fM ha,fM hb];kernel_rfl
theorem Nv{a b:Bs}(ha:a.size=33)(hb:b.size=33)(w:World):(binOp .eql 61 (.agg (aA a).toArray) (pvl b)).run prog w=.ok (.bool (decide (a=b))) w:=by
 have h:=LV ha hb w;have h2:(binOp .eql 61 (.agg (aA a).toArray) (pvl b)).run prog w=(Op.equal 61 (.agg (aA a).toArray) (pvl b) >>= fun b=>pure (Value.bool b)).run prog w:=rfl;rw[h2,Sem.run_bind];have h3:(Op.equal 61 (.agg (aA a).toArray) (pvl b)).run prog w=.ok (decide (a=b)) w:=h;rw[h3];rfl
theorem Er(C:Fld P)(O:Ord N)(v0 v2:Value)(kb sb:Bs)(ta:Option Addr)(tl tc:Nat)(tx:List UInt8)(w:World)(hA:Arg w v0 kb)(hP:SP.PartOk w (.slice ta tl tc) tx)(h2:Arg33 w v2 sb):
 Calls prog 9 #[v0,.slice ta tl tc,v2] w (Ret fun e w'=>Below w.heap.size w w'/\e=.bool (vld P N kb tl tx sb)):=by
 unfold vld;have hon:=pJ C aQ tx;have hTs:(tkT P N kb tx).size=33:=aL _;have hLy:=fun h1 h2 W hP=>zC C ta tl tc tx W hP h1 h2
 have hsg:kOk N kb=true->∀W kk,Row W kk (wn ((rq N kb).getD 0))->Calls prog 59 #[pvl (wr (.some (hpt P aQ tx):EC.Pt P)),.pointer (some ⟨kk,0,none⟩)] W (Ret fun e w'=>Below W.heap.size W w'/\e=pvl (tkT P N kb tx)):=fun hk W kk hR=>by
  unfold tkT;refine Cl C O ?_ hon kk W hR;unfold kOk at hk;cases hx:rq N kb with
  | none=>exact O.pos
  | some x =>
   show x<N;unfold rq at hx;split at hx
   ·rename_i h
    rw[<-Option.some.inj hx];exact h.2
   ·cases hx
 generalize tkT P N kb tx=T at hTs hsg⊢;generalize (.some (hpt P aQ tx):EC.Pt P)=X at hon hLy hsg;have hXs:(wr X).size=33:=aL X;generalize wr X=Y at hLy hsg hXs;refine JM v0 (.slice ta tl tc) v2 ((rq N kb).getD 0) (kOk N kb) (decide (1<=tl/\tl<=64)) (rd P sb).isSome (if 1<=tl/\tl<=64 then aA Y else z33) (if (rd P sb).isSome then aA sb else z33) ?_ ?_ ?_ ?_ T (decide (sb=T)) w ?_ ?_ ?_ ?_
 ·split
  ·exact aC hXs
  ·rfl
 ·split
  ·rename_i h
   obtain⟨p,hp⟩:=Option.isSome_iff_exists.1 h;exact aC (mF hp)
  ·rfl
 ·split
  ·exact Dg Y
  ·exact Ez
 ·split
  ·exact Dg sb
  ·exact Ez
 ·cases hk:kOk N kb with
  | true =>
   cases hx:rq N kb with
   | none=>unfold kOk at hk;rw[hx]at hk;cases hk
   | some x =>
    have hx0:x≠0:=fun e=>by
     unfold kOk at hk;rw[hx,e]at hk;cases hk
    refine(yB O v0 kb x w hA hx hx0).mono ?_;rintro e w' ⟨v,rfl,hb,k,rfl,-,hR⟩;exact⟨_,rfl,hb,sgF k,k,rfl,fun _=>⟨rfl,hR⟩⟩
  | false =>
   refine(ET O v0 kb w hA hk).mono ?_;rintro e w' ⟨v,rfl,hb,rfl⟩;exact⟨_,rfl,hb,.nilFunc,0,rfl,fun h=>by cases h⟩
 ·intro W hb;by_cases h:1<=tl/\tl<=64
  ·rw[if_pos h,decide_eq_true h];exact hLy h.1 h.2 W (hP.below hb)
  ·rw[if_neg h,decide_eq_false h];exact FV ta tl tc W h
 ·intro W hb;cases hr:rd P sb with
  | none=>exact xF C v2 sb W (h2.below hb) hr
  | some p=>exact xE C v2 sb p W (h2.below hb) hr
 ·intro hall;rw[Bool.and_eq_true,Bool.and_eq_true]at hall;obtain⟨⟨hk,hs⟩,hg⟩:=hall;have hs':=of_decide_eq_true hs;obtain⟨p,hp⟩:=Option.isSome_iff_exists.1 hg;rw[if_pos hs',if_pos hg];exact⟨fun W kk hR=>hsg hk W kk hR,fun W=>⟨Nu (mF hp) hTs W,Nv (mF hp) hTs W⟩⟩
theorem Jz(C:Fl3 P)(O:Ord N)(p0 p1:Option Addr)(n0 c0 n1 c1:Nat)(sk b:Bs)(w:World)(hA:Arg w (.slice p0 n0 c0) sk)(h0:SP.PartOk w (.slice p0 n0 c0) sk.toList)(hA1:Arg33 w (.slice p1 n1 c1) b)(h1:SP.PartOk w (.slice p1 n1 c1) b.toList)(hs:sec N sk=true)(hr:real P b=true):
 Calls prog 20 #[.slice p0 n0 c0,.slice p1 n1 c1] w (Ret fun e w'=>Below w.heap.size w w'/\∃a v,e=.tuple #[a,v,.int .i64 0]/\El 33 w' a (wr (EC.mul (nuV sk) (jF P b)))/\El 64 w' v (pmT P N sk b).1):=by
 obtain⟨hq,hxN,hx0⟩:=EU hs;obtain⟨hwr,hon⟩:=fR C hr;have HS:=Hid.mk' (yB O (.slice p0 n0 c0) sk (nuV sk) w hA hq hx0);have hrB:rdB P b=b:=by unfold rdB;rw[if_pos (Cq hr)]
 have HR:Hid (∀W,Below w.heap.size w W->Calls prog 53 #[.slice p1 n1 c1] W (Ret fun e w'=>Below W.heap.size W w'/\e=.tuple #[pvl b,.bool true])):=fun W hb=>by
  have:=nH C.toFld (.slice p1 n1 c1) b W (hA1.below hb);rw[hrB,hr]at this;exact this
 have hp2:(pmT P N sk b).2=0:=by unfold pmT;rw[hs,hr];rfl
 have hp1:¬(pmT P N sk b).1=#[]:=fun e=>by
  have:(pmT P N sk b).1.size=64:=by unfold pmT;rw[hs,hr];show(bx _++bx _).size=64;rw[Array.size_append,bK,bK]
  rw[e]at this;cases this
 have HPm:Hid (∀W,Below w.heap.size w W->Calls prog 54 #[.slice p0 n0 c0,.slice p1 n1 c1] W (Ret fun e w'=>Below W.heap.size W w'/\∃v,e=.tuple #[v,.int .i64 0]/\El 64 w' v (pmT P N sk b).1)):=fun W hb=>by
  have:=DR C O p0 p1 n0 c0 n1 c1 sk b W (hA.below hb) (h0.below hb) (hA1.below hb) (h1.below hb);rw[hp2]at this;refine this.mono ?_;rintro e w' ⟨v,rfl,hb,u,rfl,hu⟩;rcases hu with⟨-,h⟩|h
  ·exact absurd h hp1
  ·exact⟨_,rfl,hb,u,rfl,h⟩
 have HG:Hid (∀W k,Row W k (wn (nuV sk))->Calls prog 59 #[pvl b,.pointer (some ⟨k,0,none⟩)] W (Ret fun e w'=>Below W.heap.size W w'/\e=pvl (wr (EC.mul (nuV sk) (jF P b))))):=fun W k hR=>by
  have:=Cl C.toFld O hxN hon k W hR;rw[hwr]at this;exact this
 have HT:Hid (b.size=33/\(wr (EC.mul (nuV sk) (jF P b))).size=33):=⟨by rw[<-hwr];exact aL _,aL _⟩
 generalize wr (EC.mul (nuV sk) (jF P b))=T at HG HT⊢;generalize (pmT P N sk b).1=U at HPm⊢;clear C O hA h0 hA1 h1 hs hr hq hxN hx0 hwr hon hrB hp2 hp1;generalize nuV sk=x at HS HG;obtain⟨vY,hvY⟩:∃v,Hid (pvl b=v):=⟨_,rfl⟩
 rw[hvY.out]at HR;obtain⟨d,hd1,hd2⟩:=Option.map_eq_some_iff.1 uCP;have HD:Hid (prog.underlying 61=some d/\d.isRow=true):=⟨hd1,hd2⟩
 clear hd1 hd2;go_enter Tryz.func20,Tryz.ntmps20;go_wp2_with fail
 refine HS.out.mono ?_;rintro e w1 ⟨vv,rfl,hb1,k,rfl,-,hk⟩;have K1:Hid (Kp w w1 [(k,wn x)]):=⟨hb1,fun y hy=>by rw[show y=(k,wn x) by simpa using hy];exact hk⟩
 clear hb1 hk HS;obtain⟨fv,hfv⟩:∃v,Hid (sgF k=v):=⟨_,rfl⟩
 rw[hfv.out];go_wp2_with fail
 refine(HR.out w1 K1.out.bl).mono ?_;rintro e v1 ⟨vv,rfl,hb1,rfl⟩;have K3b:Hid (Kp w v1 [(k,wn x)]):=K1.out.grow hb1;clear hb1 HR K1;obtain⟨v2,hv2⟩:∃v2,Hid (v1.alloc (.cells z33.toArray 61)=v2):=⟨_,rfl⟩
 obtain⟨k9,hk9⟩:∃k9,Hid (v1.heap.size=k9):=⟨_,rfl⟩
 obtain⟨v3,hv3⟩:∃v3,Hid (v2.setCells k9 0 (aA b)=v3):=⟨_,rfl⟩
 have hlen:(aA b).length=33:=aC HT.out.1;have F3:Hid (Row v2 k9 z33/\Kp w v2 [(k,wn x)]):=by
  rw[<-hv2.out,<-hk9.out];exact⟨aG v1 _ _,K3b.out.grow (aE _ _)⟩
 have K3c:Hid (Kp w v3 [(k9,aA b),(k,wn x)]):=by
  rw[<-hv3.out];refine F3.out.2.put F3.out.1 (by rw[hlen];rfl) (by rw[<-hk9.out];exact K3b.out.bl.size) fun y hy=>?_
  rw[show y=(k,wn x) by simpa using hy,<-hk9.out];exact Nat.ne_of_lt (K3b.out.at 0 rfl).1
 have HI:Hid (v2.there k9 0 (aA b).toArray.size/\(prog.info? 61).map (·.size)=some (aA b).toArray.size/\(prog.info? 61).map (·.size)=some (aA b).length):=by
  have e:(aA b).toArray.size=33:=by rw[List.size_toArray];exact hlen
  rw[e,hlen];exact⟨F3.out.1.2.2,aI,aI⟩
 clear hlen F3;go_wp2_with (first|(refine aJ (v:=.pointer (some ⟨k9,0,none⟩)) (w':=v2) rfl (.alloc 61) rfl ?_ ?_;(rw[<-hv2.out,<-hk9.out];kernel_rfl))|(refine wpList_store_mid rfl 61 _ _ rfl k9 0 (aA b).toArray ?_ ?_ ?_ ?_ ?_ ?_;rfl;exact hvY.out.symm;exact HI.out.1;exact HI.out.2.1;exact bW b;rw[show(aA b).toArray.toList=aA b from rfl,hv3.out])|fail)
 clear hv2 hv3 hk9 K3b;refine(HPm.out v3 K3c.out.bl).mono ?_;rintro e w4 ⟨vv,rfl,hb4,u,rfl,hu⟩;obtain⟨ku,cu,rfl,hu'⟩:=hu;have K4:Hid (Kp w w4 [(k9,aA b),(k,wn x)]/\El 64 w4 (.slice (some ⟨ku,0,none⟩) 64 cu) U):=⟨K3c.out.grow hb4,⟨ku,cu,rfl,hu'⟩⟩
 clear hb4 hu' HPm K3c;rw[<-hfv.out];unfold sgF;go_wp2_with (first|(refine wpList_load_mid rfl 61 _ rfl k9 0 ?_ (aA b) d ?_ ?_ ?_ ?_ ?_;rfl;exact(K4.out.1.at 0 rfl).2.1;exact HD.out.1;exact HD.out.2;exact HI.out.2.2;rw[show Value.agg (aA b).toArray=vY from hvY.out])|fail)
 have hG:=HG.out w4 k (K4.out.1.at 1 rfl);rw[hvY.out]at hG;refine hG.mono ?_;rintro e w5 ⟨vv,rfl,hb5,rfl⟩;have K5:Hid (Kp w w5 []/\El 64 w5 (.slice (some ⟨ku,0,none⟩) 64 cu) U):=⟨⟨(K4.out.1.grow hb5).bl,fun y hy=>by cases hy⟩,K4.out.2.below hb5 (Nat.le_refl _)⟩
 have HB:=Hid.mk' (lR HT.out.2 w5);clear hb5 HG hG K4;obtain⟨vT,hvT⟩:∃v,Hid (pvl T=v):=⟨_,rfl⟩
 rw[hvT.out]at HB⊢;go_wp2_with fail
 refine HB.out.mono ?_;rintro e w6 ⟨vv,rfl,hb6,hE⟩;obtain⟨kt,ct,rfl,hE'⟩:=hE;have K6:Hid (Below w.heap.size w w6/\El 33 w6 (.slice (some ⟨kt,0,none⟩) 33 ct) T/\El 64 w6 (.slice (some ⟨ku,0,none⟩) 64 cu) U):=⟨(K5.out.1.grow hb6).bl,⟨kt,ct,rfl,hE'⟩,K5.out.2.below hb6 (Nat.le_refl _)⟩
 clear hb6 hE' K5 HB;go_wp2
 go_ret3
 exact⟨_,rfl,K6.out.1,_,_,rfl,K6.out.2.1,K6.out.2.2⟩
theorem Jo{A B:Bs}(hA:A.size=32)(hB:B.size=32):(A++B).extract 0 32=A/\(A++B).extract 32 64=B:=by
 have h64:(A++B).size=64:=by rw[Array.size_append,hA,hB]
 constructor
 ·apply Array.ext
  ·rw[Array.size_extract,h64,hA];rfl
  ·intro i h1 h2;rw[Array.getElem_extract,Array.getElem_append_left (by omega)];simp
 ·apply Array.ext
  ·rw[Array.size_extract,h64,hB];rfl
  ·intro i h1 h2;rw[Array.getElem_extract,Array.getElem_append_right (by omega)];simp[hA]
theorem E4(O:Ord N){n:Nat}(hn:n<N):rq N (bx n)=some n:=by
 have hv:beV (bx n).toList=n:=xH (Nat.lt_of_lt_of_le hn O.le);unfold rq;rw[hv,if_pos ⟨bK n,hn⟩]
theorem J6(O:Ord N){n:Nat}(hn:n<N):nuV (bx n)=n:=(nI (E4 O hn)).symm
theorem CC(C:Fld P){A B:EC.Pt P}(hA:EC.On A)(hB:EC.On B):EC.add (EC.add A B) (EC.neg B)=A:=by
 have hn:EC.On (EC.neg B):=EC.bX hB;rw[C.cur.assoc hA hB hn,C.cur.comm hB hn,C.cur.neg_l hB,C.cur.comm hA EC.eX];rfl
theorem qL(C:Fld P)(hord:∀r:EC.Pt P,EC.On r->EC.mul N r=none){X:EC.Pt P}(hX:EC.On X)(x k c:Nat):EC.add (EC.mul (sPl N k (sTi N c x)) X) (EC.neg (EC.mul c (EC.mul x X)))=EC.mul k X:=by
 unfold sPl sTi;have e1:EC.mul ((k+c*x%N)%N) X=EC.add (EC.mul k X) (EC.mul c (EC.mul x X)):=by
  rw[mul_mod C hord hX,EC.mul_add C.cur hX,mul_mod C hord hX,Nat.mul_comm,EC.eY C.cur hX]
 rw[e1];exact CC C (EC.bF C.cur hX k) (EC.bF C.cur (EC.bF C.cur hX x) c)
theorem wI(C:Fl3 P){X:EC.Pt P}(hX:EC.On X)(h0:X≠none):real P (wr X)=true/\jF P (wr X)=X:=by
 obtain⟨p,hp,hpt⟩:=rO C.toFld hX;have hB:rdB P (wr X)=wr X:=by unfold rdB;rw[hp];rfl
 refine⟨?_,by rw[Cv hp];exact hpt⟩;have hne:¬wr X=o33:=fun e=>by
  rw[<-Ca (P:=P)]at e;have:=congrArg (d5 P) e;rw[dF C.toFld hX,dF C.toFld EC.eX]at this;exact h0 this
 unfold real;rw[hB,hp,decide_eq_false hne];rfl
theorem AM(C:Fl3 P)(O:Ord N)(hord:∀r:EC.Pt P,EC.On r->EC.mul N r=none)(sk b:Bs)(hs:sec N sk=true)(hr:real P b=true)(h1:EC.mul (nuV sk) (gG P)≠none)(h2:EC.mul (nuV sk) (jF P b)≠none):
 vsP P N (wr (EC.mul (nuV sk) (gG P))) b (wr (EC.mul (nuV sk) (jF P b))) (pmT P N sk b).1=true:=by
 have hon:=(fR C hr).2;have hg:=jJ C.toFld;obtain⟨ra,pa⟩:=wI C (EC.bF C.toFld.cur hg (nuV sk)) h1;obtain⟨rd,pd⟩:=wI C (EC.bF C.toFld.cur hon (nuV sk)) h2;have hc:pmC P N sk b<N:=by unfold pmC;exact BV O _ _ _ _ _
 have hz:pmZ P N sk b<N:=by unfold pmZ sPl;exact Nat.mod_lt _ O.pos
 have ep:(pmT P N sk b).1=bx (pmC P N sk b)++bx (pmZ P N sk b):=by unfold pmT;rw[hs,hr];rfl
 obtain⟨e1,e2⟩:=Jo (bK (pmC P N sk b)) (bK (pmZ P N sk b));have hF:vsF P (wr (EC.mul (nuV sk) (gG P))) (pmC P N sk b) (pmZ P N sk b)=wr (EC.mul (pmK N sk b) (gG P)):=by
  unfold vsF;rw[pa];unfold pmZ;rw[qL C.toFld hord hg]
 have hG:vsG P b (wr (EC.mul (nuV sk) (jF P b))) (pmC P N sk b) (pmZ P N sk b)=wr (EC.mul (pmK N sk b) (jF P b)):=by
  unfold vsG;rw[pd];unfold pmZ;rw[qL C.toFld hord hon]
 have hM:vsM P N (wr (EC.mul (nuV sk) (gG P))) b (wr (EC.mul (nuV sk) (jF P b))) (pmC P N sk b) (pmZ P N sk b)=pmC P N sk b:=by
  unfold vsM;rw[hF,hG];rfl
 unfold vsP RpT;rw[ep,e1,e2,J6 O hc,J6 O hz,hM,E4 O hc,E4 O hz,ra,hr,rd,Array.size_append,bK,bK,decide_eq_true (Eq.refl (pmC P N sk b))];rfl
theorem fl3:∃(P:Nat) (_:NeZero P),Fl3 P:=by
 obtain⟨P,hz,hP,hc⟩:=EC.cur;have h0:P=Go.Proofs.YtgbjainaafdpgaaGreat.p0:=by rw[hP];decide +kernel
 have hg:=OL;have hr:=MQ;have h2:2<=Go.Proofs.YtgbjainaafdpgaaGreat.p0%18446744073709551616:=by decide +kernel
 have h4:Go.Proofs.YtgbjainaafdpgaaGreat.p0/4%18446744073709551616<18446744073709551615:=by decide +kernel
 have h3:Go.Proofs.YtgbjainaafdpgaaGreat.p0%4=3:=by decide +kernel
 have h7:7<Go.Proofs.YtgbjainaafdpgaaGreat.p0:=by decide +kernel
 rw[<-h0]at hg hr h2 h4 h3 h7;exact⟨P,hz,⟨⟨hg,hc,h2,h4,h3,h7⟩,hr⟩⟩
end
namespace EC
variable {P:Nat}[NeZero P]
def fo{α:Type}(x:Fin P)(f:Fin P->α):α:=
 match x.val with
 | 0=>f (Fin.ofNat P 0)
 | n+1=>f (Fin.ofNat P (n+1))
theorem Nr{α:Type}(x:Fin P)(f:Fin P->α):fo x f=f x:=by
 have hx:Fin.ofNat P x.val=x:=Fin.ext (Nat.mod_eq_of_lt x.isLt);unfold fo;split
 ·next h=>rw[h]at hx;rw[hx]
 ·next n h=>rw[h]at hx;rw[hx]
def runs(u v:Fin P)(e:Nat):Nat->Fin P->Fin P->Fin P->Bool
 | 0,_,_,z=>decide (z=0)
 | k+1,x,y,z=>fo (twX x y) fun X=>fo (twY x y) fun Y=>fo (twZ y z) fun Z =>
  if e/2^k%2=1 then
   if Z=0 then false else
   fo (cJ X 1) fun ax=>fo (dG Y 1) fun ay=>fo (cJ u Z) fun bx=>fo (dG v Z) fun bY =>
   if ax=bx/\ay=bY then false else
   fo (plX ax ay bx bY) fun a=>fo (plY ax ay bx bY) fun b=>fo (plZ Z 1 ax bx) fun c=>runs u v e k a b c
  else runs u v e k X Y Z
theorem Bc(C:Cur P):(1:Fin P)≠0:=fun h=>C.two (by
 calc (2:Fin P)=2*1:=by grobner
  _=0:=by rw[h];grobner)
theorem wH(C:Cur P){u v:Fin P}(hg:On (some (u,v)))(e:Nat):∀(k m:Nat) (x y z:Fin P),Jac x y z (mul m (some (u,v)))->runs u v e k x y z=true->mul (m*2^k+e%2^k) (some (u,v))=none
 | 0,m,x,y,z,hj,h=>by
  have hz:z=0:=of_decide_eq_true h;rw[Nat.pow_zero,Nat.mod_one,Nat.mul_one,Nat.add_zero];exact hj.zero C hz
 | k+1,m,x,y,z,hj,h=>by
  have hm:=bF C hg m;have h1:=hj.twice C hm;rw[<-mul_add C hg]at h1;have hb:e%2^(k+1)=e/2^k%2*2^k+e%2^k:=by
   rw[Nat.pow_succ,Nat.mod_mul,Nat.mul_comm (2^k) (e/2^k%2),Nat.add_comm]
  have hp:2^(k+1)=2*2^k:=by rw[Nat.pow_succ,Nat.mul_comm]
  unfold runs at h;simp only[Nr]at h;by_cases hbit:e/2^k%2=1
  ·rw[if_pos hbit]at h;by_cases hZ:twZ y z=0
   ·rw[if_pos hZ]at h;cases h
   ·rw[if_neg hZ]at h;have hj1:Jac u v 1 (some (u,v)):=⟨Bc C,by grobner,by grobner⟩
    rcases h1.plus C (bF C hg _) hj1 hg hZ (Bc C)with⟨e1,e2,-⟩|⟨e1,e2⟩
    ·rw[if_pos ⟨e1,e2⟩]at h;cases h
    ·rw[if_neg e1]at h;have h2:=wH C hg e k (m+m+1) _ _ _ e2 h;rw[hb,hbit,hp];rw[show m*(2*2^k)+(1*2^k+e%2^k)=(m+m+1)*2^k+e%2^k by
      rw[Nat.add_mul,Nat.add_mul,<-Nat.mul_assoc,Nat.mul_comm m 2,Nat.two_mul,Nat.add_mul];omega]
     exact h2
  ·rw[if_neg hbit]at h;have h0:e/2^k%2=0:=by omega
   have h2:=wH C hg e k (m+m) _ _ _ h1 h;rw[hb,h0,hp];rw[show m*(2*2^k)+(0*2^k+e%2^k)=(m+m)*2^k+e%2^k by
    rw[<-Nat.mul_assoc,Nat.mul_comm m 2,Nat.two_mul];omega]
   exact h2
def pL:Nat:=115792089237316195423570985008687907853269984665640564039457584007908834671663
def nL:Nat:=115792089237316195423570985008687907852837564279074904382605163141518161494337
instance:NeZero pL:=⟨by decide +kernel⟩
theorem KY:runs (P:=pL) (Fin.ofNat pL 55066263022277343669578718895168534326250603453777594175500187360389116729240) (Fin.ofNat pL 32670510020758816978083085130507043184471273380659243275938904335757337482424) nL 255 (Fin.ofNat pL 55066263022277343669578718895168534326250603453777594175500187360389116729240) (Fin.ofNat pL 32670510020758816978083085130507043184471273380659243275938904335757337482424) 1=true:=by decide +kernel
theorem Im:2*pL+1<3*nL:=by decide +kernel
theorem LL:1*2^255+nL%2^255=nL:=by decide +kernel
theorem order(C:Cur P)(hP:P=pL)(hg:On (some (Fin.ofNat P 55066263022277343669578718895168534326250603453777594175500187360389116729240,Fin.ofNat P 32670510020758816978083085130507043184471273380659243275938904335757337482424))){r:Pt P}(hr:On r):mul nL r=none:=by
 subst hP;refine FA C (n:=nL) NT.pN Im hg (fun h=>by cases h) ?_ hr;have h:=wH C hg nL 255 1 _ _ 1 (by
  show Jac _ _ 1 (add none _);rw[fK];exact⟨Bc C,by grobner,by grobner⟩) KY
 rwa[LL]at h
end EC
section
theorem Fw:Go.Proofs.YtgbjainaafdpgaaGreat.p1=EC.nL:=by decide +kernel
variable {P:Nat}[NeZero P]
theorem order2(C:Fld P)(r:EC.Pt P)(hr:EC.On r):EC.mul Go.Proofs.YtgbjainaafdpgaaGreat.p1 r=none:=by
 rw[Fw];have hP:P=EC.pL:=by
  rw[C.eq];rfl
 exact EC.order C.cur hP (jJ C) hr
end
section
open Go.RowKit Go.Sort Go.Deep
variable {P:Nat}[NeZero P]{N:Nat}
theorem Al(C:Fld P)(O:Ord N)(hord:∀r:EC.Pt P,EC.On r->EC.mul N r=none)(s r p:ByteArray)(q0 q2:Option Addr)(n0 c0 n2 c2:Nat)(v1:Value)(w:World)(h0:Arg33 w (.slice q0 n0 c0) s.data)(hA:Arg w v1 r.data)(h2:Arg33 w (.slice q2 n2 c2) p.data):
 Calls prog 22 #[.slice q0 n0 c0,v1,.slice q2 n2 c2] w (Ret fun e w'=>Below w.heap.size w w'/\JS (unT P N s r p).1 (unT P N s r p).2 e w'):=by
 unfold unT;cases hr:rq N r.data with
 | none=>exact BZ O _ v1 _ r.data w hA hr
 | some n =>
  refine Es C O hord q0 q2 n0 c0 n2 c2 v1 s.data r.data p.data n w h0 hA h2 hr _ _ ?_;cases ha:rd P s.data with
  | none=>exact Or.inr ⟨Or.inl rfl,rfl,rfl⟩
  | some a =>
   cases hb:rd P p.data with
   | none=>exact Or.inr ⟨Or.inr rfl,rfl,rfl⟩
   | some b=>exact Or.inl ⟨⟨a,b,rfl,rfl,rfl⟩,rfl⟩
theorem Oq:Ord Go.Proofs.YtgbjainaafdpgaaGreat.p1:=⟨OK,MP,by decide +kernel,by decide +kernel⟩
theorem mul_ne(C:Fld P)(hord:∀r:EC.Pt P,EC.On r->EC.mul N r=none)(hp:NT.IsP N){X:EC.Pt P}(hX:EC.On X)(h0:X≠none){x:Nat}(hx:x<N)(hx0:x≠0):EC.mul x X≠none:=fun e=>by
 have hnd:¬N ∣ x:=fun h=>by
  have:=Nat.le_of_dvd (by omega) h;omega
 have hf:=hp.fermat1 x hnd;have hN1:1<=N-1:=by
  have:=hp.1;omega
 have h1:EC.mul (x^(N-1)) X=X:=by
  rw[<-mul_mod C hord hX,hf];exact EC.fK X
 have h2:x^(N-1)=x*x^(N-1-1):=by
  rw[Nat.mul_comm,<-Nat.pow_succ]
  congr 1
  omega
 rw[h2,EC.eY C.cur hX,e,EC.jI]at h1;exact h0 h1.symm
theorem Hu(C:Fld P){Y:EC.Pt P}(hY:EC.On Y)(k r:Nat):EC.add (EC.mul k (EC.add Y (EC.mul r (gG P)))) (EC.neg (EC.mul r (EC.mul k (gG P))))=EC.mul k Y:=by
 have hg:=jJ C;have hr:=EC.bF C.cur hg r;have hd:∀n,EC.mul n (EC.add Y (EC.mul r (gG P)))=EC.add (EC.mul n Y) (EC.mul n (EC.mul r (gG P))):=fun n=>by
  induction n with
  | zero=>rfl
  | succ n ih =>
   have e1:∀Z:EC.Pt P,EC.On Z->EC.mul (n+1) Z=EC.add (EC.mul n Z) Z:=fun Z hZ=>by
    rw[EC.mul_add C.cur hZ n 1]
    congr 1
   rw[e1 _ (C.cur.on hY hr),e1 _ hY,e1 _ hr,ih];exact C.cur.swap (EC.bF C.cur hY n) (EC.bF C.cur hr n) hY hr
 have hc:EC.mul k (EC.mul r (gG P))=EC.mul r (EC.mul k (gG P)):=by
  rw[<-EC.eY C.cur hg,<-EC.eY C.cur hg,Nat.mul_comm]
 rw[hd,hc];exact CC C (EC.bF C.cur hY k) (EC.bF C.cur (EC.bF C.cur hg k) r)
def scC(s:ByteArray):Bs:=(scM s).setIfInBounds 31 1
where scM (s:ByteArray):Bs:=#[0]++s.data.extract 0 30++Array.replicate (31-min s.size 30) 0
theorem fE(s:ByteArray):(scC.scM s).size=32:=by
 unfold scC.scM;have hl:s.data.size=s.size:=rfl;simp only[Array.size_append,Array.size_extract,Array.size_replicate,hl,List.size_toArray,List.length_cons,List.length_nil];omega
theorem JZ(s:ByteArray):(scC.scM s)[0]! = 0:=by
 unfold scC.scM;rw[getElem!_pos _ 0 (by simp;omega),Array.getElem_append_left (by simp;omega),Array.getElem_append_left (by simp)];rfl
theorem KR(s:ByteArray)(j:Nat)(h1:j<s.size)(h2:j<30):(scC.scM s)[1+j]! = s.data[j]'h1:=by
 have hl:s.data.size=s.size:=rfl;unfold scC.scM;rw[getElem!_pos _ (1+j) (by simp;omega),Array.getElem_append_left (by simp;omega),Array.getElem_append_right (by simp)];simp
theorem Ir(s:ByteArray)(j:Nat)(h1:min s.size 30<=j)(h2:j<31):(scC.scM s)[1+j]! = 0:=by
 have hl:s.data.size=s.size:=rfl;unfold scC.scM;rw[getElem!_pos _ (1+j) (by simp;omega),Array.getElem_append_right (by simp;omega)];simp
theorem fF(s:ByteArray):(scC s).size=32:=by unfold scC;rw[Array.size_setIfInBounds,fE]
theorem Ai(x:UInt8)(r:List UInt8):beV (x :: r)=x.toNat*256^r.length+beV r:=by
 have h:=dD [x] r;rw[show [x]++r=x :: r from rfl]at h;rw[h];simp[beV]
theorem GH(r:List UInt8)(x:UInt8):beV (r++[x])=beV r*256+x.toNat:=by
 rw[dD];simp[beV]
theorem wF(s:ByteArray):beV (scC s).toList<2^248/\beV (scC s).toList≠0:=by
 have hs:=fF s;have h0:(scC s)[0]! = 0:=by
  unfold scC;rw[getElem!_pos _ 0 (by rw[Array.size_setIfInBounds,fE];omega),Array.getElem_setIfInBounds];have:=JZ s;rw[getElem!_pos _ 0 (by rw[fE];omega)]at this;simpa using this
 have h31:(scC s)[31]! = 1:=by
  unfold scC;rw[getElem!_pos _ 31 (by rw[Array.size_setIfInBounds,fE];omega),Array.getElem_setIfInBounds];simp;rw[fE];omega
 have hlen:(scC s).toList.length=32:=by rw[Array.length_toList,hs]
 generalize hl:(scC s).toList=l at hlen⊢;have a0:l[0]! = 0:=by rw[<-hl,getElem!_pos (scC s).toList 0 (by rw[Array.length_toList,hs];omega),Array.getElem_toList,<-getElem!_pos (scC s) 0 (by omega)];exact h0
 have a31:l[31]! = 1:=by rw[<-hl,getElem!_pos (scC s).toList 31 (by rw[Array.length_toList,hs];omega),Array.getElem_toList,<-getElem!_pos (scC s) 31 (by omega)];exact h31
 match l,hlen,a0,a31 with
 | x :: r,hlen,a0,a31 =>
  have hx:x=0:=by simpa using a0
  have hrl:r.length=31:=by simpa using hlen
  refine⟨?_,?_⟩
  ·rw[Ai,hx];have:=BR r;rw[hrl]at this;simpa using this
  ·have hne:r≠[]:=fun e=>by rw[e]at hrl;cases hrl
   have e:r=r.dropLast++[r.getLast hne]:=(List.dropLast_concat_getLast hne).symm;have hlast:r.getLast hne=1:=by
    rw[List.getLast_eq_getElem];have h30:(x :: r)[31]! = r[30]'(by omega):=by
     rw[getElem!_pos (x :: r) 31 (by simp;omega)];simp
    rw[h30]at a31;simpa[hrl]using a31
   rw[Ai,hx,e,hlast,GH];simp
theorem KU(O:Ord N)(hN:2^248<N)(s:ByteArray):rq N (scC s)=some (beV (scC s).toList):=by
 unfold rq;rw[if_pos ⟨fF s,Nat.lt_trans (wF s).1 hN⟩]
theorem nG(s:ByteArray)(w:World):Calls prog 5 #[.string s] w (Ret fun e w'=>Below w.heap.size w w'/\∃g,e=.slice (some ⟨g,0,none⟩) 32 32/\w.heap.size<=g/\g<w'.heap.size/\Holds encB w' g 0 (scC s)):=by
 have hmk:=OA w;have hH0:Holds encB (w.alloc (.cells (madeCells #[.int .u8 0] 32) 5)) w.heap.size 0 (Array.replicate 32 0):=Holds.made (enc:=encB) w 5 32 0;have hcp:=tQ (P:=prog) (w.alloc (.cells (madeCells #[.int .u8 0] 32) 5)) 22 9 3 5 w.heap.size 1 30 31 s slice22 size5
  (fun j hj=>by have:=(hH0 (1+j) (by rw[Array.size_replicate];omega)).1;rw[Nat.zero_add]at this;rw[this];rfl) (fun j hj=>by have:=(hH0 (1+j) (by rw[Array.size_replicate];omega)).2;rwa[Nat.zero_add]at this)
 obtain⟨vs,hvs⟩:∃vs,vs=(s.data.toList.map fun x=>Value.int .u8 (x.toNat:Int)).take (Nat.min s.size 30):=⟨_,rfl⟩
 have hl:s.data.size=s.size:=rfl;have hlen:vs.length=Nat.min s.size 30:=by rw[hvs,List.length_take,List.length_map,Array.length_toList,hl];exact Nat.min_eq_left (Nat.min_le_left _ _)
 have hm1:Nat.min s.size 30<=30:=Nat.min_le_right _ _;have hH1:Holds encB ((w.alloc (.cells (madeCells #[.int .u8 0] 32) 5)).setCells w.heap.size (0+1) vs) w.heap.size 0 (scC.scM s):=by
  refine Holds.setCells (o:=0) hH0 vs 1 (by rw[fE,Array.size_replicate]) (by rw[Array.size_replicate,hlen];omega) (fun j hj=>?_) (fun j hj hout=>?_)
  ·have hj2:=hj;rw[hlen]at hj2;have ha:j<s.size:=Nat.lt_of_lt_of_le hj2 (Nat.min_le_left _ _);have hb:j<30:=Nat.lt_of_lt_of_le hj2 hm1;rw[KR s j ha hb];subst hvs;rw[List.getElem_take,List.getElem_map,Array.getElem_toList];rfl
  ·rw[Array.size_replicate]at hj;rw[hlen]at hout;have hr:(Array.replicate 32 (0:UInt8))[j]! = 0:=by rw[getElem!_pos _ j (by rw[Array.size_replicate];exact hj),Array.getElem_replicate]
   rw[hr];rcases hout with h|h
   ·rw[show j=0 by omega];exact JZ s
   ·have hmin:min s.size 30=Nat.min s.size 30:=rfl;have e:=Ir s (j-1) (by rw[hmin];omega) (by omega);rwa[show 1+(j-1)=j by omega]at e
 rw[<-hvs]at hcp;rw[Nat.zero_add]at hH1;obtain⟨w1,hw1⟩:∃w1,(w.alloc (.cells (madeCells #[.int .u8 0] 32) 5)).setCells w.heap.size 1 vs=w1:=⟨_,rfl⟩
 have hb1:Below w.heap.size w w1:=by rw[<-hw1];exact below_setCells (Nat.le_refl _) _ _ _ ((Below.refl _ _).alloc (Nat.le_refl _) _)
 have hsz:w.heap.size<w1.heap.size:=by
  rw[<-hw1];have:=(below_setCells (B:=0) (b:=w.heap.size) (Nat.zero_le _) vs 1 (w.alloc (.cells (madeCells #[.int .u8 0] 32) 5)) (Below.refl 0 _)).size;rw[World.size_alloc]at this;omega
 rw[hw1]at hcp hH1;obtain⟨c31,f31⟩:=hH1 31 (by rw[fE];omega);rw[Nat.zero_add]at c31 f31;obtain⟨u31,hu31⟩:∃u,encB (scC.scM s)[31]! = u:=⟨_,rfl⟩
 rw[hu31]at c31;have H2:Holds encB (w1.setCell ⟨w.heap.size,31,none⟩ (.int .u8 1)) w.heap.size 0 (scC s):=by
  have:=Holds.set hH1 (i:=31) (by rw[fE];omega) 1;rw[Nat.zero_add]at this;exact this
 have HH:Hid (Below w.heap.size w (w1.setCell ⟨w.heap.size,31,none⟩ (.int .u8 1))/\w.heap.size<(w1.setCell ⟨w.heap.size,31,none⟩ (.int .u8 1)).heap.size/\Holds encB (w1.setCell ⟨w.heap.size,31,none⟩ (.int .u8 1)) w.heap.size 0 (scC s)):=⟨hb1.setCell (p:=⟨w.heap.size,31,none⟩) (Nat.le_refl _) _,by simpa using hsz,H2⟩
 clear hvs hlen hm1 hb1 hsz hH1 hH0 H2 hw1 hu31;go_enter Tryz.func5,Tryz.ntmps5;go_wp2;go_ret;exact⟨_,rfl,HH.out.1,_,rfl,Nat.le_refl _,HH.out.2.1,HH.out.2.2⟩
theorem Cy{w:World}{k cap:Nat}{s:ByteArray}(hs:s.size<=4096)(hc:s.size<=cap)(hH:Holds encB w k 0 s.data):SP.PartOk w (.slice (some ⟨k,0,none⟩) s.size cap) s.data.toList:=
 ⟨_,k,0,cap,s.data,rfl,rfl,hc,Nat.le_trans hs (by decide),Or.inr ⟨rfl,hH⟩⟩
end
namespace RG
open Go Go.RowKit
variable {P:Program}{ops:Array Oper}{Q:Exit->Act->World->Prop}{w0:World}{k0:Nat}{X:List Nat}{its:List It}{bl:List Bl}{olds:List (Tmp × SV)}{i:Nat}{o:Oper}{it:It}
theorem mW(hk:it.kind=.stay)(op:BinOp)(T T':TypeId)(t2:Tmp)(v1 v2 v:Value)(ho:o.op=.binOp op T (.const v1) (.tmp t2) T')(hout:it.out=.v v)
 (h2:∀(μ:Nat->Nat) (a:Act),Known ops i its olds it.need μ a->a.eval (.tmp t2)=v2)
 (hg:∀w,(eqGuard op T (.const v1) (.tmp t2) v1 v2).run P w=.ok () w) (hb:∀w,(binOp op T v1 v2).run P w=.ok v w):Cert P Q w0 k0 X ops i its bl olds o it:=by
 refine cG hk fun μ a w hK _=>?_
 unfold execOp;rw[ho,hout];dsimp only;rw[h2 μ a hK];show(((eqGuard op T (.const v1) (.tmp t2) v1 v2) >>= fun _=>binOp op T v1 v2) >>= fun v=>pure (Next.value v)).run P w=_;rw[Sem.run_bind,Sem.run_bind,hg];dsimp only[Result.andThen];rw[hb];rfl
end RG
section
open Go.RowKit Go.Sort Go.Deep
variable {P:Nat}[NeZero P]
theorem Mb(lab:ByteArray)(h:lab.size<=1000000)(w:World):(binOp .add 9 (.string ⟨#[112,111,105,110,116,32]⟩) (.string lab)).run prog w=.ok (.string (⟨#[112,111,105,110,116,32]⟩++lab)) w:=by
 have h2:(⟨#[112,111,105,110,116,32]⟩:ByteArray).size=6:=rfl;have h3:6+lab.size<=9223372036854775807:=by omega
 go_simp
theorem Gs{i:Nat}{u:UInt8}(h:(i:Int)=ub u)(hi:i<256)(w:World):(convert 3 5 (.int .i64 i)).run prog w=.ok (.int .u8 (ub u)) w:=by
 have h1:IntKind.u8.wrap (ub u)=ub u:=by
  have h2:=u.toNat_lt;unfold ub;simp[IntKind.wrap,IntKind.bits,IntKind.signed];omega
 rw[h];go_simp
def JP(i:Nat)(c:Bool):List RG.It:=[.x 9 [] (.int .i64 i),.x 10 [(9,0)] (.bool c)]
def Mv(lab s:ByteArray)(i:Nat)(u:UInt8)(T:Bs)(n:Nat)(ok:Bool):List RG.It:=[.c 14 [] rv0,.x 15 [] (.string lab),.x 16 [(15,1)] (.string ((⟨#[112,111,105,110,116,32]⟩:ByteArray)++lab)),.x 17 [] (.string s),.x 18 [] (.int .i64 i),.x 19 [(18,4)] (.int .u8 (ub u)),⟨some 20,[(19,5)],(.s 1 1 1),.make 1⟩,.x 21 [(20,6)] (.string ⟨#[u]⟩),⟨some 22,[(17,3),(21,7)],(.s 2 2 2),.make 2⟩,.c 23 [(16,2),(22,8)] (.string ⟨T⟩),.c 24 [(14,0),(23,9)] (.tuple #[nv n,.bool ok]),.x 13 [(24,10)] (.tuple #[nv n,.bool ok]),.x 25 [(13,11)] (nv n),.x 26 [(13,11)] (.bool ok),.m 6 [] 3,.u [(6,14),(25,12)] 3,.x 7 [(26,13)] (.bool ok)]
def Mt(ok:Bool):List RG.It:=[.x 27 [] (.bool ok),.x 28 [(27,0)] (.bool (!ok))]
def NV(n:Nat)(x y:Fin P)(ok:Bool):List RG.It:=[.x 30 [] (nv n),.c 31 [(30,0)] (.tuple #[rv x y 1,.bool ok]),.x 29 [(31,1)] (.tuple #[rv x y 1,.bool ok]),.x 32 [(29,2)] (rv x y 1),.x 33 [(29,2)] (.bool ok),.m 8 [] 4,.u [(8,5),(32,3)] 4,.x 7 [(33,4)] (.bool ok)]
def NU(ok:Bool):List RG.It:=[.x 34 [] (.bool ok)]
def NW(i:Nat):List RG.It:=[.x 11 [] (.int .i64 i),.x 12 [(11,0)] (.int .i64 ((i+1:Nat):Int)),.x 5 [(12,1)] (.int .i64 ((i+1:Nat):Int))]
def OY(x y:Fin P):List RG.It:=[.c 36 [] (rv x y 1),.u [(36,0)] 0]
theorem tD{lab:ByteArray}{b:List UInt8}{i:Nat}(h:cands P lab b i=[])(hc:cand P lab b i=none):cands P lab b (i+1)=[]:=by rw[dS,h,hc];rfl
theorem LK{lab:ByteArray}{b:List UInt8}{i:Nat}{q:Fin P × Fin P}(hi:i<256)(h:cands P lab b i=[])(hc:cand P lab b i=some q):hpt P lab b=q:=by
 have h1:cands P lab b (i+1)=[q]:=by rw[dS,h,hc];rfl
 obtain⟨r,hr⟩:=vD (P:=P) lab b (i:=i+1) (j:=256) (by omega);unfold hpt;rw[<-hr,h1];rfl
theorem Jh{lab:ByteArray}{b:List UInt8}(h:cands P lab b 256=[]):hpt P lab b=(gX P,gY P):=by
 unfold hpt;rw[h];rfl
theorem Jk(l x:List UInt8)(y:List UInt8):(SP.bV l [x,y]).length=l.length+x.length+y.length+12:=by
 unfold SP.bV;simp[SP.mJ];omega
theorem rS(lab s:ByteArray)(u:UInt8)(hl:lab.size<=4096)(hs:s.size<=4096)(k:Nat)(w:World)(h:w.rangeAt k 0 [.string s,.string ⟨#[u]⟩]/\k<w.heap.size):
 Calls prog 66 #[.string ((⟨#[112,111,105,110,116,32]⟩:ByteArray)++lab),.slice (some ⟨k,0,none⟩) 2 2] w (Ret fun e w'=>Below w.heap.size w w'/\e=.string ⟨SP.jN ((⟨#[112,111,105,110,116,32]⟩:ByteArray)++lab).data.toList [s.data.toList,[u]]⟩):=by
 have hp:((⟨#[112,111,105,110,116,32]⟩:ByteArray)++lab).size=6+lab.size:=ByteArray.size_append;refine(SP.AU ((⟨#[112,111,105,110,116,32]⟩:ByteArray)++lab) (some ⟨k,0,none⟩) 2 [s,⟨#[u]⟩] w (by omega) (Nat.le_of_ble_eq_true rfl) (Or.inr ⟨k,0,rfl,fun j hj=>?_⟩) (fun j hj=>?_) ?_).mono ?_
 ·have hj2:j=0\/j=1:=by simp at hj;omega
  rcases hj2 with rfl|rfl
  ·exact h.1 0 _ rfl
  ·exact h.1 1 _ rfl
 ·have hj2:j=0\/j=1:=by simp at hj;omega
  rcases hj2 with rfl|rfl
  ·show s.size<=_;omega
  ·show 1<=1048576;decide
 ·show(SP.bV ((⟨#[112,111,105,110,116,32]⟩:ByteArray)++lab).data.toList [s.data.toList,[u]]).length<=_;rw[Jk];have e1:((⟨#[112,111,105,110,116,32]⟩:ByteArray)++lab).data.toList.length=6+lab.size:=by rw[Array.length_toList];exact hp
  have e2:s.data.toList.length=s.size:=Array.length_toList;rw[e1,e2];show 6+lab.size+s.size+1+12<=_;omega
 ·rintro e w' ⟨rfl,hb⟩;exact⟨_,rfl,hb,rfl⟩
theorem IJ(C:Fl3 P)(lab s:ByteArray)(hl:lab.size<=4096)(hs0:s.size<=4096):Gives 29 #[.string lab,.string s] (rv (hpt P lab s.data.toList).1 (hpt P lab s.data.toList).2 1):=by
 intro w;go_enter Tryz.func29,Tryz.ntmps29;refine RG.M.enter [(0,.v (.string lab)),(1,.v (.string s))] 37 (by kernel_rfl) ?_;intro a0 M0;repeat refine wp_seq ?_
 refine M0.t [.m 4 [] 0] [(0,(RG.z 12))] [] [(RG.z 12)] [(0,.v (.string lab)),(1,.v (.string s)),(4,.p 0 0)] ⟨RG.mk 0 41,trivial⟩ ?_;intro k4 a1 w1 M1;repeat refine wp_seq ?_
 refine M1.u [.x 5 [] (.int .i64 0)] [(0,.v (.string lab)),(1,.v (.string s)),(4,.p 0 0),(5,.v (.int .i64 0))] ⟨RG.st,trivial⟩ ?_;intro a2 w2 M2;repeat refine wp_seq ?_
 refine wp_block ?_;refine wp_loop_ghost (fun m a wr=>∃i:Nat,i+m=256/\Hid (cands P lab s.data.toList i=[])/\RG.M w w.heap.size [] 37 [(RG.z 12)] [k4] [(0,.v (.string lab)),(1,.v (.string s)),(4,.p 0 0),(5,.v (.int .i64 i))] a wr) 256 ⟨0,rfl,rfl,M2⟩ ?_;intro m' a wr;rintro⟨i,him,hnone,M20⟩;by_cases hi:i<256
 ·obtain⟨u,hu⟩:∃u:UInt8,(i:Int)=ub u:=⟨UInt8.ofNat i,by
   show _=(((UInt8.ofNat i).toNat:Nat):Int);rw[UInt8.toNat_ofNat',Nat.mod_eq_of_lt (by omega)]⟩
  have hu2:UInt8.ofNat i=u:=by
   apply UInt8.toNat_inj.1;rw[UInt8.toNat_ofNat',Nat.mod_eq_of_lt (by omega)];have h:(i:Int)=((u.toNat:Nat):Int):=hu;omega
  obtain⟨T,hT⟩:∃T,Hid (SP.jN ((⟨#[112,111,105,110,116,32]⟩:ByteArray)++lab).data.toList [s.data.toList,[u]]=T):=⟨_,rfl⟩
  have hTs:T.size=32:=by rw[<-hT.out];exact SP.dW _ _
  have hcand:cand P lab s.data.toList i=if beV T.toList<P then(rt (Fin.ofNat P (beV T.toList)*Fin.ofNat P (beV T.toList)*Fin.ofNat P (beV T.toList)+7)).map fun y=>(Fin.ofNat P (beV T.toList),y) else none:=by
   unfold cand;rw[hu2,hT.out]
  have rS:∀(lab' s':ByteArray) (u':UInt8),lab'.size<=4096->s'.size<=4096->∀(k:Nat) (w:World),w.rangeAt k 0 [.string s,.string ⟨#[u]⟩]/\k<w.heap.size->Calls prog 66 #[.string ((⟨#[112,111,105,110,116,32]⟩:ByteArray)++lab),.slice (some ⟨k,0,none⟩) 2 2] w (Ret fun e w'=>Below w.heap.size w w'/\e=.string ⟨T⟩):=fun _ _ _ _ _ k w h=>by
   rw[<-hT.out];exact Go.Proofs.YtgbjainaafdpgaaGreat.rS lab s u hl hs0 k w h
  by_cases hx:beV T.toList<P
  ·obtain⟨x,hxv⟩:∃x:Fin P,Hid (beV T.toList=x.val):=⟨Fin.ofNat P (beV T.toList),(Nat.mod_eq_of_lt hx).symm⟩
   have hfx:Fin.ofNat P (beV T.toList)=x:=Fin.ext (by show beV T.toList%P=_;rw[Nat.mod_eq_of_lt hx];exact hxv.out);rw[if_pos hx,hfx]at hcand;have hnum:=DL C T hTs hxv.out;obtain⟨n,hn⟩:∃n,n=x.val:=⟨_,rfl⟩
   cases hr:rt (x*x*x+7) with
   | none =>
    rw[hr]at hcand;have hat:=IC C x hr;rw[show fv x=nv n by rw[hn]]at hat hnum;repeat refine wp_seq ?_
    refine M20.u (JP i true) [(0,.v (.string lab)),(1,.v (.string s)),(4,.p 0 0),(5,.v (.int .i64 i)),(10,.v (.bool true))] ⟨RG.st,RG.aH rfl .lss 3 3 9 (.int .i64 i) (.int .i64 256) (.bool true) rfl rfl RG.sx (fun w=>by kernel_rfl) (dK (n:=256) hi),trivial⟩ ?_;intro a21 w21 M21;repeat refine wp_seq ?_
    refine wp_cond_true M21.ev ?_;refine wp_skip ?_;refine wp_seq ?_;refine wp_block ?_;repeat refine wp_seq ?_
    refine M21.d (Mv lab s i u T n true) [(6,[.int .u8 (ub u)]),(8,[.string s,.string ⟨#[u]⟩]),(14,RG.z 4)] [(3,15,wn n)] [(RG.z 12),[.int .u8 (ub u)],[.string s,.string ⟨#[u]⟩],wn n] [(0,.v (.string lab)),(1,.v (.string s)),(4,.p 0 0),(5,.v (.int .i64 i)),(6,.p 3 0),(7,.v (.bool true))] ⟨RG.cl bR,RG.st,RG.mW rfl .add 9 9 15 (.string ⟨#[112,111,105,110,116,32]⟩) (.string lab) (.string ((⟨#[112,111,105,110,116,32]⟩:ByteArray)++lab)) rfl rfl RG.sx (fun w=>by kernel_rfl) (Mb lab (by omega)),RG.st,RG.st,RG.fX rfl 3 5 18 (.int .i64 i) (.int .u8 (ub u)) rfl rfl RG.sx (Gs hu hi),RG.lE 1 rfl _ rfl 22 5 19 (.int .u8 (ub u)) rfl rfl RG.sx (bs1 (ub u)),RG.lD rfl 1 6 _ rfl _ rfl rfl (by kernel_rfl) (by kernel_rfl) 22 9 20 1 (.string ⟨#[u]⟩) rfl rfl RG.sx (fun w k h=>str1 u w k h),RG.mk 2 9,RG.cr [2] (fun μ w' _ hs=>rS lab s u hl hs0 (μ 2) w' (hs 2 (List.Mem.head _) _ rfl (List.cons_ne_nil _ _))) fun _ _=>by kernel_rfl,RG.cl hnum,RG.st,RG.st,RG.st,RG.mk 3 37,RG.pt i33,RG.st,trivial⟩ ?_;intro b1 b2 b3 a22 w22 M22;repeat refine wp_seq ?_
    refine M22.u (Mt true) [(0,.v (.string lab)),(1,.v (.string s)),(4,.p 0 0),(5,.v (.int .i64 i)),(6,.p 3 0),(28,.v (.bool (!true)))] ⟨RG.st,RG.st,trivial⟩ ?_;intro a23 w23 M23;repeat refine wp_seq ?_
    refine wp_cond_false M23.ev ?_;refine wp_skip ?_;repeat refine wp_seq ?_
    refine M23.t (NV n x (0:Fin P) false) [(5,RG.z 12)] [(4,6,ws x++(ws (0:Fin P)++ws (1:Fin P)))] [(RG.z 12),[.int .u8 (ub u)],[.string s,.string ⟨#[u]⟩],wn n,ws x++(ws (0:Fin P)++ws (1:Fin P))] [(0,.v (.string lab)),(1,.v (.string s)),(4,.p 0 0),(5,.v (.int .i64 i)),(7,.v (.bool false)),(8,.p 4 0)] ⟨RG.ld u33 i33,RG.cl hat,RG.st,RG.st,RG.st,RG.mk 4 41,RG.pt i56,RG.st,trivial⟩ ?_;intro b4 a24 w24 M24;repeat refine wp_seq ?_
    refine M24.u (NU false) [(0,.v (.string lab)),(1,.v (.string s)),(4,.p 0 0),(5,.v (.int .i64 i)),(8,.p 4 0),(34,.v (.bool false))] ⟨RG.st,trivial⟩ ?_;intro a25 w25 M25;repeat refine wp_seq ?_
    refine wp_cond_false M25.ev ?_;refine wp_skip ?_;repeat refine wp_seq ?_
    refine M25.u (NW i) [(0,.v (.string lab)),(1,.v (.string s)),(4,.p 0 0),(5,.v (.int .i64 ((i+1:Nat):Int)))] ⟨RG.st,RG.aH rfl .add 3 3 11 (.int .i64 i) (.int .i64 1) (.int .i64 ((i+1:Nat):Int)) rfl rfl RG.sx (fun w=>by kernel_rfl) (oR i 1 (by omega) (by omega)),RG.st,trivial⟩ ?_;intro a26 w26 M26;show ∃n',_;exact⟨m'-1,by omega,i+1,by omega,tD hnone.out hcand,RG.M.drop (cs:=[RG.z 12]) (cs2:=[_,_,_,_]) (ks:=[k4]) (ks2:=[_,_,_,_]) M26 rfl rfl⟩
   | some y =>
    rw[hr]at hcand;have hat:=Cr C x y hr;rw[show fv x=nv n by rw[hn]]at hat hnum;have hq:hpt P lab s.data.toList=(x,y):=LK hi hnone.out hcand;rw[hq];repeat refine wp_seq ?_
    refine M20.u (JP i true) [(0,.v (.string lab)),(1,.v (.string s)),(4,.p 0 0),(5,.v (.int .i64 i)),(10,.v (.bool true))] ⟨RG.st,RG.aH rfl .lss 3 3 9 (.int .i64 i) (.int .i64 256) (.bool true) rfl rfl RG.sx (fun w=>by kernel_rfl) (dK (n:=256) hi),trivial⟩ ?_;intro a21 w21 M21;repeat refine wp_seq ?_
    refine wp_cond_true M21.ev ?_;refine wp_skip ?_;refine wp_seq ?_;refine wp_block ?_;repeat refine wp_seq ?_
    refine M21.d (Mv lab s i u T n true) [(6,[.int .u8 (ub u)]),(8,[.string s,.string ⟨#[u]⟩]),(14,RG.z 4)] [(3,15,wn n)] [(RG.z 12),[.int .u8 (ub u)],[.string s,.string ⟨#[u]⟩],wn n] [(0,.v (.string lab)),(1,.v (.string s)),(4,.p 0 0),(5,.v (.int .i64 i)),(6,.p 3 0),(7,.v (.bool true))] ⟨RG.cl bR,RG.st,RG.mW rfl .add 9 9 15 (.string ⟨#[112,111,105,110,116,32]⟩) (.string lab) (.string ((⟨#[112,111,105,110,116,32]⟩:ByteArray)++lab)) rfl rfl RG.sx (fun w=>by kernel_rfl) (Mb lab (by omega)),RG.st,RG.st,RG.fX rfl 3 5 18 (.int .i64 i) (.int .u8 (ub u)) rfl rfl RG.sx (Gs hu hi),RG.lE 1 rfl _ rfl 22 5 19 (.int .u8 (ub u)) rfl rfl RG.sx (bs1 (ub u)),RG.lD rfl 1 6 _ rfl _ rfl rfl (by kernel_rfl) (by kernel_rfl) 22 9 20 1 (.string ⟨#[u]⟩) rfl rfl RG.sx (fun w k h=>str1 u w k h),RG.mk 2 9,RG.cr [2] (fun μ w' _ hs=>rS lab s u hl hs0 (μ 2) w' (hs 2 (List.Mem.head _) _ rfl (List.cons_ne_nil _ _))) fun _ _=>by kernel_rfl,RG.cl hnum,RG.st,RG.st,RG.st,RG.mk 3 37,RG.pt i33,RG.st,trivial⟩ ?_;intro b1 b2 b3 a22 w22 M22;repeat refine wp_seq ?_
    refine M22.u (Mt true) [(0,.v (.string lab)),(1,.v (.string s)),(4,.p 0 0),(5,.v (.int .i64 i)),(6,.p 3 0),(28,.v (.bool (!true)))] ⟨RG.st,RG.st,trivial⟩ ?_;intro a23 w23 M23;repeat refine wp_seq ?_
    refine wp_cond_false M23.ev ?_;refine wp_skip ?_;repeat refine wp_seq ?_
    refine M23.t (NV n x y true) [(5,RG.z 12)] [(4,6,ws x++(ws y++ws (1:Fin P)))] [(RG.z 12),[.int .u8 (ub u)],[.string s,.string ⟨#[u]⟩],wn n,ws x++(ws y++ws (1:Fin P))] [(0,.v (.string lab)),(1,.v (.string s)),(4,.p 0 0),(5,.v (.int .i64 i)),(7,.v (.bool true)),(8,.p 4 0)] ⟨RG.ld u33 i33,RG.cl hat,RG.st,RG.st,RG.st,RG.mk 4 41,RG.pt i56,RG.st,trivial⟩ ?_;intro b4 a24 w24 M24;repeat refine wp_seq ?_
    refine M24.u (NU true) [(0,.v (.string lab)),(1,.v (.string s)),(4,.p 0 0),(5,.v (.int .i64 i)),(8,.p 4 0),(34,.v (.bool true))] ⟨RG.st,trivial⟩ ?_;intro a25 w25 M25;repeat refine wp_seq ?_
    refine wp_cond_true M25.ev ?_;repeat refine wp_seq ?_
    refine M25.t [.x 35 [] (rv x y 1),.u [(35,0)] 0] [] [(0,1,ws x++(ws y++ws (1:Fin P)))] [ws x++(ws y++ws (1:Fin P)),[.int .u8 (ub u)],[.string s,.string ⟨#[u]⟩],wn n,ws x++(ws y++ws (1:Fin P))] [(4,.p 0 0)] ⟨RG.ld u56 i56,RG.pt i56,trivial⟩ ?_;intro a26 w26 M26;refine wp_ret ?_;refine bodyPost_ret (v:=rv x y 1) (RG.aD M26.st 4 41 rfl 0 _ rfl (M26.at (s:=(.p 0 0))) u56 i56) M26.sl.defers ?_;exact⟨_,rfl,M26.st.bel.below,rfl⟩
  ·rw[if_neg hx]at hcand;have hnum:=DN C T hTs hx;obtain⟨n,hn⟩:∃n,n=beV T.toList:=⟨_,rfl⟩
   rw[<-hn]at hnum;repeat refine wp_seq ?_
   refine M20.u (JP i true) [(0,.v (.string lab)),(1,.v (.string s)),(4,.p 0 0),(5,.v (.int .i64 i)),(10,.v (.bool true))] ⟨RG.st,RG.aH rfl .lss 3 3 9 (.int .i64 i) (.int .i64 256) (.bool true) rfl rfl RG.sx (fun w=>by kernel_rfl) (dK (n:=256) hi),trivial⟩ ?_;intro a21 w21 M21;repeat refine wp_seq ?_
   refine wp_cond_true M21.ev ?_;refine wp_skip ?_;refine wp_seq ?_;refine wp_block ?_;repeat refine wp_seq ?_
   refine M21.d (Mv lab s i u T n false) [(6,[.int .u8 (ub u)]),(8,[.string s,.string ⟨#[u]⟩]),(14,RG.z 4)] [(3,15,wn n)] [(RG.z 12),[.int .u8 (ub u)],[.string s,.string ⟨#[u]⟩],wn n] [(0,.v (.string lab)),(1,.v (.string s)),(4,.p 0 0),(5,.v (.int .i64 i)),(6,.p 3 0),(7,.v (.bool false))] ⟨RG.cl bR,RG.st,RG.mW rfl .add 9 9 15 (.string ⟨#[112,111,105,110,116,32]⟩) (.string lab) (.string ((⟨#[112,111,105,110,116,32]⟩:ByteArray)++lab)) rfl rfl RG.sx (fun w=>by kernel_rfl) (Mb lab (by omega)),RG.st,RG.st,RG.fX rfl 3 5 18 (.int .i64 i) (.int .u8 (ub u)) rfl rfl RG.sx (Gs hu hi),RG.lE 1 rfl _ rfl 22 5 19 (.int .u8 (ub u)) rfl rfl RG.sx (bs1 (ub u)),RG.lD rfl 1 6 _ rfl _ rfl rfl (by kernel_rfl) (by kernel_rfl) 22 9 20 1 (.string ⟨#[u]⟩) rfl rfl RG.sx (fun w k h=>str1 u w k h),RG.mk 2 9,RG.cr [2] (fun μ w' _ hs=>rS lab s u hl hs0 (μ 2) w' (hs 2 (List.Mem.head _) _ rfl (List.cons_ne_nil _ _))) fun _ _=>by kernel_rfl,RG.cl hnum,RG.st,RG.st,RG.st,RG.mk 3 37,RG.pt i33,RG.st,trivial⟩ ?_;intro b1 b2 b3 a22 w22 M22;repeat refine wp_seq ?_
   refine M22.u (Mt false) [(0,.v (.string lab)),(1,.v (.string s)),(4,.p 0 0),(5,.v (.int .i64 i)),(6,.p 3 0),(28,.v (.bool (!false)))] ⟨RG.st,RG.st,trivial⟩ ?_;intro a23 w23 M23;repeat refine wp_seq ?_
   refine wp_cond_true M23.ev ?_;refine wp_exit ?_;dsimp only[Exit.then,Exit.inBlock];rw[if_pos rfl];repeat refine wp_seq ?_
   refine M23.u (NW i) [(0,.v (.string lab)),(1,.v (.string s)),(4,.p 0 0),(5,.v (.int .i64 ((i+1:Nat):Int)))] ⟨RG.st,RG.aH rfl .add 3 3 11 (.int .i64 i) (.int .i64 1) (.int .i64 ((i+1:Nat):Int)) rfl rfl RG.sx (fun w=>by kernel_rfl) (oR i 1 (by omega) (by omega)),RG.st,trivial⟩ ?_;intro a26 w26 M26;show ∃n',_;exact⟨m'-1,by omega,i+1,by omega,tD hnone.out hcand,RG.M.drop (cs:=[RG.z 12]) (cs2:=[_,_,_]) (ks:=[k4]) (ks2:=[_,_,_]) M26 rfl rfl⟩
 ·have he:i=256:=by omega
  have hq:hpt P lab s.data.toList=(gX P,gY P):=Jh (by have h:=hnone.out;rw[he]at h;exact h);rw[hq];have hG:Gives 38 #[] (rv (gX P) (gY P) 1):=MV C;repeat refine wp_seq ?_
  refine M20.u (JP i false) [(0,.v (.string lab)),(1,.v (.string s)),(4,.p 0 0),(5,.v (.int .i64 i)),(10,.v (.bool false))] ⟨RG.st,RG.aH rfl .lss 3 3 9 (.int .i64 i) (.int .i64 256) (.bool false) rfl rfl RG.sx (fun w=>by kernel_rfl) (jW (n:=256) hi),trivial⟩ ?_;intro a21 w21 M21;repeat refine wp_seq ?_
  refine wp_cond_false M21.ev ?_;refine wp_exit ?_;dsimp only[Exit.then,Exit.inBlock];rw[if_pos rfl];repeat refine wp_seq ?_
  refine M21.t (OY (gX P) (gY P)) [] [(0,1,ws (gX P)++(ws (gY P)++ws (1:Fin P)))] [ws (gX P)++(ws (gY P)++ws (1:Fin P))] [(4,.p 0 0)] ⟨RG.cl hG,RG.pt i56,trivial⟩ ?_;intro a22 w22 M22;refine wp_ret ?_;refine bodyPost_ret (v:=rv (gX P) (gY P) 1) (RG.aD M22.st 4 41 rfl 0 _ rfl (M22.at (s:=(.p 0 0))) u56 i56) M22.sl.defers ?_;exact⟨_,rfl,M22.st.bel.below,rfl⟩
end
section
open Go.RowKit Go.Sort Go.Deep
variable {P:Nat}[NeZero P]{N:Nat}
end
end Go.Proofs.YtgbjainaafdpgaaGreat
