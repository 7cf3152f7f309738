import Derived.Deep.LoopGhost
import Derived.Deep.AppendSrc
import Derived.Lib.ConvBytes
import Derived.OwnWalk
import Derived.Lib.SlBytesConst
import Derived.Laws.AppendOwn
import Derived.Lib.AppendZeros
import Derived.Deep.MidRow
import Derived.BigQuiet
import Derived.BigRegion
import Derived.Deep.RegionLaw
import Derived.Test.YtfcnimopdjjhcaaGreatsb7
set_option linter.unusedVariables false
set_option linter.constructorNameAsVariable false
set_option linter.unusedSimpArgs false
set_option maxRecDepth 1000000
set_option maxHeartbeats 4000000
namespace Go.Proofs.YtfcnimopdjjhcaaGreat
open _root_.Array renaming ext->Vf,getD_eq_getD_getElem?->PZ,getElem?_eq_some_iff->Qg,getElem_append_left->TU,getElem_append_right->Vs,getElem_extract->Tu,length_toList->P8,mapM_eq_mapM_toList->SY,replicate->PX,size_append->QF,size_extract->QQ,size_replicate->P7,toArray_toList->Sz
open _root_.Bool renaming and_eq_true->P3,and_false->Vy,false_and->Vx,true_and->VE
open _root_.ByteArray renaming data_extract->UL
open _root_.Fin renaming ext->Ud,ofNat->SA,val->Wp
open _root_.Go.Act renaming put->QR
open _root_.Go.Builtin renaming growBy->XR,nextslicecap->Ui
open _root_.Go.Exit renaming inBlock->So
open _root_.Go.Instr renaming indexAt->QV,sliceAt->Re
open _root_.Go.Lib renaming bytesCells->S8,bytesWorld->Ua,bytesWorld_size->UY
open _root_.Go.Question renaming cut->Wn
open _root_.Go.RowKit.Below renaming refl->Qd
open _root_.Go.Sem renaming run_bind->Qi
open _root_.Go.Value renaming agg->QD,bool->Vv
open _root_.Go.World renaming cell?->RU,cell?_alloc_new->Qj,freeze->Up,frozen?->Ti,size_alloc->Qa
open _root_.List renaming drop->WM,getElem?_eq_getElem->P6,getElem?_eq_none->RY,getElem?_eq_some_iff->Qe,getElem?_map->QX,getElem?_range->TO,length_append->PY,length_map->Qb,length_singleton->Rq,mapM_cons->UJ,mapM_nil->UT,mem_append->Rv,mem_append_left->UI,mem_append_right->UD,mem_cons->QU,mem_map->QZ,mem_range->Rh,mem_singleton->Rj,not_mem_nil->P4,range->QJ,setIfInBounds_toArray->Qm,set_cons_succ->QH,set_cons_zero->QM,size_toArray->QB,take->WI
open _root_.List.Mem renaming head->Wx
open _root_.Nat renaming add_assoc->RO,add_mul->SK,add_zero->RD,div_eq_of_lt->Tq,le_of_ble_eq_true->RQ,le_refl->PQ,le_trans->Qn,lt_irrefl->U1,lt_of_lt_of_le->PS,lt_of_succ_le->SI,mod_eq_of_lt->Qf,mod_lt->RN,mul_add_div->Xe,mul_assoc->RH,mul_comm->Qr,ne_of_lt->Rf,pow_succ->Rk,pow_zero->SX,reduceAdd->SE,two_mul->XF,zero_add->PU
open _root_.Option renaming isSome_iff_exists->Qx,map_eq_some_iff->PV,map_some->Ty,some->Qh
open _root_.Or renaming inl->Ql,inr->Qc
open _root_.Prod renaming mk->Rz
open _root_.UInt8 renaming toNat_inj->Vb
open Go.Proofs.Tryz (prog)
section
open Go.RowKit Go.Sort Go.Deep
variable {P:Nat}[NeZero P]{N:Nat}
theorem u22:(prog.underlying 28).map (·.isRow)=some false:=by kernel_rfl
theorem Od(k o n c i:Nat)(hi:i<n)(w:World):(QV 23 (.slice (some ⟨k,o,none⟩) n c) (.int .i64 i)).run prog w=.ok (.pointer (some ⟨k,o+i,none⟩)) w:=by
 have h1:¬(i:Int)<0:=by omega
 have h2:(i:Int)<n:=by omega
 go_simp
theorem PC(k o n c i:Nat)(hi:i<n)(w:World):(QV 63 (.slice (some ⟨k,o,none⟩) n c) (.int .i64 i)).run prog w=.ok (.pointer (some ⟨k,o+4*i,none⟩)) w:=by
 have h1:¬(i:Int)<0:=by omega
 have h2:(i:Int)<n:=by omega
 go_simp
theorem O6(N:Nat)(hN:N<=512):∃C0:List Value,C0.length=4*N/\∀w:World,(Instr.makeSlice 63 (.int .i64 N) (.int .i64 N)).run prog w=.ok (.slice (some ⟨w.heap.size,0,none⟩) N N) (w.alloc (.cells C0.toArray 46)):=by
 have hu:prog.underlying 63=some (.slice 46):=by kernel_rfl
 have hi:(prog.info? 46).map (fun i=>(i.size,decide (i.bytes<=4000),i.zero.isSome))=some (4,true,true):=by kernel_rfl
 obtain⟨i,hi1,hi2⟩:=PV.1 hi;simp only[Rz.injEq,decide_eq_true_eq]at hi2;obtain⟨h1,h2,h3⟩:=hi2;obtain⟨z,hz⟩:=Qx.1 h3;refine⟨(madeCells z.cells (N*4)).toList,by rw[P8,size_madeCells,Qr],fun w=>?_⟩;have hb:(i.bytes:Int)*(N:Int)<=281474976710656:=by
  have:i.bytes*N<=4000*512:=Nat.mul_le_mul h2 hN;have h5:((i.bytes*N:Nat):Int)<=281474976710656:=by omega
  rwa[Int.natCast_mul]at h5
 have:=run_make (P:=prog) w 63 46 i z hu hi1 hz .i64 .i64 (N:Int) (N:Int) (by omega) (by omega) hb (by omega);rw[Int.toNat_natCast,h1]at this;rw[Sz];exact this
def PN(N:Nat)(w:World)(n:Nat)(L:Nat->Bs)(e:Value)(w':World):Prop:=
 ((∃j,j<n/\rq N (L j)=none)/\Below w.heap.size w w'/\e=.tuple #[.slice none 0 0,.bool false]) \/
 ((∀j,j<n->(rq N (L j)).isSome=true)/\∃k C,RG.Made w k C w'/\Rows 4 n (fun j=>wn ((rq N (L j)).getD 0)) n C/\e=.tuple #[.slice (some ⟨k,0,none⟩) n n,.bool true])
theorem Kc(O:Ord N)(n cap:Nat)(hn:n<=512)(q:Option Addr)(L:Nat->Bs)(w:World)(hA:Args w q n L):Calls prog 100 #[(.func (.func 44) #[] #[]),.slice q n cap] w (Ret fun e w'=>PN N w n L e w'):=by
 obtain⟨C,hCl,hmk⟩:=O6 n hn;go_enter Tryz.func100,Tryz.ntmps100;refine RG.M.enter [(0,.v (.func (.func 44) #[] #[])),(1,.v (.slice q n cap))] 35 (by kernel_rfl) ?_;intro a0 M0;repeat refine wp_seq ?_
 refine M0.u [.x 4 [] (.slice none 0 0),.x 5 [] (.bool false)] [(0,(.v (.func (.func 44) #[] #[]))),(1,(.v (.slice q n cap)))] ⟨RG.st,RG.st,trivial⟩ ?_;intro a1 w1 M1;repeat refine wp_seq ?_
 refine M1.t [.x 11 [] (.slice q n cap),.x 12 [(11,0)] (.int .i64 n),⟨some 13,[(12,1)],(.s 0 n n),.make 0⟩,.s 6 [(13,2)] (.s 0 n n)] [(2,C)] [] [C] [(0,(.v (.func (.func 44) #[] #[]))),(1,(.v (.slice q n cap))),(6,(.s 0 n n))] ⟨RG.st,RG.st,RG.gC 0 rfl _ rfl 63 46 12 12 n rfl rfl RG.sx RG.sx (hmk),RG.st,trivial⟩ ?_;intro j2 a2 w2 M2;repeat refine wp_seq ?_
 refine M2.u [.x 14 [] (.slice q n cap),.x 15 [(14,0)] (.int .i64 n),.x 16 [] (.int .i64 0)] [(0,(.v (.func (.func 44) #[] #[]))),(6,(.s 0 n n)),(14,(.v (.slice q n cap))),(15,(.v (.int .i64 n))),(16,(.v (.int .i64 0)))] ⟨RG.st,RG.st,RG.st,trivial⟩ ?_;intro a3 w3 M3;repeat refine wp_seq ?_
 refine wp_block ?_;refine wp_loop_ghost (fun m a wr=>∃(i:Nat) (C:List Value) (kt:Nat),i+m=n/\(∀j,j<i->(rq N (L j)).isSome=true)/\Rows 4 n (fun j=>wn ((rq N (L j)).getD 0)) i C/\RG.M w w.heap.size [] 35 [C] [kt] [(0,.v (.func (.func 44) #[] #[])),(6,.s 0 n n),(14,.v (.slice q n cap)),(15,.v (.int .i64 n)),(16,.v (.int .i64 i))] a wr) n ⟨0,C,_,by omega,fun j hj=>by omega,⟨hCl,fun j r hj=>by omega⟩,M3⟩ ?_;clear hmk;intro m' a wr;rintro⟨i,C,kt,him,hall,hR,M20⟩;by_cases hi:i<n
 ·obtain⟨gg,hqe,hgg,hc⟩:=hA (by omega);subst hqe;obtain⟨v,hv,harg⟩:=hc i hi;have hcell:w.cell? ⟨gg,0+i,none⟩=some v:=by rw[PU];exact hv
  have hrd0:=fun w' (hb:RG.BelX w.heap.size [] w w')=>Ct O v (L i) w' (harg.below hb.below)
  obtain⟨m,hm⟩:∃m,m=(rq N (L i)).getD 0:=⟨_,rfl⟩
  cases hok:(rq N (L i)).isSome with
  | true =>
   have hrd:∀w',RG.BelX w.heap.size [] w w'->Calls prog 44 #[v] w' (Ret fun e w''=>Below w'.heap.size w' w''/\e=.tuple #[nv m,.bool true]):=fun w' hb=>by
    have h:=hrd0 w' hb;rw[hok,<-hm]at h;exact h
   have hlen:=hR.len;have hoff:0+4*i+(wn m).length<=C.length:=by rw[hlen];show 0+4*i+4<=4*n;omega
   obtain⟨C2,hC2e⟩:∃c,RG.rep C (0+4*i) (wn m)=c:=⟨_,rfl⟩
   have hC2:=hC2e ▸ RG.rep_at hoff;have hcl:C2.length=C.length:=hC2e ▸ RG.bV hoff;have hR2:Rows 4 n (fun j=>wn ((rq N (L j)).getD 0)) (i+1) C2:=by
    have:=hR.next hi rfl;rw[<-hC2e,hm];exact this
   repeat refine wp_seq ?_
   refine M20.u [.x 17 [] (.bool true)] [(0,(.v (.func (.func 44) #[] #[]))),(6,(.s 0 n n)),(14,(.v (.slice (some ⟨gg,0,none⟩) n cap))),(15,(.v (.int .i64 n))),(16,(.v (.int .i64 i))),(17,(.v (.bool true)))] ⟨RG.aG rfl .lss 3 3 16 15 (.int .i64 i) (.int .i64 n) (.bool true) rfl rfl RG.sx RG.sx (fun w=>by kernel_rfl) (dE hi),trivial⟩ ?_;intro a21 w21 M21;repeat refine wp_seq ?_
   refine wp_cond_true M21.ev ?_;refine wp_skip ?_;refine wp_seq ?_;refine wp_block ?_;repeat refine wp_seq ?_
   refine M21.u [.x 18 [] (.int .i64 i),.x 19 [] (.pointer (some ⟨gg,(0+i),none⟩)),.x 20 [(19,1)] v,.x 7 [(18,0)] (.int .i64 i),.x 8 [(20,2)] v] [(0,(.v (.func (.func 44) #[] #[]))),(6,(.s 0 n n)),(7,(.v (.int .i64 i))),(8,(.v v)),(14,(.v (.slice (some ⟨gg,0,none⟩) n cap))),(15,(.v (.int .i64 n))),(16,(.v (.int .i64 i)))] ⟨RG.st,RG.aK rfl 23 14 16 rfl (.v (.slice (some ⟨gg,0,none⟩) n cap)) (.int .i64 i) RG.sx RG.sx (fun μ w=>Od _ 0 _ _ i hi w),RG.aJ rfl gg (0+i) hgg P4 28 19 rfl v rfl RG.sx hcell u22,RG.st,RG.st,trivial⟩ ?_;intro a22 w22 M22;repeat refine wp_seq ?_
   refine M22.t [.x 22 [] (.func (.func 44) #[] #[]),.x 23 [] v,.c 24 [(22,0),(23,1)] (.tuple #[(nv m),(.bool true)]),.x 21 [(24,2)] (.tuple #[(nv m),(.bool true)]),.x 25 [(21,3)] (nv m),.x 26 [(21,3)] (.bool true),.m 9 [] 1,.u [(9,6),(25,4)] 1,.x 10 [(26,5)] (.bool true)] [(6,(RG.z 4))] [(1,7,(wn m))] [C,(wn m)] [(0,(.v (.func (.func 44) #[] #[]))),(6,(.s 0 n n)),(7,(.v (.int .i64 i))),(9,(.p 1 0)),(10,(.v (.bool true))),(14,(.v (.slice (some ⟨gg,0,none⟩) n cap))),(15,(.v (.int .i64 n))),(16,(.v (.int .i64 i)))] ⟨RG.st,RG.st,RG.clB (fun _ _=>by kernel_rfl) hrd,RG.st,RG.st,RG.st,RG.mk 1 46,RG.pt i40,RG.st,trivial⟩ ?_;intro j23 a23 w23 M23;repeat refine wp_seq ?_
   refine M23.u [.x 27 [] (.bool true),.x 28 [(27,0)] (.bool false)] [(0,(.v (.func (.func 44) #[] #[]))),(6,(.s 0 n n)),(7,(.v (.int .i64 i))),(9,(.p 1 0)),(14,(.v (.slice (some ⟨gg,0,none⟩) n cap))),(15,(.v (.int .i64 n))),(16,(.v (.int .i64 i))),(28,(.v (.bool false)))] ⟨RG.st,RG.st,trivial⟩ ?_;intro a24 w24 M24;repeat refine wp_seq ?_
   refine wp_cond_false M24.ev ?_;refine wp_skip ?_;repeat refine wp_seq ?_
   refine M24.tx [.s 29 [] (.s 0 n n),.x 30 [] (.int .i64 i),.x 31 [] (nv m),.s 32 [(29,0),(30,1)] (.p 0 (0+4*i)),.u [(32,3),(31,2)] 0] [] [(0,4,C2)] [C2,(wn m)] [(0,(.v (.func (.func 44) #[] #[]))),(6,(.s 0 n n)),(14,(.v (.slice (some ⟨gg,0,none⟩) n cap))),(15,(.v (.int .i64 n))),(16,(.v (.int .i64 i)))] (by kernel_rfl) (congrArg (fun n=>[n]) hcl) ⟨RG.st,RG.st,RG.ld u40 i40,RG.aK rfl 63 29 30 rfl (.s 0 n n) (.int .i64 i) RG.sx RG.sx (fun μ w=>PC _ 0 _ _ i hi w),RG.cU 0 (0+4*i) rfl _ rfl 46 (.tmp 32) (.tmp 31) (wn m) rfl rfl RG.sx RG.sx hoff hC2 i40 rfl,trivial⟩ ?_;intro a25 w25 M25;repeat refine wp_seq ?_
   refine M25.u [.x 33 [] (.int .i64 ((i+1:Nat):Int)),.x 16 [(33,0)] (.int .i64 ((i+1:Nat):Int))] [(0,(.v (.func (.func 44) #[] #[]))),(6,(.s 0 n n)),(14,(.v (.slice (some ⟨gg,0,none⟩) n cap))),(15,(.v (.int .i64 n))),(16,(.v (.int .i64 ((i+1:Nat):Int))))] ⟨RG.aI rfl .add 3 3 16 (.int .i64 i) (.int .i64 1) (.int .i64 ((i+1:Nat):Int)) rfl rfl RG.sx (fun w=>by kernel_rfl) (mH i 1 (by omega) (by omega)),RG.st,trivial⟩ ?_;intro a26 w26 M26;show ∃n',_;exact⟨m'-1,by omega,i+1,C2,kt,by omega,fun j hj=>(by
    by_cases hji:j=i
    ·rw[hji];exact hok
    ·exact hall j (by omega)),hR2,RG.M.drop (cs:=[C2]) (cs2:=[_]) (ks:=[kt]) (ks2:=[_]) M26 rfl rfl⟩
  | false =>
   have hrd:∀w',RG.BelX w.heap.size [] w w'->Calls prog 44 #[v] w' (Ret fun e w''=>Below w'.heap.size w' w''/\e=.tuple #[nv m,.bool false]):=fun w' hb=>by
    have h:=hrd0 w' hb;rw[hok,<-hm]at h;exact h
   repeat refine wp_seq ?_
   refine M20.u [.x 17 [] (.bool true)] [(0,(.v (.func (.func 44) #[] #[]))),(14,(.v (.slice (some ⟨gg,0,none⟩) n cap))),(16,(.v (.int .i64 i))),(17,(.v (.bool true)))] ⟨RG.aG rfl .lss 3 3 16 15 (.int .i64 i) (.int .i64 n) (.bool true) rfl rfl RG.sx RG.sx (fun w=>by kernel_rfl) (dE hi),trivial⟩ ?_;intro a21 w21 M21;repeat refine wp_seq ?_
   refine wp_cond_true M21.ev ?_;refine wp_skip ?_;refine wp_seq ?_;refine wp_block ?_;repeat refine wp_seq ?_
   refine M21.u [.x 18 [] (.int .i64 i),.x 19 [] (.pointer (some ⟨gg,(0+i),none⟩)),.x 20 [(19,1)] v,.x 7 [(18,0)] (.int .i64 i),.x 8 [(20,2)] v] [(0,(.v (.func (.func 44) #[] #[]))),(8,(.v v))] ⟨RG.st,RG.aK rfl 23 14 16 rfl (.v (.slice (some ⟨gg,0,none⟩) n cap)) (.int .i64 i) RG.sx RG.sx (fun μ w=>Od _ 0 _ _ i hi w),RG.aJ rfl gg (0+i) hgg P4 28 19 rfl v rfl RG.sx hcell u22,RG.st,RG.st,trivial⟩ ?_;intro a22 w22 M22;repeat refine wp_seq ?_
   refine M22.t [.x 22 [] (.func (.func 44) #[] #[]),.x 23 [] v,.c 24 [(22,0),(23,1)] (.tuple #[(nv m),(.bool false)]),.x 21 [(24,2)] (.tuple #[(nv m),(.bool false)]),.x 25 [(21,3)] (nv m),.x 26 [(21,3)] (.bool false),.m 9 [] 1,.u [(9,6),(25,4)] 1,.x 10 [(26,5)] (.bool false)] [(6,(RG.z 4))] [(1,7,(wn m))] [C,(wn m)] [(10,(.v (.bool false)))] ⟨RG.st,RG.st,RG.clB (fun _ _=>by kernel_rfl) hrd,RG.st,RG.st,RG.st,RG.mk 1 46,RG.pt i40,RG.st,trivial⟩ ?_;intro j23 a23 w23 M23;repeat refine wp_seq ?_
   refine M23.u [.x 27 [] (.bool false),.x 28 [(27,0)] (.bool true)] [(28,(.v (.bool true)))] ⟨RG.st,RG.st,trivial⟩ ?_;intro a24 w24 M24;repeat refine wp_seq ?_
   refine wp_cond_true M24.ev ?_;repeat refine wp_seq ?_
   refine M24.u [.x 4 [] (.slice none 0 0),.x 5 [] (.bool false)] [(4,(.v (.slice none 0 0))),(5,(.v (.bool false)))] ⟨RG.st,RG.st,trivial⟩ ?_;intro a25 w25 M25;refine wp_ret ?_;refine bodyPost_ret (v:=.tuple #[.slice none 0 0,.bool false]) (RG.bH 4 5 rfl (.slice none 0 0) (.bool false) M25.av M25.av) M25.sl.defers ?_;exact⟨_,rfl,Ql ⟨⟨i,hi,by simpa using hok⟩,M25.st.bel.below,rfl⟩⟩
 ·have hiN:i=n:=by omega
  rw[hiN]at hall hR;repeat refine wp_seq ?_
  refine M20.u [.x 17 [] (.bool false)] [(6,(.s 0 n n)),(17,(.v (.bool false)))] ⟨RG.aG rfl .lss 3 3 16 15 (.int .i64 i) (.int .i64 n) (.bool false) rfl rfl RG.sx RG.sx (fun w=>by kernel_rfl) (fY hi),trivial⟩ ?_;intro a21 w21 M21;repeat refine wp_seq ?_
  refine wp_cond_false M21.ev ?_;refine wp_exit ?_;dsimp only[Exit.then,So];rw[if_pos rfl];repeat refine wp_seq ?_
  refine M21.u [.s 34 [] (.s 0 n n),.s 4 [(34,0)] (.s 0 n n),.x 5 [] (.bool true)] [(4,(.s 0 n n)),(5,(.v (.bool true)))] ⟨RG.st,RG.st,RG.st,trivial⟩ ?_;intro a22 w22 M22;refine wp_ret ?_;refine bodyPost_ret (v:=_) (RG.bH 4 5 rfl _ (.bool true) (M22.at (s:=.s 0 n n)) M22.av) M22.sl.defers ?_;exact⟨_,rfl,Qc ⟨hall,_,C,M22.st.made (b:=0) rfl,hR,rfl⟩⟩
end
section
open Go.RowKit Go.Sort Go.Deep
variable {P:Nat}[NeZero P]{N:Nat}
section
variable (w:World) (k6 k8 k9 k10 x kk c z B0:Nat) (X A B F G:Bs)
end
end
section
open Go.RowKit Go.Sort Go.Deep
variable {P:Nat}[NeZero P]{N:Nat}
end
section
open Go.RowKit Go.Sort Go.Deep
variable {P:Nat}[NeZero P]{N:Nat}
section
variable (w:World) (n K k3 k7 i s m:Nat) (p:Bs) (l:List (Nat × Bs))
end
end
section
open Go.RowKit Go.Sort Go.Deep
variable {P:Nat}[NeZero P]{N:Nat}
def Cw(W:World)(q:Option Addr)(n cap:Nat)(T:Bs):Prop:=(q=none/\n=0/\cap=0/\T=#[])\/∃g,q=some ⟨g,0,none⟩/\T.size=n/\g<W.heap.size/\Holds encB W g 0 T/\n<=cap
end
section
open Go.RowKit Go.Sort Go.Deep
variable {P:Nat}[NeZero P]{N:Nat}
section
variable (w:World) (k6 k8 n:Nat) (Y A T:Bs)
end
end
section
open Go.RowKit Go.Sort Go.Deep
variable {P:Nat}[NeZero P]{N:Nat}
theorem Ka{W:World}{g c:Nat}{X:EC.Pt P}(h:33<=c/\g<W.heap.size/\EC.On X/\Holds encB W g 0 (wr X)):Arg33 W (.slice (some ⟨g,0,none⟩) 33 c) (wr X):=
 ⟨_,_,_,rfl,aX _,fun _=>⟨g,0,rfl,h.1,h.2.1,h.2.2.2⟩⟩
theorem nR(x:UInt8)(r:List UInt8):beV (x :: r)=x.toNat*256^r.length+beV r:=by
 have h:=cX [x] r;rw[show [x]++r=x :: r from rfl]at h;rw[h];simp[beV]
end
section
open Go.RowKit Go.Sort Go.Deep
theorem Dx:∀(l r:List UInt8),l.length=r.length->beV l=beV r->l=r
 | [],[],_,_=>rfl
 | x :: l,y :: r,hl,h=>by
  have h1:l.length=r.length:=Nat.succ.inj hl;rw[nR,nR,h1]at h;have b1:=xB l;have b2:=xB r;rw[h1]at b1;have hp:0<256^r.length:=Nat.pow_pos (by decide);have e1:(x.toNat*256^r.length+beV l)/256^r.length=x.toNat:=by
   rw[Qr,Xe hp,Tq b1,RD]
  have e2:(y.toNat*256^r.length+beV r)/256^r.length=y.toNat:=by
   rw[Qr,Xe hp,Tq b2,RD]
  have e3:x.toNat=y.toNat:=by rw[<-e1,<-e2,h]
  have e4:x=y:=Vb.1 e3;subst e4;rw[Dx l r h1 (by omega)]
theorem N9{b:Bs}(hs:b.size=32){n:Nat}(hn:n<top)(h:beV b.toList=n):bx n=b:=by
 have:=Dx (bx n).toList b.toList (by rw[P8,P8,cN,hs]) (by rw[wX hn,h]);exact Array.toList_inj.1 this
variable {P:Nat}[NeZero P]
theorem Lv(C:Fld P){m y:Fin P}(h:rt m=some y):y.val%2=0:=by
 have h2:=FG C (Cv h);rw[h]at h2;have e:=Qh.inj h2;by_cases ho:y.val%2=1
 ·rw[if_pos ho]at e;have e3:=congrArg Wp e;have h0:(0-y:Fin P).val=(P-y.val)%P:=by rw[<-iZ,EC.val_zero,PU]
  rw[h0]at e3;have h3:=C.p3;have hy:=y.isLt;rw[Qf (by omega)]at e3;omega
 ·omega
theorem KH{b:Bs}(hs:b.size=33):b=#[b[0]!]++dT b:=by
 unfold dT;apply Vf
 ·rw[QF,QQ,hs];rfl
 ·intro i h1 h2;by_cases hi:i=0
  ·subst hi;rw[TU (by simp),getElem!_pos b 0 (by omega)];rfl
  ·rw[Vs (by simp;omega),Tu]
   congr 1
   simp;omega
theorem Li{x:UInt8}(h:ub x=2):x=2:=by
 apply Vb.1;have:(x.toNat:Int)=2:=h;show x.toNat=2;omega
theorem Fh{x:UInt8}(h:ub x=3):x=3:=by
 apply Vb.1;have:(x.toNat:Int)=3:=h;show x.toNat=3;omega
theorem E8(C:Fld P){b:Bs}{p:Fin P × Fin P}(h:rd P b=some p):wr (pt p)=b:=by
 have hon:=CE C h;unfold rd at h;split at h
 ·rename_i hs
  split at h
  ·rename_i hz
   obtain rfl:=Qh.inj h;unfold pt;rw[if_pos ⟨rfl,rfl⟩];exact((iU hs).1 hz).symm
  ·split at h
   ·rename_i hm
    split at h
    ·rename_i hx
     obtain⟨y,hr,rfl⟩:=PV.1 h;have hsq:=Cv hr;have hpar:=Lv C hr;have hy0:y≠0:=C.cur.y_ne (yR hsq);have hyv:y.val≠0:=fun e=>hy0 (Ud (by rw[EC.val_zero];exact e))
     have hxv:(rdx P b).val=beV (dT b).toList:=Qf hx;have hbx:bx (rdx P b).val=dT b:=N9 (eF hs) (C.top _) hxv.symm;have h3:=C.p3;have hyl:=y.isLt;have h0:(0-y:Fin P).val=P-y.val:=by rw[<-iZ,EC.val_zero,PU,Qf (by omega)]
     by_cases h3':ub b[0]! = 3
     ·rw[if_pos h3'];unfold pt;rw[if_neg (fun e=>by
       have:=congrArg Wp e.2;rw[EC.val_zero,h0]at this;omega)]
      show #[mark (0-y:Fin P).val]++bx (rdx P b).val=b;rw[hbx,h0];unfold mark;rw[if_pos (by omega),<-Fh h3'];exact(KH hs).symm
     ·rw[if_neg h3'];have h2':ub b[0]! = 2:=hm.resolve_right h3';unfold pt;rw[if_neg (fun e=>hy0 e.2)];show #[mark y.val]++bx (rdx P b).val=b;rw[hbx];unfold mark;rw[if_neg (by omega),<-Li h2'];exact(KH hs).symm
    ·cases h
   ·cases h
 ·cases h
end
section
open Go.RowKit Go.Sort Go.Deep
variable {P:Nat}[NeZero P]{N:Nat}
section
variable (w:World) (K k8 n o:Nat) (S Q T:Bs)
end
end
section
open Go.RowKit Go.Sort Go.Deep
variable {P:Nat}[NeZero P]{N:Nat}
def encV(v:Value):Value:=v
theorem qH(s:ByteArray)(w:World):
 ∃cap w',(convert 9 28 (.string s)).run prog w=.ok (.slice (some ⟨w.heap.size,0,none⟩) s.size cap) w'/\s.size<=cap/\Below w.heap.size w w'/\Holds encB w' w.heap.size 0 s.data/\w.heap.size<w'.heap.size:=by
 have h:=Lib.run_convert_string_bytes (P:=prog) w 9 28 5 s str9 slice22 int5;have hcap:s.size<=grownCap w s.size 0 5:=by
  unfold grownCap Wn;exact Nat.le_add_right _ _
 have hl:s.data.size=s.size:=rfl;refine⟨_,_,h,hcap,?_,?_,by rw[UY];omega⟩
 ·refine⟨?_,?_,?_,?_,fun k hk=>Lib.bytesWorld_at_old w 5 s k hk⟩
  ·unfold Ua Up;rw[if_neg (by decide)];rfl
  ·unfold Ua Up;rw[if_neg (by decide)];rfl
  ·unfold Ua Up;rw[if_neg (by decide)];rfl
  ·rw[UY];omega
 ·intro j hj;have hb:=Lib.bytesWorld_at_new w 5 s;have hsz:(S8 w 5 s).size=grownCap w s.size 0 5:=by
   unfold S8;rw[QF,Array.size_map,P7];omega
  have hc:(S8 w 5 s)=(s.data++PX (grownCap w s.size 0 5-s.size) 0).map encB:=by
   unfold S8;rw[Array.map_append,Array.map_replicate];rfl
  have hj2:j<(s.data++PX (grownCap w s.size 0 5-s.size) 0).size:=by rw[QF,P7];omega
  have hget:(s.data++PX (grownCap w s.size 0 5-s.size) 0)[j]=s.data[j]!:=by
   rw[TU hj,getElem!_pos s.data j hj]
  constructor
  ·unfold RU;rw[hb];simp only[PU];rw[if_neg (by decide),hc,Array.getElem?_map,Array.getElem?_eq_getElem hj2,Ty,hget]
  ·unfold Ti;rw[hb];simp only[PU,hsz];simp;omega
def Texts(w:World)(q:Option Addr)(n:Nat)(S:Nat->ByteArray):Prop:=0<n->∃gg oo,q=some ⟨gg,oo,none⟩/\gg<w.heap.size/\∀j,j<n->w.cell? ⟨gg,oo+j,none⟩=some (.string (S j))
def rdT(P:Nat)[NeZero P](bs:Bs):T3 P:=
 if bs.size=33 then if jQ bs then(0,1,0) else if ub bs[0]! = 2\/ub bs[0]! = 3 then if beV (dT bs).toList<P then
  (rdx P bs,if ub bs[0]! = 3 then 0-(rt (rdx P bs*rdx P bs*rdx P bs+7)).getD 0 else(rt (rdx P bs*rdx P bs*rdx P bs+7)).getD 0,1) else(0,0,0) else(0,0,0) else(0,0,0)
theorem CJ(C:Fl3 P)(bs:Bs):Gives 62 #[.string ⟨bs⟩] (.tuple #[tv (rdT P bs),.bool (rd P bs).isSome]):=by
 intro w;unfold rdT rd;by_cases hs:bs.size=33
 ·rw[if_pos hs,if_pos hs];by_cases hz:jQ bs
  ·rw[if_pos hz,if_pos hz];obtain rfl:=(iU hs).1 hz;exact I0 C w
  ·rw[if_neg hz,if_neg hz];have hz':¬bs=nW:=fun h=>hz ((iU hs).2 h)
   by_cases hm:ub bs[0]! = 2\/ub bs[0]! = 3
   ·rw[if_pos hm,if_pos hm];by_cases hx:beV (dT bs).toList<P
    ·rw[if_pos hx,if_pos hx];have hx':beV (dT bs).toList=(rdx P bs).val:=(Qf hx).symm;cases hr:rt (rdx P bs*rdx P bs*rdx P bs+7) with
     | none=>exact Cx C bs (rdx P bs) 0 false w hs hz' hm hx' (I9 C _ hr)
     | some y =>
      rw[Ty];exact Cx C bs (rdx P bs) y true w hs hz' hm hx' (CG C _ _ hr)
    ·rw[if_neg hx,if_neg hx];exact Lx C _ bs w hs hz' hm (Ei C (dT bs) (eF hs) hx)
   ·rw[if_neg hm,if_neg hm];exact I1 C bs hs hz' _ rfl (fun h=>hm (Ql h)) (fun h=>hm (Qc h)) w
 ·rw[if_neg hs,if_neg hs];exact Ly C bs hs w
def jU(P:Nat)[NeZero P](bs:Bs):EC.Pt P:=match rd P bs with|some p=>pt p|none=>none
theorem CO{bs:Bs}{p:Fin P × Fin P}(h:rd P bs=some p):jU P bs=pt p:=by unfold jU;rw[h]
theorem fS(C:Fl3 P){bs:Bs}(h:(rd P bs).isSome=true):FracT (rdT P bs) (jU P bs):=by
 obtain⟨p,hp⟩:=Qx.1 h;rw[CO hp];have hp0:=hp;unfold rdT;unfold rd at hp;split at hp
 ·rename_i hs
  rw[if_pos hs];split at hp
  ·rename_i hz
   rw[if_pos hz];obtain rfl:=Qh.inj hp;unfold pt;rw[if_pos ⟨rfl,rfl⟩];exact FracT.none
  ·rename_i hz
   rw[if_neg hz];split at hp
   ·rename_i hm
    rw[if_pos hm];split at hp
    ·rename_i hx
     rw[if_pos hx];obtain⟨y,hr,hpe⟩:=PV.1 hp;have hsq:=Cv hr;have hon:=CE C.toFld hp0;rw[hr];show FracT (rdx P bs,(if ub bs[0]! = 3 then 0-y else y),1) (pt p);have hb:p=(rdx P bs,if ub bs[0]! = 3 then 0-y else y):=hpe.symm;have hpt:pt p=some p:=by
      unfold pt;rw[if_neg];rintro⟨-,h2⟩;rw[hb]at h2;dsimp only at h2;split at h2
      ·exact C.toFld.cur.y_ne (Bc hsq) h2
      ·exact C.toFld.cur.y_ne (yR hsq) h2
     rw[hpt,hb];split
     ·exact⟨rZ C.toFld _ _,Bc hsq⟩
     ·exact⟨rZ C.toFld _ _,yR hsq⟩
    ·cases hp
   ·cases hp
 ·cases hp
theorem LC(C:Fl3 P){bs:Bs}{p:Fin P × Fin P}(h:rd P bs=some p):FracT (rdT P bs) (pt p):=by
 have:=fS C (bs:=bs) (by rw[h];rfl);unfold jU at this;rw[h]at this;exact this
theorem NA(C:Fl3 P)(t:T3 P):Gives 63 #[tv t] (.bool (decide (t.2.2=0))):=by
 by_cases h:t.2.2=0
 ·rw[decide_eq_true h];exact mI C _ _ _ h
 ·rw[decide_eq_false h];exact gK C _ _ _ h
def Oo(s:ByteArray)(v:Value)(ok:Bool):List RG.It:=[.x 8 [] (.string s),.c 9 [(8,0)] (.tuple #[v,.bool ok]),.x 7 [(9,1)] (.tuple #[v,.bool ok]),.x 10 [(7,2)] v,.x 11 [(7,2)] (.bool ok),.m 4 [] 1,.u [(4,5),(10,3)] 1,.x 5 [(11,4)] (.bool ok)]
def Om(v:Value)(z:Bool):List RG.It:=[.x 12 [] v,.c 13 [(12,0)] (.bool z),.x 6 [(13,1)] (.bool z)]
def MW(v:Value)(z:Bool):List RG.It:=[.x 14 [] v,.x 15 [] (.bool true),.x 16 [(15,1)] (.bool true),.x 17 [] (.bool z),.x 18 [(17,3)] (.bool (!z)),.x 19 [(16,2),(18,4)] (.bool (!z)),.u [(14,0)] 0,.x 3 [(19,5)] (.bool (!z))]
def MX(v:Value):List RG.It:=[.x 14 [] v,.x 15 [] (.bool false),.x 16 [(15,1)] (.bool false),⟨some 17,[],(.v undef),.pass⟩,⟨some 18,[],(.v undef),.pass⟩,.x 19 [(16,2),(18,4)] (.bool false),.u [(14,0)] 0,.x 3 [(19,5)] (.bool false)]
omit [NeZero P] in
theorem Jh(t:T3 P)(s:ByteArray)(ok z:Bool)(hR:Gives 62 #[.string s] (.tuple #[tv t,.bool ok]))(hI:Gives 63 #[tv t] (.bool z)):Gives 28 #[.string s] (.tuple #[tv t,.bool (ok && !z)]):=by
 intro w;go_enter Tryz.func28,Tryz.ntmps28;refine RG.M.enter [(0,.v (.string s))] 20 (by kernel_rfl) ?_;intro a0 M0;repeat refine wp_seq ?_
 refine M0.t [.m 2 [] 0,.x 3 [] (.bool false)] [(0,RG.z 12)] [] [RG.z 12] [(0,.v (.string s)),(2,.p 0 0),(3,.v (.bool false))] ⟨RG.mk 0 73,RG.st,trivial⟩ ?_;intro j1 a1 w1 M1;repeat refine wp_seq ?_
 refine M1.t (Oo s (tv t) ok) [(5,RG.z 12)] [(1,6,tw t)] [RG.z 12,tw t] [(2,.p 0 0),(4,.p 1 0),(5,.v (.bool ok))] ⟨RG.st,RG.cl hR,RG.st,RG.st,RG.st,RG.mk 1 73,RG.pt i56,RG.st,trivial⟩ ?_;intro j2 a2 w2 M2;repeat refine wp_seq ?_
 refine M2.u (Om (tv t) z) [(2,.p 0 0),(4,.p 1 0),(5,.v (.bool ok)),(6,.v (.bool z))] ⟨RG.ld u56 i56,RG.cl hI,RG.st,trivial⟩ ?_;intro a3 w3 M3;repeat refine wp_seq ?_
 cases ok with
 | true =>
  refine M3.t (MW (tv t) z) [] [(0,6,tw t)] [tw t,tw t] [(2,.p 0 0),(3,.v (.bool (!z)))] ⟨RG.ld u56 i56,RG.st,RG.st,RG.st,RG.st,RG.st,RG.pt i56,RG.st,trivial⟩ ?_;intro a4 w4 M4;refine wp_ret ?_;refine bodyPost_ret (v:=.tuple #[tv t,.bool (!z)]) (RG.aN M4.st 2 3 73 rfl 0 _ rfl (M4.at (s:=.p 0 0)) (.bool (!z)) M4.av u56 i56) M4.sl.defers ?_;exact⟨_,rfl,M4.st.bel.below,rfl⟩
 | false =>
  refine M3.t (MX (tv t)) [] [(0,6,tw t)] [tw t,tw t] [(2,.p 0 0),(3,.v (.bool false))] ⟨RG.ld u56 i56,RG.st,RG.st,RG.aH rfl rfl,RG.aH rfl rfl,RG.st,RG.pt i56,RG.st,trivial⟩ ?_;intro a4 w4 M4;refine wp_ret ?_;refine bodyPost_ret (v:=.tuple #[tv t,.bool false]) (RG.aN M4.st 2 3 73 rfl 0 _ rfl (M4.at (s:=.p 0 0)) (.bool false) M4.av u56 i56) M4.sl.defers ?_;exact⟨_,rfl,M4.st.bel.below,rfl⟩
omit [NeZero P] in
theorem vG:(wr (none:EC.Pt P))=o33:=by
 show nW=o33;decide +kernel
theorem I6(C:Fl3 P)(b:Bs):((rd P b).isSome && !decide ((rdT P b).2.2=0))=real P b:=by
 unfold real;cases hr:rd P b with
 | none=>rfl
 | some p =>
  have hf:=LC C hr;have hw:=E8 C.toFld hr;have hB:rdB P b=b:=by unfold rdB;rw[hr];rfl
  rw[hB]
  congr 2
  rw[decide_eq_decide];cases hp:pt p with
  | none =>
   rw[hp]at hf hw;rw[vG]at hw;exact⟨fun _=>hw.symm,fun _=>hf.1⟩
  | some q =>
   rw[hp]at hf hw;obtain⟨x,y⟩:=q;refine⟨fun h=>absurd h hf.1.1,fun h=>?_⟩;obtain⟨p1,h1,h2⟩:=rC C.toFld (X:=some (x,y)) hf.2;obtain⟨p2,h3,h4⟩:=rC C.toFld (X:=(none:EC.Pt P)) trivial;rw[hw,h,<-vG (P:=P),h3]at h1;rw[<-Qh.inj h1,h4]at h2;cases h2
theorem Ji(C:Fl3 P)(s:ByteArray):Gives 28 #[.string s] (.tuple #[tv (rdT P s.data),.bool (real P s.data)]):=by
 rw[<-I6 C];exact Jh _ s _ _ (CJ C s.data) (NA C _)
theorem mV{b:Bs}(h:real P b=true):(rd P b).isSome=true:=by
 unfold real at h;exact((P3 _ _).mp h).1
end
section
open Go.RowKit Go.Sort Go.Deep
namespace RG
section
variable {P:Program}{ops:Array Oper}{Q:Exit->Act->World->Prop}{w0 w:World}{k0:Nat}{X:List Nat}{its:List It}{bl:List Bl}{olds:List (Tmp × SV)}{a:Act}{i:Nat}{o:Oper}{it:It}
theorem pO(hk:it.kind=.stay)(T:TypeId)(t:Tmp)(hi v v':Value)(ho:o.op=.slice T (.tmp t) none (some (.const hi)) none)(hout:it.out=.v v')(hx:∀(μ:Nat->Nat) (a:Act),Known ops i its olds it.need μ a->a.eval (.tmp t)=v)
 (hf:∀w:World,(Re T v none (some hi) none).run P w=.ok v' w):Cert P Q w0 k0 X ops i its bl olds o it:=by
 refine bS hk fun μ a w hK _=>?_
 unfold execOp;rw[ho,hout];dsimp only;rw[hx μ a hK];show((Re T v none (some hi) none) >>= fun v=>pure (Next.value v)).run P w=_;rw[Qi,hf];rfl
end
end RG
variable {P:Nat}[NeZero P]{N:Nat}
end
section
open Go.RowKit Go.Sort Go.Deep
variable {P:Nat}[NeZero P]{N:Nat}
theorem Km{bs:Bs}(h:(rq N bs).isSome=true):nuV bs<N:=by
 obtain⟨n,hn⟩:=Qx.1 h;rw[<-FH hn];unfold rq at hn;split at hn
 ·rename_i h
  rw[<-Qh.inj hn];exact h.2
 ·cases hn
theorem eR{P:Program}{w:World}{fn:Func}{a:Act}(t u x:Tmp)(hr:fn.results=#[.tmp t,.tmp u,.tmp x])(v v' v'':Value)(ht:a.tmps[t]? = some v)(hu:a.tmps[u]? = some v')(hx:a.tmps[x]? = some v''):(results fn a.tmps).run P w=.ok (.tuple #[v,v',v'']) w:=by
 have h2:a.tmps.getD t undef=v:=by rw[PZ,ht];rfl
 have h3:a.tmps.getD u undef=v':=by rw[PZ,hu];rfl
 have h4:a.tmps.getD x undef=v'':=by rw[PZ,hx];rfl
 unfold results;rw[hr];simp only[SY,UJ,UT,h2,h3,h4];simp[Qi]
theorem uL{W:World}{base m:Nat}{T:TypeId}{e:Value}{xs:List Value}(h:W.ownsRow base T 1 e m xs)(hm:0<m):∃g cap,e=.slice (some ⟨g,0,none⟩) m cap/\base<=g/\g<W.heap.size/\∀j,j<m->W.cell? ⟨g,j,none⟩=xs[j]?:=by
 rcases h.2 with⟨_,h0⟩|⟨g,cap,cur,rfl,hb,hg,h1,h2,h3,h4⟩
 ·omega
 ·refine⟨g,cap,rfl,hb,(Qg.1 hg).1,fun j hj=>?_⟩;rw[<-h4,List.getElem?_take_of_lt (by omega)];simp[RU,hg]
theorem tU(w:World)(u v:Value)(T U:TypeId):Below w.heap.size w ((w.alloc (.cells #[u] T)).alloc (.cells #[v] U))/\((w.alloc (.cells #[u] T)).alloc (.cells #[v] U)).heap.size=w.heap.size+2/\((w.alloc (.cells #[u] T)).alloc (.cells #[v] U)).cell? ⟨w.heap.size,0,none⟩=some u/\((w.alloc (.cells #[u] T)).alloc (.cells #[v] U)).cell? ⟨w.heap.size+1,0,none⟩=some v:=by
 have h1:=RG.Made.alloc w [u] T;have h2:=RG.Made.alloc (w.alloc (.cells #[u] T)) [v] U;rw[Qa]at h2;refine⟨h1.bel.trans (h2.bel.mono (by rw[Qa];omega)),by rw[Qa,Qa],?_,h2.range 0 _ rfl⟩;have hlt:=h1.lt;rw[World.cell?_of_block (a:=⟨w.heap.size,0,none⟩) (Below.heap_alloc _ _ _ hlt)];exact h1.range 0 _ rfl
theorem Lz{b:Bs}(h:(rq N b).isSome=true):(rq N b).getD 0=nuV b:=by
 obtain⟨n,hn⟩:=Qx.1 h;rw[hn,Option.getD_some,FH hn]
theorem Nu{f:Nat->List Value}{C:List Value}(h:Rows 4 1 f 1 C)(h0:∀j,(f j).length=4):C=f 0:=by
 apply List.ext_getElem?;intro j;have hl:=h.len;by_cases hj:j<4
 ·have hr:=h.row 0 j (by omega) hj;rw[Nat.mul_zero,PU]at hr;exact hr
 ·rw[RY (by omega),RY (by rw[h0];omega)]
def cY(P:Nat)[NeZero P](N:Nat)(b:Bs):Bool:=decide (b.size=65) && ((rd P (b.extract 0 33)).isSome && (rq N (b.extract 33 65)).isSome)
def KW(P:Nat)[NeZero P](N:Nat)(w:World)(b:Bs)(e:Value)(w':World):Prop:=
 Below w.heap.size w w'/\((cY P N b=true/\∃K k,e=.tuple #[.slice (some ⟨K,0,none⟩) 1 1,.slice (some ⟨k,0,none⟩) 1 1,.bool true]/\w.heap.size<=K/\K<k/\k<w'.heap.size/\w'.rangeAt K 0 (aA (b.extract 0 33))/\w'.there K 0 33/\w'.rangeAt k 0 (wn (nuV (b.extract 33 65)))/\w'.there k 0 4)\/(cY P N b=false/\∃q1 q2,e=.tuple #[q1,q2,.bool false]))
theorem tK(C:Fld P)(O:Ord N)(v:Value)(b:Bs)(w:World)(hv:SP.PartOk w v b.toList):Calls prog 56 #[v,.int .i64 1,.int .i64 1] w (Ret (KW P N w b)):=by
 obtain⟨a0,sb,so,cap,bs,rfl,hbe,hcap,-,hor⟩:=hv;obtain rfl:bs=b:=Array.ext' hbe;clear hbe;by_cases h64:bs.size=65
 ·obtain⟨rfl,hH⟩:a0=some ⟨sb,so,none⟩/\Holds encB w sb so bs:=by
   rcases hor with h|h
   ·omega
   ·exact h
  clear hor;have hlt:sb<w.heap.size:=GM hH (by omega);rw[h64]at hcap⊢;have hs1:∀w:World,(Re 28 (.slice (some ⟨sb,so,none⟩) 65 cap) none (some (.int .i64 33)) none).run prog w=.ok (.slice (some ⟨sb,so,none⟩) 33 cap) w:=fun w=>by
   have h1:(33:Int)<=cap:=by omega
   go_simp
  have hs2:∀w:World,(Re 28 (.slice (some ⟨sb,so,none⟩) 65 cap) (some (.int .i64 33)) none none).run prog w=.ok (.slice (some ⟨sb,so+33,none⟩) 32 (cap-33)) w:=fun w=>by
   have h1:(65:Int)<=cap:=by omega
   have h2:¬cap=33:=by omega
   go_simp
  have HH:Hid (Holds encB w sb so bs/\bs.size=65):=⟨hH,h64⟩
  clear hH h64;go_enter Tryz.func56,Tryz.ntmps56;go_wp2_with fail
  refine(zR sb so 33 cap 33 (by decide) w).mono ?_;rintro e w1 ⟨v1,rfl,rfl,hw1⟩;obtain⟨h1,h2,h3,h4⟩:=tU w (.slice (some ⟨sb,so,none⟩) 33 cap) (.int .i64 33) 28 3;have hw1':w1=(w.alloc (.cells #[.slice (some ⟨sb,so,none⟩) 33 cap] 28)).alloc (.cells #[.int .i64 33] 3):=hw1;rw[<-hw1']at h1 h2 h3 h4;clear hw1 hw1';have hcl:=zQ sb so 33 1 33 cap w1 (by decide) rfl (by decide) (by omega) (by decide) w.heap.size (by omega) h3 h4;clear h3 h4;go_wp2_with fail
  refine hcl.mono ?_;rintro e w2 ⟨v2,rfl,hb2,hr2,-⟩;obtain⟨g2,c2,rfl,hg2,hl2,hc2⟩:=uL hr2 (by decide);have H2:Hid (Below w.heap.size w w2):=h1.trans (hb2.mono h1.size);clear h1 h2 hcl hb2 hg2 hr2;have HP:Hid (g2<w2.heap.size/\∀j,j<1->∃v,w2.cell? ⟨g2,j,none⟩=some v/\Arg33 w2 v (bs.extract 0 33)):=by
   refine⟨hl2,fun j hj=>⟨chv sb so 33 j,?_,?_⟩⟩
   ·rw[hc2 j hj,QX,TO hj];rfl
   ·have hsz:=HH.out.2;obtain rfl:j=0:=by omega
    refine⟨_,33,33,rfl,by rw[QQ];omega,fun _=>⟨sb,so+33*0,rfl,PQ _,PS hlt H2.out.size,?_⟩⟩;have hH2:Holds encB w2 sb so bs:=Holds.below HH.out.1 H2.out hlt;exact jL 0 33 hH2 (by omega)
  clear hl2 hc2;go_wp2_with fail
  refine(ML C g2 1 c2 (by decide) (fun _=>bs.extract 0 33) w2 HP.out.1 HP.out.2).mono ?_;clear HP;rintro e w3 ⟨v3,rfl,hb3,hR3⟩;have H3:Hid (Below w.heap.size w w3):=H2.out.trans (hb3.mono H2.out.size);have HS:Hid (w.heap.size<=w2.heap.size):=H2.out.size;clear hb3 H2;obtain⟨qv,okp,rfl,HP⟩:∃qv okp,v3=.tuple #[qv,.bool okp]/\Hid (okp=(rd P (bs.extract 0 33)).isSome/\(okp=true->∃K,qv=.slice (some ⟨K,0,none⟩) 1 1/\w.heap.size<=K/\K<w3.heap.size/\w3.there K 0 33/\w3.rangeAt K 0 (aA (bs.extract 0 33)))):=by
   rcases hR3 with⟨h1,K,rfl,h3,h4,h5,h6⟩|⟨⟨j,hj,h1⟩,rfl⟩
   ·obtain⟨p,hp⟩:=h1 0 (by decide);exact⟨_,true,rfl,by rw[hp];rfl,fun _=>⟨K,rfl,Qn HS.out h3,h4,h5,h6 0 (by decide)⟩⟩
   ·exact⟨_,false,rfl,by rw[h1];rfl,fun h=>by cases h⟩
  clear hR3;go_wp2_with fail
  refine(zR sb (so+33) 32 (cap-33) 32 (by decide) w3).mono ?_;rintro e w4 ⟨v4,rfl,rfl,hw4⟩;obtain⟨h1,h2,h3,h4⟩:=tU w3 (.slice (some ⟨sb,so+33,none⟩) 32 (cap-33)) (.int .i64 32) 28 3;have hw4':w4=(w3.alloc (.cells #[.slice (some ⟨sb,so+33,none⟩) 32 (cap-33)] 28)).alloc (.cells #[.int .i64 32] 3):=hw4;rw[<-hw4']at h1 h2 h3 h4;clear hw4 hw4';have hcl:=zQ sb (so+33) 32 1 32 (cap-33) w4 (by decide) rfl (by decide) (by omega) (by decide) w3.heap.size (by omega) h3 h4;clear h3 h4;go_wp2_with fail
  refine hcl.mono ?_;rintro e w5 ⟨v5,rfl,hb5,hr5,-⟩;obtain⟨g5,c5,rfl,hg5,hl5,hc5⟩:=uL hr5 (by decide);have H35:Hid (Below w3.heap.size w3 w5):=h1.trans (hb5.mono h1.size);have H5:Hid (Below w.heap.size w w5):=H3.out.trans (H35.out.mono H3.out.size);clear h1 h2 hcl hb5 hg5 hr5 H3;have HA:Hid (Args w5 (some ⟨g5,0,none⟩) 1 (fun j=>bs.extract (33+32*j) (33+32*j+32))):=fun _=>by
   refine⟨g5,rfl,hl5,fun j hj=>⟨chv sb (so+33) 32 j,?_,?_⟩⟩
   ·rw[hc5 j hj,QX,TO hj];rfl
   ·have hsz:=HH.out.2;refine⟨_,32,32,rfl,by rw[QQ];omega,fun _=>⟨sb,so+33+32*j,rfl,PQ _,PS hlt H5.out.size,?_⟩⟩;have hH5:Holds encB w5 sb so bs:=Holds.below HH.out.1 H5.out hlt;have:=jL (33+32*j) 32 hH5 (by omega);rwa[<-RO]at this
  clear hl5 hc5;go_wp2_with fail
  refine(Kc O 1 c5 (by decide) (some ⟨g5,0,none⟩) _ w5 HA.out).mono ?_;have HN:Hid (w.heap.size<=w5.heap.size):=H5.out.size;rintro e w6 ⟨v6,rfl,⟨hno,hb6,rfl⟩|⟨hall,k6,C6,hM6,hRo,rfl⟩⟩
  ·have H6:Hid (Below w.heap.size w w6/\cY P N bs=false):=by
    refine⟨H5.out.trans (hb6.mono HN.out),?_⟩;obtain⟨j,hj,hq⟩:=hno;unfold cY;obtain rfl:j=0:=by omega
    have hq':rq N (bs.extract 33 65)=none:=hq;rw[hq'];simp
   clear hno hb6 H5 HA HH HP H35;cases okp
   ·go_wp2;refine bodyPost_ret (v:=.tuple #[qv,.slice none 0 0,.bool false]) (eR (a:=⟨_,_⟩) 6 7 8 rfl _ _ _ rfl rfl rfl) rfl ?_;exact⟨_,rfl,H6.out.1,Qc ⟨H6.out.2,_,_,rfl⟩⟩
   ·go_wp2;refine bodyPost_ret (v:=.tuple #[qv,.slice none 0 0,.bool false]) (eR (a:=⟨_,_⟩) 6 7 8 rfl _ _ _ rfl rfl rfl) rfl ?_;exact⟨_,rfl,H6.out.1,Qc ⟨H6.out.2,_,_,rfl⟩⟩
  ·cases okp
   ·have H6:Hid (Below w.heap.size w w6/\cY P N bs=false):=by
     refine⟨H5.out.trans (hM6.bel.mono HN.out),?_⟩;unfold cY;rw[<-HP.out.1];simp
    clear hall hM6 hRo H5 HA HH HP H35;go_wp2;refine bodyPost_ret (v:=.tuple #[qv,.slice (some ⟨k6,0,none⟩) 1 1,.bool false]) (eR (a:=⟨_,_⟩) 6 7 8 rfl _ _ _ rfl rfl rfl) rfl ?_;exact⟨_,rfl,H6.out.1,Qc ⟨H6.out.2,_,_,rfl⟩⟩
   ·obtain⟨K,rfl,hK1,hK2,hK3,hK4⟩:=HP.out.2 rfl;have H6:Hid (KW P N w bs (.tuple #[.slice (some ⟨K,0,none⟩) 1 1,.slice (some ⟨k6,0,none⟩) 1 1,.bool true]) w6):=by
     have q0:(rq N (bs.extract 33 65)).isSome=true:=hall 0 (by decide);have h36:Below w3.heap.size w3 w6:=H35.out.trans (hM6.bel.mono H35.out.size);refine⟨H5.out.trans (hM6.bel.mono HN.out),Ql ⟨?_,K,k6,rfl,hK1,PS hK2 (Qn H35.out.size hM6.le),hM6.lt,RG.range_below hK4 h36 hK2,RG.dN hK3 h36 hK2,?_,?_⟩⟩
     ·unfold cY;rw[q0,HH.out.2,<-HP.out.1];rfl
     ·have hC:=Nu hRo (fun _=>rfl);rw[<-Lz q0];have:=hM6.range;rw[hC]at this;exact this
     ·have hC:=hRo.len;have:=hM6.there;rw[hC]at this;exact this
    clear hall hM6 hRo H5 HA HH HP H35 hK1 hK2 hK3 hK4;go_wp2;refine bodyPost_ret (v:=.tuple #[.slice (some ⟨K,0,none⟩) 1 1,.slice (some ⟨k6,0,none⟩) 1 1,.bool true]) (eR (a:=⟨_,_⟩) 6 7 8 rfl _ _ _ rfl rfl rfl) rfl ?_;exact⟨_,rfl,H6.out⟩
 ·have hne:((bs.size:Int) == 65)=false:=by simpa using(by omega:¬(bs.size:Int)=65)
  have HT:Hid (cY P N bs=false):=by show _=_;unfold cY;rw[decide_eq_false h64];rfl
  have h64':¬(bs.size:Int)=65:=by omega
  go_enter Tryz.func56,Tryz.ntmps56;go_wp2;refine bodyPost_ret (v:=.tuple #[.slice none 0 0,.slice none 0 0,.bool false]) (eR (a:=⟨_,_⟩) 6 7 8 rfl _ _ _ rfl rfl rfl) rfl ?_;exact⟨_,rfl,Qd _ _,Qc ⟨HT.out,_,_,rfl⟩⟩
end
section
open Go.RowKit Go.Sort Go.Deep
variable {P:Nat}[NeZero P]{N:Nat}
section
variable (w:World) (k4 k5 k6 k7 k8 c s m B0:Nat) (a b T:Bs)
end
end
section
open Go.RowKit Go.Sort Go.Deep
variable {P:Nat}[NeZero P]{N:Nat}
def Be:ByteArray:=⟨#[110,111,110,99,101,32,115,105,103,110]⟩
theorem Lq(C:Fld P)(O:Ord N)(p0 p1:Option Addr)(n0 c0 n1 c1:Nat)(sk tx:Bs)(w:World)(hA:Arg w (.slice p0 n0 c0) sk)(h0:SP.PartOk w (.slice p0 n0 c0) sk.toList)(h1:SP.PartOk w (.slice p1 n1 c1) tx.toList)
 (x:Nat) (hx:rq N sk=some x) (hx0:x≠0) (kk c z:Nat) (hkk:chL N Be.data.toList [sk.toList,tx.toList]=kk) (hc:asg N (wr (EC.mul x (gG P))).toList (wr (EC.mul kk (gG P))).toList tx.toList=c) (hz:sPl N kk (sTi N c x)=z) :
 Calls prog 7 #[.slice p0 n0 c0,.slice p1 n1 c1] w (Ret fun e w'=>Below w.heap.size w w'/\∃v,e=.tuple #[v,.int .i64 0]/\Ans z w.heap.size (wr (EC.mul kk (gG P))) v w'):=by
 have hxN:x<N:=by
  unfold rq at hx;split at hx
  ·rename_i h
   rw[<-Qh.inj hx];exact h.2
  ·cases hx
 have hkN:kk<N:=by rw[<-hkk];exact vV O _
 have hcN:c<N:=by rw[<-hc];exact BW O _ _ _
 have hR:=D4 O (.slice p0 n0 c0) sk w hA;rw[hx]at hR;have e1:(!decide (x=0))=true:=by simp[hx0]
 rw[show(some x).getD 0=x from rfl,show((some x).isSome && !decide (x=0))=true by rw[e1];rfl]at hR;have HR:=Hid.mk' hR;have HC:Hid (Fld P/\Ord N/\x<N/\kk<N/\c<N/\sPl N kk (sTi N c x)=z):=⟨C,O,hxN,hkN,hcN,hz⟩
 have HP:Hid (SP.PartOk w (.slice p0 n0 c0) sk.toList/\SP.PartOk w (.slice p1 n1 c1) tx.toList):=⟨h0,h1⟩
 have HK:=Hid.mk' hkk;obtain⟨A,hAe⟩:∃A,Hid (wr (gG P)=A):=⟨_,rfl⟩
 obtain⟨F,hFe⟩:∃F,Hid (wr (EC.mul kk (gG P))=F):=⟨_,rfl⟩
 obtain⟨A',hAe'⟩:∃A',Hid (wr (EC.mul x (gG P))=A'):=⟨_,rfl⟩
 rw[hFe.out,hAe'.out]at hc;rw[hFe.out];have HQ:=Hid.mk' hc;have HF:Hid (F.size=33/\A'.size=33):=⟨by rw[<-hFe.out];exact aX _,by rw[<-hAe'.out];exact aX _⟩
 clear C O hA h0 h1 hx hx0 hkk hc hz hxN hkN hcN hR e1;obtain⟨vx,hvx⟩:∃v,Hid (nv x=v):=⟨_,rfl⟩
 rw[hvx.out]at HR;obtain⟨d',hd3,hd4⟩:=PV.1 u40;have HD:Hid (prog.underlying 46=some d'/\d'.isRow=true):=⟨hd3,hd4⟩
 clear hd3 hd4;go_enter Tryz.func7,Tryz.ntmps7;go_wp2_with fail
 refine HR.out.mono ?_;rintro e w1 ⟨vv,rfl,hb1,rfl⟩;obtain⟨w2,hw2⟩:∃w2,Hid (w1.alloc (.cells #[.int .u64 0,.int .u64 0,.int .u64 0,.int .u64 0] 46)=w2):=⟨_,rfl⟩
 obtain⟨w3,hw3⟩:∃w3,Hid (w2.setCells w1.heap.size 0 (wn x)=w3):=⟨_,rfl⟩
 obtain⟨k6,hk6⟩:∃k6,Hid (w1.heap.size=k6):=⟨_,rfl⟩
 rw[hk6.out]at hw3;have F2:Hid (Row w2 k6 [.int .u64 0,.int .u64 0,.int .u64 0,.int .u64 0]/\Below w.heap.size w w2/\w.heap.size<=k6):=by
  rw[<-hw2.out,<-hk6.out];exact⟨aM w1 _ _,hb1.alloc hb1.size _,hb1.size⟩
 have K3:Hid (Kp w w3 [(k6,wn x)]):=by
  rw[<-hw3.out];exact⟨RG.below_setCells F2.out.2.2 _ _ _ F2.out.2.1,fun y hy=>by rw[show y=(k6,wn x) by simpa using hy];exact F2.out.1.put rfl⟩
 clear hb1 HR;go_wp2_with (first|(refine aQ (v:=.pointer (some ⟨k6,0,none⟩)) (w':=w2) rfl (.alloc 46) rfl ?_ ?_;(rw[<-hw2.out,<-hk6.out];kernel_rfl))|(refine wpList_store_mid rfl 46 _ _ rfl k6 0 (wn x).toArray ?_ ?_ ?_ ?_ ?_ ?_;rfl;exact hvx.out.symm;exact F2.out.1.2.2;exact i40;exact dK x;rw[show(wn x).toArray.toList=wn x from rfl,hw3.out])|fail)
 clear hw2 hw3 hk6 F2;obtain⟨w4,hw4⟩:∃w4,Hid (w3.alloc (.cells #[.slice p0 n0 c0,.slice p1 n1 c1] 28)=w4):=⟨_,rfl⟩
 have hb4:Below w3.heap.size w3 w4:=by rw[<-hw4.out];exact aE _ _
 have K4:Hid (Kp w w4 [(k6,wn x)]):=K3.out.grow hb4;have HPs:Hid (SP.PartsOk w4 (some ⟨w3.heap.size,0,none⟩) [sk.toList,tx.toList]):=by
  refine Qc ⟨w3.heap.size,0,rfl,fun j hj=>?_⟩;have hM:w4.rangeAt w3.heap.size 0 [.slice p0 n0 c0,.slice p1 n1 c1]:=by rw[<-hw4.out];exact(RG.Made.alloc w3 [.slice p0 n0 c0,.slice p1 n1 c1] 28).range
  have hj2:j=0\/j=1:=by simp at hj;omega
  rcases hj2 with rfl|rfl
  ·exact⟨_,hM 0 _ rfl,HP.out.1.below K4.out.bl⟩
  ·exact⟨_,hM 1 _ rfl,HP.out.2.below K4.out.bl⟩
 rw[hw4.out];refine(Hm HC.out.2.1 Be (some ⟨w3.heap.size,0,none⟩) 2 2 [sk.toList,tx.toList] w4 (by decide) rfl (by decide) HPs.out).mono ?_;rintro e w5 ⟨vv,rfl,hb5,rfl⟩;rw[HK.out];have K5:Hid (Kp w w5 [(k6,wn x)]):=K4.out.grow hb5;clear hb4 hb5 K3 K4 HPs hw4;obtain⟨vk,hvk⟩:∃v,Hid (nv kk=v):=⟨_,rfl⟩
 rw[hvk.out];obtain⟨w6,hw6⟩:∃w6,Hid (w5.alloc (.cells #[.int .u64 0,.int .u64 0,.int .u64 0,.int .u64 0] 46)=w6):=⟨_,rfl⟩
 obtain⟨k8,hk8⟩:∃k8,Hid (w5.heap.size=k8):=⟨_,rfl⟩
 obtain⟨w7,hw7⟩:∃w7,Hid (w6.setCells k8 0 (wn kk)=w7):=⟨_,rfl⟩
 have F6:Hid (Row w6 k8 [.int .u64 0,.int .u64 0,.int .u64 0,.int .u64 0]/\Kp w w6 [(k6,wn x)]):=by
  rw[<-hw6.out,<-hk8.out];exact⟨aM w5 _ _,K5.out.grow (aE _ _)⟩
 have K7:Hid (Kp w w7 [(k8,wn kk),(k6,wn x)]):=by
  rw[<-hw7.out];refine F6.out.2.put F6.out.1 rfl (by rw[<-hk8.out];exact K5.out.bl.size) fun y hy=>?_
  rw[show y=(k6,wn x) by simpa using hy,<-hk8.out];exact Rf (K5.out.at 0 rfl).1
 go_wp2_with (first|(refine aQ (v:=.pointer (some ⟨k8,0,none⟩)) (w':=w6) rfl (.alloc 46) rfl ?_ ?_;(rw[<-hw6.out,<-hk8.out];kernel_rfl))|(refine wpList_store_mid rfl 46 _ _ rfl k8 0 (wn kk).toArray ?_ ?_ ?_ ?_ ?_ ?_;rfl;exact hvk.out.symm;exact F6.out.1.2.2;exact i40;exact dK kk;rw[show(wn kk).toArray.toList=wn kk from rfl,hw7.out])|fail)
 clear hw6 hw7 hk8 F6 K5;refine(G5 w k6 k8 x kk w7.heap.size A F).last 4 (by kernel_rfl) (by kernel_rfl) (by kernel_rfl) ⟨
  RG.cE 46 8 rfl u40 fun a W hp=>⟨k8,0,wn kk,hp.o 8 (by kernel_rfl),(hp.b.1.at 0 rfl).2.1,i40,rfl⟩,
  RG.bP fun a W hp=>⟨[],16,#[],trivial,by kernel_rfl,(GT HC.out.1 W).mono (by
   rintro e W' ⟨u,rfl,hb,rfl⟩;exact⟨_,rfl,hb,by rw[hAe.out];rfl⟩)⟩,
  RG.bP fun a W hp=>⟨[(22,nv kk),(23,pvl A)],15,#[nv kk,pvl A],⟨hp.n 0 22 (by kernel_rfl) (by kernel_rfl),hp.n 1 23 (by kernel_rfl) (by kernel_rfl),trivial⟩,by kernel_rfl,by
   rw[<-hAe.out];refine(vM HC.out.1 HC.out.2.1 HC.out.2.2.2.1 (nE HC.out.1) W).mono ?_;rintro e W' ⟨u,rfl,hb,rfl⟩;exact⟨_,rfl,hb,by rw[hFe.out];rfl⟩⟩,
  RG.bO fun a W hp=>⟨[],.pointer (some ⟨W.heap.size,0,none⟩),W.alloc (.cells z33.toArray 51),trivial,by kernel_rfl,aE _ _,W.heap.size,rfl,hp.b.2,aM W _ _⟩,trivial⟩ ⟨K7.out.drew,PQ _⟩ ?_
 intro V w8 hR8 hB8;obtain⟨k9,hk9,hk9b,hk9r⟩:=show Nw w7.heap.size z33 (V 3) w8 from hR8 3 (by decide)
 have hV2:V 2=pvl F:=hR8 2 (by decide);dsimp only[RG.fU,SE,WI,WM];obtain⟨vF,hvF⟩:∃v,Hid (pvl F=v):=⟨_,rfl⟩
 rw[hk9,hV2,hvF.out];generalize V 0=s22;generalize V 1=s23;obtain⟨w9,hw9⟩:∃w9,Hid (w8.setCells k9 0 (aA F)=w9):=⟨_,rfl⟩
 have hlen:(aA F).length=33:=aF HF.out.1;have HB8:Hid (Kp w w8 [(k8,wn kk),(k6,wn x)]/\w7.heap.size<=w8.heap.size):=hB8;have K9:Hid (Kp w w9 [(k9,aA F),(k8,wn kk),(k6,wn x)]):=by
  rw[<-hw9.out];refine HB8.out.1.put hk9r (by rw[hlen];rfl) (Qn K7.out.bl.size hk9b) fun y hy=>?_
  have h8:=(K7.out.rw y hy).1;omega
 have HI:Hid (w8.there k9 0 (aA F).toArray.size/\(prog.info? 51).map (·.size)=some (aA F).toArray.size/\(prog.info? 51).map (·.size)=some (aA F).length):=by
  have e:(aA F).toArray.size=33:=by rw[QB];exact hlen
  rw[e,hlen];exact⟨hk9r.2.2,aW,aW⟩
 clear hlen hR8 hB8 hk9 hk9b hk9r hV2 HB8 K7 V;go_wp2_with (first|(refine wpList_store_mid rfl 51 _ _ rfl k9 0 (aA F).toArray ?_ ?_ ?_ ?_ ?_ ?_;rfl;exact hvF.out.symm;exact HI.out.1;exact HI.out.2.1;exact eX F;rw[show(aA F).toArray.toList=aA F from rfl,hw9.out])|fail)
 clear hw9;refine(G6 w k6 k8 k9 x kk c w9.heap.size A F (.slice p1 n1 c1) A').last 7 (by kernel_rfl) (by kernel_rfl) (by kernel_rfl) ⟨
  RG.cE 46 6 rfl u40 fun a W hp=>⟨k6,0,wn x,hp.o 6 (by kernel_rfl),(hp.b.1.at 2 rfl).2.1,i40,rfl⟩,
  RG.bP fun a W hp=>⟨[],16,#[],trivial,by kernel_rfl,(GT HC.out.1 W).mono (by
   rintro e W' ⟨u,rfl,hb,rfl⟩;exact⟨_,rfl,hb,by rw[hAe.out];rfl⟩)⟩,
  RG.bP fun a W hp=>⟨[(25,nv x),(26,pvl A)],15,#[nv x,pvl A],⟨hp.n 0 25 (by kernel_rfl) (by kernel_rfl),hp.n 1 26 (by kernel_rfl) (by kernel_rfl),trivial⟩,by kernel_rfl,by
   rw[<-hAe.out];refine(vM HC.out.1 HC.out.2.1 HC.out.2.2.1 (nE HC.out.1) W).mono ?_;rintro e W' ⟨u,rfl,hb,rfl⟩;exact⟨_,rfl,hb,by rw[hAe'.out];rfl⟩⟩,
  RG.cE 51 9 rfl uCP fun a W hp=>⟨k9,0,aA F,hp.o 9 (by kernel_rfl),(hp.b.1.at 0 rfl).2.1,HI.out.2.2,rfl⟩,
  RG.bO fun a W hp=>⟨[(1,.slice p1 n1 c1)],.slice p1 n1 c1,W,⟨hp.o 1 (by kernel_rfl),trivial⟩,by kernel_rfl,Qd _ _,rfl⟩,
  RG.bP fun a W hp=>⟨[(27,pvl A'),(28,pvl F),(29,.slice p1 n1 c1)],17,#[pvl A',pvl F,.slice p1 n1 c1],⟨hp.n 2 27 (by kernel_rfl) (by kernel_rfl),hp.n 3 28 (by kernel_rfl) (by kernel_rfl),hp.n 4 29 (by kernel_rfl) (by kernel_rfl),trivial⟩,by kernel_rfl,by
   refine(yB HC.out.2.1 A' F HF.out.2 HF.out.1 p1 n1 c1 tx.toList W (HP.out.2.below hp.b.1.bl)).mono ?_;rintro e W' ⟨u,rfl,hb,rfl⟩;exact⟨_,rfl,hb,by rw[HQ.out];rfl⟩⟩,
  RG.bO fun a W hp=>⟨[],.pointer (some ⟨W.heap.size,0,none⟩),W.alloc (.cells #[.int .u64 0,.int .u64 0,.int .u64 0,.int .u64 0] 46),trivial,by kernel_rfl,aE _ _,W.heap.size,rfl,hp.b.2,aM W _ _⟩,trivial⟩ ⟨K9.out.drew,PQ _⟩ ?_
 intro V wa hRa hBa;obtain⟨k10,hk10,hk10b,hk10r⟩:=show Nw w9.heap.size [.int .u64 0,.int .u64 0,.int .u64 0,.int .u64 0] (V 6) wa from hRa 6 (by decide)
 have hV5:V 5=nv c:=hRa 5 (by decide);dsimp only[RG.fU,SE,WI,WM];obtain⟨vc,hvc⟩:∃v,Hid (nv c=v):=⟨_,rfl⟩
 rw[hk10,hV5,hvc.out];generalize V 0=s25;generalize V 1=s26;generalize V 2=s27;generalize V 3=s28;generalize V 4=s29;obtain⟨wb,hwb⟩:∃wb,Hid (wa.setCells k10 0 (wn c)=wb):=⟨_,rfl⟩
 have HBa:Hid (Kp w wa [(k9,aA F),(k8,wn kk),(k6,wn x)]/\w9.heap.size<=wa.heap.size):=hBa;have Kb:Hid (Kp w wb [(k10,wn c),(k9,aA F),(k8,wn kk),(k6,wn x)]):=by
  rw[<-hwb.out];refine HBa.out.1.put hk10r rfl (Qn K9.out.bl.size hk10b) fun y hy=>?_
  have h8:=(K9.out.rw y hy).1;omega
 have HJ:Hid (wa.there k10 0 [Value.int .u64 0,.int .u64 0,.int .u64 0,.int .u64 0].length):=hk10r.2.2;clear hRa hBa hk10 hk10b hk10r hV5 HBa K9 V;simp only[QR,Qm,QH,QM];go_wp2_with (first|(refine wpList_store_mid rfl 46 _ _ rfl k10 0 (wn c).toArray ?_ ?_ ?_ ?_ ?_ ?_;rfl;exact hvc.out.symm;exact HJ.out;exact i40;exact dK c;rw[show(wn c).toArray.toList=wn c from rfl,hwb.out])|fail)
 clear hwb HJ;refine(G7 w k6 k8 k9 k10 x kk c z w.heap.size F).draws (by kernel_rfl) (by kernel_rfl) ⟨
  RG.bO fun a W hp=>⟨[(9,.pointer (some ⟨k9,0,none⟩))],.slice (some ⟨k9,0,none⟩) 33 33,W,⟨hp.o 9 (by kernel_rfl),trivial⟩,by kernel_rfl,Qd _ _,rfl⟩,
  RG.cE 46 10 rfl u40 fun a W hp=>⟨k10,0,wn c,hp.o 10 (by kernel_rfl),(hp.b.1.at 0 rfl).2.1,i40,rfl⟩,
  RG.cE 46 8 rfl u40 fun a W hp=>⟨k8,0,wn kk,hp.o 8 (by kernel_rfl),(hp.b.1.at 2 rfl).2.1,i40,rfl⟩,
  RG.cE 46 6 rfl u40 fun a W hp=>⟨k6,0,wn x,hp.o 6 (by kernel_rfl),(hp.b.1.at 3 rfl).2.1,i40,rfl⟩,
  RG.bP fun a W hp=>⟨[(32,nv c),(33,nv kk),(34,nv x)],19,#[nv c,nv kk,nv x],⟨hp.n 1 32 (by kernel_rfl) (by kernel_rfl),hp.n 2 33 (by kernel_rfl) (by kernel_rfl),hp.n 3 34 (by kernel_rfl) (by kernel_rfl),trivial⟩,by kernel_rfl,by
   refine(Ic HC.out.2.1 HC.out.2.2.2.2.1 HC.out.2.2.2.1 HC.out.2.2.1 W).mono ?_;rintro e W' ⟨u,rfl,hb,rfl⟩;exact⟨_,rfl,hb,by rw[HC.out.2.2.2.2.2];rfl⟩⟩,
  RG.bP fun a W hp=>⟨[(35,nv z)],20,#[nv z],⟨hp.n 4 35 (by kernel_rfl) (by kernel_rfl),trivial⟩,by kernel_rfl,by
   refine(yA HC.out.2.1 (by rw[<-HC.out.2.2.2.2.2];exact RN _ HC.out.2.1.pos) W).mono ?_;rintro e W' ⟨u,rfl,k',hm,rfl⟩;exact⟨_,rfl,hm.bel,El.of_made hm (cN z)⟩⟩,
  RG.bO fun a W hp=>⟨[(31,.slice (some ⟨k9,0,none⟩) 33 33),(36,a.eval (.tmp 36))],.slice (some ⟨W.heap.size,0,none⟩) 2 2,W.alloc (.cells #[.slice (some ⟨k9,0,none⟩) 33 33,a.eval (.tmp 36)] 28),⟨hp.n 0 31 (by kernel_rfl) (by kernel_rfl),rfl,trivial⟩,by
   obtain⟨k',c',he,-⟩:=show El 32 W (a.eval (.tmp 36)) (bx z) from hp.n 5 36 (by kernel_rfl) (by kernel_rfl)
   rw[he];kernel_rfl,aE _ _,by
   have hE:=show El 32 W (a.eval (.tmp 36)) (bx z) from hp.n 5 36 (by kernel_rfl) (by kernel_rfl)
   refine⟨W.heap.size,a.eval (.tmp 36),rfl,by rw[Qa];omega,by rw[Qj];rfl,by rw[Qj];rfl,hE.below (aE _ _) (PQ _)⟩⟩,
  RG.bP fun a W hp=>⟨[(37,a.eval (.tmp 37))],18,#[a.eval (.tmp 37)],⟨rfl,trivial⟩,by kernel_rfl,by
   obtain⟨k',y,he,h1,h2,h3,h4⟩:=show Two k9 z (a.eval (.tmp 37)) W from hp.n 6 37 (by kernel_rfl) (by kernel_rfl)
   rw[he];have hF:=(hp.b.1.at 1 rfl:Row W k9 (aA F))
   refine(Hk k' 2 2 (fun j=>if j=0 then F else bx z) (by decide) (fun j hj=>?_) W h1 (fun j hj=>?_)).mono ?_
   ·split
    ·rw[HF.out.1];decide
    ·rw[cN];decide
   ·have hj2:j=0\/j=1:=by omega
    rcases hj2 with rfl|rfl
    ·exact⟨_,h2,k9,33,by rw[if_pos rfl,HF.out.1],by rw[if_pos rfl,HF.out.1];exact PQ _,rfl,hF.1,row_holds hF⟩
    ·refine⟨_,h3,?_⟩;show El (bx z).size W y (bx z);rw[cN];exact h4
   ·rintro e W' ⟨u,rfl,hb,ho⟩;refine⟨_,rfl,hb,?_⟩;have e1:gI (fun j=>if j=0 then F else bx z) 2=F.toList++(bx z).toList:=by
     rw[fN,fN];rfl
    rw[e1]at ho;have e2:(F.toList++(bx z).toList).length=65:=by
     rw[PY,show F.toList.length=33 from HF.out.1,show(bx z).toList.length=32 from cN z]
    rw[e2]at ho;exact⟨ho.1,ho.2.imp id fun⟨g,cap,cur,q1,q2,q3⟩=>⟨g,cap,cur,q1,Qn hp.b.2 q2,q3⟩⟩⟩,
  RG.bO fun a W hp=>⟨[(38,a.eval (.tmp 38))],a.eval (.tmp 38),W,⟨rfl,trivial⟩,by kernel_rfl,Qd _ _,hp.n 7 38 (by kernel_rfl) (by kernel_rfl)⟩,
  RG.bO fun a W hp=>⟨[],.int .i64 0,W,trivial,by kernel_rfl,Qd _ _,rfl⟩,trivial⟩ ⟨Kb.out.drew,Kb.out.bl.size⟩ ?_
 intro V wc hRc hBc;have hV9:V 9=.int .i64 0:=hRc 9 (SI (RQ (by kernel_rfl)));have HA8:Hid (Ans z w.heap.size F (V 8) wc):=hRc 8 (SI (RQ (by kernel_rfl)));have HBc:Hid (Below w.heap.size w wc):=hBc.1.bl;dsimp only[RG.fU,SE];simp only[QR,Qm,QH,QM];rw[hV9];generalize V 8=s8 at HA8⊢;clear hRc hBc Kb;go_wp2
 go_ret2
 exact⟨_,rfl,HBc.out,s8,rfl,HA8.out⟩
theorem Cb{rs:List (Nat × List Value)}{b:Nat}{x:Nat × List Value}(h:rs[b]? = some x):RG.ad (rs.map (·.1)) b=x.1:=by
 unfold RG.ad;rw[List.getD_eq_getElem?_getD,QX,h];rfl
theorem PH{P:Program}{Q:Exit->Act->World->Prop}{w0 w:World}{a:Act}{c:Code}{n:Nat}{rs:List (Nat × List Value)}(os:List (Tmp × RG.SV))(hK:Kp w0 w rs)(hge:∀x∈rs,w0.heap.size<=x.1)(hnd:(rs.map (·.1)).Nodup)
 (h:(os.map fun x=>a.tmps[x.1]?,a.tmps.size,a.defers)=(os.map fun x=>some (x.2.at (RG.ad (rs.map (·.1)))),n,[])) (hp:∀a,RG.M w0 w0.heap.size [] n (rs.map (·.2)) (rs.map (·.1)) os a w->c.wp P Q a w):c.wp P Q a w:=by
 simp only[Rz.injEq]at h;have hb:=hK.bl;refine hp a ⟨⟨⟨hb.os,hb.tape,hb.output,hb.size,fun j hj _=>hb.block j hj⟩,hb.size,by rw[Qb,Qb],?_,?_⟩,⟨h.2.1,h.2.2⟩,RG.Olds.mk' fun x hx=>List.map_inj_left.1 h.1 x hx⟩
 ·intro b c hb';rw[QX]at hb';obtain⟨x,hx,rfl⟩:=PV.1 hb';have hm:=List.mem_of_getElem? hx;have hR:=hK.rw x hm;rw[Cb hx];exact⟨hR.2.1,hR.2.2,hR.1,Ql (hge x hm)⟩
 ·intro b c hb' hc' hbc;rw[Qb]at hb' hc';have h1:=P6 hb';have h2:=P6 hc';rw[Cb h1,Cb h2];intro e;have hp:=List.pairwise_iff_getElem.1 hnd;rcases Nat.lt_or_gt_of_ne hbc with hlt|hlt
  ·exact hp b c (by rw[Qb];exact hb') (by rw[Qb];exact hc') hlt (by simpa using e)
  ·exact hp c b (by rw[Qb];exact hc') (by rw[Qb];exact hb') hlt (by simpa using e.symm)
theorem Pu{a b:Bs}(ha:a.size=33)(hb:b.size=33)(w:World):(binOp .eql 51 (pvl a) (pvl b)).run prog w=.ok (.bool (decide (a=b))) w:=by
 have h:=Mp ha hb w;have h2:(binOp .eql 51 (pvl a) (pvl b)).run prog w=(Op.equal 51 (pvl a) (pvl b) >>= fun b=>pure (Vv b)).run prog w:=rfl;rw[h2,Qi];unfold pvl;rw[h];rfl
theorem uSi:(prog.underlying 59).map (·.isRow)=some true:=by kernel_rfl
theorem iSi:(prog.info? 59).map (·.size)=some 74:=by kernel_rfl
def z74:List Value:=zz 66++RG.z 8
def sil(p f:Nat->UInt8)(c z:Nat):List Value:=lR p++(lR f++(wn c++wn z))
def siv(p f:Bs)(c z:Nat):Value:=.agg (aA p++(aA f++(wn c++wn z))).toArray
def Ol(p f:Nat->UInt8)(c z:Nat)(tx:Value):List RG.It:=[.x 31 [] (fpv p),.s 32 [] (.s 0 1 1),.s 33 [(32,1)] (.p 0 0),.x 34 [(33,2)] (fpv f),.x 35 [] (fpv p),.s 36 [] (.s 0 1 1),.s 37 [(36,5)] (.p 0 0),.x 38 [(37,6)] (fpv f),.x 39 [] tx,.c 40 [(35,4),(38,7),(39,8)] (nv c),.s 41 [] (.s 1 1 1),.s 42 [(41,10)] (.p 1 0),.x 43 [(42,11)] (nv z),.x 44 [(31,0),(34,3),(40,9),(43,12)] (.agg (sil p f c z).toArray),.u [(44,13)] 2,.x 7 [] (.bool true)]
noncomputable def rsC (N:Nat) (p sg:Bs) (tx:List UInt8):Nat:=asg N p.toList (sg.extract 0 33).toList tx
noncomputable def rsV (P:Nat) [NeZero P] (N:Nat) (p sg:Bs) (tx:List UInt8):Value:=
 if real P p && cY P N sg then .tuple #[siv p (sg.extract 0 33) (rsC N p sg tx) (nuV (sg.extract 33 65)),.bool true] else .tuple #[.agg z74.toArray,.bool false]
theorem vW(C:Fl3 P)(O:Ord N)(v0:Value)(t1:Option Addr)(n1 c1:Nat)(v2:Value)(p sg:Bs)(tx:List UInt8)(w:World)(h0:Arg33 w v0 p)(h1:SP.PartOk w (.slice t1 n1 c1) tx)(h2:SP.PartOk w v2 sg.toList):
 Calls prog 21 #[v0,.slice t1 n1 c1,v2] w (Ret fun e w'=>Below w.heap.size w w'/\e=rsV P N p sg tx):=by
 obtain⟨k6,hk6⟩:∃k6,Hid (w.heap.size=k6):=⟨_,rfl⟩
 obtain⟨w1,hw1⟩:∃w1,Hid (w.alloc (.cells z74.toArray 59)=w1):=⟨_,rfl⟩
 have K1:Hid (Kp w w1 [(k6,z74)]):=by
  have hR:Row w1 k6 z74:=by rw[<-hw1.out,<-hk6.out];exact aM w _ _
  exact Kp.cons ⟨by rw[<-hw1.out];exact aE _ _,fun x hx=>by cases hx⟩ hR
 have HS:=Hid.mk' (IZ C.toFld v0 p w1 (h0.below K1.out.bl));obtain⟨B,hB⟩:∃B,Hid (rdB P p=B):=⟨_,rfl⟩
 obtain⟨ok,hok⟩:∃ok,Hid (real P p=ok):=⟨_,rfl⟩
 have HB:Hid (B.size=33):=by rw[<-hB.out];exact rD p
 rw[hB.out,hok.out]at HS;obtain⟨vB,hvB⟩:∃vB,Hid (pvl B=vB):=⟨_,rfl⟩
 rw[hvB.out]at HS;have H1:Hid (SP.PartOk w (.slice t1 n1 c1) tx):=h1;have H2:Hid (SP.PartOk w v2 sg.toList):=h2;have HC:Hid (Fl3 P/\Ord N):=⟨C,O⟩
 clear h0 h1 h2 C O;go_enter Tryz.func21,Tryz.ntmps21;go_wp2_with (refine aQ (v:=.pointer (some ⟨k6,0,none⟩)) (w':=w1) rfl (.alloc 59) rfl ?_ ?_;(rw[<-hw1.out,<-hk6.out];kernel_rfl))
 refine HS.out.mono ?_;clear HS;rintro e w2 ⟨vv,rfl,hb2,rfl⟩;have K2:Hid (Kp w w2 [(k6,z74)]):=K1.out.grow hb2;obtain⟨k8,hk8⟩:∃k8,Hid (w2.heap.size=k8):=⟨_,rfl⟩
 obtain⟨w3,hw3⟩:∃w3,Hid (w2.alloc (.cells z33.toArray 51)=w3):=⟨_,rfl⟩
 obtain⟨w4,hw4⟩:∃w4,Hid (w3.setCells k8 0 (aA B)=w4):=⟨_,rfl⟩
 have hlen:(aA B).length=33:=aF HB.out;have F3:Hid (Row w3 k8 z33/\Kp w w3 [(k6,z74)]/\k6<k8/\w.heap.size<=k6):=by
  have hlt:=(K2.out.at 0 rfl).1;refine⟨by rw[<-hw3.out,<-hk8.out];exact aM w2 _ _,by rw[<-hw3.out];exact K2.out.grow (aE _ _),by rw[<-hk8.out];exact hlt,by rw[hk6.out];exact PQ _⟩
 have K4:Hid (Kp w w4 [(k8,aA B),(k6,z74)]/\k6<k8/\w.heap.size<=k6/\k8<w4.heap.size):=by
  have hk:Kp w w4 [(k8,aA B),(k6,z74)]:=by
   rw[<-hw4.out];refine F3.out.2.1.put F3.out.1 (by rw[hlen];rfl) (Qn F3.out.2.2.2 (Nat.le_of_lt F3.out.2.2.1)) (fun x hx=>?_);rw[Rj.1 hx];exact Rf F3.out.2.2.1
  exact⟨hk,F3.out.2.2.1,F3.out.2.2.2,(hk.at 0 rfl).1⟩
 have HI:Hid ((prog.info? 51).map (·.size)=some (aA B).toArray.size/\w3.there k8 0 (aA B).toArray.size):=by
  have hsz:(aA B).toArray.size=33:=by rw[QB];exact hlen
  rw[hsz];exact⟨aW,F3.out.1.2.2⟩
 have hrp:=tK HC.out.1.toFld HC.out.2 v2 sg w4 (H2.out.below K4.out.1.bl);clear hb2 hlen K1 K2;go_wp2_with (first|(refine aQ (v:=.pointer (some ⟨k8,0,none⟩)) (w':=w3) rfl (.alloc 51) rfl ?_ ?_;(rw[<-hw3.out,<-hk8.out];kernel_rfl))|(refine wpList_store_mid rfl 51 _ _ rfl k8 0 (aA B).toArray ?_ ?_ ?_ ?_ ?_ ?_;rfl;exact hvB.out.symm;exact HI.out.2;exact HI.out.1;exact eX B;rw[show(aA B).toArray.toList=aA B from rfl,hw4.out])|fail)
 refine hrp.mono ?_;clear hrp HI F3 hw3 hw4 hk8 hw1 hk6;rintro e w5 ⟨vv,rfl,hb5,hor⟩;have K5:Hid (Kp w w5 [(k8,aA B),(k6,z74)]):=K4.out.1.grow hb5;have HZ:Hid (z74.toArray.all (·.oneCell')=true/\(prog.info? 59).map (·.size)=some z74.toArray.size/\w5.there k6 0 z74.toArray.size):=⟨by decide +kernel,iSi,(K5.out.at 1 rfl).2.2⟩
 obtain⟨vZ,hvZ⟩:∃vZ,Hid (QD z74.toArray=vZ):=⟨_,rfl⟩
 obtain⟨w6,hw6⟩:∃w6,Hid (w5.setCells k6 0 z74=w6):=⟨_,rfl⟩
 have K6:Hid (Row w6 k6 z74/\Below w.heap.size w w6):=by
  rw[<-hw6.out];exact⟨(K5.out.at 1 rfl).put rfl,RG.below_setCells K4.out.2.2.1 _ _ _ K5.out.bl⟩
 rcases hor with⟨hT,K,k,rfl,hK1,hKk,hk2,hK3,hK4,hk3,hk4⟩|⟨hT,q1,q2,rfl⟩
 ·cases ok with
  | true =>
   have hBp:B=p:=by rw[<-hB.out];unfold rdB;rw[if_pos (mV hok.out)]
   have sp:=CB hok.out;have hT':=hT;unfold cY at hT';simp only[P3,decide_eq_true_eq]at hT';have sf:(sg.extract 0 33).size=33:=by rw[QQ];omega
   have hV:Hid (rsV P N p sg tx=.tuple #[siv p (sg.extract 0 33) (rsC N p sg tx) (nuV (sg.extract 33 65)),.bool true]):=by
    show _=_;unfold rsV;rw[hok.out,hT];rfl
   have hA:∀W,RG.BelX w.heap.size [] w W->Calls prog 17 #[pvl p,pvl (sg.extract 0 33),.slice t1 n1 c1] W (Ret fun e w'=>Below W.heap.size W w'/\e=nv (rsC N p sg tx)):=fun W hW=>by
    unfold rsC;exact yB HC.out.2 p (sg.extract 0 33) sp sf t1 n1 c1 tx W (H1.out.below hW.below)
   have hKp:Kp w w5 [(K,aA (sg.extract 0 33)),(k,wn (nuV (sg.extract 33 65))),(k6,z74),(k8,aA B)]:=by
    have r1:=K5.out.at 0 rfl;have r2:=K5.out.at 1 rfl;refine Kp.cons (Kp.cons (Kp.cons (Kp.cons ⟨K5.out.bl,fun x hx=>by cases hx⟩ r1) r2) ⟨hk2,hk3,hk4⟩) ⟨Nat.lt_trans hKk hk2,hK3,?_⟩;rw[aF sf];exact hK4
   have hge:w4.heap.size<=K/\K<k/\w.heap.size<=k6/\k6<k8/\k8<w4.heap.size:=⟨hK1,hKk,K4.out.2.2.1,K4.out.2.1,K4.out.2.2.2⟩
   rw[hBp]at hKp;rw[AV sp,AV sf]at hA;unfold siv at hV;rw[nP sp,nP sf]at hV hKp;clear hT' hT hK1 hK3 hK4 hk3 hk4 hk2 hKk sp sf hBp;generalize rsC N p sg tx=cc at hA hV;generalize nuV (sg.extract 33 65)=zc at hKp hV;generalize (fun i:Nat=>p[i]!)=p0 at hA hV hKp;generalize (fun i:Nat=>(sg.extract 0 33)[i]!)=f0 at hA hV hKp;have HALL:Hid ((∀W,RG.BelX w.heap.size [] w W->Calls prog 17 #[fpv p0,fpv f0,.slice t1 n1 c1] W (Ret fun e w'=>Below W.heap.size W w'/\e=nv cc))/\Kp w w5 [(K,lR f0),(k,wn zc),(k6,z74),(k8,lR p0)]/\(w4.heap.size<=K/\K<k/\w.heap.size<=k6/\k6<k8/\k8<w4.heap.size)):=⟨hA,hKp,hge⟩
   clear hA hKp hge K4 K5 K6 HZ hb5;go_wp2_with fail
   obtain⟨hA,hKp,hge⟩:=HALL.out;refine PH (n:=45) [(1,.v (.slice t1 n1 c1)),(6,.p 2 0),(8,.p 3 0),(10,.s 0 1 1),(11,.s 1 1 1)] hKp (fun x hx=>?_) ?_ (by kernel_rfl) ?_
   ·simp only[QU,P4,or_false]at hx;rcases hx with rfl|rfl|rfl|rfl<;>simp only<;>omega
   ·simp only[List.map_cons,List.map_nil,List.nodup_cons,QU,P4,or_false,not_false_eq_true,List.nodup_nil,and_true];omega
   intro a0 M0;refine M0.d (Ol p0 f0 cc zc (.slice t1 n1 c1)) [] [(2,14,sil p0 f0 cc zc)] [lR f0,wn zc,sil p0 f0 cc zc,lR p0] [(6,.p 2 0),(7,.v (.bool true))] ⟨RG.ld uCP aW,RG.st,RG.st,RG.ld uCP aW,RG.ld uCP aW,RG.st,RG.st,RG.ld uCP aW,RG.st,RG.clB (fun _ _=>by kernel_rfl) hA,RG.st,RG.st,RG.ld u40 i40,RG.st,RG.pt iSi,RG.st,trivial⟩ ?_;intro a1 w7 M1
   rename_i KK ha
   refine ha _ _ ?_;refine wp_ret ?_;have h2:=M1.st.has 2 _ rfl;refine bodyPost_ret (v:=.tuple #[.agg (sil p0 f0 cc zc).toArray,.bool true]) (fR 6 7 59 rfl (vs:=sil p0 f0 cc zc) ⟨h2.2.2.1,h2.1,h2.2.1⟩ (M1.at (s:=.p 2 0)) M1.av uSi iSi) M1.sl.defers ?_;exact⟨_,rfl,M1.st.bel.below,by rw[hV.out];rfl⟩
  | false =>
   have hV:Hid (rsV P N p sg tx=.tuple #[.agg z74.toArray,.bool false]):=by
    show _=_;unfold rsV;rw[hok.out];rfl
   clear hT hK1 hKk hk2 hK3 hK4 hk3 hk4 K5 hb5 K4;go_wp2_with (first|(refine aQ (v:=vZ) (w':=w5) rfl (.build 59 #[]) rfl ?_ ?_;(rw[<-hvZ.out];kernel_rfl))|(refine wpList_store_mid rfl 59 _ _ rfl k6 0 z74.toArray ?_ ?_ ?_ ?_ ?_ ?_;rfl;exact hvZ.out.symm;exact HZ.out.2.2;exact HZ.out.2.1;exact HZ.out.1;rw[show z74.toArray.toList=z74 from rfl,hw6.out])|fail)
   refine bodyPost_ret (v:=.tuple #[.agg z74.toArray,.bool false]) (fR 6 7 59 rfl K6.out.1 rfl rfl uSi iSi) rfl ?_;exact⟨_,rfl,K6.out.2,by rw[hV.out]⟩
 ·have hV:Hid (rsV P N p sg tx=.tuple #[.agg z74.toArray,.bool false]):=by
   show _=_;unfold rsV;rw[hT,Vy];rfl
  clear hT K5 hb5 K4;cases ok<;>go_wp2_with (first|(refine aQ (v:=vZ) (w':=w5) rfl (.build 59 #[]) rfl ?_ ?_;(rw[<-hvZ.out];kernel_rfl))|(refine wpList_store_mid rfl 59 _ _ rfl k6 0 z74.toArray ?_ ?_ ?_ ?_ ?_ ?_;rfl;exact hvZ.out.symm;exact HZ.out.2.2;exact HZ.out.2.1;exact HZ.out.1;rw[show z74.toArray.toList=z74 from rfl,hw6.out])|fail)
  all_goals refine bodyPost_ret (v:=.tuple #[.agg z74.toArray,.bool false]) (fR 6 7 59 rfl K6.out.1 rfl rfl uSi iSi) rfl ?_
  all_goals exact⟨_,rfl,K6.out.2,by rw[hV.out]⟩
end
section
open Go.RowKit Go.Sort Go.Deep
variable {P:Nat}[NeZero P]{N:Nat}
def trm(N:Nat)(E:Nat->BtE P):Nat->List (Nat × Bs)
 | 0=>[]
 | i+1=>trm N E i++[((E i).w,wr (E i).F)]++[(sTi N (E i).w (E i).c,wr (E i).Q)]
def ent(E:Nat->BtE P)(n:Nat):List (BtE P):=(QJ n).map E
omit [NeZero P] in
theorem kS(E:Nat->BtE P)(n:Nat):ent E (n+1)=ent E n++[E n]:=by unfold ent;rw[List.range_succ,List.map_append];rfl
omit [NeZero P] in
theorem vK(E:Nat->BtE P):∀n,(trm N E n).length=2*n
 | 0=>rfl
 | n+1=>by rw[trm,PY,PY,vK E n,Rq,Rq];omega
omit [NeZero P] in
theorem Fo(E:Nat->BtE P):∀n,∀x∈trm N E n,x.2.size=33
 | 0,x,h=>by cases h
 | n+1,x,h=>by
  rw[trm,Rv,Rv,Rj,Rj]at h;rcases h with(h|rfl)|rfl
  ·exact Fo E n x h
  ·exact aX _
  ·exact aX _
theorem qY(O:Ord N)(a b:Nat):sTi N a b<N:=RN _ (by have:=O.pos;omega)
omit [NeZero P] in
theorem Fl(O:Ord N)(E:Nat->BtE P)(hE:∀i,(E i).w<N):∀n,∀x∈trm N E n,x.1<N
 | 0,x,h=>by cases h
 | n+1,x,h=>by
  rw[trm,Rv,Rv,Rj,Rj]at h;rcases h with(h|rfl)|rfl
  ·exact Fl O E hE n x h
  ·exact hE n
  ·exact qY O _ _
theorem Co(C:Fld P)(E:Nat->BtE P):∀n,(∀i,i<n->(E i).Good)->PtsL P (trm N E n)/\fF P (trm N E n)=btR N (ent E n)
 | 0,_=>⟨fun x hx=>absurd hx P4,rfl⟩
 | n+1,h=>by
  obtain⟨hp,hs⟩:=Co C E n (fun i hi=>h i (by omega));obtain⟨h1,h2⟩:=h n (by omega);have p1:PtsL P (trm N E n++[((E n).w,wr (E n).F)]):=fun x hx=>by
   rcases Rv.1 hx with hx|hx
   ·exact hp x hx
   ·rw[Rj.1 hx];exact⟨_,h1,rfl⟩
  refine⟨fun x hx=>?_,?_⟩
  ·rw[trm]at hx;rcases Rv.1 hx with hx|hx
   ·exact p1 x hx
   ·rw[Rj.1 hx];exact⟨_,h2,rfl⟩
  ·have u1:=dS C h1;have u2:=dS C h2;rw[trm,lC C _ (by rw[u2];exact h2) p1,lC C _ (by rw[u1];exact h1) hp,u1,u2,hs,kS,nN];refine C.cur.assoc (Hv C _ fun e he=>?_) (EC.bI C.cur h1 _) (EC.bI C.cur h2 _);unfold ent at he;obtain⟨i,hi,rfl⟩:=QZ.1 he;exact h i (by have:=Rh.1 hi;omega)
def SmY(B:Nat)(W:World)(v:Value)(l:List (Nat × Bs)):Prop:=(v=.slice none 0 0/\l=[])\/(0<l.length/\Sm B W v l)
theorem SmY.z{B:Nat}{W:World}{v:Value}{l:List (Nat × Bs)}(h:SmY B W v l):SmZ B W v l:=by
 rcases h with h|h
 ·exact Ql h
 ·exact Qc h.2
theorem SmY.grow{B:Nat}{W W':World}{v:Value}{l:List (Nat × Bs)}(h:SmY B W v l)(hb:Below W.heap.size W W'):SmY B W' v l:=by
 rcases h with h|h
 ·exact Ql h
 ·exact Qc ⟨h.1,h.2.grow hb⟩
theorem SmY.point(C:Fld P)(O:Ord N)(hord:∀r:EC.Pt P,EC.On r->EC.mul N r=none){B:Nat}{w:World}{v:Value}{l:List (Nat × Bs)}(h:SmY B w v l)(hl:l.length<=512)(hn:∀x∈l,x.1<N)(hp:PtsL P l):
 Calls prog 48 #[v] w (Ret fun e w'=>Below w.heap.size w w'/\e=pvl (wr (fF P l))):=by
 rcases h with⟨rfl,rfl⟩|⟨h0,h⟩
 ·exact Em C O w
 ·exact h.point C O hord h0 hl hn hp
structure RtB(w W:World)(k5 k8 k9 a x:Nat)(p f:Bs)(c z:Nat)(v6:Value)(T:List (Nat × Bs)):Prop where
 bl:Below w.heap.size w W
 r5:Row W k5 (wn a)
 r8:Row W k8 (aA p++(aA f++(wn c++wn z)))
 r9:Row W k9 (wn x)
 sm:SmY (k5+1) W v6 T
theorem RtB.grow{w W W':World}{k5 k8 k9 a x:Nat}{p f:Bs}{c z:Nat}{v6:Value}{T:List (Nat × Bs)}(h:RtB w W k5 k8 k9 a x p f c z v6 T)(hb:Below W.heap.size W W'):RtB w W' k5 k8 k9 a x p f c z v6 T:=
 ⟨h.bl.trans (hb.mono h.bl.size),h.r5.below hb,h.r8.below hb,h.r9.below hb,h.sm.grow hb⟩
theorem RtB.drew{w W:World}{k5 k8 k9 a x:Nat}{p f:Bs}{c z:Nat}{v6:Value}{T:List (Nat × Bs)}(h:RtB w W k5 k8 k9 a x p f c z v6 T):RtB w W.drew k5 k8 k9 a x p f c z v6 T:=⟨h.bl.drew,h.r5,h.r8,h.r9,h.sm.grow ⟨rfl,rfl,rfl,PQ _,fun _ _=>rfl⟩⟩
theorem oG{W:World}{k o:Nat}{xs ys:List Value}(h:W.rangeAt k o (xs++ys)):W.rangeAt k o xs:=fun j v hj=>h j v (by rw[List.getElem?_append_left (Qe.1 hj).1];exact hj)
theorem q9{W:World}{k o m:Nat}{xs ys:List Value}(h:W.rangeAt k o (xs++ys))(hm:o+xs.length=m):W.rangeAt k m ys:=fun j v hj=>by
 have:=h (xs.length+j) v (by rw[List.getElem?_append_right (by omega),Nat.add_sub_cancel_left];exact hj);rw[<-RO,hm]at this;exact this
theorem RtB.pq{w W:World}{k5 k8 k9 a x:Nat}{p f:Bs}{c z:Nat}{v6:Value}{T:List (Nat × Bs)}(h:RtB w W k5 k8 k9 a x p f c z v6 T)(hp:p.size=33)(hf:f.size=33):W.rangeAt k8 0 (aA p)/\W.rangeAt k8 33 (aA f)/\W.rangeAt k8 66 (wn c)/\W.rangeAt k8 70 (wn z):=by
 have h1:=q9 h.r8.2.1 (m:=33) (by rw[aF hp]);have h2:=q9 h1 (m:=66) (by rw[aF hf]);exact⟨oG h.r8.2.1,oG h1,oG h2,q9 h2 (m:=70) rfl⟩
section
variable (w:World) (k5 k8 k9 a x:Nat) (p f:Bs) (c z:Nat) (v6:Value) (T:List (Nat × Bs))
def RB7(N:Nat):Nat->Value->World->Prop
 | 0,v,_=>v=nv a
 | 1,v,_=>v=nv x
 | 2,v,_=>v=.pointer (some ⟨k8,70,none⟩)
 | 3,v,_=>v=nv z
 | 4,v,_=>v=nv (sTi N x z)
 | 5,v,_=>v=nv (sPl N a (sTi N x z))
 | _,_,_=>True
theorem Kd{i:Nat}{v:Value}{W W':World}(h:RB7 k8 a x z N i v W):RB7 k8 a x z N i v W':=by
 match i,h with
 | 0,h=>exact h
 | 1,h=>exact h
 | 2,h=>exact h
 | 3,h=>exact h
 | 4,h=>exact h
 | 5,h=>exact h
 | _+6,_=>trivial
def GB7(N:Nat):RG.Gw:=⟨RB7 k8 a x z N,fun W=>RtB w W k5 k8 k9 a x p f c z v6 T,fun _ _ _ _ _ h=>Kd k8 a x z h,fun _ _ hb h=>h.grow hb⟩
def RB8(N:Nat):Nat->Value->World->Prop
 | 0,v,_=>v=v6
 | 1,v,_=>v=.pointer (some ⟨k8,33,none⟩)
 | 2,v,_=>v=pvl f
 | 3,v,_=>v=nv x
 | 4,v,W=>Sm (k5+1) W v [(x,f)]
 | 5,v,W=>Sm (k5+1) W v (T++[(x,f)])
 | 6,v,_=>v=.pointer (some ⟨k8,0,none⟩)
 | 7,v,_=>v=pvl p
 | 8,v,_=>v=nv x
 | 9,v,_=>v=.pointer (some ⟨k8,66,none⟩)
 | 10,v,_=>v=nv c
 | 11,v,_=>v=nv (sTi N x c)
 | 12,v,W=>Sm (k5+1) W v [(sTi N x c,p)]
 | 13,v,W=>Sm (k5+1) W v (T++[(x,f)]++[(sTi N x c,p)])
 | 14,v,W=>Sm (k5+1) W v (T++[(x,f)]++[(sTi N x c,p)])
 | _,_,_=>True
theorem Ih{i:Nat}{v:Value}{W W':World}(hb:Below W.heap.size W W')(h:RB8 k5 k8 x p f c v6 T N i v W):RB8 k5 k8 x p f c v6 T N i v W':=by
 match i,h with
 | 0,h=>exact h
 | 1,h=>exact h
 | 2,h=>exact h
 | 3,h=>exact h
 | 4,h=>exact Sm.grow h hb
 | 5,h=>exact Sm.grow h hb
 | 6,h=>exact h
 | 7,h=>exact h
 | 8,h=>exact h
 | 9,h=>exact h
 | 10,h=>exact h
 | 11,h=>exact h
 | 12,h=>exact Sm.grow h hb
 | 13,h=>exact Sm.grow h hb
 | 14,h=>exact Sm.grow h hb
 | _+15,_=>trivial
def GB8(N:Nat):RG.Gw:=⟨RB8 k5 k8 x p f c v6 T N,fun W=>RtB w W k5 k8 k9 a x p f c z v6 T,fun _ _ _ _ hb h=>Ih k5 k8 x p f c v6 T hb h,fun _ _ hb h=>h.grow hb⟩
end
section
variable (w:World) (k5 a:Nat) (A g B:Bs) (b:Bool) (v6:Value) (T:List (Nat × Bs))
def MR:Nat->Value->World->Prop
 | 0,v,_=>v=v6
 | 1,v,_=>v=pvl A
 | 2,v,_=>v=nv a
 | 3,v,_=>v=pvl g
 | 4,v,_=>v=pvl B
 | 5,v,_=>v=.bool b
 | 6,v,_=>v=.bool b
 | _,_,_=>True
theorem Ii{i:Nat}{v:Value}{W W':World}(h:MR a A g B b v6 i v W):MR a A g B b v6 i v W':=by
 match i,h with
 | 0,h=>exact h
 | 1,h=>exact h
 | 2,h=>exact h
 | 3,h=>exact h
 | 4,h=>exact h
 | 5,h=>exact h
 | 6,h=>exact h
 | _+7,_=>trivial
def PI:RG.Gw:=⟨MR a A g B b v6,fun W=>Below w.heap.size w W/\Row W k5 (wn a)/\SmY (k5+1) W v6 T,fun _ _ _ _ _ h=>Ii a A g B b v6 h,fun _ _ hb h=>⟨h.1.trans (hb.mono h.1.size),h.2.1.below hb,h.2.2.grow hb⟩⟩
end
omit [NeZero P] in
theorem wY(O:Ord N)(E:Nat->BtE P):∀n,btL N (ent E n)<N
 | 0=>O.pos
 | n+1=>by rw[kS,nO];exact RN _ O.pos
theorem NU(g n c i:Nat)(hi:i<n)(w:World):(QV 57 (.slice (some ⟨g,0,none⟩) n c) (.int .i64 i)).run prog w=.ok (.pointer (some ⟨g,74*i,none⟩)) w:=by
 have h1:¬(i:Int)<0:=by omega
 have h2:(i:Int)<(n:Int):=by omega
 go_simp
theorem uF{p f:Bs}(hp:p.size=33)(hf:f.size=33)(c z:Nat):(aA p++(aA f++(wn c++wn z))).length=74:=by
 rw[PY,PY,aF hp,aF hf];rfl
theorem D5(p f:Bs)(c z:Nat):(aA p++(aA f++(wn c++wn z))).toArray.all (·.oneCell')=true:=by
 rw[Array.all_eq_true'];intro u hu;have hu:=List.mem_toArray.1 hu;rcases Rv.1 hu with h|h
 ·exact cells_one 0 p u (UD _ h)
 ·rcases Rv.1 h with h|h
  ·exact cells_one 0 f u (UD _ h)
  ·rcases Rv.1 h with h|h
   ·exact cells_one c #[] u (UI _ h)
   ·exact cells_one z #[] u (UI _ h)
theorem FS(C:Fld P)(O:Ord N)(hord:∀r:EC.Pt P,EC.On r->EC.mul N r=none)(E:Nat->BtE P)(n:Nat)(hn:n<=64)(ga gw:Nat)(w:World)(hga:0<n->ga<w.heap.size)(hgw:0<n->gw<w.heap.size)
 (hA:∀j,j<n->w.rangeAt ga (74*j) (aA (wr (E j).Q)++(aA (wr (E j).F)++(wn (E j).c++wn (E j).z)))) (hW:∀j,j<n->w.rangeAt gw (4*j) (wn (E j).w)) (hE:∀j,(E j).w<N/\(E j).z<N/\(E j).c<N) (hG:∀j,j<n->(E j).Good) :
 Calls prog 22 #[.slice (some ⟨ga,0,none⟩) n n,.slice (some ⟨gw,0,none⟩) n n] w (Ret fun e w'=>Below w.heap.size w w'/\e=.bool (decide (EC.mul (btL N (ent E n)) (gG P)=btR N (ent E n)))):=by
 have HH:Hid ((0<n->ga<w.heap.size)/\(0<n->gw<w.heap.size)/\(∀j,j<n->w.rangeAt ga (74*j) (aA (wr (E j).Q)++(aA (wr (E j).F)++(wn (E j).c++wn (E j).z))))/\(∀j,j<n->w.rangeAt gw (4*j) (wn (E j).w))/\(∀j,(E j).w<N/\(E j).z<N/\(E j).c<N)/\(∀j,j<n->(E j).Good)):=⟨hga,hgw,hA,hW,hE,hG⟩
 have HC:Hid (Fld P/\Ord N/\∀r:EC.Pt P,EC.On r->EC.mul N r=none):=⟨C,O,hord⟩
 obtain⟨bb,hbb⟩:∃bb,Hid (decide (EC.mul (btL N (ent E n)) (gG P)=btR N (ent E n))=bb):=⟨_,rfl⟩
 rw[hbb.out];obtain⟨k5,hk5⟩:∃k5,Hid (w.heap.size=k5):=⟨_,rfl⟩
 obtain⟨w1,hw1⟩:∃w1,Hid (w.alloc (.cells (wn 0).toArray 46)=w1):=⟨_,rfl⟩
 have K1:Hid (Below w.heap.size w w1/\Row w1 k5 (wn (btL N (ent E 0)))/\SmY (k5+1) w1 (.slice none 0 0) (trm N E 0)):=by
  refine⟨by rw[<-hw1.out];exact aE _ _,by rw[<-hw1.out,<-hk5.out];exact aM w _ _,Ql ⟨rfl,rfl⟩⟩
 obtain⟨d4,hd1,hd2⟩:=PV.1 u40;obtain⟨d74,hd3,hd4⟩:=PV.1 uSi;have HD:Hid ((prog.underlying 46=some d4/\d4.isRow=true)/\prog.underlying 59=some d74/\d74.isRow=true):=⟨⟨hd1,hd2⟩,hd3,hd4⟩
 clear hga hgw hA hW hE hG hd1 hd2 hd3 hd4 C O hord;go_enter Tryz.func22,Tryz.ntmps22;go_wp2_with (first|(refine aQ (v:=.pointer (some ⟨k5,0,none⟩)) (w':=w1) rfl (.alloc 46) rfl ?_ ?_;(rw[<-hw1.out,<-hk5.out];kernel_rfl))|fail)
 clear hw1;go_loopg [6,12] n (fun gk s6 s12 wr=>∃i:Nat,i+gk=n/\s12=.int .i64 i/\Hid (Below w.heap.size w wr/\Row wr k5 (wn (btL N (ent E i)))/\SmY (k5+1) wr s6 (trm N E i)))
 case atStart=>exact⟨0,PU _,rfl,K1⟩
 case round =>
  clear K1;obtain⟨i,hi,rfl,KM⟩:=hrel;by_cases hlt:i<n
  ·have hlt':(i:Int)<(n:Int):=by omega
   obtain⟨hga,hgw,hA,hW,hE,hG⟩:=HH.out;have hga:=hga (by omega);have hgw:=hgw (by omega);have hA:=RG.range_below (hA i hlt) KM.out.1 hga;have hW:=RG.range_below (hW i hlt) KM.out.1 hgw;obtain⟨ew,ez,ec⟩:=hE i;have HB:Hid (btL N (ent E (i+1))=sPl N (btL N (ent E i)) (sTi N (E i).w (E i).z)/\trm N E (i+1)=trm N E i++[((E i).w,Go.Proofs.YtfcnimopdjjhcaaGreat.wr (E i).F)]++[(sTi N (E i).w (E i).c,Go.Proofs.YtfcnimopdjjhcaaGreat.wr (E i).Q)]/\btL N (ent E i)<N/\(trm N E i).length=2*i/\∀y∈trm N E i,y.2.size=33):=⟨by rw[kS,nO],rfl,wY HC.out.2.1 E i,vK E i,Fo E i⟩
   have sp:(Go.Proofs.YtfcnimopdjjhcaaGreat.wr (E i).Q).size=33:=aX _;have sf:(Go.Proofs.YtfcnimopdjjhcaaGreat.wr (E i).F).size=33:=aX _;generalize Go.Proofs.YtfcnimopdjjhcaaGreat.wr (E i).Q=p at hA HB sp;generalize Go.Proofs.YtfcnimopdjjhcaaGreat.wr (E i).F=f at hA HB sf;generalize (E i).w=x at hW HB ew;generalize (E i).z=z at hA HB ez;generalize (E i).c=c at hA HB ec;obtain⟨a,ha⟩:∃a,Hid (btL N (ent E i)=a):=⟨_,rfl⟩
   obtain⟨T,hT⟩:∃T,Hid (trm N E i=T):=⟨_,rfl⟩
   rw[ha.out,hT.out]at HB KM;have HN:Hid (x<N/\z<N/\c<N/\p.size=33/\f.size=33/\i<64):=⟨ew,ez,ec,sp,sf,by omega⟩
   obtain⟨R,hR⟩:∃R,Hid (aA p++(aA f++(wn c++wn z))=R):=⟨_,rfl⟩
   have HRl:Hid (R.length=74/\R.toArray.all (·.oneCell')=true):=by rw[<-hR.out];exact⟨uF sp sf c z,D5 p f c z⟩
   rw[hR.out]at hA;have HA:=Hid.mk' hA;have HW:=Hid.mk' hW;obtain⟨vR,hvR⟩:∃vR,Hid (QD R.toArray=vR):=⟨_,rfl⟩
   obtain⟨vx,hvx⟩:∃vx,Hid (nv x=vx):=⟨_,rfl⟩
   obtain⟨k8,hk8⟩:∃k8,Hid (wr.heap.size=k8):=⟨_,rfl⟩
   obtain⟨W1,hW1⟩:∃W1,Hid (wr.alloc (.cells z74.toArray 59)=W1):=⟨_,rfl⟩
   obtain⟨W2,hW2⟩:∃W2,Hid (W1.setCells k8 0 R=W2):=⟨_,rfl⟩
   have F1:Hid (Row W1 k8 z74/\Below wr.heap.size wr W1):=by rw[<-hW1.out,<-hk8.out];exact⟨aM wr _ _,aE wr _⟩
   have F2:Hid (Row W2 k8 R/\Below wr.heap.size wr W2):=by rw[<-hW2.out];exact⟨F1.out.1.put (by rw[HRl.out.1];rfl),RG.below_setCells (by rw[hk8.out];exact PQ _) _ _ _ F1.out.2⟩
   have HW2:Hid (W2.rangeAt gw (4*i) (wn x)):=RG.range_below HW.out F2.out.2 (PS hgw KM.out.1.size);obtain⟨k9,hk9⟩:∃k9,Hid (W2.heap.size=k9):=⟨_,rfl⟩
   obtain⟨W3,hW3⟩:∃W3,Hid (W2.alloc (.cells (wn 0).toArray 46)=W3):=⟨_,rfl⟩
   obtain⟨W4,hW4⟩:∃W4,Hid (W3.setCells k9 0 (wn x)=W4):=⟨_,rfl⟩
   have F3:Hid (Row W3 k9 (wn 0)/\Below W2.heap.size W2 W3):=by rw[<-hW3.out,<-hk9.out];exact⟨aM W2 _ _,aE W2 _⟩
   have F4:Hid (Row W4 k9 (wn x)/\Below W2.heap.size W2 W4):=by rw[<-hW4.out];exact⟨F3.out.1.put rfl,RG.below_setCells (by rw[hk9.out];exact PQ _) _ _ _ F3.out.2⟩
   have K4:Hid (RtB w W4 k5 k8 k9 a x p f c z u6 T):=by
    have b24:=F4.out.2;have b02:=F2.out.2;refine⟨KM.out.1.trans ((b02.trans (b24.mono b02.size)).mono KM.out.1.size),(KM.out.2.1.below b02).below b24,?_,F4.out.1,(KM.out.2.2.grow b02).grow b24⟩;rw[hR.out];exact F2.out.1.below b24
   have HI:Hid ((prog.info? 59).map (·.size)=some R.length/\(prog.info? 59).map (·.size)=some R.toArray.size/\W1.there k8 0 R.toArray.size):=by
    have e:R.toArray.size=74:=by rw[QB];exact HRl.out.1
    rw[e,HRl.out.1];exact⟨iSi,iSi,F1.out.1.2.2⟩
   have hix1:=NU ga n n i hlt;have hix2:=Kz gw n n i hlt;have HK:Hid (w.heap.size<=k5/\k5≠k8/\k5≠k9):=by
    have h1:=KM.out.2.1.1;have h2:=F2.out.2.size;rw[hk8.out]at h1 h2;rw[hk9.out]at h2;exact⟨by rw[hk5.out];exact PQ _,by omega,by omega⟩
   clear hA hW hE hG ew ez ec sp sf hga hgw F2 F4 KM;go_wp2_with (first|(refine wpList_load_mid rfl 59 _ rfl ga (74*i) ?_ R d74 ?_ ?_ ?_ ?_ ?_;rfl;exact HA.out;exact HD.out.2.1;exact HD.out.2.2;exact HI.out.1;rw[hvR.out])|(refine aQ (v:=.pointer (some ⟨k8,0,none⟩)) (w':=W1) rfl (.alloc 59) rfl ?_ ?_;(rw[<-hW1.out,<-hk8.out];kernel_rfl))|(refine wpList_store_mid rfl 59 _ _ rfl k8 0 R.toArray ?_ ?_ ?_ ?_ ?_ ?_;rfl;exact hvR.out.symm;exact HI.out.2.2;exact HI.out.2.1;exact HRl.out.2;rw[show R.toArray.toList=R from rfl,hW2.out])|(refine wpList_load_mid rfl 46 _ rfl gw (4*i) ?_ (wn x) d4 ?_ ?_ ?_ ?_ ?_;rfl;exact HW2.out;exact HD.out.1.1;exact HD.out.1.2;exact i40;rw[show QD (wn x).toArray=vx from hvx.out])|(refine aQ (v:=.pointer (some ⟨k9,0,none⟩)) (w':=W3) rfl (.alloc 46) rfl ?_ ?_;(rw[<-hW3.out,<-hk9.out];kernel_rfl))|(refine wpList_store_mid rfl 46 _ _ rfl k9 0 (wn x).toArray ?_ ?_ ?_ ?_ ?_ ?_;rfl;exact hvx.out.symm;exact F3.out.1.2.2;exact i40;exact dK x;rw[show(wn x).toArray.toList=wn x from rfl,hW4.out])|fail)
   clear HA HW HW2 HI hix1 hix2 F1 F3 hW1 hW2 hW3 hW4 hk8 hk9 hvR hvx HRl hR;refine(GB7 w k5 k8 k9 a x p f c z u6 T N).last 6 (by kernel_rfl) (by kernel_rfl) (by kernel_rfl) ⟨
    RG.cE 46 5 rfl Go.Proofs.YtfcnimopdjjhcaaGreat.u40 fun a' W hp=>⟨k5,0,wn a,hp.o 5 (by kernel_rfl),hp.b.r5.2.1,i40,rfl⟩,
    RG.cE 46 9 rfl Go.Proofs.YtfcnimopdjjhcaaGreat.u40 fun a' W hp=>⟨k9,0,wn x,hp.o 9 (by kernel_rfl),hp.b.r9.2.1,i40,rfl⟩,
    RG.bO fun a' W hp=>⟨[(8,.pointer (some ⟨k8,0,none⟩))],.pointer (some ⟨k8,70,none⟩),W,⟨hp.o 8 (by kernel_rfl),trivial⟩,by kernel_rfl,Qd _ _,rfl⟩,
    RG.cE 46 23 rfl Go.Proofs.YtfcnimopdjjhcaaGreat.u40 fun a' W hp=>⟨k8,70,wn z,hp.n 2 23 (by kernel_rfl) (by kernel_rfl),(hp.b.pq HN.out.2.2.2.1 HN.out.2.2.2.2.1).2.2.2,i40,rfl⟩,
    RG.bP fun a' W hp=>⟨[(22,nv x),(24,nv z)],54,#[nv x,nv z],⟨hp.n 1 22 (by kernel_rfl) (by kernel_rfl),hp.n 3 24 (by kernel_rfl) (by kernel_rfl),trivial⟩,by kernel_rfl,(AB HC.out.2.1 x z HN.out.1 HN.out.2.1 W).mono (by
     rintro e W' ⟨u,rfl,hb,rfl⟩;exact⟨_,rfl,hb,rfl⟩)⟩,
    RG.bP fun a' W hp=>⟨[(21,nv a),(25,nv (sTi N x z))],53,#[nv a,nv (sTi N x z)],⟨hp.n 0 21 (by kernel_rfl) (by kernel_rfl),hp.n 4 25 (by kernel_rfl) (by kernel_rfl),trivial⟩,by kernel_rfl,(AD HC.out.2.1 a (sTi N x z) HB.out.2.2.1 (qY HC.out.2.1 _ _) W).mono (by
     rintro e W' ⟨u,rfl,hb,rfl⟩;exact⟨_,rfl,hb,rfl⟩)⟩,trivial⟩ K4.out.drew ?_
   intro V W5 hR5 hB5;obtain⟨a2,ha2⟩:∃a2,Hid (sPl N a (sTi N x z)=a2):=⟨_,rfl⟩
   have hV5:V 5=nv (sPl N a (sTi N x z)):=hR5 5 (by decide);rw[ha2.out]at hV5;obtain⟨W6,hW6⟩:∃W6,Hid (W5.setCells k5 0 (wn a2)=W6):=⟨_,rfl⟩
   have K6:Hid (RtB w W6 k5 k8 k9 a2 x p f c z u6 T):=by
    rw[<-hW6.out];refine⟨RG.below_setCells HK.out.1 _ _ _ hB5.bl,hB5.r5.put rfl,hB5.r8.other HK.out.2.1.symm,hB5.r9.other HK.out.2.2.symm,?_⟩;rcases hB5.sm with h|⟨h0,g,cc,q1,q2,q3,q4,q5⟩
    ·exact Ql h
    ·exact Qc ⟨h0,g,cc,q1,q2,q3,by rw[RG.setCells_size];exact q4,World.rangeAt_setCells_apart q5 k5 0 _ (Ql (by omega))⟩
   have HTH:Hid (W5.there k5 0 4):=hB5.r5.2.2;clear hR5 hB5 K4;dsimp only[RG.fU,SE,WI,WM];simp only[QR,Qm,QH,QM];obtain⟨vz,hvz⟩:∃v,Hid (nv a2=v):=⟨_,rfl⟩
   rw[hV5,hvz.out];clear hV5;generalize V 0=s0;generalize V 1=s1;generalize V 2=s2;generalize V 3=s3;generalize V 4=s4;go_wp2_with (first|(refine wpList_store_mid rfl 46 _ _ rfl k5 0 (wn a2).toArray ?_ ?_ ?_ ?_ ?_ ?_;rfl;exact hvz.out.symm;exact HTH.out;exact i40;exact dK a2;rw[show(wn a2).toArray.toList=wn a2 from rfl,hW6.out])|fail)
   clear HTH hW6;refine(GB8 w k5 k8 k9 a2 x p f c z u6 T N).draws (by kernel_rfl) (by kernel_rfl) ⟨
    RG.bO fun a' W hp=>⟨[(6,u6)],u6,W,⟨hp.o 6 (by kernel_rfl),trivial⟩,by kernel_rfl,Qd _ _,rfl⟩,
    RG.bO fun a' W hp=>⟨[(8,.pointer (some ⟨k8,0,none⟩))],.pointer (some ⟨k8,33,none⟩),W,⟨hp.o 8 (by kernel_rfl),trivial⟩,by kernel_rfl,Qd _ _,rfl⟩,
    RG.cE 51 28 rfl Go.Proofs.YtfcnimopdjjhcaaGreat.uCP fun a' W hp=>⟨k8,33,aA f,hp.n 1 28 (by kernel_rfl) (by kernel_rfl),(hp.b.pq HN.out.2.2.2.1 HN.out.2.2.2.2.1).2.1,by rw[aF HN.out.2.2.2.2.1];exact aW,rfl⟩,
    RG.cE 46 9 rfl Go.Proofs.YtfcnimopdjjhcaaGreat.u40 fun a' W hp=>⟨k9,0,wn x,hp.o 9 (by kernel_rfl),hp.b.r9.2.1,i40,rfl⟩,
    RG.bP fun a' W hp=>⟨[(29,pvl f),(30,nv x)],47,#[pvl f,nv x],⟨hp.n 2 29 (by kernel_rfl) (by kernel_rfl),hp.n 3 30 (by kernel_rfl) (by kernel_rfl),trivial⟩,by kernel_rfl,(oQ f HN.out.2.2.2.2.1 x W).mono (by
     rintro e W' ⟨u,rfl,hb,k,rfl,hk,hR⟩;exact⟨_,rfl,hb,Sm.one hR (Qn hp.b.r5.1 hk) rfl⟩)⟩,
    RG.bP fun a' W hp=>⟨[(27,u6),(31,a'.eval (.tmp 31))],57,#[u6,a'.eval (.tmp 31)],⟨hp.n 0 27 (by kernel_rfl) (by kernel_rfl),rfl,trivial⟩,by kernel_rfl,(qR (k5+1) u6 (a'.eval (.tmp 31)) T [(x,f)] (by rw[PY,Rq];omega) (by rw[HB.out.2.2.2.1];have:=HN.out.2.2.2.2.2;omega) (by rw[Rq];omega) HB.out.2.2.2.2 (fun y hy=>by rw[Rj.1 hy];exact HN.out.2.2.2.2.1) W hp.b.sm.z (Qc (hp.n 4 31 (by kernel_rfl) (by kernel_rfl)))).mono (by
     rintro e W' ⟨u,rfl,hb,g,cc,q1,q2,q3,q4⟩;exact⟨_,rfl,hb,g,cc,q1,q2,Qn hp.b.r5.1 q3,q4⟩)⟩,
    RG.bO fun a' W hp=>⟨[(8,.pointer (some ⟨k8,0,none⟩))],.pointer (some ⟨k8,0,none⟩),W,⟨hp.o 8 (by kernel_rfl),trivial⟩,by kernel_rfl,Qd _ _,rfl⟩,
    RG.cE 51 33 rfl Go.Proofs.YtfcnimopdjjhcaaGreat.uCP fun a' W hp=>⟨k8,0,aA p,hp.n 6 33 (by kernel_rfl) (by kernel_rfl),(hp.b.pq HN.out.2.2.2.1 HN.out.2.2.2.2.1).1,by rw[aF HN.out.2.2.2.1];exact aW,rfl⟩,
    RG.cE 46 9 rfl Go.Proofs.YtfcnimopdjjhcaaGreat.u40 fun a' W hp=>⟨k9,0,wn x,hp.o 9 (by kernel_rfl),hp.b.r9.2.1,i40,rfl⟩,
    RG.bO fun a' W hp=>⟨[(8,.pointer (some ⟨k8,0,none⟩))],.pointer (some ⟨k8,66,none⟩),W,⟨hp.o 8 (by kernel_rfl),trivial⟩,by kernel_rfl,Qd _ _,rfl⟩,
    RG.cE 46 36 rfl Go.Proofs.YtfcnimopdjjhcaaGreat.u40 fun a' W hp=>⟨k8,66,wn c,hp.n 9 36 (by kernel_rfl) (by kernel_rfl),(hp.b.pq HN.out.2.2.2.1 HN.out.2.2.2.2.1).2.2.1,i40,rfl⟩,
    RG.bP fun a' W hp=>⟨[(35,nv x),(37,nv c)],54,#[nv x,nv c],⟨hp.n 8 35 (by kernel_rfl) (by kernel_rfl),hp.n 10 37 (by kernel_rfl) (by kernel_rfl),trivial⟩,by kernel_rfl,(AB HC.out.2.1 x c HN.out.1 HN.out.2.2.1 W).mono (by
     rintro e W' ⟨u,rfl,hb,rfl⟩;exact⟨_,rfl,hb,rfl⟩)⟩,
    RG.bP fun a' W hp=>⟨[(34,pvl p),(38,nv (sTi N x c))],47,#[pvl p,nv (sTi N x c)],⟨hp.n 7 34 (by kernel_rfl) (by kernel_rfl),hp.n 11 38 (by kernel_rfl) (by kernel_rfl),trivial⟩,by kernel_rfl,(oQ p HN.out.2.2.2.1 (sTi N x c) W).mono (by
     rintro e W' ⟨u,rfl,hb,k,rfl,hk,hR⟩;exact⟨_,rfl,hb,Sm.one hR (Qn hp.b.r5.1 hk) rfl⟩)⟩,
    RG.bP fun a' W hp=>⟨[(32,a'.eval (.tmp 32)),(39,a'.eval (.tmp 39))],57,#[a'.eval (.tmp 32),a'.eval (.tmp 39)],⟨rfl,rfl,trivial⟩,by kernel_rfl,(qR (k5+1) (a'.eval (.tmp 32)) (a'.eval (.tmp 39)) (T++[(x,f)]) [(sTi N x c,p)] (by rw[PY,Rq];omega) (by rw[PY,Rq,HB.out.2.2.2.1];have:=HN.out.2.2.2.2.2;omega) (by rw[Rq];omega) (fun y hy=>by
     rcases Rv.1 hy with hy|hy
     ·exact HB.out.2.2.2.2 y hy
     ·rw[Rj.1 hy];exact HN.out.2.2.2.2.1) (fun y hy=>by rw[Rj.1 hy];exact HN.out.2.2.2.1) W (Qc (hp.n 5 32 (by kernel_rfl) (by kernel_rfl))) (Qc (hp.n 12 39 (by kernel_rfl) (by kernel_rfl)))).mono (by
     rintro e W' ⟨u,rfl,hb,g,cc,q1,q2,q3,q4⟩;exact⟨_,rfl,hb,g,cc,q1,q2,Qn hp.b.r5.1 q3,q4⟩)⟩,
    RG.bO fun a' W hp=>⟨[(40,a'.eval (.tmp 40))],a'.eval (.tmp 40),W,⟨rfl,trivial⟩,by kernel_rfl,Qd _ _,hp.n 13 40 (by kernel_rfl) (by kernel_rfl)⟩,trivial⟩ K6.out.drew ?_
   intro V2 W7 hR7 hB7;have hs14:Sm (k5+1) W7 (V2 14) (T++[(x,f)]++[(sTi N x c,p)]):=hR7 14 (SI (RQ (by kernel_rfl)));have K7:Hid (Below w.heap.size w W7/\Row W7 k5 (wn (btL N (ent E (i+1))))/\SmY (k5+1) W7 (V2 14) (trm N E (i+1))):=by
    rw[HB.out.1,HB.out.2.1,ha2.out];exact⟨hB7.bl,hB7.r5,Qc ⟨by rw[PY,Rq];omega,hs14⟩⟩
   clear hR7 hB7 hs14 K6;dsimp only[RG.fU,SE];simp only[QR,Qm,QH,QM];generalize V2 14=t14 at K7⊢;generalize V2 0=t0;generalize V2 1=t1;generalize V2 2=t2;generalize V2 3=t3;generalize V2 4=t4;generalize V2 5=t5;generalize V2 6=t6;generalize V2 7=t7;generalize V2 8=t8;generalize V2 9=t9;generalize V2 10=t10;generalize V2 11=t11;generalize V2 12=t12;generalize V2 13=t13;go_wp2;go_roundg (gk-1)
   case measure=>omega
   case rel=>exact⟨i+1,by omega,rfl,K7⟩
  ·have hlt':¬(i:Int)<(n:Int):=by omega
   obtain rfl:i=n:=by omega
   obtain⟨C,O,hord⟩:=HC.out;obtain⟨-,-,-,-,hE,hG⟩:=HH.out;obtain⟨hp,hs⟩:=Co (N:=N) C E i hG;have hRon:=Hv (N:=N) C (ent E i) fun e he=>by
    unfold ent at he;obtain⟨j,hj,rfl⟩:=QZ.1 he;exact hG j (Rh.1 hj)
   have hGon:=nE C;have hLon:=EC.bI C.cur hGon (btL N (ent E i));have HF:Hid (btL N (ent E i)<N/\EC.On (gG P)/\(trm N E i).length<=512/\(∀y∈trm N E i,y.1<N)/\PtsL P (trm N E i)/\fF P (trm N E i)=btR N (ent E i)):=⟨wY O E i,hGon,by rw[vK];omega,Fl O E (fun j=>(hE j).1) i,hp,hs⟩
   have hdec:decide (Go.Proofs.YtfcnimopdjjhcaaGreat.wr (btR N (ent E i))=Go.Proofs.YtfcnimopdjjhcaaGreat.wr (EC.mul (btL N (ent E i)) (gG P)))=decide (EC.mul (btL N (ent E i)) (gG P)=btR N (ent E i)):=by
    refine decide_eq_decide.2 ⟨fun h=>?_,fun h=>by rw[h]⟩;rw[<-dS C hLon,<-dS C hRon,h]
   have HDD:=Hid.mk' (hdec.trans hbb.out);clear hbb hdec hp hs hRon hGon hLon hE hG;generalize btR N (ent E i)=RR at HF HDD;generalize btL N (ent E i)=a at HF KM HDD;generalize trm N E i=T at HF KM;go_wp2_with fail
   refine(PI w k5 a (Go.Proofs.YtfcnimopdjjhcaaGreat.wr RR) (Go.Proofs.YtfcnimopdjjhcaaGreat.wr (gG P)) (Go.Proofs.YtfcnimopdjjhcaaGreat.wr (EC.mul a (gG P))) bb u6 T).draws (by kernel_rfl) (by kernel_rfl) ⟨
    RG.bO fun a' W hp=>⟨[(6,u6)],u6,W,⟨hp.o 6 (by kernel_rfl),trivial⟩,by kernel_rfl,Qd _ _,rfl⟩,
    RG.bP fun a' W hp=>⟨[(42,u6)],48,#[u6],⟨hp.n 0 42 (by kernel_rfl) (by kernel_rfl),trivial⟩,by kernel_rfl,(hp.b.2.2.point C O hord HF.out.2.2.1 HF.out.2.2.2.1 HF.out.2.2.2.2.1).mono (by
     rintro e W' ⟨u,rfl,hb,rfl⟩;exact⟨_,rfl,hb,by rw[HF.out.2.2.2.2.2];rfl⟩)⟩,
    RG.cE 46 5 rfl Go.Proofs.YtfcnimopdjjhcaaGreat.u40 fun a' W hp=>⟨k5,0,wn a,hp.o 5 (by kernel_rfl),hp.b.2.1.2.1,i40,rfl⟩,
    RG.bP fun a' W hp=>⟨[],16,#[],trivial,by kernel_rfl,(GT C W).mono (by
     rintro e W' ⟨u,rfl,hb,rfl⟩;exact⟨_,rfl,hb,rfl⟩)⟩,
    RG.bP fun a' W hp=>⟨[(44,nv a),(45,pvl (Go.Proofs.YtfcnimopdjjhcaaGreat.wr (gG P)))],15,#[nv a,pvl (Go.Proofs.YtfcnimopdjjhcaaGreat.wr (gG P))],⟨hp.n 2 44 (by kernel_rfl) (by kernel_rfl),hp.n 3 45 (by kernel_rfl) (by kernel_rfl),trivial⟩,by kernel_rfl,(vM C O HF.out.1 HF.out.2.1 W).mono (by
     rintro e W' ⟨u,rfl,hb,rfl⟩;exact⟨_,rfl,hb,rfl⟩)⟩,
    RG.Mk .eql 51 51 43 46 rfl fun a' W hp=>⟨_,_,_,hp.n 1 43 (by kernel_rfl) (by kernel_rfl),hp.n 4 46 (by kernel_rfl) (by kernel_rfl),by kernel_rfl,by rw[<-HDD.out];exact Pu (aX _) (aX _) W,rfl⟩,
    RG.bO fun a' W hp=>⟨[(47,.bool bb)],.bool bb,W,⟨hp.n 5 47 (by kernel_rfl) (by kernel_rfl),trivial⟩,by kernel_rfl,Qd _ _,rfl⟩,trivial⟩ ⟨KM.out.1.drew,KM.out.2.1,KM.out.2.2.grow ⟨rfl,rfl,rfl,PQ _,fun _ _=>rfl⟩⟩ ?_
   intro V W8 hR8 hB8;have hV6:V 6=.bool bb:=hR8 6 (SI (RQ (by kernel_rfl)));have K8:Hid (Below w.heap.size w W8):=hB8.1;clear hR8 hB8;dsimp only[RG.fU,SE];simp only[QR,Qm,QH,QM];rw[hV6];clear hV6;generalize V 0=s0;generalize V 1=s1;generalize V 2=s2;generalize V 3=s3;generalize V 4=s4;generalize V 5=s5;go_wp2;go_ret;exact⟨_,rfl,K8.out,rfl⟩
end
section
open Go.RowKit Go.Sort Go.Deep
variable {P:Nat}[NeZero P]{N:Nat}
theorem u54:(prog.underlying 73).map (·.isRow)=some true:=by kernel_rfl
theorem i54:(prog.info? 73).map (·.size)=some 12:=by kernel_rfl
theorem Eg(C:Fl3 P)(x1 y1 z1 x2 y2 z2:Fin P)(hz1:z1=0)(hz2:z2=0):Gives 37 #[(rv x1 y1 z1),(rv x2 y2 z2)] (.bool true):=by
 intro w;go_enter Tryz.func37,Tryz.ntmps37;refine RG.M.enter [(0,(.v (rv x1 y1 z1))),(1,(.v (rv x2 y2 z2)))] 47 (by kernel_rfl) ?_;intro a0 M0;repeat refine wp_seq ?_
 refine M0.t [.m 2 [] 0,.m 3 [] 1,.x 4 [] (.bool false)] [(0,(ws x1++(ws y1++(ws z1)))),(1,(ws x2++(ws y2++(ws z2))))] [] [(ws x1++(ws y1++(ws z1))),(ws x2++(ws y2++(ws z2)))] [(2,(.p 0 0)),(3,(.p 1 0)),(4,(.v (.bool false)))] ⟨RG.mk 0 73,RG.mk 1 73,RG.st,trivial⟩ ?_;intro j1 i1 a1 w1 M1;repeat refine wp_seq ?_
 refine M1.u [.x 7 [] (rv x1 y1 z1),.c 8 [(7,0)] (.bool true),.x 5 [(8,1)] (.bool true)] [(3,(.p 1 0)),(4,(.v (.bool false))),(5,(.v (.bool true)))] ⟨RG.ld u54 i54,RG.cl (mI C x1 y1 z1 hz1),RG.st,trivial⟩ ?_;intro a2 w2 M2;repeat refine wp_seq ?_
 refine M2.u [.x 9 [] (rv x2 y2 z2),.c 10 [(9,0)] (.bool true),.x 6 [(10,1)] (.bool true)] [(4,(.v (.bool false))),(5,(.v (.bool true))),(6,(.v (.bool true)))] ⟨RG.ld u54 i54,RG.cl (mI C x2 y2 z2 hz2),RG.st,trivial⟩ ?_;intro a3 w3 M3;repeat refine wp_seq ?_
 refine M3.u [.x 11 [] (.bool true),.x 12 [(11,0)] (.bool true),⟨some 13,[],(.v undef),.pass⟩,.x 14 [(12,1),(13,2)] (.bool true)] [(4,(.v (.bool false))),(5,(.v (.bool true))),(6,(.v (.bool true))),(14,(.v (.bool true)))] ⟨RG.st,RG.st,RG.aH rfl rfl,RG.st,trivial⟩ ?_;intro a4 w4 M4;repeat refine wp_seq ?_
 refine wp_cond_true M4.ev ?_;repeat refine wp_seq ?_
 refine M4.u [.x 15 [] (.bool true),.x 16 [(15,0)] (.bool true),.x 17 [] (.bool true),.x 18 [(16,1),(17,2)] (.bool true),.x 4 [(18,3)] (.bool true)] [(4,(.v (.bool true)))] ⟨RG.st,RG.st,RG.st,RG.st,RG.st,trivial⟩ ?_;intro a5 w5 M5;refine wp_ret ?_;refine bodyPost_ret (v:=(.bool true)) (RG.bM 4 rfl _ (M5.at (s:=(.v (.bool true))))) M5.sl.defers ?_;exact⟨_,rfl,M5.st.bel.below,rfl⟩
theorem Ef(C:Fl3 P)(x1 y1 z1 x2 y2 z2:Fin P)(hz1:z1=0)(hz2:¬z2=0):Gives 37 #[(rv x1 y1 z1),(rv x2 y2 z2)] (.bool false):=by
 intro w;go_enter Tryz.func37,Tryz.ntmps37;refine RG.M.enter [(0,(.v (rv x1 y1 z1))),(1,(.v (rv x2 y2 z2)))] 47 (by kernel_rfl) ?_;intro a0 M0;repeat refine wp_seq ?_
 refine M0.t [.m 2 [] 0,.m 3 [] 1,.x 4 [] (.bool false)] [(0,(ws x1++(ws y1++(ws z1)))),(1,(ws x2++(ws y2++(ws z2))))] [] [(ws x1++(ws y1++(ws z1))),(ws x2++(ws y2++(ws z2)))] [(2,(.p 0 0)),(3,(.p 1 0)),(4,(.v (.bool false)))] ⟨RG.mk 0 73,RG.mk 1 73,RG.st,trivial⟩ ?_;intro j1 i1 a1 w1 M1;repeat refine wp_seq ?_
 refine M1.u [.x 7 [] (rv x1 y1 z1),.c 8 [(7,0)] (.bool true),.x 5 [(8,1)] (.bool true)] [(3,(.p 1 0)),(4,(.v (.bool false))),(5,(.v (.bool true)))] ⟨RG.ld u54 i54,RG.cl (mI C x1 y1 z1 hz1),RG.st,trivial⟩ ?_;intro a2 w2 M2;repeat refine wp_seq ?_
 refine M2.u [.x 9 [] (rv x2 y2 z2),.c 10 [(9,0)] (.bool false),.x 6 [(10,1)] (.bool false)] [(4,(.v (.bool false))),(5,(.v (.bool true))),(6,(.v (.bool false)))] ⟨RG.ld u54 i54,RG.cl (gK C x2 y2 z2 hz2),RG.st,trivial⟩ ?_;intro a3 w3 M3;repeat refine wp_seq ?_
 refine M3.u [.x 11 [] (.bool true),.x 12 [(11,0)] (.bool true),⟨some 13,[],(.v undef),.pass⟩,.x 14 [(12,1),(13,2)] (.bool true)] [(4,(.v (.bool false))),(5,(.v (.bool true))),(6,(.v (.bool false))),(14,(.v (.bool true)))] ⟨RG.st,RG.st,RG.aH rfl rfl,RG.st,trivial⟩ ?_;intro a4 w4 M4;repeat refine wp_seq ?_
 refine wp_cond_true M4.ev ?_;repeat refine wp_seq ?_
 refine M4.u [.x 15 [] (.bool true),.x 16 [(15,0)] (.bool true),.x 17 [] (.bool false),.x 18 [(16,1),(17,2)] (.bool false),.x 4 [(18,3)] (.bool false)] [(4,(.v (.bool false)))] ⟨RG.st,RG.st,RG.st,RG.st,RG.st,trivial⟩ ?_;intro a5 w5 M5;refine wp_ret ?_;refine bodyPost_ret (v:=(.bool false)) (RG.bM 4 rfl _ (M5.at (s:=(.v (.bool false))))) M5.sl.defers ?_;exact⟨_,rfl,M5.st.bel.below,rfl⟩
theorem Ee(C:Fl3 P)(x1 y1 z1 x2 y2 z2:Fin P)(hz1:¬z1=0)(hz2:z2=0):Gives 37 #[(rv x1 y1 z1),(rv x2 y2 z2)] (.bool false):=by
 intro w;go_enter Tryz.func37,Tryz.ntmps37;refine RG.M.enter [(0,(.v (rv x1 y1 z1))),(1,(.v (rv x2 y2 z2)))] 47 (by kernel_rfl) ?_;intro a0 M0;repeat refine wp_seq ?_
 refine M0.t [.m 2 [] 0,.m 3 [] 1,.x 4 [] (.bool false)] [(0,(ws x1++(ws y1++(ws z1)))),(1,(ws x2++(ws y2++(ws z2))))] [] [(ws x1++(ws y1++(ws z1))),(ws x2++(ws y2++(ws z2)))] [(2,(.p 0 0)),(3,(.p 1 0)),(4,(.v (.bool false)))] ⟨RG.mk 0 73,RG.mk 1 73,RG.st,trivial⟩ ?_;intro j1 i1 a1 w1 M1;repeat refine wp_seq ?_
 refine M1.u [.x 7 [] (rv x1 y1 z1),.c 8 [(7,0)] (.bool false),.x 5 [(8,1)] (.bool false)] [(3,(.p 1 0)),(4,(.v (.bool false))),(5,(.v (.bool false)))] ⟨RG.ld u54 i54,RG.cl (gK C x1 y1 z1 hz1),RG.st,trivial⟩ ?_;intro a2 w2 M2;repeat refine wp_seq ?_
 refine M2.u [.x 9 [] (rv x2 y2 z2),.c 10 [(9,0)] (.bool true),.x 6 [(10,1)] (.bool true)] [(4,(.v (.bool false))),(5,(.v (.bool false))),(6,(.v (.bool true)))] ⟨RG.ld u54 i54,RG.cl (mI C x2 y2 z2 hz2),RG.st,trivial⟩ ?_;intro a3 w3 M3;repeat refine wp_seq ?_
 refine M3.u [.x 11 [] (.bool false),.x 12 [(11,0)] (.bool false),.x 13 [] (.bool true),.x 14 [(12,1),(13,2)] (.bool true)] [(4,(.v (.bool false))),(5,(.v (.bool false))),(14,(.v (.bool true)))] ⟨RG.st,RG.st,RG.st,RG.st,trivial⟩ ?_;intro a4 w4 M4;repeat refine wp_seq ?_
 refine wp_cond_true M4.ev ?_;repeat refine wp_seq ?_
 refine M4.u [.x 15 [] (.bool false),.x 16 [(15,0)] (.bool false),⟨some 17,[],(.v undef),.pass⟩,.x 18 [(16,1),(17,2)] (.bool false),.x 4 [(18,3)] (.bool false)] [(4,(.v (.bool false)))] ⟨RG.st,RG.st,RG.aH rfl rfl,RG.st,RG.st,trivial⟩ ?_;intro a5 w5 M5;refine wp_ret ?_;refine bodyPost_ret (v:=(.bool false)) (RG.bM 4 rfl _ (M5.at (s:=(.v (.bool false))))) M5.sl.defers ?_;exact⟨_,rfl,M5.st.bel.below,rfl⟩
theorem Ed(C:Fl3 P)(x1 y1 z1 x2 y2 z2:Fin P)(hz1:¬z1=0)(hz2:¬z2=0)(hx:x1*z2=x2*z1)(hy:y1*z2=y2*z1):Gives 37 #[(rv x1 y1 z1),(rv x2 y2 z2)] (.bool true):=by
 intro w;obtain⟨c1,hc1⟩:∃c,c=x1*z2:=⟨_,rfl⟩
 obtain⟨c2,hc2⟩:∃c,c=x2*z1:=⟨_,rfl⟩
 obtain⟨c3,hc3⟩:∃c,c=y1*z2:=⟨_,rfl⟩
 obtain⟨c4,hc4⟩:∃c,c=y2*z1:=⟨_,rfl⟩
 go_enter Tryz.func37,Tryz.ntmps37;refine RG.M.enter [(0,(.v (rv x1 y1 z1))),(1,(.v (rv x2 y2 z2)))] 47 (by kernel_rfl) ?_;intro a0 M0;repeat refine wp_seq ?_
 refine M0.t [.m 2 [] 0,.m 3 [] 1,.x 4 [] (.bool false)] [(0,(ws x1++(ws y1++(ws z1)))),(1,(ws x2++(ws y2++(ws z2))))] [] [(ws x1++(ws y1++(ws z1))),(ws x2++(ws y2++(ws z2)))] [(2,(.p 0 0)),(3,(.p 1 0)),(4,(.v (.bool false)))] ⟨RG.mk 0 73,RG.mk 1 73,RG.st,trivial⟩ ?_;intro j1 i1 a1 w1 M1;repeat refine wp_seq ?_
 refine M1.u [.x 7 [] (rv x1 y1 z1),.c 8 [(7,0)] (.bool false),.x 5 [(8,1)] (.bool false)] [(2,(.p 0 0)),(3,(.p 1 0)),(4,(.v (.bool false))),(5,(.v (.bool false)))] ⟨RG.ld u54 i54,RG.cl (gK C x1 y1 z1 hz1),RG.st,trivial⟩ ?_;intro a2 w2 M2;repeat refine wp_seq ?_
 refine M2.u [.x 9 [] (rv x2 y2 z2),.c 10 [(9,0)] (.bool false),.x 6 [(10,1)] (.bool false)] [(2,(.p 0 0)),(3,(.p 1 0)),(4,(.v (.bool false))),(5,(.v (.bool false))),(6,(.v (.bool false)))] ⟨RG.ld u54 i54,RG.cl (gK C x2 y2 z2 hz2),RG.st,trivial⟩ ?_;intro a3 w3 M3;repeat refine wp_seq ?_
 refine M3.u [.x 11 [] (.bool false),.x 12 [(11,0)] (.bool false),.x 13 [] (.bool false),.x 14 [(12,1),(13,2)] (.bool false)] [(2,(.p 0 0)),(3,(.p 1 0)),(4,(.v (.bool false))),(14,(.v (.bool false)))] ⟨RG.st,RG.st,RG.st,RG.st,trivial⟩ ?_;intro a4 w4 M4;repeat refine wp_seq ?_
 refine wp_cond_false M4.ev ?_;refine wp_skip ?_;repeat refine wp_seq ?_
 refine M4.e [.c 19 [] rv0,.s 20 [] (.p 0 0),.x 21 [(20,1)] (fv x1),.s 22 [] (.p 1 8),.x 23 [(22,3)] (fv z2),.c 24 [(19,0),(21,2),(23,4)] (fv c1),.c 25 [] rv0,.s 26 [] (.p 1 0),.x 27 [(26,7)] (fv x2),.s 28 [] (.p 0 8),.x 29 [(28,9)] (fv z1),.c 30 [(25,6),(27,8),(29,10)] (fv c2),.x 31 [(24,5),(30,11)] (.bool true),.x 32 [(31,12)] (.bool true),.c 33 [] rv0,.s 34 [] (.p 0 4),.x 35 [(34,15)] (fv y1),.s 36 [] (.p 1 8),.x 37 [(36,17)] (fv z2),.c 38 [(33,14),(35,16),(37,18)] (fv c3),.c 39 [] rv0,.s 40 [] (.p 1 4),.x 41 [(40,21)] (fv y2),.s 42 [] (.p 0 8),.x 43 [(42,23)] (fv z1),.c 44 [(39,20),(41,22),(43,24)] (fv c4),.x 45 [(38,19),(44,25)] (.bool true),.x 46 [(32,13),(45,26)] (.bool true),.x 4 [(46,27)] (.bool true)] [(4,(.v (.bool true)))] ⟨RG.cl (bE),RG.st,RG.ld u44 i44,RG.st,RG.ld u44 i44,RG.cl ((aS C x1 z2).e hc1),RG.cl (bE),RG.st,RG.ld u44 i44,RG.st,RG.ld u44 i44,RG.cl ((aS C x2 z1).e hc2),RG.aG rfl .eql 68 68 24 30 (fv c1) (fv c2) (.bool true) rfl rfl RG.sx RG.sx (fun w=>by kernel_rfl) (Dd C.toFld (by subst_vars;exact hx)),RG.st,RG.cl (bE),RG.st,RG.ld u44 i44,RG.st,RG.ld u44 i44,RG.cl ((aS C y1 z2).e hc3),RG.cl (bE),RG.st,RG.ld u44 i44,RG.st,RG.ld u44 i44,RG.cl ((aS C y2 z1).e hc4),RG.aG rfl .eql 68 68 38 44 (fv c3) (fv c4) (.bool true) rfl rfl RG.sx RG.sx (fun w=>by kernel_rfl) (Dd C.toFld (by subst_vars;exact hy)),RG.st,RG.st,trivial⟩ ?_;intro a5 w5 M5;refine wp_ret ?_;refine bodyPost_ret (v:=(.bool true)) (RG.bM 4 rfl _ (M5.at (s:=(.v (.bool true))))) M5.sl.defers ?_;exact⟨_,rfl,M5.st.bel.below,rfl⟩
theorem Ec(C:Fl3 P)(x1 y1 z1 x2 y2 z2:Fin P)(hz1:¬z1=0)(hz2:¬z2=0)(hx:¬x1*z2=x2*z1):Gives 37 #[(rv x1 y1 z1),(rv x2 y2 z2)] (.bool false):=by
 intro w;obtain⟨c1,hc1⟩:∃c,c=x1*z2:=⟨_,rfl⟩
 obtain⟨c2,hc2⟩:∃c,c=x2*z1:=⟨_,rfl⟩
 go_enter Tryz.func37,Tryz.ntmps37;refine RG.M.enter [(0,(.v (rv x1 y1 z1))),(1,(.v (rv x2 y2 z2)))] 47 (by kernel_rfl) ?_;intro a0 M0;repeat refine wp_seq ?_
 refine M0.t [.m 2 [] 0,.m 3 [] 1,.x 4 [] (.bool false)] [(0,(ws x1++(ws y1++(ws z1)))),(1,(ws x2++(ws y2++(ws z2))))] [] [(ws x1++(ws y1++(ws z1))),(ws x2++(ws y2++(ws z2)))] [(2,(.p 0 0)),(3,(.p 1 0)),(4,(.v (.bool false)))] ⟨RG.mk 0 73,RG.mk 1 73,RG.st,trivial⟩ ?_;intro j1 i1 a1 w1 M1;repeat refine wp_seq ?_
 refine M1.u [.x 7 [] (rv x1 y1 z1),.c 8 [(7,0)] (.bool false),.x 5 [(8,1)] (.bool false)] [(2,(.p 0 0)),(3,(.p 1 0)),(4,(.v (.bool false))),(5,(.v (.bool false)))] ⟨RG.ld u54 i54,RG.cl (gK C x1 y1 z1 hz1),RG.st,trivial⟩ ?_;intro a2 w2 M2;repeat refine wp_seq ?_
 refine M2.u [.x 9 [] (rv x2 y2 z2),.c 10 [(9,0)] (.bool false),.x 6 [(10,1)] (.bool false)] [(2,(.p 0 0)),(3,(.p 1 0)),(4,(.v (.bool false))),(5,(.v (.bool false))),(6,(.v (.bool false)))] ⟨RG.ld u54 i54,RG.cl (gK C x2 y2 z2 hz2),RG.st,trivial⟩ ?_;intro a3 w3 M3;repeat refine wp_seq ?_
 refine M3.u [.x 11 [] (.bool false),.x 12 [(11,0)] (.bool false),.x 13 [] (.bool false),.x 14 [(12,1),(13,2)] (.bool false)] [(2,(.p 0 0)),(3,(.p 1 0)),(4,(.v (.bool false))),(14,(.v (.bool false)))] ⟨RG.st,RG.st,RG.st,RG.st,trivial⟩ ?_;intro a4 w4 M4;repeat refine wp_seq ?_
 refine wp_cond_false M4.ev ?_;refine wp_skip ?_;repeat refine wp_seq ?_
 refine M4.e [.c 19 [] rv0,.s 20 [] (.p 0 0),.x 21 [(20,1)] (fv x1),.s 22 [] (.p 1 8),.x 23 [(22,3)] (fv z2),.c 24 [(19,0),(21,2),(23,4)] (fv c1),.c 25 [] rv0,.s 26 [] (.p 1 0),.x 27 [(26,7)] (fv x2),.s 28 [] (.p 0 8),.x 29 [(28,9)] (fv z1),.c 30 [(25,6),(27,8),(29,10)] (fv c2),.x 31 [(24,5),(30,11)] (.bool false),.x 32 [(31,12)] (.bool false),⟨some 33,[],(.v undef),.pass⟩,⟨some 34,[],(.v undef),.pass⟩,⟨some 35,[],(.v undef),.pass⟩,⟨some 36,[],(.v undef),.pass⟩,⟨some 37,[],(.v undef),.pass⟩,⟨some 38,[],(.v undef),.pass⟩,⟨some 39,[],(.v undef),.pass⟩,⟨some 40,[],(.v undef),.pass⟩,⟨some 41,[],(.v undef),.pass⟩,⟨some 42,[],(.v undef),.pass⟩,⟨some 43,[],(.v undef),.pass⟩,⟨some 44,[],(.v undef),.pass⟩,⟨some 45,[],(.v undef),.pass⟩,.x 46 [(32,13),(45,26)] (.bool false),.x 4 [(46,27)] (.bool false)] [(4,(.v (.bool false)))] ⟨RG.cl (bE),RG.st,RG.ld u44 i44,RG.st,RG.ld u44 i44,RG.cl ((aS C x1 z2).e hc1),RG.cl (bE),RG.st,RG.ld u44 i44,RG.st,RG.ld u44 i44,RG.cl ((aS C x2 z1).e hc2),RG.aG rfl .eql 68 68 24 30 (fv c1) (fv c2) (.bool false) rfl rfl RG.sx RG.sx (fun w=>by kernel_rfl) (GY C.toFld (by subst_vars;exact hx)),RG.st,RG.aH rfl rfl,RG.aH rfl rfl,RG.aH rfl rfl,RG.aH rfl rfl,RG.aH rfl rfl,RG.aH rfl rfl,RG.aH rfl rfl,RG.aH rfl rfl,RG.aH rfl rfl,RG.aH rfl rfl,RG.aH rfl rfl,RG.aH rfl rfl,RG.aH rfl rfl,RG.st,RG.st,trivial⟩ ?_;intro a5 w5 M5;refine wp_ret ?_;refine bodyPost_ret (v:=(.bool false)) (RG.bM 4 rfl _ (M5.at (s:=(.v (.bool false))))) M5.sl.defers ?_;exact⟨_,rfl,M5.st.bel.below,rfl⟩
theorem Eb(C:Fl3 P)(x1 y1 z1 x2 y2 z2:Fin P)(hz1:¬z1=0)(hz2:¬z2=0)(hx:x1*z2=x2*z1)(hy:¬y1*z2=y2*z1):Gives 37 #[(rv x1 y1 z1),(rv x2 y2 z2)] (.bool false):=by
 intro w;obtain⟨c1,hc1⟩:∃c,c=x1*z2:=⟨_,rfl⟩
 obtain⟨c2,hc2⟩:∃c,c=x2*z1:=⟨_,rfl⟩
 obtain⟨c3,hc3⟩:∃c,c=y1*z2:=⟨_,rfl⟩
 obtain⟨c4,hc4⟩:∃c,c=y2*z1:=⟨_,rfl⟩
 go_enter Tryz.func37,Tryz.ntmps37;refine RG.M.enter [(0,(.v (rv x1 y1 z1))),(1,(.v (rv x2 y2 z2)))] 47 (by kernel_rfl) ?_;intro a0 M0;repeat refine wp_seq ?_
 refine M0.t [.m 2 [] 0,.m 3 [] 1,.x 4 [] (.bool false)] [(0,(ws x1++(ws y1++(ws z1)))),(1,(ws x2++(ws y2++(ws z2))))] [] [(ws x1++(ws y1++(ws z1))),(ws x2++(ws y2++(ws z2)))] [(2,(.p 0 0)),(3,(.p 1 0)),(4,(.v (.bool false)))] ⟨RG.mk 0 73,RG.mk 1 73,RG.st,trivial⟩ ?_;intro j1 i1 a1 w1 M1;repeat refine wp_seq ?_
 refine M1.u [.x 7 [] (rv x1 y1 z1),.c 8 [(7,0)] (.bool false),.x 5 [(8,1)] (.bool false)] [(2,(.p 0 0)),(3,(.p 1 0)),(4,(.v (.bool false))),(5,(.v (.bool false)))] ⟨RG.ld u54 i54,RG.cl (gK C x1 y1 z1 hz1),RG.st,trivial⟩ ?_;intro a2 w2 M2;repeat refine wp_seq ?_
 refine M2.u [.x 9 [] (rv x2 y2 z2),.c 10 [(9,0)] (.bool false),.x 6 [(10,1)] (.bool false)] [(2,(.p 0 0)),(3,(.p 1 0)),(4,(.v (.bool false))),(5,(.v (.bool false))),(6,(.v (.bool false)))] ⟨RG.ld u54 i54,RG.cl (gK C x2 y2 z2 hz2),RG.st,trivial⟩ ?_;intro a3 w3 M3;repeat refine wp_seq ?_
 refine M3.u [.x 11 [] (.bool false),.x 12 [(11,0)] (.bool false),.x 13 [] (.bool false),.x 14 [(12,1),(13,2)] (.bool false)] [(2,(.p 0 0)),(3,(.p 1 0)),(4,(.v (.bool false))),(14,(.v (.bool false)))] ⟨RG.st,RG.st,RG.st,RG.st,trivial⟩ ?_;intro a4 w4 M4;repeat refine wp_seq ?_
 refine wp_cond_false M4.ev ?_;refine wp_skip ?_;repeat refine wp_seq ?_
 refine M4.e [.c 19 [] rv0,.s 20 [] (.p 0 0),.x 21 [(20,1)] (fv x1),.s 22 [] (.p 1 8),.x 23 [(22,3)] (fv z2),.c 24 [(19,0),(21,2),(23,4)] (fv c1),.c 25 [] rv0,.s 26 [] (.p 1 0),.x 27 [(26,7)] (fv x2),.s 28 [] (.p 0 8),.x 29 [(28,9)] (fv z1),.c 30 [(25,6),(27,8),(29,10)] (fv c2),.x 31 [(24,5),(30,11)] (.bool true),.x 32 [(31,12)] (.bool true),.c 33 [] rv0,.s 34 [] (.p 0 4),.x 35 [(34,15)] (fv y1),.s 36 [] (.p 1 8),.x 37 [(36,17)] (fv z2),.c 38 [(33,14),(35,16),(37,18)] (fv c3),.c 39 [] rv0,.s 40 [] (.p 1 4),.x 41 [(40,21)] (fv y2),.s 42 [] (.p 0 8),.x 43 [(42,23)] (fv z1),.c 44 [(39,20),(41,22),(43,24)] (fv c4),.x 45 [(38,19),(44,25)] (.bool false),.x 46 [(32,13),(45,26)] (.bool false),.x 4 [(46,27)] (.bool false)] [(4,(.v (.bool false)))] ⟨RG.cl (bE),RG.st,RG.ld u44 i44,RG.st,RG.ld u44 i44,RG.cl ((aS C x1 z2).e hc1),RG.cl (bE),RG.st,RG.ld u44 i44,RG.st,RG.ld u44 i44,RG.cl ((aS C x2 z1).e hc2),RG.aG rfl .eql 68 68 24 30 (fv c1) (fv c2) (.bool true) rfl rfl RG.sx RG.sx (fun w=>by kernel_rfl) (Dd C.toFld (by subst_vars;exact hx)),RG.st,RG.cl (bE),RG.st,RG.ld u44 i44,RG.st,RG.ld u44 i44,RG.cl ((aS C y1 z2).e hc3),RG.cl (bE),RG.st,RG.ld u44 i44,RG.st,RG.ld u44 i44,RG.cl ((aS C y2 z1).e hc4),RG.aG rfl .eql 68 68 38 44 (fv c3) (fv c4) (.bool false) rfl rfl RG.sx RG.sx (fun w=>by kernel_rfl) (GY C.toFld (by subst_vars;exact hy)),RG.st,RG.st,trivial⟩ ?_;intro a5 w5 M5;refine wp_ret ?_;refine bodyPost_ret (v:=(.bool false)) (RG.bM 4 rfl _ (M5.at (s:=(.v (.bool false))))) M5.sl.defers ?_;exact⟨_,rfl,M5.st.bel.below,rfl⟩
theorem IW(C:EC.Cur P){a b c d z1 z2 x1 x2 y1 y2:Fin P}(h1:¬z1=0)(h2:¬z2=0)(e1:x1=a*z1)(e2:y1=b*z1)(e3:x2=c*z2)(e4:y2=d*z2)(hx:x1*z2=x2*z1)(hy:y1*z2=y2*z1):a=c/\b=d:=by
 have h3:=EC.mul_ne C.pr h1 h2;subst e1 e2 e3 e4;exact⟨EC.cancel C.pr h3 (by grobner),EC.cancel C.pr h3 (by grobner)⟩
theorem uQ{x y z:Fin P}{q:EC.Pt P}(h:EC.Frac x y z q)(hz:¬z=0):q≠none:=fun e=>by
 subst e;exact hz h
theorem Jd(C:Fl3 P){a b:T3 P}{p q:EC.Pt P}(h:FracT a p)(h':FracT b q):Gives 37 #[tv a,tv b] (.bool (decide (p=q))):=by
 obtain⟨x1,y1,z1⟩:=a;obtain⟨x2,y2,z2⟩:=b;by_cases n1:z1=0
 ·obtain rfl:=h.1.zero n1;by_cases n2:z2=0
  ·obtain rfl:=h'.1.zero n2;rw[decide_eq_true rfl];exact Eg C x1 y1 z1 x2 y2 z2 n1 n2
  ·rw[decide_eq_false (fun e=>uQ h'.1 n2 e.symm)];exact Ef C x1 y1 z1 x2 y2 z2 n1 n2
 ·by_cases n2:z2=0
  ·obtain rfl:=h'.1.zero n2;rw[decide_eq_false (fun e=>uQ h.1 n1 e)];exact Ee C x1 y1 z1 x2 y2 z2 n1 n2
  ·match p,q,h.1,h'.1 with
   | none,_,k,_=>exact absurd k n1
   | some (a,b),none,_,k=>exact absurd k n2
   | some (a,b),some (c,d),⟨_,e1,e2⟩,⟨_,e3,e4⟩ =>
    have e1:x1=a*z1:=e1;have e2:y1=b*z1:=e2;have e3:x2=c*z2:=e3;have e4:y2=d*z2:=e4;by_cases hx:x1*z2=x2*z1
    ·by_cases hy:y1*z2=y2*z1
     ·obtain⟨r1,r2⟩:=IW C.cur n1 n2 e1 e2 e3 e4 hx hy;rw[decide_eq_true (by rw[r1,r2])];exact Ed C x1 y1 z1 x2 y2 z2 n1 n2 hx hy
     ·rw[decide_eq_false (fun e=>hy (by cases e;rw[e2,e4];grobner))];exact Eb C x1 y1 z1 x2 y2 z2 n1 n2 hx hy
    ·rw[decide_eq_false (fun e=>hx (by cases e;rw[e1,e3];grobner))];exact Ec C x1 y1 z1 x2 y2 z2 n1 n2 hx
theorem kB{P:Program}{fn:Func}{tmps:Array Value}{W:World}{k k':Nat}{vs us:List Value}{v:Value}(t t' u:Tmp)(T T':TypeId)(hr:fn.results=#[.cell t T,.cell t' T',.tmp u])(h:Row W k vs)(h':Row W k' us)(ht:tmps[t]? = some (.pointer (some ⟨k,0,none⟩)))(ht':tmps[t']? = some (.pointer (some ⟨k',0,none⟩)))(hv:tmps[u]? = some v)
 (hu:(P.underlying T).map (·.isRow)=some true) (hi:(P.info? T).map (·.size)=some vs.length) (hu':(P.underlying T').map (·.isRow)=some true) (hi':(P.info? T').map (·.size)=some us.length):(results fn tmps).run P W=.ok (.tuple #[.agg vs.toArray,.agg us.toArray,v]) W:=by
 obtain⟨d,hu,hd⟩:=PV.1 hu;obtain⟨d',hu',hd'⟩:=PV.1 hu';have h1:=run_loadVar_mid (P:=P) W k 0 T vs d h.2.1 hu hd hi;have h3:=run_loadVar_mid (P:=P) W k' 0 T' us d' h'.2.1 hu' hd' hi';have h2:tmps.getD t undef=.pointer (some ⟨k,0,none⟩):=by rw[PZ,ht];rfl
 have h4:tmps.getD t' undef=.pointer (some ⟨k',0,none⟩):=by rw[PZ,ht'];rfl
 have h5:tmps.getD u undef=v:=by rw[PZ,hv];rfl
 unfold results;rw[hr];simp only[SY,UJ,UT,h2,h4,h5,asAddr];simp[Qi,h1,h3]
def Oy(s u:ByteArray)(v:Value)(ok:Bool):List RG.It:=[.x 15 [] (.string s),.x 16 [(15,0)] (.string u),.c 17 [(16,1)] (.tuple #[v,.bool ok]),.x 14 [(17,2)] (.tuple #[v,.bool ok]),.x 18 [(14,3)] (v),.x 19 [(14,3)] (.bool ok),.m 5 [] 2,.u [(5,6),(18,4)] 2,.x 6 [(19,5)] (.bool ok)]
def Ox(s u:ByteArray)(v:Value)(ok:Bool):List RG.It:=[.x 21 [] (.string s),.x 22 [(21,0)] (.string u),.c 23 [(22,1)] (.tuple #[v,.bool ok]),.x 20 [(23,2)] (.tuple #[v,.bool ok]),.x 24 [(20,3)] (v),.x 25 [(20,3)] (.bool ok),.m 7 [] 3,.u [(7,6),(24,4)] 3,.x 8 [(25,5)] (.bool ok)]
def MY(v:Value)(z:Nat)(ok:Bool):List RG.It:=[.x 26 [] v,.x 27 [] (nv z),.x 28 [] (.bool true),.x 29 [(28,2)] (.bool true),.x 30 [] (.bool ok),.x 31 [(29,3),(30,4)] (.bool ok),.u [(26,0)] 0,.u [(27,1)] 1,.x 4 [(31,5)] (.bool ok)]
def MZ(v:Value)(z:Nat):List RG.It:=[.x 26 [] v,.x 27 [] (nv z),.x 28 [] (.bool false),.x 29 [(28,2)] (.bool false),⟨some 30,[],(.v undef),.pass⟩,.x 31 [(29,3),(30,4)] (.bool false),.u [(26,0)] 0,.u [(27,1)] 1,.x 4 [(31,5)] (.bool false)]
omit [NeZero P] in
theorem LN(s u0 u1:ByteArray)(t:T3 P)(z:Nat)(lb o0 o1:Bool)(hlb:(!((s.size:Int) == 65))=lb)
 (hs0:lb=false->∀w,(Re 9 (.string s) none (some (.int .i64 33)) none).run prog w=.ok (.string u0) w) (hs1:lb=false->∀w,(Re 9 (.string s) (some (.int .i64 33)) none none).run prog w=.ok (.string u1) w)
 (h0:Gives 62 #[.string u0] (.tuple #[tv t,.bool o0])) (h1:Gives 64 #[.string u1] (.tuple #[nv z,.bool o1])) :
 Gives 29 #[.string s] (if lb then .tuple #[.agg (RG.z 12).toArray,.agg (RG.z 4).toArray,.bool false] else .tuple #[.agg (tw t).toArray,.agg (wn z).toArray,.bool (o0 && o1)]):=by
 intro w;go_enter Tryz.func29,Tryz.ntmps29;refine RG.M.enter [(0,.v (.string s))] 32 (by kernel_rfl) ?_;intro a0 M0;repeat refine wp_seq ?_
 refine M0.t [.m 2 [] 0,.m 3 [] 1,.x 4 [] (.bool false)] [(0,RG.z 12),(1,RG.z 4)] [] [RG.z 12,RG.z 4] [(0,.v (.string s)),(2,.p 0 0),(3,.p 1 0)] ⟨RG.mk 0 73,RG.mk 1 68,RG.st,trivial⟩ ?_;intro j0 j1 a1 w1 M1;repeat refine wp_seq ?_
 refine M1.u [.x 9 [] (.string s),.x 10 [(9,0)] (.int .i64 (s.size:Int)),.x 11 [(10,1)] (.bool lb)] [(0,.v (.string s)),(2,.p 0 0),(3,.p 1 0),(11,.v (.bool lb))] ⟨RG.st,RG.st,RG.se (show Vv (!((s.size:Int) == 65))=.bool lb by rw[hlb]),trivial⟩ ?_;intro a2 w2 M2;cases lb with
 | true =>
  repeat refine wp_seq ?_
  refine wp_cond_true (M2.ev (v:=.bool true) (by kernel_rfl)) ?_;repeat refine wp_seq ?_
  refine M2.t [.x 12 [] (.agg (RG.z 12).toArray),.x 13 [] (.agg (RG.z 4).toArray),.u [(12,0)] 0,.u [(13,1)] 1,.x 4 [] (.bool false)] [] [(0,2,RG.z 12),(1,3,RG.z 4)] [RG.z 12,RG.z 4] [(2,.p 0 0),(3,.p 1 0),(4,.v (.bool false))] ⟨RG.st,RG.st,RG.pt i56,RG.pt i33,RG.st,trivial⟩ ?_;intro a3 w3 M3;refine wp_ret ?_;have g0:=M3.st.has 0 _ rfl;have g1:=M3.st.has 1 _ rfl;refine bodyPost_ret (v:=.tuple #[.agg (RG.z 12).toArray,.agg (RG.z 4).toArray,.bool false]) (kB 2 3 4 73 68 rfl (vs:=RG.z 12) (us:=RG.z 4) ⟨g0.2.2.1,g0.1,g0.2.1⟩ ⟨g1.2.2.1,g1.1,g1.2.1⟩ (M3.at (s:=.p 0 0)) (M3.at (s:=.p 1 0)) M3.av u56 i56 u33 i33) M3.sl.defers ?_;exact⟨_,rfl,M3.st.bel.below,rfl⟩
 | false =>
  have hq0:=hs0 rfl;have hq1:=hs1 rfl;repeat refine wp_seq ?_
  refine wp_cond_false (M2.ev (v:=.bool false) (by kernel_rfl)) ?_;refine wp_skip ?_;repeat refine wp_seq ?_
  refine M2.t (Oy s u0 (tv t) o0) [(6,RG.z 12)] [(2,7,tw t)] [RG.z 12,RG.z 4,tw t] [(0,.v (.string s)),(2,.p 0 0),(3,.p 1 0),(5,.p 2 0),(6,.v (.bool o0))] ⟨RG.st,RG.pO rfl 9 15 (.int .i64 33) (.string s) (.string u0) rfl rfl RG.sx hq0,RG.cl h0,RG.st,RG.st,RG.st,RG.mk 2 73,RG.pt i56,RG.st,trivial⟩ ?_;intro j3 a3 w3 M3;repeat refine wp_seq ?_
  refine M3.t (Ox s u1 (nv z) o1) [(6,RG.z 4)] [(3,7,wn z)] [RG.z 12,RG.z 4,tw t,wn z] [(2,.p 0 0),(3,.p 1 0),(5,.p 2 0),(6,.v (.bool o0)),(7,.p 3 0),(8,.v (.bool o1))] ⟨RG.st,RG.eW rfl 9 21 (.int .i64 33) (.string s) (.string u1) rfl rfl RG.sx hq1,RG.cl h1,RG.st,RG.st,RG.st,RG.mk 3 68,RG.pt i33,RG.st,trivial⟩ ?_;intro j4 a4 w4 M4;repeat refine wp_seq ?_
  cases o0 with
  | false =>
   refine M4.d (MZ (tv t) z) [] [(0,6,tw t),(1,7,wn z)] [tw t,wn z,tw t,wn z] [(2,.p 0 0),(3,.p 1 0),(4,.v (.bool false))] ⟨RG.ld u56 i56,RG.ld u33 i33,RG.st,RG.st,RG.aH rfl rfl,RG.st,RG.pt i56,RG.pt i33,RG.st,trivial⟩ ?_;intro a5 w5 M5;refine wp_ret ?_;have g0:=M5.st.has 0 _ rfl;have g1:=M5.st.has 1 _ rfl;refine bodyPost_ret (v:=.tuple #[.agg (tw t).toArray,.agg (wn z).toArray,.bool false]) (kB 2 3 4 73 68 rfl (vs:=tw t) (us:=wn z) ⟨g0.2.2.1,g0.1,g0.2.1⟩ ⟨g1.2.2.1,g1.1,g1.2.1⟩ (M5.at (s:=.p 0 0)) (M5.at (s:=.p 1 0)) M5.av u56 i56 u33 i33) M5.sl.defers ?_;exact⟨_,rfl,M5.st.bel.below,rfl⟩
  | true =>
   refine M4.d (MY (tv t) z o1) [] [(0,6,tw t),(1,7,wn z)] [tw t,wn z,tw t,wn z] [(2,.p 0 0),(3,.p 1 0),(4,.v (.bool o1))] ⟨RG.ld u56 i56,RG.ld u33 i33,RG.st,RG.st,RG.st,RG.st,RG.pt i56,RG.pt i33,RG.st,trivial⟩ ?_;intro a5 w5 M5;refine wp_ret ?_;have g0:=M5.st.has 0 _ rfl;have g1:=M5.st.has 1 _ rfl;refine bodyPost_ret (v:=.tuple #[.agg (tw t).toArray,.agg (wn z).toArray,.bool o1]) (kB 2 3 4 73 68 rfl (vs:=tw t) (us:=wn z) ⟨g0.2.2.1,g0.1,g0.2.1⟩ ⟨g1.2.2.1,g1.1,g1.2.1⟩ (M5.at (s:=.p 0 0)) (M5.at (s:=.p 1 0)) M5.av u56 i56 u33 i33) M5.sl.defers ?_;exact⟨_,rfl,M5.st.bel.below,rfl⟩
theorem Nr(pr:ByteArray)(h:pr.size=65)(w:World):(Re 9 (.string pr) none (some (.int .i64 33)) none).run prog w=.ok (.string (pr.extract 0 33)) w:=by
 go_simp
theorem OM(pr:ByteArray)(h:pr.size=65)(w:World):(Re 9 (.string pr) (some (.int .i64 33)) none none).run prog w=.ok (.string (pr.extract 33 65)) w:=by
 go_simp
theorem qZ{sz n g:Nat}{f:Nat->List Value}{C:List Value}{W:World}(h:Rows sz n f n C)(hl:∀j,j<n->(f j).length=sz)(hr:W.rangeAt g 0 C):∀j,j<n->W.rangeAt g (sz*j) (f j):=fun j hj r v hv=>by
 have hrl:r<sz:=by have:=(Qe.1 hv).1;rw[hl j hj]at this;exact this
 have:=hr (sz*j+r) v (by rw[h.row j r hj hrl];exact hv);rw[PU]at this;exact this
theorem AH{sz n g:Nat}{f:Nat->List Value}{C:List Value}{W:World}(hs:0<sz)(h:Rows sz n f n C)(hr:∀j,j<n->W.rangeAt g (sz*j) (f j)):W.rangeAt g 0 C:=fun t v hv=>by
 have ht:t<sz*n:=by have:=(Qe.1 hv).1;rw[h.len]at this;exact this
 have e:sz*(t/sz)+t%sz=t:=Nat.div_add_mod t sz;have hj:t/sz<n:=Nat.div_lt_of_lt_mul ht;have h1:=h.row (t/sz) (t%sz) hj (RN _ hs);rw[e,hv]at h1;have:=hr (t/sz) hj (t%sz) v h1.symm;rw[e]at this;rw[PU];exact this
def BM(f:Nat->List Value)(n:Nat):List Value:=(QJ (4*n)).map fun t=>((f (t/4))[t%4]?).getD undef
theorem o9(f:Nat->List Value)(n:Nat)(hl:∀j,(f j).length=4):Rows 4 n f n (BM f n):=by
 refine⟨by unfold BM;rw[Qb,List.length_range],fun j r hj hr=>?_⟩;unfold BM;rw[QX,TO (by omega),Ty,show(4*j+r)/4=j by omega,show(4*j+r)%4=r by omega,P6 (by rw[hl];exact hr)];rfl
noncomputable def bOk (P:Nat) [NeZero P] (N:Nat) (p sg:Bs):Bool:=real P p && cY P N sg
noncomputable def bZ (P:Nat) [NeZero P] (N:Nat) (sg:Bs):Nat:=if cY P N sg then nuV (sg.extract 33 65) else 0
noncomputable def bEn (P:Nat) [NeZero P] (N:Nat) (L:Bs) (Pb Sg:Nat->Bs) (Tx:Nat->List UInt8) (i:Nat):BtE P:=⟨wgt N L i,bZ P N (Sg i),rsC N (Pb i) (Sg i) (Tx i),jU P ((Sg i).extract 0 33),jU P (Pb i)⟩
noncomputable def bLg (Pb Sg:Nat->Bs) (Tx:Nat->List UInt8) (n:Nat):Bs:=blg (fun i=>(Pb i).toList) Tx (fun i=>(Sg i).toList) n
noncomputable def btA (P:Nat) [NeZero P] (N:Nat) (n:Nat) (Pb Sg:Nat->Bs) (Tx:Nat->List UInt8):Bool:=
 open Classical in decide (∀i,i<n->bOk P N (Pb i) (Sg i)=true) && decide (EC.mul (btL N (ent (bEn P N (bLg Pb Sg Tx n) Pb Sg Tx) n)) (gG P)=btR N (ent (bEn P N (bLg Pb Sg Tx n) Pb Sg Tx) n))
theorem Ob(O:Ord N)(sg:Bs):bZ P N sg<N:=by
 unfold bZ;split
 ·next h =>
  unfold cY at h;simp only[P3,decide_eq_true_eq]at h;exact Km h.2.2
 ·exact O.pos
theorem Gg{w:World}{a:Option Addr}{l c:Nat}{b:Bs}(h:SP.PartOk w (.slice a l c) b.toList):Arg33 w (.slice a l c) b:=by
 obtain⟨a',sb,so,cap,bs,e,h2,h3,h4,h5⟩:=h;injection e with e1 e2 e3
 subst e1 e2 e3;obtain rfl:bs=b:=by rw[<-Sz (xs:=bs),h2,Sz]
 refine⟨_,_,_,rfl,rfl,fun h33=>?_⟩;rcases h5 with h5|⟨h5,h6⟩
 ·omega
 ·exact⟨sb,so,h5,by omega,Holds.lt h6 (by omega),h6⟩
theorem wG(n:Nat)(w:World):(binOp .neq 3 (.int .i64 n) (.int .i64 n)).run prog w=.ok (.bool false) w:=by go_simp
theorem GO{n:Nat}(h:n<=64)(w:World):(binOp .gtr 3 (.int .i64 n) (.int .i64 64)).run prog w=.ok (.bool false) w:=by
 have:¬(64:Int)<(n:Int):=by omega
 go_simp
theorem uSS:prog.underlying 57=some (.slice 59):=by kernel_rfl
theorem iSS:(prog.info? 59).map (fun i=>(i.size,decide (i.bytes<=4000),i.zero.isSome))=some (74,true,true):=by kernel_rfl
theorem DV:(prog.underlying 28).map (·.isRow)=some false:=by kernel_rfl
theorem atL(k o n c i:Nat)(hi:i<n)(w:World):(QV 23 (.slice (some ⟨k,o,none⟩) n c) (.int .i64 i)).run prog w=.ok (.pointer (some ⟨k,o+i,none⟩)) w:=by
 have h1:¬(i:Int)<0:=by omega
 have h2:(i:Int)<n:=by omega
 go_simp
theorem Py(k o n c i:Nat)(hi:i<n)(w:World):(QV 57 (.slice (some ⟨k,o,none⟩) n c) (.int .i64 i)).run prog w=.ok (.pointer (some ⟨k,o+74*i,none⟩)) w:=by
 have h1:¬(i:Int)<0:=by omega
 have h2:(i:Int)<n:=by omega
 go_simp
def Oz(s0 s1 s2:Value)(n:Nat):List RG.It:=[.x 12 [] s0,.x 13 [(12,0)] (.int .i64 n),.x 14 [] s1,.x 15 [(14,2)] (.int .i64 n),.x 16 [(13,1),(15,3)] (.bool false),.x 17 [(16,4)] (.bool false),.x 18 [] s1,.x 19 [(18,6)] (.int .i64 n),.x 20 [] s2,.x 21 [(20,8)] (.int .i64 n),.x 22 [(19,7),(21,9)] (.bool false),.x 23 [(17,5),(22,10)] (.bool false)]
def Le(s0 s1 s2 v0 v1 v2:Value)(g0 g1 g2 i:Nat)(sv:Value)(y:Bool):List RG.It:=[.x 36 [] s0,.x 37 [] (.int .i64 i),.x 38 [(36,0),(37,1)] (.pointer (some ⟨g0,0+i,none⟩)),.x 39 [(38,2)] v0,.x 40 [] s1,.x 41 [] (.int .i64 i),.x 42 [(40,4),(41,5)] (.pointer (some ⟨g1,0+i,none⟩)),.x 43 [(42,6)] v1,.x 44 [] s2,.x 45 [] (.int .i64 i),.x 46 [(44,8),(45,9)] (.pointer (some ⟨g2,0+i,none⟩)),.x 47 [(46,10)] v2,.c 48 [(39,3),(43,7),(47,11)] (.tuple #[sv,.bool y]),.x 35 [(48,12)] (.tuple #[sv,.bool y]),.x 49 [(35,13)] sv,.x 50 [(35,13)] (.bool y),.m 10 [] 1,.u [(10,16),(49,14)] 1,.x 11 [(50,15)] (.bool y)]
theorem Kf(C:Fl3 P)(O:Ord N)(hord:∀r:EC.Pt P,EC.On r->EC.mul N r=none)(q0 q1 q2:Option Addr)(n c0 c1 c2:Nat)(hn:n<=64)(Pb Sg:Nat->Bs)(Tx:Nat->List UInt8)(w:World)(h0:BL w q0 n (fun i=>(Pb i).toList))(h1:BL w q1 n Tx)(h2:BL w q2 n (fun i=>(Sg i).toList)):
 Calls prog 8 #[.slice q0 n c0,.slice q1 n c1,.slice q2 n c2] w (Ret fun e w'=>Below w.heap.size w w'/\e=.tuple #[.bool (btA P N n Pb Sg Tx),.int .i64 0]):=by
 obtain⟨CC,hCl,hmk⟩:=Kt uSS iSS n (by omega);obtain⟨f,hf⟩:∃f:Nat->List Value,Hid (f=fun j=>aA (Pb j)++(aA ((Sg j).extract 0 33)++(wn (rsC N (Pb j) (Sg j) (Tx j))++wn (nuV ((Sg j).extract 33 65))))):=⟨_,rfl⟩
 go_enter Tryz.func8,Tryz.ntmps8;refine RG.M.enter [(0,.v (.slice q0 n c0)),(1,.v (.slice q1 n c1)),(2,.v (.slice q2 n c2))] 64 (by kernel_rfl) ?_;intro a0 M0;repeat refine wp_seq ?_
 refine M0.u [.x 6 [] (.bool false),.x 7 [] (.int .i64 0)] [(0,.v (.slice q0 n c0)),(1,.v (.slice q1 n c1)),(2,.v (.slice q2 n c2))] ⟨RG.st,RG.st,trivial⟩ ?_;intro a1 w1 M1;repeat refine wp_seq ?_
 refine M1.u (Oz (.slice q0 n c0) (.slice q1 n c1) (.slice q2 n c2) n) [(0,.v (.slice q0 n c0)),(1,.v (.slice q1 n c1)),(2,.v (.slice q2 n c2)),(23,.v (.bool false))] ⟨RG.st,RG.st,RG.st,RG.st,RG.aG rfl .neq 3 3 13 15 (.int .i64 n) (.int .i64 n) (.bool false) rfl rfl RG.sx RG.sx (fun w=>by kernel_rfl) (wG n),RG.st,RG.st,RG.st,RG.st,RG.st,RG.aG rfl .neq 3 3 19 21 (.int .i64 n) (.int .i64 n) (.bool false) rfl rfl RG.sx RG.sx (fun w=>by kernel_rfl) (wG n),RG.st,trivial⟩ ?_;intro a2 w2 M2;repeat refine wp_seq ?_
 refine wp_cond_false (M2.ev (v:=.bool false) (by kernel_rfl)) ?_;refine wp_skip ?_;repeat refine wp_seq ?_
 refine M2.u [.x 24 [] (.slice q0 n c0),.x 25 [(24,0)] (.int .i64 n),.x 26 [(25,1)] (.bool false)] [(0,.v (.slice q0 n c0)),(1,.v (.slice q1 n c1)),(2,.v (.slice q2 n c2)),(26,.v (.bool false))] ⟨RG.st,RG.st,RG.aI rfl .gtr 3 3 25 (.int .i64 n) (.int .i64 64) (.bool false) rfl rfl RG.sx (fun w=>by kernel_rfl) (GO hn),trivial⟩ ?_;intro a3 w3 M3;repeat refine wp_seq ?_
 refine wp_cond_false (M3.ev (v:=.bool false) (by kernel_rfl)) ?_;refine wp_skip ?_;repeat refine wp_seq ?_
 refine M3.t [.x 27 [] (.slice q0 n c0),.x 28 [(27,0)] (.int .i64 n),⟨some 29,[(28,1)],(.s 0 n n),.make 0⟩,.s 8 [(29,2)] (.s 0 n n)] [(2,CC)] [] [CC] [(0,.v (.slice q0 n c0)),(1,.v (.slice q1 n c1)),(2,.v (.slice q2 n c2)),(8,.s 0 n n)] ⟨RG.st,RG.st,RG.gC 0 rfl _ rfl 57 59 28 28 n rfl rfl RG.sx RG.sx hmk,RG.st,trivial⟩ ?_;intro j4 a4 w4 M4;repeat refine wp_seq ?_
 refine M4.u [.s 30 [] (.s 0 n n),.x 31 [(30,0)] (.int .i64 n),.x 32 [] (.int .i64 0)] [(0,.v (.slice q0 n c0)),(1,.v (.slice q1 n c1)),(2,.v (.slice q2 n c2)),(8,.s 0 n n),(31,.v (.int .i64 n)),(32,.v (.int .i64 0))] ⟨RG.st,RG.st,RG.st,trivial⟩ ?_;intro a5 w5 M5;repeat refine wp_seq ?_
 refine wp_block ?_;refine wp_loop_ghost (fun m a W=>∃(i:Nat) (C:List Value) (kt:Nat),i+m=n/\(∀j,j<i->bOk P N (Pb j) (Sg j)=true)/\Rows 74 n f i C/\RG.M w w.heap.size [] 64 [C] [kt] [(0,.v (.slice q0 n c0)),(1,.v (.slice q1 n c1)),(2,.v (.slice q2 n c2)),(8,.s 0 n n),(31,.v (.int .i64 n)),(32,.v (.int .i64 i))] a W) n ⟨0,CC,_,by omega,fun j hj=>by omega,⟨hCl,fun j r hj=>by omega⟩,M5⟩ ?_;clear hmk;intro m' a W;rintro⟨i,D,kt,him,hall,hR,M20⟩;by_cases hi:i<n
 ·obtain⟨g0,rfl,hg0,hc0⟩:=h0 (by omega);obtain⟨g1,rfl,hg1,hc1⟩:=h1 (by omega);obtain⟨g2,rfl,hg2,hc2⟩:=h2 (by omega);obtain⟨x0,l0,b0,hc0,hp0⟩:=hc0 i hi;obtain⟨x1,l1,b1,hc1,hp1⟩:=hc1 i hi;obtain⟨x2,l2,b2,hc2,hp2⟩:=hc2 i hi;have hz0:w.cell? ⟨g0,0+i,none⟩=some (.slice x0 l0 b0):=by rw[PU];exact hc0
  have hz1:w.cell? ⟨g1,0+i,none⟩=some (.slice x1 l1 b1):=by rw[PU];exact hc1
  have hz2:w.cell? ⟨g2,0+i,none⟩=some (.slice x2 l2 b2):=by rw[PU];exact hc2
  have hrd0:=fun w' (hb:RG.BelX w.heap.size [] w w')=>vW C O (.slice x0 l0 b0) x1 l1 b1 (.slice x2 l2 b2) (Pb i) (Sg i) (Tx i) w' ((Gg hp0).below hb.below) (hp1.below hb.below) (hp2.below hb.below)
  repeat refine wp_seq ?_
  refine M20.u [.x 33 [] (.bool true)] [(0,.v (.slice (some ⟨g0,0,none⟩) n c0)),(1,.v (.slice (some ⟨g1,0,none⟩) n c1)),(2,.v (.slice (some ⟨g2,0,none⟩) n c2)),(8,.s 0 n n),(31,.v (.int .i64 n)),(32,.v (.int .i64 i)),(33,.v (.bool true))] ⟨RG.aG rfl .lss 3 3 32 31 (.int .i64 i) (.int .i64 n) (.bool true) rfl rfl RG.sx RG.sx (fun w=>by kernel_rfl) (dE hi),trivial⟩ ?_;intro a21 w21 M21;repeat refine wp_seq ?_
  refine wp_cond_true M21.ev ?_;refine wp_skip ?_;refine wp_seq ?_;refine wp_block ?_;repeat refine wp_seq ?_
  refine M21.u [.x 34 [] (.int .i64 i),.x 9 [(34,0)] (.int .i64 i)] [(0,.v (.slice (some ⟨g0,0,none⟩) n c0)),(1,.v (.slice (some ⟨g1,0,none⟩) n c1)),(2,.v (.slice (some ⟨g2,0,none⟩) n c2)),(8,.s 0 n n),(9,.v (.int .i64 i)),(31,.v (.int .i64 n)),(32,.v (.int .i64 i))] ⟨RG.st,RG.st,trivial⟩ ?_;intro a22 w22 M22;repeat refine wp_seq ?_
  cases hok:bOk P N (Pb i) (Sg i) with
  | true =>
   have hok':=hok;unfold bOk at hok';rw[P3]at hok';have sp:=CB hok'.1;have sf:((Sg i).extract 0 33).size=33:=by
    have h:=hok'.2;unfold cY at h;simp only[P3,decide_eq_true_eq]at h;rw[QQ];omega
   have hV:rsV P N (Pb i) (Sg i) (Tx i)=.tuple #[siv (Pb i) ((Sg i).extract 0 33) (rsC N (Pb i) (Sg i) (Tx i)) (nuV ((Sg i).extract 33 65)),.bool true]:=by
    unfold rsV;rw[if_pos (by rw[hok'.1,hok'.2];rfl)]
   have hfi:f i=aA (Pb i)++(aA ((Sg i).extract 0 33)++(wn (rsC N (Pb i) (Sg i) (Tx i))++wn (nuV ((Sg i).extract 33 65)))):=by rw[hf.out]
   unfold siv at hV;rw[nP sp,nP sf]at hV hfi;generalize rsC N (Pb i) (Sg i) (Tx i)=cc at hV hfi;generalize nuV ((Sg i).extract 33 65)=zc at hV hfi;generalize (fun t:Nat=>(Pb i)[t]!)=p0 at hV hfi;generalize (fun t:Nat=>((Sg i).extract 0 33)[t]!)=f0 at hV hfi;have hfi:f i=sil p0 f0 cc zc:=hfi;have hV:rsV P N (Pb i) (Sg i) (Tx i)=.tuple #[.agg (sil p0 f0 cc zc).toArray,.bool true]:=hV;rw[hV]at hrd0;have hlen:=hR.len;have hoff:0+74*i+(sil p0 f0 cc zc).length<=D.length:=by rw[hlen];show 0+74*i+74<=74*n;omega
   obtain⟨D2,hD2e⟩:∃c,RG.rep D (0+74*i) (sil p0 f0 cc zc)=c:=⟨_,rfl⟩
   have hD2:=hD2e ▸ RG.rep_at hoff;have hcl:D2.length=D.length:=hD2e ▸ RG.bV hoff;have hR2:Rows 74 n f (i+1) D2:=by
    have:=hR.next hi (by rw[hfi];rfl);rw[<-hD2e,<-hfi];exact this
   refine M22.d (Le (.slice (some ⟨g0,0,none⟩) n c0) (.slice (some ⟨g1,0,none⟩) n c1) (.slice (some ⟨g2,0,none⟩) n c2) (.slice x0 l0 b0) (.slice x1 l1 b1) (.slice x2 l2 b2) g0 g1 g2 i (.agg (sil p0 f0 cc zc).toArray) true) [(16,z74)] [(1,17,sil p0 f0 cc zc)] [D,sil p0 f0 cc zc] [(0,.v (.slice (some ⟨g0,0,none⟩) n c0)),(1,.v (.slice (some ⟨g1,0,none⟩) n c1)),(2,.v (.slice (some ⟨g2,0,none⟩) n c2)),(8,.s 0 n n),(9,.v (.int .i64 i)),(10,.p 1 0),(11,.v (.bool true)),(31,.v (.int .i64 n)),(32,.v (.int .i64 i))] ⟨RG.st,RG.st,RG.aK rfl 23 36 37 rfl (.v (.slice (some ⟨g0,0,none⟩) n c0)) (.int .i64 i) RG.sx RG.sx (fun μ w=>atL _ 0 _ _ i hi w),RG.aJ rfl g0 (0+i) hg0 P4 28 38 rfl (.slice x0 l0 b0) rfl RG.sx hz0 DV,RG.st,RG.st,RG.aK rfl 23 40 41 rfl (.v (.slice (some ⟨g1,0,none⟩) n c1)) (.int .i64 i) RG.sx RG.sx (fun μ w=>atL _ 0 _ _ i hi w),RG.aJ rfl g1 (0+i) hg1 P4 28 42 rfl (.slice x1 l1 b1) rfl RG.sx hz1 DV,RG.st,RG.st,RG.aK rfl 23 44 45 rfl (.v (.slice (some ⟨g2,0,none⟩) n c2)) (.int .i64 i) RG.sx RG.sx (fun μ w=>atL _ 0 _ _ i hi w),RG.aJ rfl g2 (0+i) hg2 P4 28 46 rfl (.slice x2 l2 b2) rfl RG.sx hz2 DV,RG.clB (fun _ _=>by kernel_rfl) hrd0,RG.st,RG.st,RG.st,RG.mk 1 59,RG.pt iSi,RG.st,trivial⟩ ?_;intro j23 a23 w23 M23;repeat refine wp_seq ?_
   refine M23.u [.x 51 [] (.bool true),.x 52 [(51,0)] (.bool false)] [(0,.v (.slice (some ⟨g0,0,none⟩) n c0)),(1,.v (.slice (some ⟨g1,0,none⟩) n c1)),(2,.v (.slice (some ⟨g2,0,none⟩) n c2)),(8,.s 0 n n),(9,.v (.int .i64 i)),(10,.p 1 0),(31,.v (.int .i64 n)),(32,.v (.int .i64 i)),(52,.v (.bool false))] ⟨RG.st,RG.st,trivial⟩ ?_;intro a24 w24 M24;repeat refine wp_seq ?_
   refine wp_cond_false M24.ev ?_;refine wp_skip ?_;repeat refine wp_seq ?_
   refine M24.tx [.s 53 [] (.s 0 n n),.x 54 [] (.int .i64 i),.x 55 [] (.agg (sil p0 f0 cc zc).toArray),.s 56 [(53,0),(54,1)] (.p 0 (0+74*i)),.u [(56,3),(55,2)] 0] [] [(0,4,D2)] [D2,sil p0 f0 cc zc] [(0,.v (.slice (some ⟨g0,0,none⟩) n c0)),(1,.v (.slice (some ⟨g1,0,none⟩) n c1)),(2,.v (.slice (some ⟨g2,0,none⟩) n c2)),(8,.s 0 n n),(31,.v (.int .i64 n)),(32,.v (.int .i64 i))] (by kernel_rfl) (congrArg (fun n=>[n]) hcl) ⟨RG.st,RG.st,RG.ld uSi iSi,RG.aK rfl 57 53 54 rfl (.s 0 n n) (.int .i64 i) RG.sx RG.sx (fun μ w=>Py _ 0 _ _ i hi w),RG.cU 0 (0+74*i) rfl _ rfl 59 (.tmp 56) (.tmp 55) (sil p0 f0 cc zc) rfl rfl RG.sx RG.sx hoff hD2 iSi rfl,trivial⟩ ?_;intro a25 w25 M25;repeat refine wp_seq ?_
   refine M25.u [.x 57 [] (.int .i64 ((i+1:Nat):Int)),.x 32 [(57,0)] (.int .i64 ((i+1:Nat):Int))] [(0,.v (.slice (some ⟨g0,0,none⟩) n c0)),(1,.v (.slice (some ⟨g1,0,none⟩) n c1)),(2,.v (.slice (some ⟨g2,0,none⟩) n c2)),(8,.s 0 n n),(31,.v (.int .i64 n)),(32,.v (.int .i64 ((i+1:Nat):Int)))] ⟨RG.aI rfl .add 3 3 32 (.int .i64 i) (.int .i64 1) (.int .i64 ((i+1:Nat):Int)) rfl rfl RG.sx (fun w=>by kernel_rfl) (mH i 1 (by omega) (by omega)),RG.st,trivial⟩ ?_;intro a26 w26 M26;show ∃n',_;exact⟨m'-1,by omega,i+1,D2,kt,by omega,fun j hj=>(by
    by_cases hji:j=i
    ·rw[hji];exact hok
    ·exact hall j (by omega)),hR2,RG.M.drop (cs:=[D2]) (cs2:=[_]) (ks:=[kt]) (ks2:=[_]) M26 rfl rfl⟩
  | false =>
   have hV:rsV P N (Pb i) (Sg i) (Tx i)=.tuple #[.agg z74.toArray,.bool false]:=by
    unfold rsV;rw[if_neg (by unfold bOk at hok;rw[hok];exact Bool.false_ne_true)]
   rw[hV]at hrd0;have hA:btA P N n Pb Sg Tx=false:=by
    unfold btA;rw[decide_eq_false (fun h=>by have:=h i hi;rw[hok]at this;cases this),Vx]
   rw[hA];refine M22.d (Le (.slice (some ⟨g0,0,none⟩) n c0) (.slice (some ⟨g1,0,none⟩) n c1) (.slice (some ⟨g2,0,none⟩) n c2) (.slice x0 l0 b0) (.slice x1 l1 b1) (.slice x2 l2 b2) g0 g1 g2 i (.agg z74.toArray) false) [(16,z74)] [(1,17,z74)] [D,z74] [(11,.v (.bool false))] ⟨RG.st,RG.st,RG.aK rfl 23 36 37 rfl (.v (.slice (some ⟨g0,0,none⟩) n c0)) (.int .i64 i) RG.sx RG.sx (fun μ w=>atL _ 0 _ _ i hi w),RG.aJ rfl g0 (0+i) hg0 P4 28 38 rfl (.slice x0 l0 b0) rfl RG.sx hz0 DV,RG.st,RG.st,RG.aK rfl 23 40 41 rfl (.v (.slice (some ⟨g1,0,none⟩) n c1)) (.int .i64 i) RG.sx RG.sx (fun μ w=>atL _ 0 _ _ i hi w),RG.aJ rfl g1 (0+i) hg1 P4 28 42 rfl (.slice x1 l1 b1) rfl RG.sx hz1 DV,RG.st,RG.st,RG.aK rfl 23 44 45 rfl (.v (.slice (some ⟨g2,0,none⟩) n c2)) (.int .i64 i) RG.sx RG.sx (fun μ w=>atL _ 0 _ _ i hi w),RG.aJ rfl g2 (0+i) hg2 P4 28 46 rfl (.slice x2 l2 b2) rfl RG.sx hz2 DV,RG.clB (fun _ _=>by kernel_rfl) hrd0,RG.st,RG.st,RG.st,RG.mk 1 59,RG.pt iSi,RG.st,trivial⟩ ?_;intro j23 a23 w23 M23;repeat refine wp_seq ?_
   refine M23.u [.x 51 [] (.bool false),.x 52 [(51,0)] (.bool true)] [(52,.v (.bool true))] ⟨RG.st,RG.st,trivial⟩ ?_;intro a24 w24 M24;repeat refine wp_seq ?_
   refine wp_cond_true M24.ev ?_;repeat refine wp_seq ?_
   refine M24.u [.x 6 [] (.bool false),.x 7 [] (.int .i64 0)] [(6,.v (.bool false)),(7,.v (.int .i64 0))] ⟨RG.st,RG.st,trivial⟩ ?_;intro a25 w25 M25;refine wp_ret ?_;refine bodyPost_ret (v:=.tuple #[.bool false,.int .i64 0]) (RG.bH 6 7 rfl (.bool false) (.int .i64 0) M25.av M25.av) M25.sl.defers ?_;exact⟨_,rfl,M25.st.bel.below,rfl⟩
 ·have hiN:i=n:=by omega
  rw[hiN]at hall hR;obtain⟨L,hL⟩:∃L,Hid (bLg Pb Sg Tx n=L):=⟨_,rfl⟩
  obtain⟨E,hE⟩:∃E:Nat->BtE P,Hid (E=bEn P N L Pb Sg Tx):=⟨_,rfl⟩
  have hA:btA P N n Pb Sg Tx=decide (EC.mul (btL N (ent E n)) (gG P)=btR N (ent E n)):=by
   unfold btA;rw[decide_eq_true hall,VE,hL.out,<-hE.out]
  rw[hA];have hwt:∀w',RG.BelX w.heap.size [] w w'->Calls prog 23 #[.slice q0 n c0,.slice q1 n c1,.slice q2 n c2] w' (Ret fun e w''=>∃k,RG.Made w' k (BM (fun j=>wn (wgt N L j)) n) w''/\e=RG.SV.at (fun _=>k) (.s 1 n n)):=fun w' hb=>by
   refine(DU O q0 q1 q2 n c0 c1 c2 _ _ _ hn w' (h0.below hb.below) (h1.below hb.below) (h2.below hb.below)).mono ?_;rintro e w'' ⟨v,rfl,hb2,K,rfl,k1,k2,k3,k4⟩;have hL':blg (fun i=>(Pb i).toList) Tx (fun i=>(Sg i).toList) n=L:=hL.out;rw[hL']at k4;have hrw:=o9 (fun j=>wn (wgt N L j)) n (fun _=>rfl);exact⟨_,rfl,K,⟨hb2,k1,k2,AH (by decide) hrw k4,by rw[hrw.len];exact k3⟩,rfl⟩
  have hrt:∀(μ:Nat->Nat) (w':World),(0<n->(w'.rangeAt (μ 0) 0 D/\μ 0<w'.heap.size)/\w'.rangeAt (μ 1) 0 (BM (fun j=>wn (wgt N L j)) n)/\μ 1<w'.heap.size)->Calls prog 22 #[.slice (some ⟨μ 0,0,none⟩) n n,.slice (some ⟨μ 1,0,none⟩) n n] w' (Ret fun e w''=>Below w'.heap.size w' w''/\e=.bool (decide (EC.mul (btL N (ent E n)) (gG P)=btR N (ent E n)))):=fun μ w' hs=>by
   have hEj:∀j,E j=bEn P N L Pb Sg Tx j:=fun j=>by rw[hE.out]
   have hgood:∀j,j<n->wr (E j).Q=Pb j/\wr (E j).F=(Sg j).extract 0 33/\(E j).z=nuV ((Sg j).extract 33 65)/\(E j).Good:=fun j hj=>by
    have h:=hall j hj;unfold bOk at h;rw[P3]at h;have h3:=h.2;unfold cY at h3;simp only[P3,decide_eq_true_eq]at h3;obtain⟨p,hp⟩:=Qx.1 (mV h.1);obtain⟨f',hf'⟩:=Qx.1 h3.2.1;rw[hEj j];unfold bEn;refine⟨?_,?_,?_,?_,?_⟩
    ·show wr (jU P (Pb j))=_;unfold jU;rw[hp];exact E8 C.toFld hp
    ·show wr (jU P ((Sg j).extract 0 33))=_;unfold jU;rw[hf'];exact E8 C.toFld hf'
    ·show bZ P N (Sg j)=_;unfold bZ;rw[if_pos h.2]
    ·exact(fS C h3.2.1).2
    ·exact(fS C (mV h.1)).2
   refine FS C.toFld O hord E n hn (μ 0) (μ 1) w' (fun h=>(hs h).1.2) (fun h=>(hs h).2.2) (fun j hj=>?_) (fun j hj=>?_) (fun j=>?_) (fun j hj=>(hgood j hj).2.2.2)
   ·obtain⟨g1',g2',g3',-⟩:=hgood j hj;have hr:=qZ hR (fun t ht=>by
     obtain⟨e1,e2,-⟩:=hgood t ht;rw[hf.out];exact uF (by rw[<-e1];exact aX _) (by rw[<-e2];exact aX _) _ _) (hs (by omega)).1.1 j hj
    rw[g1',g2',g3'];rw[hf.out]at hr;have e4:(E j).c=rsC N (Pb j) (Sg j) (Tx j):=by rw[hEj j];rfl
    rw[e4];exact hr
   ·have hr:=qZ (o9 (fun j=>wn (wgt N L j)) n (fun _=>rfl)) (fun _ _=>rfl) (hs (by omega)).2.1 j hj;have e4:(E j).w=wgt N L j:=by rw[hEj j];rfl
    rw[e4];exact hr
   ·rw[hEj j];exact⟨Fb O _ _,Ob O _,BW O _ _ _⟩
  generalize decide (EC.mul (btL N (ent E n)) (gG P)=btR N (ent E n))=bb at hrt⊢;have hDn:0<n->D≠[]:=fun h e=>by
   have:=hR.len;rw[e]at this;simp at this;omega
  have hWn:0<n->BM (fun j=>wn (wgt N L j)) n≠[]:=fun h e=>by
   have:=(o9 (fun j=>wn (wgt N L j)) n (fun _=>rfl)).len;rw[e]at this;simp at this;omega
  generalize BM (fun j=>wn (wgt N L j)) n=Cw at hwt hrt hWn;repeat refine wp_seq ?_
  refine M20.u [.x 33 [] (.bool false)] [(0,.v (.slice q0 n c0)),(1,.v (.slice q1 n c1)),(2,.v (.slice q2 n c2)),(8,.s 0 n n),(33,.v (.bool false))] ⟨RG.aG rfl .lss 3 3 32 31 (.int .i64 i) (.int .i64 n) (.bool false) rfl rfl RG.sx RG.sx (fun w=>by kernel_rfl) (fY hi),trivial⟩ ?_;intro a21 w21 M21;repeat refine wp_seq ?_
  refine wp_cond_false M21.ev ?_;refine wp_exit ?_;dsimp only[Exit.then,So];rw[if_pos rfl];repeat refine wp_seq ?_
  refine M21.t [.s 58 [] (.s 0 n n),.x 59 [] (.slice q0 n c0),.x 60 [] (.slice q1 n c1),.x 61 [] (.slice q2 n c2),⟨some 62,[(59,1),(60,2),(61,3)],(.s 1 n n),.make 1⟩,.c 63 [(58,0),(62,4)] (.bool bb),.x 6 [(63,5)] (.bool bb),.x 7 [] (.int .i64 0)] [(4,Cw)] [] [D,Cw] [(6,.v (.bool bb)),(7,.v (.int .i64 0))] ⟨RG.st,RG.st,RG.st,RG.st,RG.cm 1 hwt (fun _ _=>by kernel_rfl),RG.cr [0,1] (fun μ w' _ hs=>hrt μ w' fun h=>⟨hs 0 (Wx _) _ rfl (hDn h),hs 1 (List.Mem.tail _ (Wx _)) _ rfl (hWn h)⟩) (fun _ _=>by kernel_rfl),RG.st,RG.st,trivial⟩ ?_;intro j22 a22 w22 M22;refine wp_ret ?_;refine bodyPost_ret (v:=.tuple #[.bool bb,.int .i64 0]) (RG.bH 6 7 rfl (.bool bb) (.int .i64 0) M22.av M22.av) M22.sl.defers ?_;exact⟨_,rfl,M22.st.bel.below,rfl⟩
end
namespace RG
open Go Go.RowKit
section
variable {P:Program}{Q:Exit->Act->World->Prop}{w0:World}{k0:Nat}{X:List Nat}{ops:Array Oper}{i:Nat}{its:List It}{bl:List Bl}{os:List (Tmp × SV)}{o:Oper}{it:It}
theorem cp(b:Nat){f:FuncId}{args:(Nat->Nat)->Array Value}{v:Value}(hc:∀(μ:Nat->Nat) (w:World) (e:Bl),bl[b]? = some e->w.there (μ b) 0 e.before.length->w.rangeAt (μ b) 0 e.before->Calls P f (args μ) w (Ret fun x w'=>PutTo (μ b) e.before.length e.after w w'/\x=v))
 (h:∀(μ:Nat->Nat) (w:World),((seen ops its os it.need i o,it.kind,it.out),(execOp (ro ops its os it.need i μ) o).run P w)=((true,Kind.put b,SV.v v),.ok (.enter f (args μ)) w)):Cert P Q w0 k0 X ops i its bl os o it:=by
 intro μ a w K hK _ hbel;have h0:=h μ w;simp only[Rz.injEq]at h0;rw[h0.1.2.1];intro e hb ht hr hk;rw[h0.1.2.2]at hk;unfold Oper.wp;rw[jM h0.1.1 hK,h0.2];refine(hc μ w e hb ht hr).mono ?_;rintro x w' ⟨u,rfl,hp,rfl⟩;exact hk w' hp
end
end RG
section
open Go.RowKit Go.Sort Go.Deep
variable {P:Nat}[NeZero P]{N:Nat}
def TL(W:World)(q:Option Addr)(n:Nat)(S:Nat->ByteArray):Prop:=0<n->∃g,q=some ⟨g,0,none⟩/\g<W.heap.size/\∀i,i<n->W.cell? ⟨g,i,none⟩=some (.string (S i))
theorem new_c(w:World):Calls prog 24 #[.string ⟨#[98,97,116,99,104]⟩] w (Ret fun e w'=>∃k,RG.Made w k [.string ⟨SP.newL [98,97,116,99,104]⟩] w'/\e=RG.SV.at (fun _=>k) (.p 0 0)):=by
 refine(SP.rA ⟨#[98,97,116,99,104]⟩ w (by decide)).mono ?_;rintro e w' ⟨y,rfl,h1,h2,h3⟩;refine⟨_,rfl,y,⟨h2,h1,h3.lt,fun j v hj=>?_,fun j hj=>?_⟩,rfl⟩
 ·match j,hj with
  | 0,hj=>obtain rfl:=Qh.inj hj;exact h3.1
  | j+1,hj=>simp at hj
 ·obtain rfl:j=0:=by simp at hj;omega
  exact⟨by show(w'.cell? ⟨y,0,none⟩).isSome=true;rw[h3.1];rfl,h3.2⟩
theorem CM{w w':World}{y:Nat}{L L':Bs}(hO:SP.Only y 0 1 w w')(hL:SP.RLog w' y L'):RG.PutTo y 1 [.string ⟨L'⟩] w w':=by
 refine⟨hO.os,hO.tape,hO.output,hO.size,fun j hj hne=>hO.block j hj hne,fun j v hj=>?_,fun j hj=>?_⟩
 ·match j,hj with
  | 0,hj=>obtain rfl:=Qh.inj hj;exact hL.1
  | j+1,hj=>simp at hj
 ·obtain rfl:j=0:=by omega
  exact⟨by show(w'.cell? ⟨y,0,none⟩).isSome=true;rw[hL.1];rfl,hL.2⟩
theorem GH{w:World}{y:Nat}{L:Bs}(ht:w.there y 0 1)(hr:w.rangeAt y 0 [.string ⟨L⟩]):SP.RLog w y L:=⟨hr 0 _ rfl,(ht 0 (by omega)).2⟩
theorem Fz(L:Bs)(hl:L.size=32)(lab tx:ByteArray)(hlab:lab.size<=16384)(ht:tx.size<=16384)(L':Bs)(hL':SP.cT L lab.data.toList tx.data.toList=L')(y:Nat)(w:World)(h1:w.there y 0 1)(h2:w.rangeAt y 0 [.string ⟨L⟩]):
 Calls prog 25 #[.pointer (some ⟨y,0,none⟩),.string lab,.string tx] w (Ret fun x w'=>RG.PutTo y 1 [.string ⟨L'⟩] w w'/\x=.tuple #[]):=by
 refine(SP.jD y L lab tx w hlab ht hl (GH h1 h2)).mono ?_;rintro e w' ⟨rfl,hO,hL⟩;rw[hL']at hL;exact⟨_,rfl,CM (L:=L) hO hL,rfl⟩
theorem Oe(L:Bs)(hl:L.size=32)(A L':Bs)(hA:SP.iK L [119,101,105,103,104,116] 64=A)(hL':SP.gJ L [119,101,105,103,104,116]=L')(y:Nat)(w:World)(h1:w.there y 0 1)(h2:w.rangeAt y 0 [.string ⟨L⟩]):
 Calls prog 31 #[.pointer (some ⟨y,0,none⟩),.string ⟨#[119,101,105,103,104,116]⟩,.int .i64 64] w (Ret fun x w'=>RG.PutTo y 1 [.string ⟨L'⟩] w w'/\x=.string ⟨A⟩):=by
 refine(SP.rB y L ⟨#[119,101,105,103,104,116]⟩ 64 w (by decide) (by decide) hl (GH h1 h2)).mono ?_;rintro e w' ⟨rfl,hO,hL⟩;have e1:SP.gJ L (⟨#[119,101,105,103,104,116]⟩:ByteArray).data.toList=L':=hL';have e2:SP.iK L (⟨#[119,101,105,103,104,116]⟩:ByteArray).data.toList 64=A:=hA;rw[e1]at hL;exact⟨_,rfl,CM (L:=L) hO hL,by rw[e2]⟩
theorem xE(k o n c i:Nat)(hi:i<n)(w:World):(QV 24 (.slice (some ⟨k,o,none⟩) n c) (.int .i64 i)).run prog w=.ok (.pointer (some ⟨k,o+i,none⟩)) w:=by
 have h1:¬(i:Int)<0:=by omega
 have h2:(i:Int)<n:=by omega
 go_simp
theorem u9s:(prog.underlying 9).map (·.isRow)=some false:=by kernel_rfl
def PK(s1 s2:Value)(n:Nat):List RG.It:=[.x 24 [] s1,.x 25 [(24,0)] (.int .i64 n),.x 26 [] (.int .i64 n),.x 27 [(25,1),(26,2)] (.bool false),.x 28 [(27,3)] (.bool false),.x 29 [] s2,.x 30 [(29,5)] (.int .i64 n),.x 31 [] (.int .i64 n),.x 32 [(30,6),(31,7)] (.bool false),.x 33 [(28,4),(32,8)] (.bool false)]
def Ow(s0:Value)(g0 i:Nat)(p:ByteArray)(v:Value)(ok:Bool):List RG.It:=[.x 68 [] s0,.x 69 [] (.int .i64 i),.x 70 [(68,0),(69,1)] (.pointer (some ⟨g0,0+i,none⟩)),.x 71 [(70,2)] (.string p),.c 72 [(71,3)] (.tuple #[v,.bool ok]),.x 67 [(72,4)] (.tuple #[v,.bool ok]),.x 73 [(67,5)] v,.x 74 [(67,5)] (.bool ok),.m 15 [] 4,.u [(15,8),(73,6)] 4,.x 16 [(74,7)] (.bool ok)]
def Lb(s2:Value)(g2 i:Nat)(s:ByteArray)(v z:Value)(ok:Bool):List RG.It:=[.x 76 [] s2,.x 77 [] (.int .i64 i),.x 78 [(76,0),(77,1)] (.pointer (some ⟨g2,0+i,none⟩)),.x 79 [(78,2)] (.string s),.c 80 [(79,3)] (.tuple #[v,z,.bool ok]),.x 75 [(80,4)] (.tuple #[v,z,.bool ok]),.x 81 [(75,5)] v,.x 82 [(75,5)] z,.x 83 [(75,5)] (.bool ok),.m 17 [] 5,.m 18 [] 6,.u [(17,9),(81,6)] 5,.u [(18,10),(82,7)] 6,.x 19 [(83,8)] (.bool ok)]
def Cg(ok:Bool):List RG.It:=[.x 84 [] (.bool true),.x 85 [(84,0)] (.bool false),.x 86 [(85,1)] (.bool false),.x 87 [] (.bool ok),.x 88 [(87,3)] (.bool (!ok)),.x 89 [(86,2),(88,4)] (.bool (!ok))]
def Io:List RG.It:=[.x 84 [] (.bool false),.x 85 [(84,0)] (.bool true),.x 86 [(85,1)] (.bool true),⟨some 87,[],(.v undef),.pass⟩,⟨some 88,[],(.v undef),.pass⟩,.x 89 [(86,2),(88,4)] (.bool true)]
def Ov(A:Bs)(x:Nat):List RG.It:=[.x 90 [] rv1,.s 91 [] (.p 0 0),⟨some 92,[(91,1)],.v (.string ⟨A⟩),.put 0⟩,.c 93 [(90,0),(92,2)] (nv x),.m 20 [] 7,.u [(20,4),(93,3)] 7]
def Ou(s0 s1 s2:Value)(g0 g1 g2 i:Nat)(p tx s u:ByteArray)(c:Nat):List RG.It:=[.x 94 [] s0,.x 95 [] (.int .i64 i),.x 96 [(94,0),(95,1)] (.pointer (some ⟨g0,0+i,none⟩)),.x 97 [(96,2)] (.string p),.x 98 [] s2,.x 99 [] (.int .i64 i),.x 100 [(98,4),(99,5)] (.pointer (some ⟨g2,0+i,none⟩)),.x 101 [(100,6)] (.string s),.x 102 [(101,7)] (.string u),.x 103 [] s1,.x 104 [] (.int .i64 i),.x 105 [(103,9),(104,10)] (.pointer (some ⟨g1,0+i,none⟩)),.x 106 [(105,11)] (.string tx),.c 107 [(97,3),(102,8),(106,12)] (nv c),.m 21 [] 8,.u [(21,14),(107,13)] 8]
def Ot(a x z b a2:Nat):List RG.It:=[.x 108 [] rv1,.x 109 [] (nv a),.x 110 [] rv1,.x 111 [] (nv x),.x 112 [] (nv z),.c 113 [(110,2),(111,3),(112,4)] (nv b),.c 114 [(108,0),(109,1),(113,5)] (nv a2),.u [(114,6)] 2]
def Oq(x c d:Nat)(t tf tp t1 t2 t3 t4:T3 P):List RG.It:=[.x 115 [] (tv t),.x 116 [] (nv x),.x 117 [] (tv tf),.c 118 [(116,1),(117,2)] (tv t1),.x 119 [] rv1,.x 120 [] (nv x),.x 121 [] (nv c),.c 122 [(119,4),(120,5),(121,6)] (nv d),.x 123 [] (tv tp),.c 124 [(122,7),(123,8)] (tv t2),.c 125 [(118,3),(124,9)] (tv t3),.c 126 [(115,0),(125,10)] (tv t4),.u [(126,11)] 3]
theorem F9(C:Fl3 P)(O:Ord N)(q0 q1 q2:Option Addr)(n c0 c1 c2:Nat)(hn:n<=64)(Sp St Ss:Nat->ByteArray)(hsz:∀i,i<n->(Sp i).size<=16384/\(St i).size<=16384/\(Ss i).size<=16384)(w:World)(h0:TL w q0 n Sp)(h1:TL w q1 n St)(h2:TL w q2 n Ss):
 Calls prog 9 #[.slice q0 n c0,.slice q1 n c1,.slice q2 n c2] w (Ret fun e w'=>Below w.heap.size w w'/\e=.tuple #[.bool (btA P N n (fun i=>(Sp i).data) (fun i=>(Ss i).data) (fun i=>(St i).data.toList)),.int .i64 0]):=by
 obtain⟨LL,hLL⟩:∃LL:Nat->Bs,Hid (LL=blg (fun i=>(Sp i).data.toList) (fun i=>(St i).data.toList) (fun i=>(Ss i).data.toList)):=⟨_,rfl⟩
 have hL0:LL 0=SP.newL [98,97,116,99,104]:=by rw[hLL.out];rfl
 have hLs:∀i,(LL i).size=32:=fun i=>by rw[hLL.out];exact sX _ _ _ i
 have hLn:∀i,LL (i+1)=SP.cT (SP.cT (SP.cT (LL i) [112,117,98,108,105,99] (Sp i).data.toList) [116,101,120,116] (St i).data.toList) [115,105,103,110] (Ss i).data.toList:=fun i=>by rw[hLL.out];rfl
 obtain⟨E,hE⟩:∃E:Nat->BtE P,Hid (E=bEn P N (LL n) (fun i=>(Sp i).data) (fun i=>(Ss i).data) (fun i=>(St i).data.toList)):=⟨_,rfl⟩
 have hnew:=new_c;rw[<-hL0]at hnew;go_enter Tryz.func9,Tryz.ntmps9;refine RG.M.enter [(0,.v (.slice q0 n c0)),(1,.v (.slice q1 n c1)),(2,.v (.slice q2 n c2))] 131 (by kernel_rfl) ?_;intro a0 M0;repeat refine wp_seq ?_
 refine M0.u [.x 6 [] (.bool false),.x 7 [] (.int .i64 0)] [(0,.v (.slice q0 n c0)),(1,.v (.slice q1 n c1)),(2,.v (.slice q2 n c2))] ⟨RG.st,RG.st,trivial⟩ ?_;intro a1 w1 M1;repeat refine wp_seq ?_
 refine M1.u [.x 22 [] (.slice q0 n c0),.x 23 [(22,0)] (.int .i64 n),.x 8 [(23,1)] (.int .i64 n)] [(0,.v (.slice q0 n c0)),(1,.v (.slice q1 n c1)),(2,.v (.slice q2 n c2)),(8,.v (.int .i64 n))] ⟨RG.st,RG.st,RG.st,trivial⟩ ?_;intro a2 w2 M2;repeat refine wp_seq ?_
 refine M2.u (PK (.slice q1 n c1) (.slice q2 n c2) n) [(0,.v (.slice q0 n c0)),(1,.v (.slice q1 n c1)),(2,.v (.slice q2 n c2)),(8,.v (.int .i64 n)),(33,.v (.bool false))] ⟨RG.st,RG.st,RG.st,RG.aG rfl .neq 3 3 25 26 (.int .i64 n) (.int .i64 n) (.bool false) rfl rfl RG.sx RG.sx (fun w=>by kernel_rfl) (wG n),RG.st,RG.st,RG.st,RG.st,RG.aG rfl .neq 3 3 30 31 (.int .i64 n) (.int .i64 n) (.bool false) rfl rfl RG.sx RG.sx (fun w=>by kernel_rfl) (wG n),RG.st,trivial⟩ ?_;intro a3 w3 M3;repeat refine wp_seq ?_
 refine wp_cond_false (M3.ev (v:=.bool false) (by kernel_rfl)) ?_;refine wp_skip ?_;repeat refine wp_seq ?_
 refine M3.u [.x 34 [] (.int .i64 n),.x 35 [(34,0)] (.bool false)] [(0,.v (.slice q0 n c0)),(1,.v (.slice q1 n c1)),(2,.v (.slice q2 n c2)),(8,.v (.int .i64 n)),(35,.v (.bool false))] ⟨RG.st,RG.aI rfl .gtr 3 3 34 (.int .i64 n) (.int .i64 64) (.bool false) rfl rfl RG.sx (fun w=>by kernel_rfl) (GO hn),trivial⟩ ?_;intro a4 w4 M4;repeat refine wp_seq ?_
 refine wp_cond_false (M4.ev (v:=.bool false) (by kernel_rfl)) ?_;refine wp_skip ?_;repeat refine wp_seq ?_
 refine M4.t [⟨some 36,[],.p 0 0,.make 0⟩,.s 9 [(36,0)] (.p 0 0)] [(0,[.string ⟨LL 0⟩])] [] [[.string ⟨LL 0⟩]] [(0,.v (.slice q0 n c0)),(1,.v (.slice q1 n c1)),(2,.v (.slice q2 n c2)),(8,.v (.int .i64 n)),(9,.p 0 0)] ⟨RG.cm 0 (fun w' _=>hnew w') (fun _ _=>by kernel_rfl),RG.st,trivial⟩ ?_;intro j5 a5 w5 M5;repeat refine wp_seq ?_
 refine M5.u [.x 10 [] (.int .i64 0)] [(0,.v (.slice q0 n c0)),(1,.v (.slice q1 n c1)),(2,.v (.slice q2 n c2)),(8,.v (.int .i64 n)),(9,.p 0 0),(10,.v (.int .i64 0))] ⟨RG.st,trivial⟩ ?_;intro a6 w6 M6;repeat refine wp_seq ?_
 refine wp_block ?_;refine wp_loop_ghost (fun m a W=>∃(i:Nat) (kt:Nat),i+m=n/\RG.M w w.heap.size [] 131 [[.string ⟨LL i⟩]] [kt] [(0,.v (.slice q0 n c0)),(1,.v (.slice q1 n c1)),(2,.v (.slice q2 n c2)),(8,.v (.int .i64 n)),(9,.p 0 0),(10,.v (.int .i64 i))] a W) n ⟨0,_,by omega,M6⟩ ?_;clear hnew;intro m' a W;rintro⟨i,kt,him,M20⟩;by_cases hi:i<n
 ·obtain⟨g0,rfl,hg0,hc0⟩:=h0 (by omega);obtain⟨g1,rfl,hg1,hc1⟩:=h1 (by omega);obtain⟨g2,rfl,hg2,hc2⟩:=h2 (by omega);have hz0:w.cell? ⟨g0,0+i,none⟩=some (.string (Sp i)):=by rw[PU];exact hc0 i hi
  have hz1:w.cell? ⟨g1,0+i,none⟩=some (.string (St i)):=by rw[PU];exact hc1 i hi
  have hz2:w.cell? ⟨g2,0+i,none⟩=some (.string (Ss i)):=by rw[PU];exact hc2 i hi
  have s0:=hLs i;have hn1:=hLn i;generalize LL i=L0 at M20 s0 hn1;obtain⟨L1,hL1⟩:∃L1,SP.cT L0 [112,117,98,108,105,99] (Sp i).data.toList=L1:=⟨_,rfl⟩
  obtain⟨L2,hL2⟩:∃L2,SP.cT L1 [116,101,120,116] (St i).data.toList=L2:=⟨_,rfl⟩
  have s1:L1.size=32:=by rw[<-hL1];exact SP.cI _ _ _
  have s2:L2.size=32:=by rw[<-hL2];exact SP.cI _ _ _
  obtain⟨L3,hL3⟩:∃L3,SP.cT L2 [115,105,103,110] (Ss i).data.toList=L3:=⟨_,rfl⟩
  rw[hL1,hL2,hL3]at hn1;repeat refine wp_seq ?_
  refine M20.u [.x 37 [] (.int .i64 i),.x 38 [] (.int .i64 n),.x 39 [(37,0),(38,1)] (.bool true)] [(0,.v (.slice (some ⟨g0,0,none⟩) n c0)),(1,.v (.slice (some ⟨g1,0,none⟩) n c1)),(2,.v (.slice (some ⟨g2,0,none⟩) n c2)),(8,.v (.int .i64 n)),(9,.p 0 0),(10,.v (.int .i64 i)),(39,.v (.bool true))] ⟨RG.st,RG.st,RG.aG rfl .lss 3 3 37 38 (.int .i64 i) (.int .i64 n) (.bool true) rfl rfl RG.sx RG.sx (fun w=>by kernel_rfl) (dE hi),trivial⟩ ?_;intro a21 w21 M21;repeat refine wp_seq ?_
  refine wp_cond_true M21.ev ?_;refine wp_skip ?_;refine wp_seq ?_;refine wp_block ?_;repeat refine wp_seq ?_
  refine M21.t [.s 42 [] (.p 0 0),.x 43 [] (.slice (some ⟨g0,0,none⟩) n c0),.x 44 [] (.int .i64 i),.x 45 [(43,1),(44,2)] (.pointer (some ⟨g0,0+i,none⟩)),.x 46 [(45,3)] (.string (Sp i)),⟨some 47,[(42,0),(46,4)],.v (.tuple #[]),.put 0⟩] [] [(0,5,[.string ⟨L1⟩])] [[.string ⟨L1⟩]] [(0,.v (.slice (some ⟨g0,0,none⟩) n c0)),(1,.v (.slice (some ⟨g1,0,none⟩) n c1)),(2,.v (.slice (some ⟨g2,0,none⟩) n c2)),(8,.v (.int .i64 n)),(9,.p 0 0),(10,.v (.int .i64 i))] ⟨RG.st,RG.st,RG.st,RG.aK rfl 24 43 44 rfl (.v (.slice (some ⟨g0,0,none⟩) n c0)) (.int .i64 i) RG.sx RG.sx (fun μ w=>xE _ 0 _ _ i hi w),RG.aJ rfl g0 (0+i) hg0 P4 9 45 rfl (.string (Sp i)) rfl RG.sx hz0 u9s,RG.cp 0 (args:=fun μ=>#[.pointer (some ⟨μ 0,0,none⟩),.string ⟨#[112,117,98,108,105,99]⟩,.string (Sp i)]) (fun μ w' e he ht hr=>by
   obtain rfl:=Qh.inj he;exact Fz L0 s0 ⟨#[112,117,98,108,105,99]⟩ (Sp i) (by decide) (hsz i hi).1 L1 hL1 (μ 0) w' ht hr) (fun _ _=>by kernel_rfl),trivial⟩ ?_
  intro a22 w22 M22;repeat refine wp_seq ?_
  refine M22.t [.s 48 [] (.p 0 0),.x 49 [] (.slice (some ⟨g1,0,none⟩) n c1),.x 50 [] (.int .i64 i),.x 51 [(49,1),(50,2)] (.pointer (some ⟨g1,0+i,none⟩)),.x 52 [(51,3)] (.string (St i)),⟨some 53,[(48,0),(52,4)],.v (.tuple #[]),.put 0⟩] [] [(0,5,[.string ⟨L2⟩])] [[.string ⟨L2⟩]] [(0,.v (.slice (some ⟨g0,0,none⟩) n c0)),(1,.v (.slice (some ⟨g1,0,none⟩) n c1)),(2,.v (.slice (some ⟨g2,0,none⟩) n c2)),(8,.v (.int .i64 n)),(9,.p 0 0),(10,.v (.int .i64 i))] ⟨RG.st,RG.st,RG.st,RG.aK rfl 24 49 50 rfl (.v (.slice (some ⟨g1,0,none⟩) n c1)) (.int .i64 i) RG.sx RG.sx (fun μ w=>xE _ 0 _ _ i hi w),RG.aJ rfl g1 (0+i) hg1 P4 9 51 rfl (.string (St i)) rfl RG.sx hz1 u9s,RG.cp 0 (args:=fun μ=>#[.pointer (some ⟨μ 0,0,none⟩),.string ⟨#[116,101,120,116]⟩,.string (St i)]) (fun μ w' e he ht hr=>by
   obtain rfl:=Qh.inj he;exact Fz L1 s1 ⟨#[116,101,120,116]⟩ (St i) (by decide) (hsz i hi).2.1 L2 hL2 (μ 0) w' ht hr) (fun _ _=>by kernel_rfl),trivial⟩ ?_
  intro a23 w23 M23;repeat refine wp_seq ?_
  refine M23.t [.s 54 [] (.p 0 0),.x 55 [] (.slice (some ⟨g2,0,none⟩) n c2),.x 56 [] (.int .i64 i),.x 57 [(55,1),(56,2)] (.pointer (some ⟨g2,0+i,none⟩)),.x 58 [(57,3)] (.string (Ss i)),⟨some 59,[(54,0),(58,4)],.v (.tuple #[]),.put 0⟩] [] [(0,5,[.string ⟨L3⟩])] [[.string ⟨L3⟩]] [(0,.v (.slice (some ⟨g0,0,none⟩) n c0)),(1,.v (.slice (some ⟨g1,0,none⟩) n c1)),(2,.v (.slice (some ⟨g2,0,none⟩) n c2)),(8,.v (.int .i64 n)),(9,.p 0 0),(10,.v (.int .i64 i))] ⟨RG.st,RG.st,RG.st,RG.aK rfl 24 55 56 rfl (.v (.slice (some ⟨g2,0,none⟩) n c2)) (.int .i64 i) RG.sx RG.sx (fun μ w=>xE _ 0 _ _ i hi w),RG.aJ rfl g2 (0+i) hg2 P4 9 57 rfl (.string (Ss i)) rfl RG.sx hz2 u9s,RG.cp 0 (args:=fun μ=>#[.pointer (some ⟨μ 0,0,none⟩),.string ⟨#[115,105,103,110]⟩,.string (Ss i)]) (fun μ w' e he ht hr=>by
   obtain rfl:=Qh.inj he;exact Fz L2 s2 ⟨#[115,105,103,110]⟩ (Ss i) (by decide) (hsz i hi).2.2 L3 hL3 (μ 0) w' ht hr) (fun _ _=>by kernel_rfl),trivial⟩ ?_
  intro a24 w24 M24;repeat refine wp_seq ?_
  refine M24.u [.x 40 [] (.int .i64 i),.x 41 [(40,0)] (.int .i64 ((i+1:Nat):Int)),.x 10 [(41,1)] (.int .i64 ((i+1:Nat):Int))] [(0,.v (.slice (some ⟨g0,0,none⟩) n c0)),(1,.v (.slice (some ⟨g1,0,none⟩) n c1)),(2,.v (.slice (some ⟨g2,0,none⟩) n c2)),(8,.v (.int .i64 n)),(9,.p 0 0),(10,.v (.int .i64 ((i+1:Nat):Int)))] ⟨RG.st,RG.aI rfl .add 3 3 40 (.int .i64 i) (.int .i64 1) (.int .i64 ((i+1:Nat):Int)) rfl rfl RG.sx (fun w=>by kernel_rfl) (mH i 1 (by omega) (by omega)),RG.st,trivial⟩ ?_;intro a25 w25 M25;show ∃n',_;exact⟨m'-1,by omega,i+1,kt,by omega,by rw[hn1];exact M25⟩
 ·have hiN:i=n:=by omega
  rw[hiN]at M20;have s0:=hLs n;repeat refine wp_seq ?_
  refine M20.u [.x 37 [] (.int .i64 n),.x 38 [] (.int .i64 n),.x 39 [(37,0),(38,1)] (.bool false)] [(0,.v (.slice q0 n c0)),(1,.v (.slice q1 n c1)),(2,.v (.slice q2 n c2)),(8,.v (.int .i64 n)),(9,.p 0 0),(39,.v (.bool false))] ⟨RG.st,RG.st,RG.aG rfl .lss 3 3 37 38 (.int .i64 n) (.int .i64 n) (.bool false) rfl rfl RG.sx RG.sx (fun w=>by kernel_rfl) (fY (U1 n)),trivial⟩ ?_;intro a21 w21 M21;repeat refine wp_seq ?_
  refine wp_cond_false M21.ev ?_;refine wp_exit ?_;dsimp only[Exit.then,So];rw[if_pos rfl];repeat refine wp_seq ?_
  generalize hLn':LL n=Ln at M21 s0 hE;refine M21.t [.c 60 [] rv1,.m 11 [] 1,.u [(11,1),(60,0)] 1] [(1,RG.z 8)] [(1,2,rl1)] [[.string ⟨Ln⟩],rl1] [(0,.v (.slice q0 n c0)),(1,.v (.slice q1 n c1)),(2,.v (.slice q2 n c2)),(8,.v (.int .i64 n)),(9,.p 0 0),(11,.p 1 0)] ⟨RG.cl MS,RG.mk 1 70,RG.pt i35,trivial⟩ ?_;intro j22 a22 w22 M22;repeat refine wp_seq ?_
  refine M22.t [.m 12 [] 2] [(0,RG.z 4)] [] [[.string ⟨Ln⟩],rl1,RG.z 4] [(0,.v (.slice q0 n c0)),(1,.v (.slice q1 n c1)),(2,.v (.slice q2 n c2)),(8,.v (.int .i64 n)),(9,.p 0 0),(11,.p 1 0),(12,.p 2 0)] ⟨RG.mk 2 68,trivial⟩ ?_;intro j23 a23 w23 M23;repeat refine wp_seq ?_
  refine M23.t [.c 61 [] (tv ((0,1,0):T3 P)),.m 13 [] 3,.u [(13,1),(61,0)] 3] [(1,RG.z 12)] [(3,2,tw ((0,1,0):T3 P))] [[.string ⟨Ln⟩],rl1,RG.z 4,tw ((0,1,0):T3 P)] [(0,.v (.slice q0 n c0)),(1,.v (.slice q1 n c1)),(2,.v (.slice q2 n c2)),(8,.v (.int .i64 n)),(9,.p 0 0),(11,.p 1 0),(12,.p 2 0),(13,.p 3 0)] ⟨RG.cl (xH C),RG.mk 3 73,RG.pt i56,trivial⟩ ?_;intro j24 a24 w24 M24;repeat refine wp_seq ?_
  refine M24.u [.x 14 [] (.int .i64 0)] [(0,.v (.slice q0 n c0)),(1,.v (.slice q1 n c1)),(2,.v (.slice q2 n c2)),(8,.v (.int .i64 n)),(9,.p 0 0),(11,.p 1 0),(12,.p 2 0),(13,.p 3 0),(14,.v (.int .i64 0))] ⟨RG.st,trivial⟩ ?_;intro a25 w25 M25;have hw0:RG.z 4=wn (btL N (ent E 0)):=by
   show RG.z 4=wn 0;kernel_rfl
  rw[hw0]at M25;repeat refine wp_seq ?_
  refine wp_block ?_;refine wp_loop_ghost (fun m a W=>∃(i kt k1 k2 k3:Nat) (t:T3 P),i+m=n/\(∀j,j<i->bOk P N (Sp j).data (Ss j).data=true)/\FracT t (btR N (ent E i))/\RG.M w w.heap.size [] 131 [[.string ⟨wlg Ln i⟩],rl1,wn (btL N (ent E i)),tw t] [kt,k1,k2,k3] [(0,.v (.slice q0 n c0)),(1,.v (.slice q1 n c1)),(2,.v (.slice q2 n c2)),(8,.v (.int .i64 n)),(9,.p 0 0),(11,.p 1 0),(12,.p 2 0),(13,.p 3 0),(14,.v (.int .i64 i))] a W) n ⟨0,_,_,_,_,_,by omega,fun j hj=>absurd hj (Nat.not_lt_zero _),FracT.none,M25⟩ ?_;clear him hi hiN M20;intro m2 a W;rintro⟨i,kt,k1,k2,k3,t,him,hall,hF,M30⟩;by_cases hi:i<n
  ·obtain⟨g0,rfl,hg0,hc0⟩:=h0 (by omega);obtain⟨g1,rfl,hg1,hc1⟩:=h1 (by omega);obtain⟨g2,rfl,hg2,hc2⟩:=h2 (by omega);have hz0:w.cell? ⟨g0,0+i,none⟩=some (.string (Sp i)):=by rw[PU];exact hc0 i hi
   have hz1:w.cell? ⟨g1,0+i,none⟩=some (.string (St i)):=by rw[PU];exact hc1 i hi
   have hz2:w.cell? ⟨g2,0+i,none⟩=some (.string (Ss i)):=by rw[PU];exact hc2 i hi
   have sw:=xP s0 i;have hEi:E i=bEn P N Ln (fun i=>(Sp i).data) (fun i=>(Ss i).data) (fun i=>(St i).data.toList) i:=by rw[hE.out]
   have hB1:btL N (ent E (i+1))=sPl N (btL N (ent E i)) (sTi N (E i).w (E i).z):=by rw[kS,nO]
   have hB2:btR N (ent E (i+1))=EC.add (btR N (ent E i)) (EC.add (EC.mul (E i).w (E i).F) (EC.mul (sTi N (E i).w (E i).c) (E i).Q)):=by rw[kS,nN]
   have hwl:wlg Ln (i+1)=SP.gJ (wlg Ln i) [119,101,105,103,104,116]:=rfl;have hwg:wgt N Ln i=fG N (SP.iK (wlg Ln i) [119,101,105,103,104,116] 64):=rfl;have haN:=wY O E i;have hno:bOk P N (Sp i).data (Ss i).data=false->btA P N n (fun i=>(Sp i).data) (fun i=>(Ss i).data) (fun i=>(St i).data.toList)=false:=fun hf=>by
    unfold btA;rw[decide_eq_false (fun h=>by have:=h i hi;rw[hf]at this;cases this),Vx]
   generalize hL0':wlg Ln i=L0 at M30 sw hwl hwg;generalize btL N (ent E i)=a' at M30 hB1 haN;have hreal:=Ji C (Sp i);obtain⟨tp,htp⟩:∃tp,rdT P (Sp i).data=tp:=⟨_,rfl⟩
   obtain⟨o0,ho0⟩:∃o0,real P (Sp i).data=o0:=⟨_,rfl⟩
   rw[htp,ho0]at hreal;have hsig:=fun lb hlb h0 h1=>LN (P:=P) (Ss i) ((Ss i).extract 0 33) ((Ss i).extract 33 65) (rdT P ((Ss i).extract 0 33).data) (nuV ((Ss i).extract 33 65).data) lb (rd P ((Ss i).extract 0 33).data).isSome (rq N ((Ss i).extract 33 65).data).isSome hlb h0 h1 (CJ C ((Ss i).extract 0 33).data) (Jg O ((Ss i).extract 33 65))
   repeat refine wp_seq ?_
   refine M30.u [.x 62 [] (.int .i64 i),.x 63 [] (.int .i64 n),.x 64 [(62,0),(63,1)] (.bool true)] [(0,.v (.slice (some ⟨g0,0,none⟩) n c0)),(1,.v (.slice (some ⟨g1,0,none⟩) n c1)),(2,.v (.slice (some ⟨g2,0,none⟩) n c2)),(8,.v (.int .i64 n)),(9,.p 0 0),(11,.p 1 0),(12,.p 2 0),(13,.p 3 0),(14,.v (.int .i64 i)),(64,.v (.bool true))] ⟨RG.st,RG.st,RG.aG rfl .lss 3 3 62 63 (.int .i64 i) (.int .i64 n) (.bool true) rfl rfl RG.sx RG.sx (fun w=>by kernel_rfl) (dE hi),trivial⟩ ?_;intro a31 w31 M31;repeat refine wp_seq ?_
   refine wp_cond_true M31.ev ?_;refine wp_skip ?_;refine wp_seq ?_;refine wp_block ?_;repeat refine wp_seq ?_
   refine M31.t (Ow (.slice (some ⟨g0,0,none⟩) n c0) g0 i (Sp i) (tv tp) o0) [(8,RG.z 12)] [(4,9,tw tp)] [[.string ⟨L0⟩],rl1,wn a',tw t,tw tp] [(0,.v (.slice (some ⟨g0,0,none⟩) n c0)),(1,.v (.slice (some ⟨g1,0,none⟩) n c1)),(2,.v (.slice (some ⟨g2,0,none⟩) n c2)),(8,.v (.int .i64 n)),(9,.p 0 0),(11,.p 1 0),(12,.p 2 0),(13,.p 3 0),(14,.v (.int .i64 i)),(15,.p 4 0),(16,.v (.bool o0))] ⟨RG.st,RG.st,RG.aK rfl 24 68 69 rfl (.v (.slice (some ⟨g0,0,none⟩) n c0)) (.int .i64 i) RG.sx RG.sx (fun μ w=>xE _ 0 _ _ i hi w),RG.aJ rfl g0 (0+i) hg0 P4 9 70 rfl (.string (Sp i)) rfl RG.sx hz0 u9s,RG.cl hreal,RG.st,RG.st,RG.st,RG.mk 4 73,RG.pt i56,RG.st,trivial⟩ ?_;intro j32 a32 w32 M32;repeat refine wp_seq ?_
   by_cases h65:(Ss i).size=65
   ·have hlb:(!(((Ss i).size:Int) == 65))=false:=by rw[h65];rfl
    have h1:=hsig false hlb (fun _=>Nr (Ss i) h65) (fun _=>OM (Ss i) h65);have lz:=JF ((Ss i).extract 33 65).data;obtain⟨fine,hfine⟩:∃fine,((rd P ((Ss i).extract 0 33).data).isSome && (rq N ((Ss i).extract 33 65).data).isSome)=fine:=⟨_,rfl⟩
    obtain⟨tf,htf⟩:∃tf,rdT P ((Ss i).extract 0 33).data=tf:=⟨_,rfl⟩
    obtain⟨z,hz⟩:∃z,nuV ((Ss i).extract 33 65).data=z:=⟨_,rfl⟩
    have h1:Gives 29 #[.string (Ss i)] (.tuple #[tv tf,nv z,.bool fine]):=by
     rw[hfine,htf,hz]at h1;exact h1
    have e0:((Ss i).extract 0 33).data=(Ss i).data.extract 0 33:=by rw[UL]
    have e1:((Ss i).extract 33 65).data=(Ss i).data.extract 33 65:=by rw[UL]
    have hRp:cY P N (Ss i).data=fine:=by
     unfold cY;have h65':(Ss i).data.size=65:=h65;rw[decide_eq_true h65',VE,<-e0,<-e1];exact hfine
    refine M32.t (Lb (.slice (some ⟨g2,0,none⟩) n c2) g2 i (Ss i) (tv tf) (nv z) fine) [(9,RG.z 12),(10,RG.z 4)] [(5,11,tw tf),(6,12,wn z)] [[.string ⟨L0⟩],rl1,wn a',tw t,tw tp,tw tf,wn z] [(0,.v (.slice (some ⟨g0,0,none⟩) n c0)),(1,.v (.slice (some ⟨g1,0,none⟩) n c1)),(2,.v (.slice (some ⟨g2,0,none⟩) n c2)),(8,.v (.int .i64 n)),(9,.p 0 0),(11,.p 1 0),(12,.p 2 0),(13,.p 3 0),(14,.v (.int .i64 i)),(15,.p 4 0),(16,.v (.bool o0)),(17,.p 5 0),(18,.p 6 0),(19,.v (.bool fine))] ⟨RG.st,RG.st,RG.aK rfl 24 76 77 rfl (.v (.slice (some ⟨g2,0,none⟩) n c2)) (.int .i64 i) RG.sx RG.sx (fun μ w=>xE _ 0 _ _ i hi w),RG.aJ rfl g2 (0+i) hg2 P4 9 78 rfl (.string (Ss i)) rfl RG.sx hz2 u9s,RG.cl h1,RG.st,RG.st,RG.st,RG.st,RG.mk 5 73,RG.mk 6 68,RG.pt i56,RG.pt i33,RG.st,trivial⟩ ?_;intro j33 j34 a33 w33 M33;repeat refine wp_seq ?_
    cases o0 with
    | false =>
     rw[hno (by unfold bOk;rw[ho0];rfl)];refine M33.u Io [(89,.v (.bool true))] ⟨RG.st,RG.st,RG.st,RG.aH rfl rfl,RG.aH rfl rfl,RG.st,trivial⟩ ?_;intro a34 w34 M34;repeat refine wp_seq ?_
     refine wp_cond_true (M34.ev (v:=.bool true) (by kernel_rfl)) ?_;repeat refine wp_seq ?_
     refine M34.u [.x 6 [] (.bool false),.x 7 [] (.int .i64 0)] [(6,.v (.bool false)),(7,.v (.int .i64 0))] ⟨RG.st,RG.st,trivial⟩ ?_;intro az wz Mz;refine wp_ret ?_;refine bodyPost_ret (v:=.tuple #[.bool false,.int .i64 0]) (RG.bH 6 7 rfl (.bool false) (.int .i64 0) Mz.av Mz.av) Mz.sl.defers ?_;exact⟨_,rfl,Mz.st.bel.below,rfl⟩
    | true =>
     cases fine with
     | false =>
      rw[hno (by unfold bOk;rw[hRp,Vy])];refine M33.u (Cg false) [(89,.v (.bool true))] ⟨RG.st,RG.st,RG.st,RG.st,RG.st,RG.st,trivial⟩ ?_;intro a34 w34 M34;repeat refine wp_seq ?_
      refine wp_cond_true (M34.ev (v:=.bool true) (by kernel_rfl)) ?_;repeat refine wp_seq ?_
      refine M34.u [.x 6 [] (.bool false),.x 7 [] (.int .i64 0)] [(6,.v (.bool false)),(7,.v (.int .i64 0))] ⟨RG.st,RG.st,trivial⟩ ?_;intro az wz Mz;refine wp_ret ?_;refine bodyPost_ret (v:=.tuple #[.bool false,.int .i64 0]) (RG.bH 6 7 rfl (.bool false) (.int .i64 0) Mz.av Mz.av) Mz.sl.defers ?_;exact⟨_,rfl,Mz.st.bel.below,rfl⟩
     | true =>
      refine M33.u (Cg true) [(0,.v (.slice (some ⟨g0,0,none⟩) n c0)),(1,.v (.slice (some ⟨g1,0,none⟩) n c1)),(2,.v (.slice (some ⟨g2,0,none⟩) n c2)),(8,.v (.int .i64 n)),(9,.p 0 0),(11,.p 1 0),(12,.p 2 0),(13,.p 3 0),(14,.v (.int .i64 i)),(15,.p 4 0),(17,.p 5 0),(18,.p 6 0),(89,.v (.bool false))] ⟨RG.st,RG.st,RG.st,RG.st,RG.st,RG.st,trivial⟩ ?_;intro a34 w34 M34;repeat refine wp_seq ?_
      refine wp_cond_false (M34.ev (v:=.bool false) (by kernel_rfl)) ?_;refine wp_skip ?_;repeat refine wp_seq ?_
      have hok:bOk P N (Sp i).data (Ss i).data=true:=by unfold bOk;rw[ho0,hRp];rfl
      have hEw:(E i).w=wgt N Ln i:=by rw[hEi];rfl
      have hEz:(E i).z=z:=by
       rw[hEi];show bZ P N (Ss i).data=z;unfold bZ;rw[hRp,if_pos rfl,<-e1];exact hz
      have hEc:(E i).c=asg N (Sp i).data.toList ((Ss i).extract 0 33).data.toList (St i).data.toList:=by
       rw[hEi,e0];rfl
      have hEF:FracT tf (E i).F:=by
       rw[hEi,<-htf];show FracT _ (jU P ((Ss i).data.extract 0 33));rw[<-e0];exact fS C ((P3 _ _).mp hfine).1
      have hEQ:FracT tp (E i).Q:=by
       rw[hEi,<-htp];exact fS C (mV ho0)
      have hwN:=Fb O Ln i;have hcN:=BW O (Sp i).data.toList ((Ss i).extract 0 33).data.toList (St i).data.toList;have hzN:z<N:=by
       rw[<-hz];exact Km ((P3 _ _).mp hfine).2
      have hAs:=Gf O (Sp i) ((Ss i).extract 0 33) (St i) (hsz i hi).1 (by rw[ByteArray.size_extract];omega) (hsz i hi).2.1;have hMod:=Ge O (SP.iK L0 [119,101,105,103,104,116] 64) (by rw[SP.lO];decide);rw[<-hwg]at hMod;obtain⟨A,hA⟩:∃A,SP.iK L0 [119,101,105,103,104,116] 64=A:=⟨_,rfl⟩
      obtain⟨L1,hL1⟩:∃L1,SP.gJ L0 [119,101,105,103,104,116]=L1:=⟨_,rfl⟩
      rw[hA]at hMod;rw[hL1]at hwl;generalize wgt N Ln i=x at hMod hwN hEw;generalize asg N (Sp i).data.toList ((Ss i).extract 0 33).data.toList (St i).data.toList=c at hAs hcN hEc;have hle:=O.le;have hM1:=Gd O hwN hzN;have hM2:=Gd O hwN hcN;have hAd:=LO O haN (qY O x z);have hmul:∀ {m:Nat}{t:T3 P}{p:EC.Pt P},m<N->FracT t p->FracT (tmF m t 256) (EC.mul m p):=fun {m t p} hm ht=>by
       have h:=Cr C (n:=m) (by unfold top at hle;omega) ht 256 (PQ _);rwa[Nat.sub_self,SX,Nat.div_one]at h
      have hT1:=rG C x (PS hwN hle) tf hEF;have hT2:=rG C (sTi N x c) (PS (qY O x c) hle) tp hEQ;obtain⟨hP1,f3⟩:=FracT.plus C (hmul hwN hEF) (hmul (qY O x c) hEQ);obtain⟨hP2,f4⟩:=FracT.plus C hF f3;rw[hEw,hEz]at hB1;rw[hEw,hEc]at hB2;rw[<-hB2]at f4;generalize sTi N x z=b at hM1 hAd hB1;generalize sPl N a' b=a2 at hAd hB1;generalize sTi N x c=d at hM2 hT2 hP1 hP2 f4;generalize tmF x tf 256=t1 at hT1 hP1 hP2 f4;generalize tmF d tp 256=t2 at hT2 hP1 hP2 f4;generalize plF t1 t2=t3 at hP1 hP2 f4;generalize plF t t3=t4 at hP2 f4;refine M34.d (Ov A x) [(4,RG.z 4)] [(0,2,[.string ⟨L1⟩]),(7,5,wn x)] [[.string ⟨L1⟩],rl1,wn a',tw t,tw tp,tw tf,wn z,wn x] [(0,.v (.slice (some ⟨g0,0,none⟩) n c0)),(1,.v (.slice (some ⟨g1,0,none⟩) n c1)),(2,.v (.slice (some ⟨g2,0,none⟩) n c2)),(8,.v (.int .i64 n)),(9,.p 0 0),(11,.p 1 0),(12,.p 2 0),(13,.p 3 0),(14,.v (.int .i64 i)),(15,.p 4 0),(17,.p 5 0),(18,.p 6 0),(20,.p 7 0)] ⟨RG.ld u35 i35,RG.st,RG.cp 0 (args:=fun μ=>#[.pointer (some ⟨μ 0,0,none⟩),.string ⟨#[119,101,105,103,104,116]⟩,.int .i64 64]) (fun μ w' e he ht hr=>by
       obtain rfl:=Qh.inj he;exact Oe L0 sw A L1 hA hL1 (μ 0) w' ht hr) (fun _ _=>by kernel_rfl),RG.cl hMod,RG.mk 7 68,RG.pt i33,trivial⟩ ?_
      intro j35 a35 w35 M35;repeat refine wp_seq ?_
      refine M35.d (Ou (.slice (some ⟨g0,0,none⟩) n c0) (.slice (some ⟨g1,0,none⟩) n c1) (.slice (some ⟨g2,0,none⟩) n c2) g0 g1 g2 i (Sp i) (St i) (Ss i) ((Ss i).extract 0 33) c) [(14,RG.z 4)] [(8,15,wn c)] [[.string ⟨L1⟩],rl1,wn a',tw t,tw tp,tw tf,wn z,wn x,wn c] [(0,.v (.slice (some ⟨g0,0,none⟩) n c0)),(1,.v (.slice (some ⟨g1,0,none⟩) n c1)),(2,.v (.slice (some ⟨g2,0,none⟩) n c2)),(8,.v (.int .i64 n)),(9,.p 0 0),(11,.p 1 0),(12,.p 2 0),(13,.p 3 0),(14,.v (.int .i64 i)),(15,.p 4 0),(17,.p 5 0),(18,.p 6 0),(20,.p 7 0),(21,.p 8 0)] ⟨RG.st,RG.st,RG.aK rfl 24 94 95 rfl (.v (.slice (some ⟨g0,0,none⟩) n c0)) (.int .i64 i) RG.sx RG.sx (fun μ w=>xE _ 0 _ _ i hi w),RG.aJ rfl g0 (0+i) hg0 P4 9 96 rfl (.string (Sp i)) rfl RG.sx hz0 u9s,RG.st,RG.st,RG.aK rfl 24 98 99 rfl (.v (.slice (some ⟨g2,0,none⟩) n c2)) (.int .i64 i) RG.sx RG.sx (fun μ w=>xE _ 0 _ _ i hi w),RG.aJ rfl g2 (0+i) hg2 P4 9 100 rfl (.string (Ss i)) rfl RG.sx hz2 u9s,RG.pO rfl 9 101 (.int .i64 33) (.string (Ss i)) (.string ((Ss i).extract 0 33)) rfl rfl RG.sx (Nr (Ss i) h65),RG.st,RG.st,RG.aK rfl 24 103 104 rfl (.v (.slice (some ⟨g1,0,none⟩) n c1)) (.int .i64 i) RG.sx RG.sx (fun μ w=>xE _ 0 _ _ i hi w),RG.aJ rfl g1 (0+i) hg1 P4 9 105 rfl (.string (St i)) rfl RG.sx hz1 u9s,RG.cl hAs,RG.mk 8 68,RG.pt i33,trivial⟩ ?_;intro j36 a36 w36 M36;repeat refine wp_seq ?_
      refine M36.d (Ot a' x z b a2) [] [(2,7,wn a2)] [[.string ⟨L1⟩],rl1,wn a2,tw t,tw tp,tw tf,wn z,wn x,wn c] [(0,.v (.slice (some ⟨g0,0,none⟩) n c0)),(1,.v (.slice (some ⟨g1,0,none⟩) n c1)),(2,.v (.slice (some ⟨g2,0,none⟩) n c2)),(8,.v (.int .i64 n)),(9,.p 0 0),(11,.p 1 0),(12,.p 2 0),(13,.p 3 0),(14,.v (.int .i64 i)),(15,.p 4 0),(17,.p 5 0),(18,.p 6 0),(20,.p 7 0),(21,.p 8 0)] ⟨RG.ld u35 i35,RG.ld u33 i33,RG.ld u35 i35,RG.ld u33 i33,RG.ld u33 i33,RG.cl hM1,RG.cl hAd,RG.pt i33,trivial⟩ ?_;intro a37 w37 M37;repeat refine wp_seq ?_
      refine M37.d (Oq x c d t tf tp t1 t2 t3 t4) [] [(3,12,tw t4)] [[.string ⟨L1⟩],rl1,wn a2,tw t4,tw tp,tw tf,wn z,wn x,wn c] [(0,.v (.slice (some ⟨g0,0,none⟩) n c0)),(1,.v (.slice (some ⟨g1,0,none⟩) n c1)),(2,.v (.slice (some ⟨g2,0,none⟩) n c2)),(8,.v (.int .i64 n)),(9,.p 0 0),(11,.p 1 0),(12,.p 2 0),(13,.p 3 0),(14,.v (.int .i64 i))] ⟨RG.ld u56 i56,RG.ld u33 i33,RG.ld u56 i56,RG.cl hT1,RG.ld u35 i35,RG.ld u33 i33,RG.ld u33 i33,RG.cl hM2,RG.ld u56 i56,RG.cl hT2,RG.cl hP1,RG.cl hP2,RG.pt i56,trivial⟩ ?_;intro a38 w38 M38;repeat refine wp_seq ?_
      refine M38.u [.x 65 [] (.int .i64 i),.x 66 [(65,0)] (.int .i64 ((i+1:Nat):Int)),.x 14 [(66,1)] (.int .i64 ((i+1:Nat):Int))] [(0,.v (.slice (some ⟨g0,0,none⟩) n c0)),(1,.v (.slice (some ⟨g1,0,none⟩) n c1)),(2,.v (.slice (some ⟨g2,0,none⟩) n c2)),(8,.v (.int .i64 n)),(9,.p 0 0),(11,.p 1 0),(12,.p 2 0),(13,.p 3 0),(14,.v (.int .i64 ((i+1:Nat):Int)))] ⟨RG.st,RG.aI rfl .add 3 3 65 (.int .i64 i) (.int .i64 1) (.int .i64 ((i+1:Nat):Int)) rfl rfl RG.sx (fun w=>by kernel_rfl) (mH i 1 (by omega) (by omega)),RG.st,trivial⟩ ?_;intro a39 w39 M39;show ∃n',_;exact⟨m2-1,by omega,i+1,kt,k1,k2,k3,t4,by omega,fun j hj=>(by
       by_cases hji:j=i
       ·rw[hji];exact hok
       ·exact hall j (by omega)),f4,by
       rw[hB1,hwl];exact RG.M.drop (cs:=[_,_,_,_]) (cs2:=[_,_,_,_,_]) (ks:=[kt,k1,k2,k3]) (ks2:=[_,_,_,_,_]) M39 rfl rfl⟩
   ·have hlb:(!(((Ss i).size:Int) == 65))=true:=by
     have:(((Ss i).size:Int) == 65)=false:=by simpa using(by omega:¬((Ss i).size:Int)=65)
     rw[this];rfl
    have h1:Gives 29 #[.string (Ss i)] (.tuple #[.agg (RG.z 12).toArray,.agg (RG.z 4).toArray,.bool false]):=hsig true hlb (fun h=>by cases h) (fun h=>by cases h);have hRp:cY P N (Ss i).data=false:=by
     unfold cY;rw[decide_eq_false (show ¬(Ss i).data.size=65 from h65),Vx]
    rw[hno (by unfold bOk;rw[hRp,Vy])];refine M32.t (Lb (.slice (some ⟨g2,0,none⟩) n c2) g2 i (Ss i) (.agg (RG.z 12).toArray) (.agg (RG.z 4).toArray) false) [(9,RG.z 12),(10,RG.z 4)] [(5,11,RG.z 12),(6,12,RG.z 4)] [[.string ⟨L0⟩],rl1,wn a',tw t,tw tp,RG.z 12,RG.z 4] [(16,.v (.bool o0)),(19,.v (.bool false))] ⟨RG.st,RG.st,RG.aK rfl 24 76 77 rfl (.v (.slice (some ⟨g2,0,none⟩) n c2)) (.int .i64 i) RG.sx RG.sx (fun μ w=>xE _ 0 _ _ i hi w),RG.aJ rfl g2 (0+i) hg2 P4 9 78 rfl (.string (Ss i)) rfl RG.sx hz2 u9s,RG.cl h1,RG.st,RG.st,RG.st,RG.st,RG.mk 5 73,RG.mk 6 68,RG.pt i56,RG.pt i33,RG.st,trivial⟩ ?_;intro j33 j34 a33 w33 M33;repeat refine wp_seq ?_
    cases o0 with
    | false =>
     refine M33.u Io [(89,.v (.bool true))] ⟨RG.st,RG.st,RG.st,RG.aH rfl rfl,RG.aH rfl rfl,RG.st,trivial⟩ ?_;intro a34 w34 M34;repeat refine wp_seq ?_
     refine wp_cond_true (M34.ev (v:=.bool true) (by kernel_rfl)) ?_;repeat refine wp_seq ?_
     refine M34.u [.x 6 [] (.bool false),.x 7 [] (.int .i64 0)] [(6,.v (.bool false)),(7,.v (.int .i64 0))] ⟨RG.st,RG.st,trivial⟩ ?_;intro az wz Mz;refine wp_ret ?_;refine bodyPost_ret (v:=.tuple #[.bool false,.int .i64 0]) (RG.bH 6 7 rfl (.bool false) (.int .i64 0) Mz.av Mz.av) Mz.sl.defers ?_;exact⟨_,rfl,Mz.st.bel.below,rfl⟩
    | true =>
     refine M33.u (Cg false) [(89,.v (.bool true))] ⟨RG.st,RG.st,RG.st,RG.st,RG.st,RG.st,trivial⟩ ?_;intro a34 w34 M34;repeat refine wp_seq ?_
     refine wp_cond_true (M34.ev (v:=.bool true) (by kernel_rfl)) ?_;repeat refine wp_seq ?_
     refine M34.u [.x 6 [] (.bool false),.x 7 [] (.int .i64 0)] [(6,.v (.bool false)),(7,.v (.int .i64 0))] ⟨RG.st,RG.st,trivial⟩ ?_;intro az wz Mz;refine wp_ret ?_;refine bodyPost_ret (v:=.tuple #[.bool false,.int .i64 0]) (RG.bH 6 7 rfl (.bool false) (.int .i64 0) Mz.av Mz.av) Mz.sl.defers ?_;exact⟨_,rfl,Mz.st.bel.below,rfl⟩
  ·have hiN2:i=n:=by omega
   rw[hiN2]at hall hF M30;have hA:btA P N n (fun i=>(Sp i).data) (fun i=>(Ss i).data) (fun i=>(St i).data.toList)=decide (EC.mul (btL N (ent E n)) (gG P)=btR N (ent E n)):=by
    unfold btA;have hLg:bLg (fun i=>(Sp i).data) (fun i=>(Ss i).data) (fun i=>(St i).data.toList) n=Ln:=by rw[<-hLn',hLL.out];rfl
    rw[decide_eq_true hall,VE,hLg,<-hE.out]
   rw[hA];have haN:=PS (wY O E n) O.le;have hBs:=Jj C (btL N (ent E n)) haN;have hSm:=Jd C (IB C haN) hF;generalize decide (EC.mul (btL N (ent E n)) (gG P)=btR N (ent E n))=y at hSm⊢;generalize btL N (ent E n)=a' at hBs hSm M30;generalize tmF a' (gT P) 256=tb at hBs hSm;repeat refine wp_seq ?_
   refine M30.u [.x 62 [] (.int .i64 n),.x 63 [] (.int .i64 n),.x 64 [(62,0),(63,1)] (.bool false)] [(12,.p 2 0),(13,.p 3 0),(64,.v (.bool false))] ⟨RG.st,RG.st,RG.aG rfl .lss 3 3 62 63 (.int .i64 n) (.int .i64 n) (.bool false) rfl rfl RG.sx RG.sx (fun w=>by kernel_rfl) (fY (U1 n)),trivial⟩ ?_;intro a31 w31 M31;repeat refine wp_seq ?_
   refine wp_cond_false M31.ev ?_;refine wp_exit ?_;dsimp only[Exit.then,So];rw[if_pos rfl];repeat refine wp_seq ?_
   refine M31.e [.x 127 [] (nv a'),.c 128 [(127,0)] (tv tb),.x 129 [] (tv t),.c 130 [(128,1),(129,2)] (.bool y),.x 6 [(130,3)] (.bool y),.x 7 [] (.int .i64 0)] [(6,.v (.bool y)),(7,.v (.int .i64 0))] ⟨RG.ld u33 i33,RG.cl hBs,RG.ld u56 i56,RG.cl hSm,RG.st,RG.st,trivial⟩ ?_;intro a32 w32 M32;refine wp_ret ?_;refine bodyPost_ret (v:=.tuple #[.bool y,.int .i64 0]) (RG.bH 6 7 rfl (.bool y) (.int .i64 0) M32.av M32.av) M32.sl.defers ?_;exact⟨_,rfl,M32.st.bel.below,rfl⟩
end
section
open Go.RowKit Go.Sort Go.Deep
variable {P:Nat}[NeZero P]{N:Nat}
theorem Jr{W:World}{B0 n:Nat}{v:Value}{T:Bs}(h:W.ownsRow B0 5 1 v n (cb T))(hn:0<n)(hT:T.size=n):El n W v T:=by
 have h0:=fun {g:Nat}=>h.cells (g:=g)
 rcases h.2 with⟨-,h2⟩|⟨g,cap,cur,rfl,-,hc,hq⟩
 ·omega
 ·have hr:W.rangeAt g 0 (cb T):=fun j u hu=>by
   have:=h0 (g:=g) rfl j u hu;rw[add0]at this;rw[PU];exact this
  refine⟨g,cap,rfl,?_,hT,(Qg.1 hc).1,cb_holds hr fun j hj=>⟨?_,?_⟩⟩
  ·exact hq.1
  ·rw[hr j _ (P6 hj)];rfl
  ·simp[Ti,hc]
end
section
open Go.RowKit Go.Sort Go.Deep
variable {P:Nat}[NeZero P]{N:Nat}
section
variable (w:World) (k9 k11 kk x:Nat) (k s g:Bool) (fv:Value) (c9 c11:List Value) (T:Bs) (eqb:Bool)
end
end
section
open Go.RowKit Go.Sort Go.Deep
variable {P:Nat}[NeZero P]{N:Nat}
theorem Kn(O:Ord N){n:Nat}(hn:n<N):rq N (bx n)=some n:=by
 have hv:beV (bx n).toList=n:=wX (PS hn O.le);unfold rq;rw[hv,if_pos ⟨cN n,hn⟩]
theorem NE(O:Ord N){n:Nat}(hn:n<N):nuV (bx n)=n:=(FH (Kn O hn)).symm
theorem I5(C:Fl3 P){X:EC.Pt P}(hX:EC.On X)(h0:X≠none):real P (wr X)=true/\jU P (wr X)=X:=by
 obtain⟨p,hp,hpt⟩:=rC C.toFld hX;have hB:rdB P (wr X)=wr X:=by unfold rdB;rw[hp];rfl
 refine⟨?_,by rw[CO hp];exact hpt⟩;have hne:¬wr X=o33:=fun e=>by
  rw[<-vG (P:=P)]at e;have:=congrArg (fE P) e;rw[dS C.toFld hX,dS C.toFld EC.eN]at this;exact h0 this
 unfold real;rw[hB,hp,decide_eq_false hne];rfl
theorem fl3:∃(P:Nat) (_:NeZero P),Fl3 P:=by
 obtain⟨P,hz,hP,hc⟩:=EC.cur;have h0:P=Go.Proofs.YtfcnimopdjjhcaaGreat.p0:=by rw[hP];decide +kernel
 have hg:=Pk;have hr:=Nx;have h2:2<=Go.Proofs.YtfcnimopdjjhcaaGreat.p0%18446744073709551616:=by decide +kernel
 have h4:Go.Proofs.YtfcnimopdjjhcaaGreat.p0/4%18446744073709551616<18446744073709551615:=by decide +kernel
 have h3:Go.Proofs.YtfcnimopdjjhcaaGreat.p0%4=3:=by decide +kernel
 have h7:7<Go.Proofs.YtfcnimopdjjhcaaGreat.p0:=by decide +kernel
 rw[<-h0]at hg hr h2 h4 h3 h7;exact⟨P,hz,⟨⟨hg,hc,h2,h4,h3,h7⟩,hr⟩⟩
end
namespace EC
variable {P:Nat}[NeZero P]
def fo{α:Type}(x:Fin P)(f:Fin P->α):α:=
 match x.val with
 | 0=>f (SA P 0)
 | n+1=>f (SA P (n+1))
theorem NZ{α:Type}(x:Fin P)(f:Fin P->α):fo x f=f x:=by
 have hx:SA P x.val=x:=Ud (Qf x.isLt);unfold fo;split
 ·next h=>rw[h]at hx;rw[hx]
 ·next n h=>rw[h]at hx;rw[hx]
def runs(u v:Fin P)(e:Nat):Nat->Fin P->Fin P->Fin P->Bool
 | 0,_,_,z=>decide (z=0)
 | k+1,x,y,z=>fo (twX x y) fun X=>fo (twY x y) fun Y=>fo (twZ y z) fun Z =>
  if e/2^k%2=1 then
   if Z=0 then false else
   fo (cC X 1) fun ax=>fo (dA Y 1) fun ay=>fo (cC u Z) fun bx=>fo (dA v Z) fun bY =>
   if ax=bx/\ay=bY then false else
   fo (plX ax ay bx bY) fun a=>fo (plY ax ay bx bY) fun b=>fo (plZ Z 1 ax bx) fun c=>runs u v e k a b c
  else runs u v e k X Y Z
theorem Bb(C:Cur P):(1:Fin P)≠0:=fun h=>C.two (by
 calc (2:Fin P)=2*1:=by grobner
  _=0:=by rw[h];grobner)
theorem vU(C:Cur P){u v:Fin P}(hg:On (some (u,v)))(e:Nat):∀(k m:Nat) (x y z:Fin P),Jac x y z (mul m (some (u,v)))->runs u v e k x y z=true->mul (m*2^k+e%2^k) (some (u,v))=none
 | 0,m,x,y,z,hj,h=>by
  have hz:z=0:=of_decide_eq_true h;rw[SX,Nat.mod_one,Nat.mul_one,RD];exact hj.zero C hz
 | k+1,m,x,y,z,hj,h=>by
  have hm:=bI C hg m;have h1:=hj.twice C hm;rw[<-mul_add C hg]at h1;have hb:e%2^(k+1)=e/2^k%2*2^k+e%2^k:=by
   rw[Rk,Nat.mod_mul,Qr (2^k) (e/2^k%2),Nat.add_comm]
  have hp:2^(k+1)=2*2^k:=by rw[Rk,Qr]
  unfold runs at h;simp only[NZ]at h;by_cases hbit:e/2^k%2=1
  ·rw[if_pos hbit]at h;by_cases hZ:twZ y z=0
   ·rw[if_pos hZ]at h;cases h
   ·rw[if_neg hZ]at h;have hj1:Jac u v 1 (some (u,v)):=⟨Bb C,by grobner,by grobner⟩
    rcases h1.plus C (bI C hg _) hj1 hg hZ (Bb C)with⟨e1,e2,-⟩|⟨e1,e2⟩
    ·rw[if_pos ⟨e1,e2⟩]at h;cases h
    ·rw[if_neg e1]at h;have h2:=vU C hg e k (m+m+1) _ _ _ e2 h;rw[hb,hbit,hp];rw[show m*(2*2^k)+(1*2^k+e%2^k)=(m+m+1)*2^k+e%2^k by
      rw[SK,SK,<-RH,Qr m 2,XF,SK];omega]
     exact h2
  ·rw[if_neg hbit]at h;have h0:e/2^k%2=0:=by omega
   have h2:=vU C hg e k (m+m) _ _ _ h1 h;rw[hb,h0,hp];rw[show m*(2*2^k)+(0*2^k+e%2^k)=(m+m)*2^k+e%2^k by
    rw[<-RH,Qr m 2,XF];omega]
   exact h2
def pL:Nat:=115792089237316195423570985008687907853269984665640564039457584007908834671663
def nL:Nat:=115792089237316195423570985008687907852837564279074904382605163141518161494337
instance:NeZero pL:=⟨by decide +kernel⟩
theorem Lu:runs (P:=pL) (SA pL 55066263022277343669578718895168534326250603453777594175500187360389116729240) (SA pL 32670510020758816978083085130507043184471273380659243275938904335757337482424) nL 255 (SA pL 55066263022277343669578718895168534326250603453777594175500187360389116729240) (SA pL 32670510020758816978083085130507043184471273380659243275938904335757337482424) 1=true:=by decide +kernel
theorem IP:2*pL+1<3*nL:=by decide +kernel
theorem Mh:1*2^255+nL%2^255=nL:=by decide +kernel
theorem order(C:Cur P)(hP:P=pL)(hg:On (some (SA P 55066263022277343669578718895168534326250603453777594175500187360389116729240,SA P 32670510020758816978083085130507043184471273380659243275938904335757337482424))){r:Pt P}(hr:On r):mul nL r=none:=by
 subst hP;refine Gn C (n:=nL) NT.pN IP hg (fun h=>by cases h) ?_ hr;have h:=vU C hg nL 255 1 _ _ 1 (by
  show Jac _ _ 1 (add none _);rw[fX];exact⟨Bb C,by grobner,by grobner⟩) Lu
 rwa[Mh]at h
end EC
section
theorem Gh:Go.Proofs.YtfcnimopdjjhcaaGreat.p1=EC.nL:=by decide +kernel
variable {P:Nat}[NeZero P]
theorem order2(C:Fld P)(r:EC.Pt P)(hr:EC.On r):EC.mul Go.Proofs.YtfcnimopdjjhcaaGreat.p1 r=none:=by
 rw[Gh];have hP:P=EC.pL:=by
  rw[C.eq];rfl
 exact EC.order C.cur hP (nE C) hr
end
section
open Go.RowKit Go.Sort Go.Deep
variable {P:Nat}[NeZero P]{N:Nat}
theorem mul_ne(C:Fld P)(hord:∀r:EC.Pt P,EC.On r->EC.mul N r=none)(hp:NT.IsP N){X:EC.Pt P}(hX:EC.On X)(h0:X≠none){x:Nat}(hx:x<N)(hx0:x≠0):EC.mul x X≠none:=fun e=>by
 have hnd:¬N ∣ x:=fun h=>by
  have:=Nat.le_of_dvd (by omega) h;omega
 have hf:=hp.fermat1 x hnd;have hN1:1<=N-1:=by
  have:=hp.1;omega
 have h1:EC.mul (x^(N-1)) X=X:=by
  rw[<-mul_mod C hord hX,hf];exact EC.fX X
 have h2:x^(N-1)=x*x^(N-1-1):=by
  rw[Qr,<-Rk]
  congr 1
  omega
 rw[h2,EC.fH C.cur hX,e,EC.kN]at h1;exact h0 h1.symm
end
namespace RG
open Go Go.RowKit
variable {P:Program}{ops:Array Oper}{Q:Exit->Act->World->Prop}{w0:World}{k0:Nat}{X:List Nat}{its:List It}{bl:List Bl}{olds:List (Tmp × SV)}{i:Nat}{o:Oper}{it:It}
end RG
section
open Go.RowKit Go.Sort Go.Deep
variable {P:Nat}[NeZero P]
end
section
open Go.RowKit Go.Sort Go.Deep
variable {P:Nat}[NeZero P]{N:Nat}
theorem Ms{A B:Bs}(hA:A.size=33)(hB:B.size=32):(A++B).extract 0 33=A/\(A++B).extract 33 65=B:=by
 have h64:(A++B).size=65:=by rw[QF,hA,hB]
 constructor
 ·apply Vf
  ·rw[QQ,h64,hA];rfl
  ·intro i h1 h2;rw[Tu,TU (by omega)];simp
 ·apply Vf
  ·rw[QQ,h64,hB];rfl
  ·intro i h1 h2;rw[Tu,Vs (by omega)];simp[hA]
end
namespace SP
open Go.RowKit Go.Sort Go.Deep
end SP
section
open Go.RowKit Go.Sort Go.Deep
variable {P:Nat}[NeZero P]{N:Nat}
theorem Cm:prog.underlying 23=some (.slice 28):=by kernel_rfl
theorem wK:(prog.info? 28).map (fun i=>(i.size,i.bytes,i.zero.map fun z=>z.cells.size))=some (1,24,some 1):=by kernel_rfl
theorem KV(g o j:Nat):(⟨g,o,none⟩:Addr).add j=⟨g,o+j,none⟩:=by
 unfold Addr.add;by_cases h0:j=0
 ·subst h0;rw[if_pos rfl];rfl
 ·rw[if_neg h0]
end
section
open Go.RowKit Go.Sort Go.Deep
section
variable {P:Program}{ops:Array Oper}{rest:List Oper}{op:Oper}{a:Act}{w w':World}{v:Value}{Q:Exit->Act->World->Prop}
end
theorem pT(w:World)(o:Obj):Below w.heap.size w (w.alloc o):=(Qd _ _).alloc (PQ _) _
theorem BX(w:World)(cs:Array Value)(T:TypeId)(j:Nat)(v:Value)(h:cs[j]? = some v):(w.alloc (.cells cs T)).cell? ⟨w.heap.size,j,none⟩=some v:=by
 unfold World.alloc RU;simp[h]
end
section
open Go.RowKit Go.Sort Go.Deep
variable {P:Nat}[NeZero P]{N:Nat}
def Pt(W:World)(u:Value)(b:SP.Bs):Prop:=∃q c,u=.slice q (Array.size b) c/\(b.size=0\/∃g o,q=some ⟨g,o,none⟩/\g<W.heap.size/\Holds SP.encB W g o b)
theorem range_below{w w':World}{b o:Nat}{cs:List Value}(h:w.rangeAt b o cs)(hb:Below w.heap.size w w')(hlt:b<w.heap.size):w'.rangeAt b o cs:=fun j u hj=>by rw[hb.cell (p:=⟨b,o+j,none⟩) hlt];exact h j u hj
theorem yU(n c:Nat)(h:c<n):Ui n c<=2*n+768:=by
 unfold Ui;split
 ·omega
 ·split
  ·omega
  ·simp only[XR];repeat' split
   all_goals omega
end
end Go.Proofs.YtfcnimopdjjhcaaGreat
