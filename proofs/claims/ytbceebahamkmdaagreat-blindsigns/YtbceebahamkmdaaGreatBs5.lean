import Derived.Deep.AppendSrc
import Derived.Lib.AppendZeros
import Derived.Lib.ConvBytes
import Derived.BigQuiet
import Derived.Deep.LoopGhost
import Derived.Deep.RegionHeld3
import Derived.Lib.LazyBuf
import Derived.RangeFuncNested
import Derived.RangeFuncBound
import Derived.RangeFuncCalls
import Derived.RangeFuncLeaves
import Derived.Shelf.Abstract
import Derived.Shelf.RegionOpen
import Derived.WalkKit
import Derived.OwnWalkIn
import Derived.TacticsInMore
import Derived.LoopNIn
import Derived.LoopIn
import Derived.Deep.RegionWith
import Derived.Deep.CutRange
import Derived.Deep.DeepCutAuto
import Derived.Deep.OwnRows
import Derived.Test.YtbceebahamkmdaaGreatBs4
set_option linter.unusedVariables false
set_option linter.unusedSimpArgs false
set_option maxRecDepth 1000000
set_option maxHeartbeats 4000000
namespace Go.Proofs.YtbceebahamkmdaaGreat
open _root_.Array renaming append_assoc->VL,ext->UN,getElem?_append_left->TF,getElem?_append_right->UU,getElem?_eq_getElem->Qp,getElem_extract->Tl,getElem_replicate->QY,getElem_toList->RS,length_toList->P5,map->Xg,map_append->V6,map_replicate->Ul,replicate->P3,size->Ue,size_append->Qg,size_extract->Rb,size_replicate->P8,size_setIfInBounds->Qw,toList_append->Tu
open _root_.BitVec renaming ofInt->SB
open _root_.ByteArray renaming data_append->S4,data_extract->Xf,empty->Tg,mk->RU
open _root_.Fin renaming ext->TW,ofNat->Su,val_mul->SS
open _root_.Go.Addr renaming add->Un
open _root_.Go.Builtin renaming append_->QV,clear_->TZ,copy_->VP,firstCells->Xp,growBy->Xo,nextslicecap->Tk,zeroCells->QZ
open _root_.Go.Calls renaming mono->VJ
open _root_.Go.Exit renaming inBlock->S1
open _root_.Go.Instr renaming makeSlice->Rf
open _root_.Go.IntKind renaming bits->Xn,i64->QE,signed->Xm,u64->Qu,u8->Uh,wrap->Xl
open _root_.Go.IntWalk renaming i64_in->QI
open _root_.Go.Lib renaming bytesCells->SR,bytesWorld->TU,bytesWorld_size->Uy,wpList_append_run->Rj
open _root_.Go.Question renaming cut->VO
open _root_.Go.RowKit.Below renaming refl->Qd
open _root_.Go.Src renaming ofSlice->Xd
open _root_.Go.Value renaming int->QR
open _root_.Go.World renaming block_lt_of_cell?->Rm,cell?_alloc_new->Qq,cell?_of_block->QD,freeze->Ub,frozen?_alloc_new->Rl,frozen?_of_block->RL,size_alloc->P4,size_setCell->VF,there_setCells->Tq
open _root_.Int renaming natCast_nonneg->VX,tmod_eq_emod_of_nonneg->RP
open _root_.List renaming append_assoc->Ux,append_nil->SK,cons_append->UR,drop_succ_cons->VD,drop_zero->WB,flatMap_append->TC,flatMap_nil->We,getElem?_eq_some_iff->Qf,getElem_map->Sg,length->WV,length_append->P9,length_cons->QB,length_map->Qi,length_replicate->Rx,length_take->SZ,mem_map->QN,mem_range->RB,not_mem_nil->Qk,replicate->QS,size_toArray->Qr,take_of_length_le->T9,take_succ_cons->VB,take_zero->TE
open _root_.Nat renaming add_assoc->RZ,add_mod->TT,add_mul->SD,add_sub_cancel_left->Tj,add_zero->RI,le_add_right->U1,le_refl->PX,le_trans->Qj,lt_of_lt_of_le->PY,min_eq_left->Wy,mod_eq_of_lt->Qe,mod_lt->Rz,mul_comm->Qy,mul_mod->RR,mul_one->Se,mul_zero->TG,ne_of_gt->QW,pos_of_neZero->UO,pow_two->W9,sub_zero->T8,zero_add->P0,zero_le->Rh
open _root_.Option renaming isSome_iff_exists->Qz,map_eq_some_iff->PZ,map_some->TY,some->Qn
open _root_.Or renaming inl->Qh,inr->Qc
open _root_.UInt8 renaming ofNat->P6,toNat_ofNat'->Uo
open Go.Proofs.Tryz (prog)
namespace SP
open Go.RowKit Go.Sort Go.Deep
theorem nW(x:UInt8):SB 8 (x.toNat:Int)=x.toBitVec:=by
 apply BitVec.eq_of_toNat_eq;rw[BitVec.ofInt_natCast,BitVec.toNat_ofNat];exact Qe x.toNat_lt
theorem vH(x y:UInt8):bits .xor .u8 (ub x) (ub y)=ub (x ^^^ y):=by
 show Uh.wrap ((SB 8 (x.toNat:Int) ^^^ SB 8 (y.toNat:Int)).toNat:Int)=_;rw[nW,nW,<-UInt8.toBitVec_xor];have h:((x ^^^ y).toNat:Int)<256:=by have:=(x ^^^ y).toNat_lt;omega
 have e:∀n:Int,Uh.wrap n=n%256:=fun n=>by simp[Xl,Xn,Xm]
 rw[e];exact Int.emod_eq_of_lt (VX _) h
theorem J1(x:UInt8):bits .xor .u8 (ub x) 128=ub (x ^^^ 128):=vH x 128
theorem MP:∀w:World,(zeroValue 5).run prog w=.ok (.int .u8 0) w:=fun _=>by kernel_rfl
theorem Ae{w:World}{b q:Nat}{p:Bs}(hP:Holds encB w b 25 p)(hp:p.size=136)(hq:q<136)(ty:TypeId):
 (TZ #[22] ty #[.slice (some ⟨b,25+q,none⟩) (136-q) (136-q)]).run prog w=.ok (.tuple #[]) (w.setCells b (25+q) ((QS (136-q) (0:UInt8)).map encB)):=by
 have h:=Lib.run_clear_slice (P:=prog) w 22 5 ty (.int .u8 0) slice22 MP rfl rfl b (25+q) (136-q) (136-q) (by omega)
  (fun j hj=>by
   have:=(hP (q+j) (by omega)).1;rw[<-RZ]at this;rw[this];rfl)
  (fun j hj=>by
   have:=(hP (q+j) (by omega)).2;rw[<-RZ]at this;exact this)
 rw[List.map_replicate];exact h
theorem Dj(b:Nat)(S:Sp)(e:UInt8)(w:World)(hok:Ok S)(hS:HSp w b S):
 Calls prog 107 #[.pointer (some ⟨b,0,none⟩),.int .u8 (ub e)] w fun r w'=>r=.returned (.tuple #[])/\Only b 0 162 w w'/\HSp w' b (pK S e):=by
 obtain⟨d,p,q⟩:=S;have h25:d.size=25:=hok.d25;have h136:p.size=136:=hok.p136;have hq:q<136:=hok.hlt;have hD:Holds enc w b 0 d:=hS.d;have hP:Holds encB w b 25 p:=hS.p;have hc:w.cell? ⟨b,161,none⟩=some (.int .i64 q):=hS.h;have hf:=hS.f;have hcl:=Ae (Holds.drew hP) h136 hq 0;have hOx:Only b 25 136 w (w.drew.setCells b (25+q) ((QS (136-q) (0:UInt8)).map encB)):=((Only.refl b 25 136 w).drew).setCells _ _ (by omega) (by rw[Qi,Rx];omega);have hP1:=eH (Holds.drew hP) q (QS (136-q) (0:UInt8)) (by rw[Rx];omega);have hs1:(splice p q (QS (136-q) 0)).size=136:=by rw[cC,h136]
 have HF:Hid (pK ⟨d,p,q⟩ e=iH ⟨d,((splice p q (QS (136-q) 0)).setIfInBounds q e).setIfInBounds 135 (((splice p q (QS (136-q) 0)).setIfInBounds q e)[135]! ^^^ 128),q⟩):=by
  show _=_;unfold pK ended;rfl
 generalize w.drew.setCells b (25+q) ((QS (136-q) (0:UInt8)).map encB)=W1 at hcl hOx hP1;generalize splice p q (QS (136-q) 0)=sp at hP1 hs1 HF;have hne136:(136=q)=False:=eq_false (by omega);have hq136:(q:Int)<=136:=by omega
 have hq136':(q:Int)<136:=by omega
 have c1:W1.cell? ⟨b,161,none⟩=some (.int .i64 q):=by rw[hOx.cell 161 (by omega)];exact hc
 obtain⟨c2,f2⟩:=hP1 q (by omega);obtain⟨sp2,hsp2⟩:∃s,sp.setIfInBounds q e=s:=⟨_,rfl⟩
 rw[hsp2]at HF;have hs2:sp2.size=136:=by rw[<-hsp2,Qw,hs1]
 obtain⟨x,hx⟩:∃x,sp2[135]! = x:=⟨_,rfl⟩
 rw[hx]at HF;have hx80:=J1 x;have hP2:=Holds.set hP1 (i:=q) (by omega) e;rw[hsp2]at hP2;have hO2:Only b 25 136 w (W1.setCell ⟨b,25+q,none⟩ (.int .u8 (ub e))):=hOx.setCell (o:=25+q) (by omega) (by omega) _;have hP2':Holds encB (W1.setCell ⟨b,25+q,none⟩ (.int .u8 (ub e))) b 25 sp2:=hP2;have HX:Hid (sp2[135]! = x):=hx;rw[HF.out];clear hS hok hP hsp2 hx hP2 HF;have hs3:(sp2.setIfInBounds 135 (x ^^^ 128)).size=136:=by rw[Qw,hs2]
 go_enter Tryz.func107,Tryz.ntmps107;go_wp2;go_still_tail 8,mixed;go_wp2_with fail
 go_region
 go_wp2_with fail
 generalize W1.setCell ⟨b,25+q,none⟩ (.int .u8 (ub e))=W2 at hP2' hO2⊢;obtain⟨c3,f3⟩:=oO hP2' 135 (by omega) HX.out;clear c1 c2 f2 hcl hP1;go_region
 go_wp2_with fail
 have hP3:=Holds.set hP2' (i:=135) (by omega) (x ^^^ 128);have hO3:Only b 25 136 w (W2.setCell ⟨b,160,none⟩ (.int .u8 (ub (x ^^^ 128)))):=hO2.setCell (o:=160) (by omega) (by omega) _;have hP3':Holds encB (W2.setCell ⟨b,160,none⟩ (.int .u8 (ub (x ^^^ 128)))) b 25 (sp2.setIfInBounds 135 (x ^^^ 128)):=hP3;generalize W2.setCell ⟨b,160,none⟩ (.int .u8 (ub (x ^^^ 128)))=W3 at hP3' hO3⊢;have hD3:Holds enc W3 b 0 d:=Holds.same hD hO3 (Qh (by omega));have hS3:HSp W3 b ⟨d,sp2.setIfInBounds 135 (x ^^^ 128),q⟩:=⟨hD3,hP3',by rw[hO3.cell 161 (by omega)];exact hc,by rw[hO3.froz];exact hf⟩
 refine(rI b ⟨d,sp2.setIfInBounds 135 (x ^^^ 128),q⟩ _ h25 hs3 hS3.drew.drew).mono ?_;rintro r w4 ⟨rfl,hO4,hS4⟩;go_wp2
 go_end0
 exact⟨rfl,(hO3.drew.drew.widen (by omega) (by omega)).trans hO4,hS4⟩
end SP
namespace SP
open Go.Sort
def b9(d:St):Nat->St
 | 0=>d
 | m+1=>perm (b9 d m)
theorem cH(d:St)(hd:d.size=25)(m:Nat):(b9 d m).size=25:=by
 induction m with
 | zero=>exact hd
 | succ m ih=>exact pD _ ih
def cB(d:St)(j:Nat):UInt8:=byteOf (b9 d (j/136)) (j%136)
def eF(d:St)(n:Nat):Bs:=Array.ofFn (fun i:Fin n=>cB d i.val)
theorem eE(d:St)(n:Nat):(eF d n).size=n:=by simp[eF]
theorem mT(d:St)(n j:Nat)(hj:j<n):(eF d n)[j]! = cB d j:=by
 rw[getElem!_pos (eF d n) j (by rw[eE];exact hj)];simp[eF]
def S0:Sp:=⟨bX,P3 136 0,0⟩
theorem oP:Ok S0:=⟨by simp[S0,bX],by simp[S0],by decide⟩
def eW(l:List UInt8)(e:UInt8):St:=(pK (cZ S0 l) e).d
theorem lM(l:List UInt8)(e:UInt8):(eW l e).size=25:=by
 unfold eW;have h:=eB oP l;rw[vD h];exact(eB h _).d25
def vC(l:List UInt8):Bs:=front (eW l 6) 32
def gB(l:List UInt8)(n:Nat):Bs:=eF (eW l 31) n
theorem zQ(l:List UInt8):vC l=eF (eW l 6) 32:=by
 unfold vC;refine xJ _ _ 32 (aS _ _) (eE _ _) (fun j hj=>?_);rw[gV _ _ _ hj,mT _ _ _ hj];unfold cB;rw[Nat.div_eq_of_lt (by omega),Qe (by omega)];rfl
/-! ### The reference: all bytes with what stands behind them, piece by piece -/
def total(l : List UInt8)(e : UInt8): List UInt8:=l ++ eD (l.length%136) e
theorem nD(l:List UInt8)(e:UInt8):(total l e).length=136*(l.length/136+1):=by
 unfold total;rw[P9,dC _ _ (Rz _ (by decide))];omega
theorem xN(l:List UInt8)(e:UInt8):eW l e=(cZ S0 (total l e)).d:=by
 unfold eW total;have h:=eB oP l;have hh:=Cv oP l;rw[eC,vD h,hh];have:S0.h=0:=rfl;rw[this,P0]
def nB(st:Bs)(T:List UInt8)(o:Nat):Nat->Bs
 | 0=>st
 | k+1=>(nB st T o k).setIfInBounds k ((nB st T o k)[k]! ^^^ T[o+k]!)
theorem uA(st:Bs)(T:List UInt8)(o k:Nat):(nB st T o k).size=st.size:=by
 induction k with
 | zero=>rfl
 | succ k ih=>rw[nB,Qw,ih]
theorem Hy(st:Bs)(T:List UInt8)(o k j:Nat)(hk:k<=st.size)(hj:j<st.size):(nB st T o k)[j]! = if j<k then st[j]! ^^^ T[o+j]! else st[j]!:=by
 induction k with
 | zero=>rfl
 | succ k ih =>
  rw[nB];by_cases h:j=k
  ·subst h;rw[getElem!_set_same _ _ _ (by rw[uA];exact hj),ih (by omega),if_neg (by omega),if_pos (by omega)]
  ·rw[getElem!_set_other _ _ _ _ h,ih (by omega)];by_cases h1:j<k
   ·rw[if_pos h1,if_pos (by omega)]
   ·rw[if_neg h1,if_neg (by omega)]
def iJ(T:List UInt8):Nat->Bs
 | 0=>P3 200 0
 | i+1=>fH (nB (iJ T i) T (136*i) 136)
theorem AD:front bX 200=P3 200 0:=by
 refine xJ _ _ 200 (aS _ _) (by rw[P8]) (fun j hj=>?_);have h':j<(P3 200 (0:UInt8)).size:=by rw[P8];exact hj
 rw[gV _ _ _ hj,getElem!_pos (P3 200 (0:UInt8)) j h',QY];unfold byteOf;rw[fW _ (by omega)];unfold low;simp
theorem Hx(x y:UInt8)(i:Nat):(x ^^^ y).toNat.testBit i=(x.toNat.testBit i ^^ y.toNat.testBit i):=by
 rw[UInt8.toNat_xor,Nat.testBit_xor]
theorem Jn(d:St)(hd:d.size=25)(p:Bs)(T:List UInt8)(o:Nat)(hp:∀j,j<136->p[j]! = T[o+j]!):
 dX (nB (front d 200) T o 136) bX 25=dX p d 17:=by
 have hz:bX.size=25:=by simp[bX]
 refine AW _ _ (by rw[cQ,hz]) (by rw[cQ,hd]) (fun j hj=>?_);rw[nY _ bX hz 25 j (PX _) hj,if_pos hj,fW j hj,zx,nY _ d hd 17 j (by decide) hj];apply BitVec.eq_of_getLsbD_eq;intro k hk;have hb:∀m,m<200->(nB (front d 200) T o 136)[m]! = if m<136 then(front d 200)[m]! ^^^ T[o+m]! else(front d 200)[m]!:=fun m hm =>
  Hy _ _ _ _ _ (by rw[aS];decide) (by rw[aS];exact hm)
 have hw:=congrArg (fun v=>v.getLsbD k) (rC d 200 j (by omega));simp only[wordOf]at hw⊢;rw[mQ _ _ 8 k (PX _) hk]at hw⊢;rw[hb _ (by omega)];by_cases h17:j<17
 ·rw[if_pos (by omega),if_pos h17,BitVec.getLsbD_xor,<-hw,mQ _ _ 8 k (PX _) hk,Hx,hp _ (by omega)];simp[hk]
 ·rw[if_neg (by omega),if_neg h17,<-hw]
theorem AO(T:List UInt8)(i:Nat):T.take (136*(i+1))=T.take (136*i)++(T.drop (136*i)).take 136:=by
 rw[show 136*(i+1)=136*i+136 by omega,List.take_add]
theorem Fy(T:List UInt8)(i:Nat)(h:136*i<=T.length):iJ T i=front (cZ S0 (T.take (136*i))).d 200:=by
 induction i with
 | zero =>
  rw[TG,TE];exact AD.symm
 | succ i ih =>
  rw[iJ,ih (by omega),AO T i,eC];have hok:=eB oP (T.take (136*i));have hh:(cZ S0 (T.take (136*i))).h=0:=by
   rw[Cv oP,SZ,Wy (by omega)];have:S0.h=0:=rfl;omega
  generalize cZ S0 (T.take (136*i))=S at hok hh;obtain⟨d,p,q⟩:=S;have hd:d.size=25:=hok.d25;have hp:p.size=136:=hok.p136;have hq:q=0:=hh;subst hq;have hl:((T.drop (136*i)).take 136).length=136:=by rw[SZ,List.length_drop];omega
  rw[kP _ _ (by intro e;rw[e]at hl;simp at hl) (by rw[hl];exact PX _),hl,if_pos rfl,jV];unfold fH;rw[Jn d hd (splice p 0 ((T.drop (136*i)).take 136)) T (136*i)];intro j hj;rw[eO _ _ _ _ (by rw[hl,hp];decide) (by omega),if_pos (by omega),T8,getElem!_pos _ j (by rw[hl];exact hj),getElem!_pos T (136*i+j) (by omega)];rw[List.getElem_take,List.getElem_drop]
theorem yM(l:List UInt8)(e:UInt8):iJ (total l e) (l.length/136+1)=front (eW l e) 200:=by
 have h:=nD l e;rw[Fy _ _ (by omega),xN,T9 (by omega)]
end SP
namespace SP
open Go.RowKit Go.Sort Go.Deep
theorem lK{w:World}{g l cap r k n c:Nat}{cur bs:Bs}(hC:Holds encB w g 0 cur)(hs:cur.size=cap)(hB:Holds encB w r 0 bs)(hk:bs.size=n)(hk2:k=n)(hroom:l+n<=cap)(ty:TypeId):
 (QV #[22,22] ty #[.slice (some ⟨g,0,none⟩) l cap,.slice (some ⟨r,0,none⟩) k c]).run prog w=.ok (.slice (some ⟨g,0,none⟩) (l+n) cap) (w.setCells g l (bs.toList.map encB)):=by
 subst hk2;obtain⟨i,hi,_,hsz,_⟩:=info_parts info5;have hlen:(bs.toList.map encB).length=k:=by rw[Qi,P5,hk]
 have hsrc:Src prog i.size 22 (.slice (some ⟨r,0,none⟩) k c) k (bs.toList.map encB) w:=by
  rw[hsz];refine Xd w slice22 ⟨r,0,none⟩ k c _ (by rw[hlen,Se]) (fun j v hj=>?_) (fun v hv=>?_)
  ·obtain⟨h1,h2⟩:=Qf.1 hj;rw[hlen]at h1;have hc:=(hB j (by omega)).1;rw[getElem!_pos bs j (by omega)]at hc;rw[Sg,RS]at h2;have e1:(⟨r,0,none⟩:Addr).add j=⟨r,0+j,none⟩:=by
    unfold Un;by_cases h0:j=0
    ·subst h0;rw[if_pos rfl]
    ·rw[if_neg h0]
   rw[e1,hc,h2]
  ·obtain⟨x,_,rfl⟩:=QN.1 hv;rfl
 have h:=run_append_room_src (P:=prog) w 22 22 ty 5 i slice22 hi g 0 l cap (.slice (some ⟨r,0,none⟩) k c) k _ hsrc hroom
  (fun j hj=>by
   rw[hlen]at hj;rw[hsz,Se,RZ,(hC (l+j) (by omega)).1];rfl)
  (fun j hj=>by
   rw[hlen]at hj;rw[hsz,Se,RZ];exact(hC (l+j) (by omega)).2)
 rw[hsz,Se,P0]at h;exact h
theorem Only.with_new{b o n g m p:Nat}{w w1 w2:World}(h:Only b o n w w1)(k:Only g p m w1 w2)(hg:w.heap.size<=g)(hb:b<w.heap.size):Only b o n w w2:=by
 have hs:=h.size;have e:=k.block b (by omega) (by omega);exact⟨k.os.trans h.os,k.tape.trans h.tape,k.output.trans h.output,Qj h.size k.size,
  fun j hj hn=>(k.block j (by omega) (by omega)).trans (h.block j hj hn),
  fun q hq=>(QD (w:=w1) (a:=⟨b,q,none⟩) e).trans (h.cell q hq),fun q=>(RL (w:=w1) (a:=⟨b,q,none⟩) e).trans (h.froz q)⟩
theorem Bj(d:St)(m:Nat)(h:¬m=0):perm (b9 d (m-1))=b9 d m:=by
 obtain⟨k,rfl⟩:∃k,m=k+1:=⟨m-1,by omega⟩
 rw[Nat.add_sub_cancel,b9]
theorem yB(d:St)(m:Nat)(cur:Bs)(hc:136*m+136<=cur.size)(h:∀j,j<136*m->cur[j]! = cB d j):∀j,j<136*(m+1)->(splice cur (136*m) (front (b9 d m) 136).toList)[j]! = cB d j:=by
 intro j hj;have hl:(front (b9 d m) 136).toList.length=136:=by rw[P5,aS]
 rw[eO _ _ _ _ (by rw[hl];exact hc) (by omega),hl];by_cases h1:j<136*m
 ·rw[if_neg (by omega),h j h1]
 ·rw[if_pos (by omega),getElem!_pos _ (j-136*m) (by rw[hl];omega),RS,<-getElem!_pos (front (b9 d m) 136) (j-136*m) (by rw[aS];omega),gV _ _ _ (by omega)];unfold cB;rw[show j/136=m by omega,show j%136=j-136*m by omega]
theorem Gp(b:Nat)(d:St)(n:Nat)(w:World)(h25:d.size=25)(hD:Holds enc w b 0 d)(hn:n<=16384):
 Calls prog 140 #[.pointer (some ⟨b,0,none⟩),.int .i64 n] w fun e w'=>e=.returned (.slice (some ⟨w.heap.size,0,none⟩) n n)/\Only b 0 25 w w'/\Holds encB w' w.heap.size 0 (eF d n):=by
 have hb:=Holds.lt hD (by omega);obtain⟨i,hi,hz0,hsz,hby⟩:=info_parts info5;obtain⟨cp,hcp⟩:∃c,n+136=c:=⟨_,rfl⟩
 have hmk:∀w:World,(Rf 22 (.int .i64 0) (.int .i64 ((n:Int)+136))).run prog w=.ok (.slice (some ⟨w.heap.size,0,none⟩) 0 cp) (w.alloc (.cells (madeCells #[.int .u8 0] cp) 5)):=by
  intro w;have h:=run_make (P:=prog) w 22 5 i (.int .u8 0) slice22 hi hz0 .i64 .i64 0 ((n:Int)+136) (by omega) (by omega) (by rw[hby];omega) (by omega);rw[hsz,Se,show((n:Int)+136).toNat=cp by omega]at h;exact h
 have hC0:Holds encB (w.alloc (.cells (madeCells #[.int .u8 0] cp) 5)) w.heap.size 0 (P3 cp 0):=Holds.made (enc:=encB) w 5 cp 0;have hO0:Only b 0 25 w (w.alloc (.cells (madeCells #[.int .u8 0] cp) 5)):=(Only.refl _ _ _ _).alloc hb _;have hD0:=Holds.below hD ((Qd w.heap.size w).alloc (PX _) (.cells (madeCells #[.int .u8 0] cp) 5)) hb;have hs0:w.heap.size<(w.alloc (.cells (madeCells #[.int .u8 0] cp) 5)).heap.size:=by simp
 clear hi hz0 hsz hby;have Hcp:Hid (n+136=cp):=hcp;have hcl:n+136<=cp:=by omega
 have hcg:cp<=n+136:=by omega
 clear hcp;go_enter Tryz.func140,Tryz.ntmps140;go_wp2;generalize w.alloc _=W1 at hC0 hO0 hD0 hs0⊢;clear hmk;go_loopg [5] cp (fun g s5 wr=>∃(m l:Nat) (cur:Bs),Hid (l=136*m)/\l+g=cp/\1<=g/\s5=.slice (some ⟨w.heap.size,0,none⟩) l cp/\Holds encB wr w.heap.size 0 cur/\cur.size=cp/\Holds enc wr b 0 (b9 d (m-1))/\Only b 0 25 w wr/\w.heap.size<wr.heap.size/\Hid (∀j,j<136*m->cur[j]! = cB d j))
 case atStart=>exact⟨0,0,_,rfl,by omega,by have:=Hcp.out;omega,rfl,hC0,by rw[P8],hD0,hO0,hs0,fun j hj=>by omega⟩
 case round =>
  clear hC0 hO0 hD0 hs0;obtain⟨m,l,cur,Hl,hg,hg1,rfl,hC,hcs,hDm,hO,hs,HE⟩:=hrel;have hps:=cH d h25 (m-1);by_cases hlt:l<n
  ·have hlt':(l:Int)<(n:Int):=by omega
   have HN:Hid (∀j,j<136*(m+1)->(splice cur l (front (b9 d m) 136).toList)[j]! = cB d j):=by
    rw[Hl.out];exact yB d m cur (by rw[<-Hl.out];omega) HE
   by_cases hm0:m=0
   ·have hz0:¬(0:Int)<(l:Int):=by have:=Hl.out;omega
    have hDm0:Holds enc wr b 0 (b9 d m):=by rw[hm0]at hDm⊢;exact hDm
    have Hm0:Hid (m=0):=hm0;clear hm0 hDm HE;go_wp2_with fail
    refine(pJ b 0 136 _ _ (cH d h25 m) hDm0 (by decide)).mono ?_;rintro e w2 ⟨rfl,hb2,hF⟩;have hC2:=Holds.below hC hb2 (Holds.lt hC (by omega));have hD2:=Holds.below hDm0 hb2 (Holds.lt hDm0 (by rw[cH d h25];decide));have hap:=lK (l:=l) (k:=136) (n:=136) (c:=136) hC2 hcs hF (aS _ _) rfl (by omega) 22;have hC3:=eH hC2 l (front (b9 d m) 136).toList (by rw[P5,aS];omega);rw[P0]at hC3;have hO2:Only b 0 25 w w2:=hO.trans (Only.of_below hb2 rfl (Holds.lt hDm0 (by rw[cH d h25];decide)));have hOn:Only w.heap.size 0 cp w2 (w2.setCells w.heap.size l ((front (b9 d m) 136).toList.map encB)):=(Only.refl _ _ _ _).setCells _ _ (by omega) (by rw[Qi,P5,aS];omega);have hO3:=hO2.with_new hOn (PX _) hb;have hD3:=Holds.other hD2 hOn (by omega) (by rw[cH d h25];decide);have hs3:w.heap.size<(w2.setCells w.heap.size l ((front (b9 d m) 136).toList.map encB)).heap.size:=PY (Holds.lt hC2 (by omega)) hOn.size;generalize w2.setCells w.heap.size l ((front (b9 d m) 136).toList.map encB)=W3 at hap hC3 hO3 hD3 hs3;have HAP:Hid _:=hap;clear hC2 hD2 hF hb2 hOn hO2 hap;go_wp2_with (at_builtin;refine Rj _ rfl _ _ 22 22 rfl _ _ rfl rfl _ _ HAP.out ?_)
    go_roundg (gk-136)
    case measure=>omega
    case rel =>
     exact⟨m+1,l+136,_,by have:=Hl.out;show _=_;omega,by omega,by omega,rfl,hC3,by rw[cC,hcs],hD3,hO3,hs3,HN⟩
   ·have hpos:(0:Int)<(l:Int):=by have:=Hl.out;omega
    clear HE;go_wp2_with fail
    refine(pW b 0 _ _ hps hDm).mono ?_;rintro e w1 ⟨rfl,hO1,hD1⟩;rw[Bj d m hm0]at hD1;have hC1:=Holds.other hC hO1 (by omega) (by omega);have hO1':=hO.trans hO1;go_wp2_with fail
    refine(pJ b 0 136 _ _ (cH d h25 m) hD1 (by decide)).mono ?_;rintro e w2 ⟨rfl,hb2,hF⟩;have hC2:=Holds.below hC1 hb2 (Holds.lt hC1 (by omega));have hD2:=Holds.below hD1 hb2 (Holds.lt hD1 (by rw[cH d h25];decide));have hap:=lK (l:=l) (k:=136) (n:=136) (c:=136) hC2 hcs hF (aS _ _) rfl (by omega) 22;have hC3:=eH hC2 l (front (b9 d m) 136).toList (by rw[P5,aS];omega);rw[P0]at hC3;have hO2:Only b 0 25 w w2:=hO1'.trans (Only.of_below hb2 rfl (Holds.lt hD1 (by rw[cH d h25];decide)));have hOn:Only w.heap.size 0 cp w2 (w2.setCells w.heap.size l ((front (b9 d m) 136).toList.map encB)):=(Only.refl _ _ _ _).setCells _ _ (by omega) (by rw[Qi,P5,aS];omega);have hO3:=hO2.with_new hOn (PX _) hb;have hD3:=Holds.other hD2 hOn (by omega) (by rw[cH d h25];decide);have hs3:w.heap.size<(w2.setCells w.heap.size l ((front (b9 d m) 136).toList.map encB)).heap.size:=PY (Holds.lt hC2 (by omega)) hOn.size;generalize w2.setCells w.heap.size l ((front (b9 d m) 136).toList.map encB)=W3 at hap hC3 hO3 hD3 hs3;have HAP:Hid _:=hap;clear hC2 hD2 hF hb2 hOn hO2 hap;go_wp2_with (at_builtin;refine Rj _ rfl _ _ 22 22 rfl _ _ rfl rfl _ _ HAP.out ?_)
    go_roundg (gk-136)
    case measure=>omega
    case rel =>
     exact⟨m+1,l+136,_,by have:=Hl.out;show _=_;omega,by omega,by omega,rfl,hC3,by rw[cC,hcs],hD3,hO3,hs3,HN⟩
  ·have hge:(n:Int)<=(l:Int):=by omega
   have hle:n<=cp:=by omega
   have hle':(n:Int)<=(cp:Int):=by omega
   go_wp2;go_ret;refine⟨rfl,hO,fun j hj=>?_⟩;rw[eE]at hj;have:=hC j (by omega);rw[HE.out j (by have:=Hl.out;omega)]at this;rw[mT d n j hj];exact this
end SP
namespace SP
open Go.RowKit Go.Sort Go.Deep
def dI:Array Value:=P3 25 (.int .u64 0)++P3 136 (.int .u8 0)++#[.int .i64 0]
theorem EN:∀w:World,(zeroValue 166).run prog w=.ok (.agg dI) w:=fun _=>by kernel_rfl
theorem E9(j:Nat)(hj:j<25):dI[j]? = some (.int .u64 0):=by
 have h1:j<(P3 25 (QR .u64 0)).size:=by rw[P8];exact hj
 unfold dI;rw[VL,TF h1,Qp h1,QY]
theorem E7(j:Nat)(hj:j<136):dI[25+j]? = some (.int .u8 0):=by
 have h1:j<(P3 136 (QR .u8 0)).size:=by rw[P8];exact hj
 unfold dI;rw[VL,UU (by rw[P8];omega),P8,Tj,TF h1,Qp h1,QY]
theorem E8:dI[161]? = some (.int .i64 0):=by
 unfold dI;rw[UU (by rw[Qg,P8,P8];decide),Qg,P8,P8];rfl
theorem C5(w:World)(t:TypeId):HSp (w.alloc (.cells dI t)) w.heap.size S0:=by
 refine⟨fun j hj=>?_,fun j hj=>?_,?_,?_⟩
 ·have hj':j<25:=by simpa[S0,bX]using hj
  rw[Qq,Rl,P0,E9 j hj'];refine⟨?_,rfl⟩;have e:S0.d[j]! = 0:=fW j hj';rw[e];rfl
 ·have hj':j<136:=by simpa[S0]using hj
  rw[Qq,Rl,E7 j hj'];refine⟨?_,rfl⟩;have e:S0.p[j]! = 0:=rep_at 136 j hj';rw[e];rfl
 ·rw[Qq,E8];rfl
 ·rw[Rl]
theorem tU(a:Option Addr)(sb so len cap n:Nat)(bs:Bs)(w:World)(hn:n<=16384)(hl:bs.size=len)(hcap:len<=cap)(hbig:len<=1099511627776)(hsrc:len=0\/(a=some ⟨sb,so,none⟩/\Holds encB w sb so bs)):
 Calls prog 104 #[.slice a len cap,.int .i64 n] w fun e w'=>∃r,e=.returned (.tuple #[.slice (some ⟨r,0,none⟩) n n,.int .i64 0])/\w.heap.size<=r/\Below w.heap.size w w'/\Holds encB w' r 0 (gB bs.toList n):=by
 have hS0:=C5 w 166;have hb0:Below w.heap.size w (w.alloc (.cells dI 166)):=(Qd _ _).alloc (PX _) _;have hs0:w.heap.size<(w.alloc (.cells dI 166)).heap.size:=by simp
 have hsrc':len=0\/(a=some ⟨sb,so,none⟩/\sb≠w.heap.size/\Holds encB (w.alloc (.cells dI 166)) sb so bs):=by
  by_cases h0:len=0
  ·exact Qh h0
  ·rcases hsrc with h|⟨h1,h2⟩
   ·exact Qh h
   ·have hlt:=Holds.lt h2 (by omega);exact Qc ⟨h1,by omega,Holds.below h2 hb0 hlt⟩
 have d0:decide ((n:Int)<0)=false:=decide_eq_false (by omega);have d1:¬(16384:Int)<(n:Int):=by omega
 have zv:=EN;go_enter Tryz.func104,Tryz.ntmps104;go_wp2_with fail
 generalize w.alloc (.cells dI 166)=W1 at hS0 hb0 hs0 hsrc'⊢;refine(take_any w.heap.size S0 a sb so len cap bs W1 oP hS0 hl hcap hbig hsrc').mono ?_;rintro e w1 ⟨rfl,hO1,hS1⟩;go_wp2_with fail
 refine(Dj w.heap.size (cZ S0 bs.toList) 31 w1 (eB oP _) hS1).mono ?_;rintro e w2 ⟨rfl,hO2,hS2⟩;have hD2:Holds enc w2 w.heap.size 0 (eW bs.toList 31):=hS2.d;clear hS2;go_wp2_with fail
 refine(Gp w.heap.size _ n _ (lM _ _) hD2 hn).mono ?_;rintro e w3 ⟨rfl,hO3,hF⟩;go_wp2
 go_ret2
 have s1:=hO1.size;have s2:=hO2.size;exact⟨w2.heap.size,rfl,by omega,(hb0.trans ((hO1.trans hO2).below (by omega) (PX _))).trans (hO3.below (by omega) (PX _)),hF⟩
end SP
namespace SP
open Go.RowKit Go.Sort Go.Deep
def Own(B:Nat)(w:World)(v:Value)(T:List UInt8):Prop:=
 ∃g cap cur,v=.slice (some ⟨g,0,none⟩) T.length cap/\B<=g/\g<w.heap.size/\Ue cur=cap/\T.length<=cap/\Holds encB w g 0 cur/\∀j,j<T.length->cur[j]! = T[j]!
theorem Holds.front{α:Type}[Inhabited α]{f:α->Value}{w:World}{b o:Nat}{d e:Array α}(h:Holds f w b o d)(hs:e.size<=d.size)(he:∀j,j<e.size->e[j]! = d[j]!):Holds f w b o e:=by
 intro j hj;rw[he j hj];exact h j (by omega)
theorem lF(T:List UInt8)(j:Nat):T.toArray[j]! = T[j]!:=by
 by_cases h:j<T.length
 ·rw[getElem!_pos T.toArray j (by simpa using h),getElem!_pos T j h];simp
 ·rw[getElem!_neg T.toArray j (by simpa using h),getElem!_neg T j h]
theorem sN(a b:List UInt8)(j:Nat)(h:j<a.length):(a++b)[j]! = a[j]!:=by
 rw[getElem!_pos (a++b) j (by rw[P9];omega),getElem!_pos a j h,List.getElem_append_left h]
theorem mK(a b:List UInt8)(j:Nat)(h:a.length<=j)(h2:j<a.length+b.length):(a++b)[j]! = b[j-a.length]!:=by
 rw[getElem!_pos (a++b) j (by rw[P9];omega),getElem!_pos b (j-a.length) (by omega),List.getElem_append_right h]
variable {B:Nat}{w w1:World}{v:Value}{T:List UInt8}
theorem Own.holds{g cap n:Nat}(h:Own B w (.slice (some ⟨g,0,none⟩) n cap) T):B<=g/\n=T.length/\T.length<=cap/\Holds encB w g 0 T.toArray:=by
 obtain⟨g',cap',cur,hv,hg,_,hs,hl,hH,hT⟩:=h;injection hv with e1 e2 e3
 injection e1 with e1
 injection e1 with e1 _ _
 subst e1 e3;exact⟨hg,e2,hl,Holds.front hH (by simp;omega) (fun j hj=>by rw[lF];exact(hT j (by simpa using hj)).symm)⟩
theorem Own.below(h:Own B w v T)(k:Below w.heap.size w w1):Own B w1 v T:=by
 obtain⟨g,cap,cur,hv,hg,hgl,hs,hl,hH,hT⟩:=h;exact⟨g,cap,cur,hv,hg,PY hgl k.size,hs,hl,Holds.below hH k hgl,hT⟩
theorem kH(s:ByteArray)(hB:B<=w.heap.size):
 ∃v' w',(convert 9 22 (.string s)).run prog w=.ok v' w'/\Own B w' v' s.data.toList/\Below w.heap.size w w'/\v'=.slice (some ⟨w.heap.size,0,none⟩) s.size (grownCap w s.size 0 5):=by
 have h:=Lib.run_convert_string_bytes (P:=prog) w 9 22 5 s str9 slice22 int5;have hcap:s.size<=grownCap w s.size 0 5:=by
  unfold grownCap VO;exact U1 _ _
 have hl:s.data.size=s.size:=rfl;refine⟨_,_,h,⟨w.heap.size,grownCap w s.size 0 5,s.data++P3 (grownCap w s.size 0 5-s.size) 0,?_,hB,by rw[Uy];omega,?_,?_,?_,?_⟩,?_,rfl⟩
 ·rw[P5];rfl
 ·rw[Qg,P8];omega
 ·rw[P5];omega
 ·intro j hj;rw[Qg,P8]at hj;have hb:=Lib.bytesWorld_at_new w 5 s;have hsz:(SR w 5 s).size=grownCap w s.size 0 5:=by
   unfold SR;rw[Qg,Array.size_map,P8];omega
  have hc:(SR w 5 s)=(s.data++P3 (grownCap w s.size 0 5-s.size) 0).map encB:=by
   unfold SR;rw[V6,Ul];rfl
  have hj2:j<(s.data++P3 (grownCap w s.size 0 5-s.size) 0).size:=by rw[Qg,P8];exact hj
  constructor
  ·unfold World.cell?;rw[hb];simp only[P0];rw[if_neg (by decide),hc,Array.getElem?_map,Qp hj2,TY,getElem!_pos _ j hj2]
  ·unfold World.frozen?;rw[hb];simp only[P0,hsz];simp;omega
 ·intro j hj;rw[P5]at hj;rw[app_front _ _ j hj,getElem!_pos s.data.toList j (by rw[P5];exact hj),RS]
 ·refine⟨?_,?_,?_,?_,fun k hk=>Lib.bytesWorld_at_old w 5 s k hk⟩
  ·unfold TU Ub;rw[if_neg (by decide)];rfl
  ·unfold TU Ub;rw[if_neg (by decide)];rfl
  ·unfold TU Ub;rw[if_neg (by decide)];rfl
  ·rw[Uy];omega
theorem Holds.below'{α:Type}[Inhabited α]{f:α->Value}{w w1:World}{b o:Nat}{d:Array α}(h:Holds f w b o d)(k:Below w.heap.size w w1):Holds f w1 b o d:=by
 intro j hj;have hlt:=Holds.lt h (by omega);exact Holds.below h k hlt j hj
theorem BM(l:List UInt8):(vC l).size=32:=by rw[vC,aS]
end SP
namespace SP
open Go.RowKit Go.Sort Go.Deep
def cR(n d:Nat):UInt8:=P6 (n/d)
theorem gU(n d:Nat):(n:Int)/(d:Int)%256=ub (cR n d):=by
 have e2:((n:Int)/(d:Int))=((n/d:Nat):Int):=by rw[Int.natCast_ediv]
 rw[e2];unfold ub cR;rw[Uo];omega
theorem zK(n:Nat):(n:Int)%256=ub (cR n 1):=by
 have:=gU n 1;rw[show((1:Nat):Int)=1 from rfl,Int.ediv_one]at this;exact this
def eI(l:List UInt8):List UInt8:=[cR l.length 16777216,cR l.length 65536,cR l.length 256,cR l.length 1]++l
theorem jB(l:List UInt8):(eI l).length=l.length+4:=by
 unfold eI;rw[P9];simp only[QB,List.length_nil];omega
theorem sP(w:World)(x y z t:UInt8):Holds encB (w.alloc (.cells #[.int .u8 (ub x),.int .u8 (ub y),.int .u8 (ub z),.int .u8 (ub t)] 5)) w.heap.size 0 #[x,y,z,t]:=by
 have h:=Holds.new (enc:=encB) w 5 #[x,y,z,t];have e:Xg encB #[x,y,z,t]=#[.int .u8 (ub x),.int .u8 (ub y),.int .u8 (ub z),.int .u8 (ub t)]:=by simp[encB]
 rw[e]at h;exact h
theorem mG(b:Nat)(S:Sp)(a:Option Addr)(sb so len cap:Nat)(bs:Bs)(w:World)(hok:Ok S)(hS:HSp w b S)(hl:bs.size=len)(hcap:len<=cap)(hbig:len<=1099511627776)
 (hsrc:len=0\/(a=some ⟨sb,so,none⟩/\sb≠b/\Holds encB w sb so bs)) :
 Calls prog 106 #[.pointer (some ⟨b,0,none⟩),.slice a len cap] w fun e w'=>e=.returned (.tuple #[])/\Only b 0 162 w w'/\HSp w' b (cZ S (eI bs.toList)):=by
 have hb:=hS.lt;have b0:(len:Int)/16777216%256=ub (cR len 16777216):=gU len 16777216;have b1:(len:Int)/65536%256=ub (cR len 65536):=gU len 65536;have b2:(len:Int)/256%256=ub (cR len 256):=gU len 256;have b3:(len:Int)%256=ub (cR len 1):=zK len;have hF:Hid (eI bs.toList=(#[cR len 16777216,cR len 65536,cR len 256,cR len 1]:Bs).toList++bs.toList):=by
  unfold eI;rw[P5,hl];rfl
 have h4:=sP w (cR len 16777216) (cR len 65536) (cR len 256) (cR len 1);generalize cR len 16777216=x0 at *;generalize cR len 65536=x1 at *;generalize cR len 256=x2 at *;generalize cR len 1=x3 at *;have hb0:Below w.heap.size w (w.alloc (.cells #[.int .u8 (ub x0),.int .u8 (ub x1),.int .u8 (ub x2),.int .u8 (ub x3)] 5)):=(Qd _ _).alloc (PX _) _;have hS1:=hS.below hb0 hb;have hO0:Only b 0 162 w (w.alloc (.cells #[.int .u8 (ub x0),.int .u8 (ub x1),.int .u8 (ub x2),.int .u8 (ub x3)] 5)):=Only.of_below hb0 rfl hb;have hsrc1:len=0\/(a=some ⟨sb,so,none⟩/\sb≠b/\Holds encB (w.alloc (.cells #[.int .u8 (ub x0),.int .u8 (ub x1),.int .u8 (ub x2),.int .u8 (ub x3)] 5)) sb so bs):=by
  by_cases h0:len=0
  ·exact Qh h0
  ·rcases hsrc with h|⟨h1,h2,h3⟩
   ·exact Qh h
   ·exact Qc ⟨h1,h2,Holds.below h3 hb0 (Holds.lt h3 (by omega))⟩
 clear hsrc;go_enter Tryz.func106,Tryz.ntmps106;go_wp2_with fail
 generalize w.alloc (.cells #[.int .u8 (ub x0),.int .u8 (ub x1),.int .u8 (ub x2),.int .u8 (ub x3)] 5)=W1 at h4 hb0 hS1 hO0 hsrc1⊢;refine(take_any b S (some ⟨w.heap.size,0,none⟩) w.heap.size 0 4 4 #[x0,x1,x2,x3] W1 hok hS1 rfl (PX _) (by decide) (Qc ⟨rfl,by omega,h4⟩)).mono ?_;rintro e w2 ⟨rfl,hO2,hS2⟩;have hsrc2:len=0\/(a=some ⟨sb,so,none⟩/\sb≠b/\Holds encB w2 sb so bs):=by
  by_cases h0:len=0
  ·exact Qh h0
  ·rcases hsrc1 with h|⟨h1,h2,h3⟩
   ·exact Qh h
   ·exact Qc ⟨h1,h2,Holds.other h3 hO2 h2 (by omega)⟩
 go_wp2_with fail
 refine(take_any b _ a sb so len cap bs w2 (eB hok _) hS2 hl hcap hbig hsrc2).mono ?_;rintro e w3 ⟨rfl,hO3,hS3⟩;go_wp2
 go_end0
 refine⟨rfl,(hO0.trans hO2).trans hO3,?_⟩;rw[hF.out,eC];exact hS3
theorem vM(s:ByteArray)(w:World)(hs:s.size<=1048576):
 Calls prog 123 #[.string s] w fun e w'=>∃o,e=.returned (.string o)/\o.data.toList=eI s.data.toList/\Below w.heap.size w w':=by
 have b0:(s.size:Int)/16777216%256=ub (cR s.size 16777216):=gU s.size 16777216;have b1:(s.size:Int)/65536%256=ub (cR s.size 65536):=gU s.size 65536;have b2:(s.size:Int)/256%256=ub (cR s.size 256):=gU s.size 256;have b3:(s.size:Int)%256=ub (cR s.size 1):=zK s.size;have hF:Hid (eI s.data.toList=(#[cR s.size 16777216,cR s.size 65536,cR s.size 256,cR s.size 1]:Bs).toList++s.data.toList):=by
  unfold eI;rw[P5];rfl
 have h4:=sP w (cR s.size 16777216) (cR s.size 65536) (cR s.size 256) (cR s.size 1);generalize cR s.size 16777216=x0 at *;generalize cR s.size 65536=x1 at *;generalize cR s.size 256=x2 at *;generalize cR s.size 1=x3 at *;have kc:=conv_str prog 22 9 5 slice22 int5 str9 _ w.heap.size 0 4 4 #[x0,x1,x2,x3] h4 rfl;have c0:(s.size:Int)/16777216=ub x0:=by omega
 have c1:(s.size:Int)/65536=ub x1:=by omega
 go_enter Tryz.func123,Tryz.ntmps123;go_wp2;go_ret;refine⟨_,rfl,?_,(Qd _ _).alloc (PX _) _⟩;rw[hF.out,S4,Tu]
end SP
namespace SP
open Go.RowKit Go.Sort Go.Deep
def bR(label:List UInt8)(ps:List (List UInt8)):List UInt8:=eI label++ps.flatMap eI
def gA(label:List UInt8)(ps:List (List UInt8)):Bs:=vC (bR label ps)
theorem eN(label:List UInt8)(ps:List (List UInt8)):(gA label ps).size=32:=BM _
theorem oH(label:List UInt8)(ps:List (List UInt8))(x:List UInt8):bR label (ps++[x])=bR label ps++eI x:=by
 unfold bR;rw[TC,<-Ux];simp
def PartOk(w:World)(v:Value)(x:List UInt8):Prop:=
 ∃a sb so cap bs,v=.slice a (Ue bs) cap/\bs.toList=x/\bs.size<=cap/\bs.size<=1099511627776/\(bs.size=0\/(a=some ⟨sb,so,none⟩/\Holds encB w sb so bs))
theorem PartOk.below{w w1:World}{v:Value}{x:List UInt8}(h:PartOk w v x)(k:Below w.heap.size w w1):PartOk w1 v x:=by
 obtain⟨a,sb,so,cap,bs,h1,h2,h3,h4,h5⟩:=h;refine⟨a,sb,so,cap,bs,h1,h2,h3,h4,?_⟩;rcases h5 with h5|⟨h5,h6⟩
 ·exact Qh h5
 ·exact Qc ⟨h5,Holds.below' h6 k⟩
def PartsOk(w:World)(pa:Option Addr)(ps:List (List UInt8)):Prop:=
 ps.length=0\/∃pb po,pa=some ⟨pb,po,none⟩/\∀j,j<ps.length->∃v,w.cell? ⟨pb,po+j,none⟩=some v/\PartOk w v ps[j]!
theorem PartsOk.below{w w1:World}{pa:Option Addr}{ps:List (List UInt8)}(h:PartsOk w pa ps)(k:Below w.heap.size w w1):PartsOk w1 pa ps:=by
 rcases h with h|⟨pb,po,h1,h2⟩
 ·exact Qh h
 ·refine Qc ⟨pb,po,h1,fun j hj=>?_⟩;obtain⟨v,h3,h4⟩:=h2 j hj;exact⟨v,by rw[k.cell (p:=⟨pb,po+j,none⟩) (Rm _ _ h3)];exact h3,h4.below k⟩
theorem wY(label:List UInt8)(ps:List (List UInt8))(k:Nat):(bR label (ps.take k)).length<=(bR label ps).length:=by
 have e:bR label ps=bR label (ps.take k)++(ps.drop k).flatMap eI:=by
  unfold bR;rw[Ux,<-TC,List.take_append_drop]
 rw[e,P9];omega
theorem kO{α:Type}[Inhabited α](l:List α)(k:Nat)(h:k<l.length):l.take (k+1)=l.take k++[l[k]!]:=by
 rw[List.take_succ_eq_append_getElem h,getElem!_pos l k h]
theorem xO(label:ByteArray)(pa:Option Addr)(pcap:Nat)(ps:List (List UInt8))(w:World)(hlab:label.size<=1048576)(hpl:ps.length<=1048576)(hP:PartsOk w pa ps):
 Calls prog 69 #[.string label,.slice pa ps.length pcap] w fun e w'=>∃r,e=.returned (.slice (some ⟨r,0,none⟩) 32 32)/\w.heap.size<=r/\Below w.heap.size w w'/\Holds encB w' r 0 (gA label.data.toList ps):=by
 have hS0:=C5 w 166;have hb0:Below w.heap.size w (w.alloc (.cells dI 166)):=(Qd _ _).alloc (PX _) _;have hs0:(w.alloc (.cells dI 166)).heap.size=w.heap.size+1:=by simp
 have zv:=EN;generalize hW1:w.alloc (.cells dI 166)=W1 at hS0 hb0 hs0;obtain⟨v2,W2,hcv,own2,hb2,hv2⟩:=kH (w:=W1) (B:=0) label (Rh _);rw[hv2]at hcv own2;obtain⟨hq0,hq1,hle2,hH2⟩:=own2.holds;rw[<-hq1]at hle2;clear hq0 hq1;have hH2':Holds encB W2 W1.heap.size 0 label.data:=by simpa using hH2
 have hS2:=hS0.below hb2 hS0.lt;have hsz2:=hb2.size;obtain⟨n,hn⟩:∃n,ps.length=n:=⟨_,rfl⟩
 rw[hn];have Hn:Hid (ps.length=n):=hn;have hn20:n<=1048576:=by omega
 rw[hs0]at hcv hH2';generalize hc2:grownCap W1 label.size 0 5=c2 at *;clear own2 hv2 hH2 hn hc2;have hcv':(convert 9 22 (.string label)).run prog (w.alloc (.cells dI 166))=.ok (.slice (some ⟨w.heap.size+1,0,none⟩) label.size c2) W2:=by rw[hW1];exact hcv
 clear hW1 hcv;go_enter Tryz.func69,Tryz.ntmps69;go_wp2_with fail
 refine(mG w.heap.size S0 (some ⟨w.heap.size+1,0,none⟩) (w.heap.size+1) 0 label.size c2 label.data W2 oP hS2 rfl (by omega) (by omega) (Qc ⟨rfl,by omega,hH2'⟩)).mono ?_;rintro e w3 ⟨rfl,hO3,hS3⟩;have hb3:Below w.heap.size w w3:=(hb0.trans (hb2.mono (by omega))).trans (hO3.below (by omega) (PX _));have hz3:w.heap.size<w3.heap.size:=hS3.lt;clear hcv' hH2' hO3 zv hS2;go_wp2;go_loopg [13] n (fun g s13 wr=>∃(k:Nat) (Sk:Sp),k+g=n/\s13=.int .i64 k/\HSp wr w.heap.size Sk/\Below w.heap.size w wr/\Ok Sk/\Hid (Sk=cZ S0 (bR label.data.toList (ps.take k))))
 case atStart =>
  refine⟨0,_,by omega,rfl,hS3,hb3,eB oP _,?_⟩;rw[TE];unfold bR;rw[We,SK];rfl
 case round =>
  clear hS3 hb3 hz3;obtain⟨k,Sk,hk,rfl,hSk,hb,hok,HE⟩:=hrel;by_cases hlt:k<n
  ·obtain⟨pb,po,rfl,hPj⟩:∃pb po,pa=some ⟨pb,po,none⟩/\∀j,j<ps.length->∃v,w.cell? ⟨pb,po+j,none⟩=some v/\PartOk w v ps[j]!:=by
    rcases hP with h|h
    ·have:=Hn.out;omega
    ·exact h
   obtain⟨v,hvc,hvp⟩:=hPj k (by have:=Hn.out;omega);have hpb:=Rm _ _ hvc;have hvc':wr.cell? ⟨pb,po+k,none⟩=some v:=by rw[hb.cell (p:=⟨pb,po+k,none⟩) hpb];exact hvc
   obtain⟨a,sb,so,cap,bs,rfl,hbl,hbc,hbb,hsrc⟩:=hvp;have hsrc':bs.size=0\/(a=some ⟨sb,so,none⟩/\sb≠w.heap.size/\Holds encB wr sb so bs):=by
    by_cases h0:bs.size=0
    ·exact Qh h0
    ·rcases hsrc with h|⟨h1,h2⟩
     ·exact Qh h
     ·have:=Holds.lt h2 (by omega);exact Qc ⟨h1,by omega,Holds.below h2 hb this⟩
   have HB:Hid (bs.toList=ps[k]!):=hbl;have l1:(k:Int)<(n:Int):=by omega
   generalize hbz:bs.size=bz at *;clear hvc hsrc hPj hbl;go_wp2_with fail
   refine(mG w.heap.size Sk a sb so bz cap bs wr hok hSk hbz hbc hbb hsrc').mono ?_;rintro e w4 ⟨rfl,hO4,hS4⟩;go_wp2;go_roundg (gk-1)
   case measure=>omega
   case rel =>
    refine⟨k+1,_,by omega,by go_num,hS4,hb.trans (hO4.below hb.size (PX _)),eB hok _,?_⟩;rw[kO ps k (by have:=Hn.out;omega),oH,eC,<-HE.out,HB.out];rfl
  ·have hkn:k=n:=by omega
   have l1:(n:Int)<=(k:Int):=by omega
   have HE2:Hid (Sk=cZ S0 (bR label.data.toList ps)):=by
    have e1:ps.take k=ps:=T9 (by have:=Hn.out;omega);rw[e1]at HE;exact HE
   clear HE;go_wp2_with fail
   refine(Dj w.heap.size Sk 6 wr hok hSk).mono ?_;rintro e w5 ⟨rfl,hO5,hS5⟩;have hD5:Holds enc w5 w.heap.size 0 (eW (bR label.data.toList ps) 6):=by
    have:=hS5.d;rw[HE2.out]at this;exact this
   clear hS5;go_wp2_with fail
   refine(pJ w.heap.size 0 32 _ _ (lM _ _) hD5 (by decide)).mono ?_;rintro e w6 ⟨rfl,hb6,hF6⟩;have hs5:=hO5.size;have hs4:=hb.size;go_wp2;go_ret;exact⟨w5.heap.size,rfl,by omega,(hb.trans (hO5.below hb.size (PX _))).trans (hb6.mono (by omega)),hF6⟩
end SP
namespace SP
open Go.RowKit Go.Sort Go.Deep
variable {B:Nat}{w w1:World}{v:Value}{T:List UInt8}
set_option maxRecDepth 4000
theorem tO{r c:Nat}{xs:Bs}(h:Own B w v T)(hX:Holds encB w r 0 xs)(hB:B<=w.heap.size)(hbig:T.length+xs.size<=1099511627776)(k:Nat)(hk:k=xs.size):
 ∃v' w',(QV #[22,22] 22 #[v,.slice (some ⟨r,0,none⟩) k c]).run prog w=.ok v' w'/\Own B w' v' (T++xs.toList)/\Below B w w':=by
 subst hk;obtain⟨g,cap,cur,rfl,hg,hgl,hs,hl,hH,hTc⟩:=h;obtain⟨i,hi,hz,hsz,hby⟩:=info_parts info5;have hxl0:xs.toList.length=xs.size:=P5;have hlen:(T++xs.toList).length=T.length+xs.size:=by rw[P9,hxl0]
 by_cases hroom:T.length+xs.size<=cap
 ·have hap:=lK (l:=T.length) (k:=xs.size) (n:=xs.size) (c:=c) hH hs hX rfl rfl hroom 22;have hH3:=eH hH T.length xs.toList (by rw[hxl0];omega);rw[P0]at hH3;refine⟨_,_,hap,⟨g,cap,splice cur T.length xs.toList,by rw[hlen],hg,PY hgl (below_setCells (B:=0) (b:=g) (Rh _) _ _ _ (Qd 0 w)).size,by rw[cC,hs],by omega,hH3,fun j hj=>?_⟩,?_⟩
  ·rw[hlen]at hj;rw[eO _ _ _ _ (by rw[hxl0];omega) (by omega),hxl0];by_cases h1:j<T.length
   ·rw[if_neg (by omega),sN _ _ _ h1,hTc j h1]
   ·rw[if_pos (by omega),mK _ _ _ (by omega) (by rw[hxl0];omega)]
  ·exact below_setCells hg _ _ _ (Qd _ _)
 ·have hold:(Xp i.size T.length (.slice (some ⟨g,0,none⟩) T.length cap)).run prog w.drew=.ok (T.map encB).toArray w.drew:=by
   rw[hsz];refine run_firstCells_some w.drew 1 T.length ⟨g,0,none⟩ T.length cap (T.map encB) (by rw[Qi,Se]) (fun j u hj=>?_);obtain⟨h1,h2⟩:=Qf.1 hj;rw[Qi]at h1;have hc:=(hH j (by omega)).1;rw[hTc j h1,getElem!_pos T j h1]at hc;rw[Sg]at h2;have e1:(⟨g,0,none⟩:Addr).add j=⟨g,0+j,none⟩:=by
    unfold Un;by_cases h0:j=0
    ·subst h0;rw[if_pos rfl]
    ·rw[if_neg h0]
   rw[e1,World.cell?_drew,hc,h2]
  have hxl:(xs.toList.map encB).length=xs.size:=by rw[Qi,hxl0]
  have hsrc:Src prog i.size 22 (.slice (some ⟨r,0,none⟩) xs.size c) xs.size (xs.toList.map encB) w:=by
   rw[hsz];refine Xd w slice22 ⟨r,0,none⟩ xs.size c _ (by rw[hxl,Se]) (fun j u hj=>?_) (fun u hu=>?_)
   ·obtain⟨h1,h2⟩:=Qf.1 hj;rw[hxl]at h1;have hc:=(hX j (by omega)).1;rw[getElem!_pos xs j (by omega)]at hc;rw[Sg,RS]at h2;have e1:(⟨r,0,none⟩:Addr).add j=⟨r,0+j,none⟩:=by
     unfold Un;by_cases h0:j=0
     ·subst h0;rw[if_pos rfl]
     ·rw[if_neg h0]
    rw[e1,hc,h2]
   ·obtain⟨x,_,rfl⟩:=QN.1 hu;rfl
  have hnc:Tk (T.length+xs.size) cap<=2*(T.length+xs.size)+768:=by
   unfold Tk;split
   ·omega
   ·split
    ·omega
    ·simp only[Xo];repeat' split
     all_goals omega
  have hap:=run_append_grow_src (P:=prog) w 22 22 22 5 i (.int .u8 0) slice22 hi hz (some ⟨g,0,none⟩) T.length cap (T.map encB) hold _ xs.size (xs.toList.map encB) hsrc (by omega) (by omega) (by rw[hby];omega);generalize hG:grownCap w (T.length+xs.size) cap 5=G at hap;have hGl:T.length+xs.size<=G:=by
   rw[<-hG];unfold grownCap VO;exact U1 _ _
  have hcells:(T.map encB++xs.toList.map encB).toArray++QZ (QR .u8 0).cells (G-(T.length+xs.size))=((T++xs.toList).toArray++P3 (G-(T.length+xs.size)) (0:UInt8)).map encB:=by
   rw[V6,Ul,<-List.map_append]
   congr 1
   ·simp
   ·unfold QZ;have e:(QR .u8 0).cells=#[QR .u8 0]:=rfl;rw[e];apply UN
    ·simp
    ·intro k h1 h2;simp[Nat.mod_one];rfl
  rw[hcells]at hap;refine⟨_,_,hap,⟨w.heap.size,G,(T++xs.toList).toArray++P3 (G-(T.length+xs.size)) 0,by rw[hlen],hB,by simp,?_,by omega,?_,fun j hj=>?_⟩,?_⟩
  ·rw[Qg,P8,Qr,hlen];omega
  ·exact Holds.new (enc:=encB) w.drew 5 _
  ·rw[app_front _ _ j (by simpa using hj)];rw[getElem!_pos (T++xs.toList) j hj];simp
  ·exact((Qd B w).drew).alloc (by exact hB) _
end SP
namespace SP
open Go.RowKit Go.Sort Go.Deep
theorem GK{w:World}{b r:Nat}{L T:Bs}(hL:Holds encB w b 0 L)(hl:L.size=32)(hT:Holds encB w r 0 T)(ht:T.size=32):
 (VP #[22,22] 3 #[.slice (some ⟨b,0,none⟩) 32 32,.slice (some ⟨r,0,none⟩) 32 32]).run prog w=.ok (goInt 32) (w.setCells b 0 (T.toList.map encB)):=by
 have hlen:(T.toList.map encB).length=32:=by rw[Qi,P5,ht]
 have:=run_copy_cells (P:=prog) w 22 22 3 5 b 0 32 32 ⟨r,0,none⟩ 32 32 (T.toList.map encB) slice22 ints5 (by rw[hlen];rfl)
  (fun j u hj=>by
   obtain⟨h1,h2⟩:=Qf.1 hj;rw[hlen]at h1;have hc:=(hT j (by omega)).1;rw[getElem!_pos T j (by omega)]at hc;rw[Sg,RS]at h2;have e1:(⟨r,0,none⟩:Addr).add j=⟨r,0+j,none⟩:=by
    unfold Un;by_cases h0:j=0
    ·subst h0;rw[if_pos rfl]
    ·rw[if_neg h0]
   rw[e1,hc,h2])
  (fun j hj=>by rw[(hL j (by omega)).1];rfl) (fun j hj=>(hL j (by omega)).2)
  (fun u hu=>by obtain⟨x,_,rfl⟩:=QN.1 hu;rfl)
 rw[hlen]at this;exact this
theorem wX{w:World}{b:Nat}{L T:Bs}(hL:Holds encB w b 0 L)(hl:L.size=32)(ht:T.size=32):Holds encB (w.setCells b 0 (T.toList.map encB)) b 0 T:=by
 have hlen:(T.toList.map encB).length=32:=by rw[Qi,P5,ht]
 refine Holds.setCells hL (T.toList.map encB) 0 (by omega) (by omega) (fun j hj=>?_) (fun j h1 h2=>by omega);rw[hlen]at hj;rw[Sg,RS,P0,getElem!_pos T j (by omega)]
theorem Ce{w w2:World}{b:Nat}{L T:Bs}(hL:Holds encB w b 0 L)(hl:L.size=32)(ht:T.size=32)(hb:b<w.heap.size)(hb2:Below w.drew.heap.size w.drew w2):
 Only b 0 32 w (w2.setCells b 0 (T.toList.map encB))/\Holds encB (w2.setCells b 0 (T.toList.map encB)) b 0 T:=by
 have hlen:(T.toList.map encB).length=32:=by rw[Qi,P5,ht]
 refine⟨?_,wX (Holds.below (Holds.drew hL) hb2 hb) hl ht⟩;exact Only.setCells (((Only.refl b 0 32 w).drew).trans (Only.of_below hb2 rfl hb)) _ 0 (PX _) (by omega)
theorem m7(b:Nat)(L:Bs)(label:ByteArray)(pa:Option Addr)(pcap n:Nat)(ps:List (List UInt8))(w:World)(hlab:label.size<=1048576)(hpl:ps.length=n)(hn:n<=1048576)(hP:PartsOk w pa ps)(hL:Holds encB w b 0 L)(hl:L.size=32):
 Calls prog 110 #[.pointer (some ⟨b,0,none⟩),.string label,.slice pa n pcap] w fun e w'=>e=.returned (.tuple #[])/\Only b 0 32 w w'/\Holds encB w' b 0 (gA label.data.toList ps):=by
 subst hpl;have hb:=Holds.lt hL (by omega);have ht:=xO label pa pcap ps w.drew hlab hn (hP.below ((Qd _ _).drew));generalize hT:gA label.data.toList ps=T at ht⊢;have hTs:T.size=32:=by rw[<-hT,eN]
 have HT:Hid (Calls prog 69 #[.string label,.slice pa ps.length pcap] w.drew fun e w'=>∃r,e=.returned (.slice (some ⟨r,0,none⟩) 32 32)/\w.drew.heap.size<=r/\Below w.drew.heap.size w.drew w'/\Holds encB w' r 0 T):=ht;generalize ps.length=n at *;clear hT ht hP;go_enter Tryz.func110,Tryz.ntmps110;go_wp2;go_region_with (go_at_call 69;refine VJ HT.out ?_;rintro e w2 ⟨r2,rfl,hr2,hb2,hH2⟩;have hcp:=GK (Holds.below (Holds.drew hL) hb2 hb) hl hH2 hTs;have hfin:=Ce hL hl hTs hb hb2)
 all_goals (try go_wp2)
 all_goals go_end0
 all_goals exact⟨rfl,hfin⟩
end SP
namespace SP
open Go.RowKit Go.Sort Go.Deep
def encV(v:Value):Value:=v
theorem oW(l:List UInt8)(n:Nat):(gB l n).size=n:=by rw[gB,eE]
def newL(label:List UInt8):Bs:=gA [108,111,103] [label]
def eG(L:Bs)(label text:List UInt8):Bs:=gA [115,97,121] [L.toList,label,text]
def qM(L:Bs)(label:List UInt8)(n:Nat):Bs:=gB (gA [97,115,107] [L.toList,label]).toList n
def Ch(L:Bs)(label:List UInt8):Bs:=gA [97,115,107,101,100] [L.toList,label]
theorem pG(l:List UInt8):(newL l).size=32:=eN _ _
theorem cX(L:Bs)(l t:List UInt8):(eG L l t).size=32:=eN _ _
theorem vK(L:Bs)(l:List UInt8)(n:Nat):(qM L l n).size=n:=oW _ _
theorem l9(s:ByteArray)(w:World)(hs:s.size<=1099511627776):
 ∃c w',(convert 9 22 (.string s)).run prog w=.ok (.slice (some ⟨w.heap.size,0,none⟩) s.size c) w'/\s.size<=c/\Holds encB w' w.heap.size 0 s.data/\PartOk w' (.slice (some ⟨w.heap.size,0,none⟩) s.size c) s.data.toList/\Below w.heap.size w w'/\w.heap.size<w'.heap.size:=by
 obtain⟨v2,W2,hcv,own2,hb2,hv2⟩:=kH (w:=w) (B:=0) s (Rh _);rw[hv2]at hcv own2;have hlt:w.heap.size<W2.heap.size:=by
  obtain⟨g,cap,cur,h1,_,h3,_⟩:=own2;injection h1 with h1
  injection h1 with h1
  injection h1 with h1
  omega
 obtain⟨hq0,hq1,hle2,hH2⟩:=own2.holds;rw[<-hq1]at hle2;have hH2':Holds encB W2 w.heap.size 0 s.data:=by simpa using hH2
 have hle:s.size<=grownCap w s.size 0 5:=hle2;exact⟨_,W2,hcv,hle,hH2',⟨_,w.heap.size,0,_,s.data,rfl,rfl,hle,hs,Qc ⟨rfl,hH2'⟩⟩,hb2,hlt⟩
theorem lX(W:World)(vs:Array Value)(ps:List (List UInt8))(t:TypeId)(hl:vs.size=ps.length)(h:∀j,j<ps.length->PartOk W vs[j]! ps[j]!):
 PartsOk (W.alloc (.cells vs t)) (some ⟨W.heap.size,0,none⟩) ps:=by
 refine Qc ⟨W.heap.size,0,rfl,fun j hj=>⟨vs[j]!,?_,(h j hj).below ((Qd _ _).alloc (PX _) _)⟩⟩;have e0:vs.map encV=vs:=by
  have:encV=id:=rfl;rw[this,Array.map_id]
 have:=(Holds.new (enc:=encV) W t vs j (by omega)).1;rw[e0]at this;exact this
theorem rX{w:World}{b:Nat}{L:Bs}(hL:Holds encB w b 0 L)(hl:L.size=32):PartOk w (.slice (some ⟨b,0,none⟩) 32 32) L.toList:=
 ⟨_,b,0,32,L,by rw[hl],rfl,by omega,by omega,Qc ⟨rfl,hL⟩⟩
theorem Hw:∀w:World,(zeroValue 174).run prog w=.ok (.agg (P3 32 (.int .u8 0))) w:=fun _=>by kernel_rfl
theorem Cm(label:ByteArray)(w:World)(hlab:label.size<=1048576):
 Calls prog 109 #[.string label] w fun e w'=>e=.returned (.pointer (some ⟨w.heap.size,0,none⟩))/\Below w.heap.size w w'/\Holds encB w' w.heap.size 0 (newL label.data.toList):=by
 have zv:=Hw;have hH0:Holds encB (w.alloc (.cells (P3 32 (.int .u8 0)) 174)) w.heap.size 0 (P3 32 0):=by
  have:=Holds.new (enc:=encB) w 174 (P3 32 0);rw[Ul]at this;exact this
 have hb0:Below w.heap.size w (w.alloc (.cells (P3 32 (.int .u8 0)) 174)):=(Qd _ _).alloc (PX _) _;have hs0:(w.alloc (.cells (P3 32 (.int .u8 0)) 174)).heap.size=w.heap.size+1:=by simp
 obtain⟨c,W1,hcv,hc,hH1,hP1,hb1,hlt1⟩:=l9 label (w.alloc (.cells (P3 32 (.int .u8 0)) 174)) (by omega);have hH01:=Holds.below' hH0 hb1;have hPs:=lX W1 #[.slice (some ⟨(w.alloc (.cells (P3 32 (.int .u8 0)) 174)).heap.size,0,none⟩) label.size c] [label.data.toList] 22 rfl (fun j hj=>by
  have hj0:j=0:=by simpa using hj
  subst hj0;exact hP1)
 have hb2:Below W1.heap.size W1 (W1.alloc (.cells #[.slice (some ⟨(w.alloc (.cells (P3 32 (.int .u8 0)) 174)).heap.size,0,none⟩) label.size c] 22)):=(Qd _ _).alloc (PX _) _;have hH02:=Holds.below' hH01 hb2;rw[hs0]at hcv hPs hb2 hH02 hlt1;have hb3:Below w.heap.size w (W1.alloc (.cells #[.slice (some ⟨w.heap.size+1,0,none⟩) label.size c] 22)):=(hb0.trans (hb1.mono (by omega))).trans (hb2.mono (by omega));clear hH0 hb0 hH1 hP1 hb1 hH01 hs0;go_enter Tryz.func109,Tryz.ntmps109;go_wp2_with fail
 refine(m7 w.heap.size (P3 32 0) ⟨#[108,111,103]⟩ (some ⟨W1.heap.size,0,none⟩) 1 1 [label.data.toList] _ (by decide) rfl (by decide) hPs hH02 (by simp)).mono ?_;rintro e w4 ⟨rfl,hO4,hH4⟩;go_wp2;go_ret;exact⟨rfl,hb3.trans (hO4.below hb3.size (PX _)),hH4⟩
end SP
namespace SP
open Go.RowKit Go.Sort Go.Deep
theorem fD(b:Nat)(L:Bs)(label:ByteArray)(ta:Option Addr)(tl tc:Nat)(text:List UInt8)(w:World)(hlab:label.size<=1048576)(hL:Holds encB w b 0 L)(hl:L.size=32)(hT:PartOk w (.slice ta tl tc) text):
 Calls prog 71 #[.pointer (some ⟨b,0,none⟩),.string label,.slice ta tl tc] w fun e w'=>e=.returned (.tuple #[])/\Only b 0 32 w w'/\Holds encB w' b 0 (eG L label.data.toList text):=by
 have hb:=Holds.lt hL (by omega);obtain⟨c,W1,hcv,hc,hH1,hP1,hb1,hlt1⟩:=l9 label w (by omega);have hL1:=Holds.below hL hb1 hb;have hT1:=hT.below hb1;have hPs:=lX W1 #[.slice (some ⟨b,0,none⟩) 32 32,.slice (some ⟨w.heap.size,0,none⟩) label.size c,.slice ta tl tc] [L.toList,label.data.toList,text] 22 rfl (fun j hj=>by
  have hj3:j<3:=hj;match j,hj3 with
  | 0,_=>exact rX hL1 hl
  | 1,_=>exact hP1
  | 2,_=>exact hT1)
 have hb2:Below W1.heap.size W1 (W1.alloc (.cells #[.slice (some ⟨b,0,none⟩) 32 32,.slice (some ⟨w.heap.size,0,none⟩) label.size c,.slice ta tl tc] 22)):=(Qd _ _).alloc (PX _) _;have hL2:=Holds.below' hL1 hb2;have hO2:Only b 0 32 w (W1.alloc (.cells #[.slice (some ⟨b,0,none⟩) 32 32,.slice (some ⟨w.heap.size,0,none⟩) label.size c,.slice ta tl tc] 22)):=(Only.of_below hb1 rfl hb).alloc (by omega) _;clear hH1 hP1 hT1 hT hb2;go_enter Tryz.func71,Tryz.ntmps71;go_wp2_with fail
 refine(m7 b L ⟨#[115,97,121]⟩ (some ⟨W1.heap.size,0,none⟩) 3 3 [L.toList,label.data.toList,text] _ (by decide) rfl (by decide) hPs hL2 hl).mono ?_;rintro e w4 ⟨rfl,hO4,hH4⟩;go_wp2
 go_end0
 exact⟨rfl,hO2.trans hO4,hH4⟩
theorem JZ(b:Nat)(L:Bs)(label:ByteArray)(n:Nat)(w:World)(hlab:label.size<=1048576)(hn:n<=1024)(hL:Holds encB w b 0 L)(hl:L.size=32):
 Calls prog 143 #[.pointer (some ⟨b,0,none⟩),.string label,.int .i64 n] w fun e w'=>∃r,e=.returned (.tuple #[.slice (some ⟨r,0,none⟩) n n,.int .i64 0])/\w.heap.size<=r/\Only b 0 32 w w'/\Holds encB w' b 0 (Ch L label.data.toList)/\Holds encB w' r 0 (qM L label.data.toList n):=by
 have hb:=Holds.lt hL (by omega);obtain⟨c,W1,hcv,hc,hH1,hP1,hb1,hlt1⟩:=l9 label w (by omega);have hL1:=Holds.below hL hb1 hb;have hPs:=lX W1 #[.slice (some ⟨b,0,none⟩) 32 32,.slice (some ⟨w.heap.size,0,none⟩) label.size c] [L.toList,label.data.toList] 22 rfl (fun j hj=>by
  have hj3:j<2:=hj;match j,hj3 with
  | 0,_=>exact rX hL1 hl
  | 1,_=>exact hP1)
 have hb2:Below W1.heap.size W1 (W1.alloc (.cells #[.slice (some ⟨b,0,none⟩) 32 32,.slice (some ⟨w.heap.size,0,none⟩) label.size c] 22)):=(Qd _ _).alloc (PX _) _;have hL2:=Holds.below' hL1 hb2;have hO2:Only b 0 32 w (W1.alloc (.cells #[.slice (some ⟨b,0,none⟩) 32 32,.slice (some ⟨w.heap.size,0,none⟩) label.size c] 22)):=(Only.of_below hb1 rfl hb).alloc (by omega) _;have d0:decide ((n:Int)<0)=false:=decide_eq_false (by omega);have d1:¬(1024:Int)<(n:Int):=by omega
 clear hH1 hP1 hb2;go_enter Tryz.func143,Tryz.ntmps143;go_wp2_with fail
 refine(xO ⟨#[97,115,107]⟩ (some ⟨W1.heap.size,0,none⟩) 2 [L.toList,label.data.toList] _ (by decide) (by show 2<=1048576;omega) hPs).mono ?_;rintro e w3 ⟨r3,rfl,hr3,hb3,hH3⟩;have hL3:=Holds.below' hL2 hb3;have hO3:=hO2.trans (Only.of_below hb3 rfl (PY hb hO2.size));clear hPs hL2 hL1;go_wp2_with fail
 refine(tU (some ⟨r3,0,none⟩) r3 0 32 32 n _ _ (by omega) (eN _ _) (by omega) (by omega) (Qc ⟨rfl,hH3⟩)).mono ?_;rintro e w4 ⟨r4,rfl,hr4,hb4,hH4⟩;have hL4:=Holds.below' hL3 hb4;have hs3:=hO3.size;have hO4:=hO3.trans (Only.of_below hb4 rfl (by omega));have hA4:Holds encB w4 r4 0 (qM L label.data.toList n):=hH4;have hs4:=hO4.size;obtain⟨c5,W5,hcv5,hc5,hH5,hP5,hb5,hlt5⟩:=l9 label w4 (by omega);have hL5:=Holds.below' hL4 hb5;have hA5:=Holds.below' hA4 hb5;have hPs5:=lX W5 #[.slice (some ⟨b,0,none⟩) 32 32,.slice (some ⟨w4.heap.size,0,none⟩) label.size c5] [L.toList,label.data.toList] 22 rfl (fun j hj=>by
  have hj3:j<2:=hj;match j,hj3 with
  | 0,_=>exact rX hL5 hl
  | 1,_=>exact hP5)
 have hb6:Below W5.heap.size W5 (W5.alloc (.cells #[.slice (some ⟨b,0,none⟩) 32 32,.slice (some ⟨w4.heap.size,0,none⟩) label.size c5] 22)):=(Qd _ _).alloc (PX _) _;have hL6:=Holds.below' hL5 hb6;have hA6:=Holds.below' hA5 hb6;have hO6:Only b 0 32 w (W5.alloc (.cells #[.slice (some ⟨b,0,none⟩) 32 32,.slice (some ⟨w4.heap.size,0,none⟩) label.size c5] 22)):=hO4.trans ((Only.of_below hb5 rfl (by omega)).alloc (by omega) _);clear hH5 hP5 hH4 hA4 hA5 hL4 hL5 hH3 hcv hb6 hL3;go_wp2_with fail
 refine(m7 b L ⟨#[97,115,107,101,100]⟩ (some ⟨W5.heap.size,0,none⟩) 2 2 [L.toList,label.data.toList] _ (by decide) rfl (by decide) hPs5 hL6 hl).mono ?_;rintro e w7 ⟨rfl,hO7,hH7⟩;clear hPs5;have hA7:Holds encB w7 r4 0 (qM L label.data.toList n):=by
  intro j hj;have h1:=hA6 j hj;have h2:=Rm _ _ h1.1;have h3:=hO7.other (c:=r4) (o:=0+j) (by omega) h2;rw[h3.1,h3.2];exact h1
 go_wp2
 go_ret2
 exact⟨r4,rfl,by omega,hO6.trans hO7,hH7,hA7⟩
end SP
section
open Go.RowKit Go.Sort
variable {P:Nat}[NeZero P]{N:Nat}
def ArgsPts(w:World)(q:Option Addr)(n:Nat)(L:Nat->Bs):Prop:=0<n->∃gg,q=some ⟨gg,0,none⟩/\gg<w.heap.size/\∀j,j<n->∃v,w.cell? ⟨gg,j,none⟩=some v/\Arg33 w v (L j)
def PP(P:Nat)[NeZero P](w:World)(n:Nat)(L:Nat->Bs)(e:Value)(w':World):Prop:=
 (∃k,w.heap.size<=k/\k<w'.heap.size/\e=.tuple #[.slice (some ⟨k,0,none⟩) n n,.int .i64 0]/\∀j,j<n->∃p,rd P (L j)=some p/\w'.rangeAt k (8*j) (ws p.1++ws p.2)) \/
 ((∃j,j<n/\rd P (L j)=none)/\e=.tuple #[.slice none 0 0,.int .i64 4])
theorem Ol(F:Fld P)(n cap:Nat)(hn:n<=512)(q:Option Addr)(L:Nat->Bs)(w:World)(hA:ArgsPts w q n L):Calls prog 101 #[.slice q n cap] w (Ret fun e w'=>Below w.heap.size w w'/\PP P w n L e w'):=by
 obtain⟨C,hCl,hmk⟩:=NL n hn;obtain⟨i,-⟩:∃i:Nat,i=0:=⟨_,rfl⟩
 obtain⟨gg,-⟩:∃i:Nat,i=0:=⟨_,rfl⟩
 obtain⟨m,-⟩:∃i:Nat,i=0:=⟨_,rfl⟩
 obtain⟨v,-⟩:∃v:Value,v=.bool true:=⟨_,rfl⟩
 obtain⟨x,-⟩:∃x:Fin P,x=0:=⟨_,rfl⟩
 obtain⟨y,-⟩:∃x:Fin P,x=0:=⟨_,rfl⟩
 obtain⟨C2,-⟩:∃c:List Value,c=C:=⟨_,rfl⟩
 go_enter Tryz.func101,Tryz.ntmps101;refine RG.EU (v0:=.slice q n cap) (n:=32) (by kernel_rfl) (by kernel_rfl) (by kernel_rfl) ?_;intro a0 sl0 f0;have hS0:=RG.St.begin w;have M0:RG.M w w.heap.size [] 32 [] [] [(0,(.v (.slice q n cap)))] a0 _:=⟨hS0,sl0,⟨f0,trivial⟩⟩
 repeat refine wp_seq ?_
 refine M0.u [.x 2 [] (.slice none 0 0),.x 3 [] (.int .i64 0)] [(0,(.v (.slice q n cap))),(2,(.v (.slice none 0 0))),(3,(.v (.int .i64 0)))] ⟨RG.st,RG.st,trivial⟩ ?_;intro a1 w1 M1;repeat refine wp_seq ?_
 refine M1.t [.x 9 [] (.slice q n cap),.x 10 [(9,0)] (.int .i64 n),⟨some 11,[(10,1)],(.s 0 n n),.make 0⟩,.s 4 [(11,2)] (.s 0 n n)] [(2,C)] [] [C] [(0,(.v (.slice q n cap))),(2,(.v (.slice none 0 0))),(3,(.v (.int .i64 0))),(4,(.s 0 n n))] ⟨RG.st,RG.eK rfl 9 (.v (.slice q n cap)) (.int .i64 n) rfl RG.sx (fun a w=>by kernel_rfl) (fun μ w=>by kernel_rfl),RG.kJ 0 rfl _ rfl 155 47 10 10 n rfl rfl RG.sx RG.sx (hmk),RG.st,trivial⟩ ?_;intro j2 a2 w2 M2;repeat refine wp_seq ?_
 refine M2.u [.x 12 [] (.slice q n cap),.x 13 [(12,0)] (.int .i64 n),.x 14 [] (.int .i64 0)] [(2,(.v (.slice none 0 0))),(3,(.v (.int .i64 0))),(4,(.s 0 n n)),(12,(.v (.slice q n cap))),(13,(.v (.int .i64 n))),(14,(.v (.int .i64 0)))] ⟨RG.st,RG.eK rfl 12 (.v (.slice q n cap)) (.int .i64 n) rfl RG.sx (fun a w=>by kernel_rfl) (fun μ w=>by kernel_rfl),RG.st,trivial⟩ ?_;intro a3 w3 M3;have f2_3:a3.tmps[2]? = some (.slice none 0 0):=M3.at (s:=(.v (.slice none 0 0)));have f3_3:a3.tmps[3]? = some (.int .i64 0):=M3.at (s:=(.v (.int .i64 0)));have f4_3:a3.tmps[4]? = some (.slice (some ⟨j2,0,none⟩) n n):=M3.at (s:=(.s 0 n n));have f12_3:a3.tmps[12]? = some (.slice q n cap):=M3.at (s:=(.v (.slice q n cap)));have f13_3:a3.tmps[13]? = some (.int .i64 n):=M3.at (s:=(.v (.int .i64 n)));have f14_3:a3.tmps[14]? = some (.int .i64 0):=M3.at (s:=(.v (.int .i64 0)));repeat refine wp_seq ?_
 refine wp_block ?_;refine wp_loop_ghost (fun m a wr=>∃(i:Nat) (C:List Value),i+m=n/\(∀j,j<i->(rd P (L j)).isSome=true)/\Rows 8 n (fun j=>match rd P (L j) with|some p=>ws p.1++ws p.2|none=>[]) i C/\RG.Sl a 32/\a.tmps[4]? = some (.slice (some ⟨j2,0,none⟩) n n)/\a.tmps[12]? = some (.slice q n cap)/\a.tmps[13]? = some (.int .i64 n)/\a.tmps[14]? = some (.int .i64 i)/\RG.St w w.heap.size [] [C] [j2] wr) n ⟨0,C,by omega,fun j hj=>by omega,⟨hCl,fun j r hj=>by omega⟩,M3.sl,f4_3,f12_3,f13_3,f14_3,M3.st⟩ ?_;intro m' a wr;rintro⟨i,C,him,hall,hR,sl,p4,p12,p13,p14,hSp⟩;generalize j2=kt at p4 hSp;by_cases hi:i<n
 ·obtain⟨gg,hqe,hgg,hc⟩:=hA (by omega);rw[hqe]at p12;obtain⟨v,hv,harg⟩:=hc i hi;have hcell:w.cell? ⟨gg,0+i,none⟩=some v:=by rw[P0];exact hv
  cases hrdv:rd P (L i) with
  | some pp =>
   obtain⟨x,y⟩:=pp;have hrd:∀w',RG.BelX w.heap.size [] w w'->Calls prog 103 #[v] w' (Ret fun e w''=>Below w'.heap.size w' w''/\e=.tuple #[pv x y,.bool true]):=fun w' hb=>by
    have:=kV F v (L i) w' (harg.below hb.below);rw[hrdv]at this;exact this
   have hlen:=hR.len;have hoff:0+8*i+(ws x++ws y).length<=C.length:=by rw[hlen];show 0+8*i+8<=8*n;omega
   obtain⟨C2,hC2e⟩:∃c,RG.rep C (0+8*i) (ws x++ws y)=c:=⟨_,rfl⟩
   have hC2:=hC2e ▸ RG.rep_at hoff;have hcl:C2.length=C.length:=hC2e ▸ RG.cG hoff;have hR2:Rows 8 n (fun j=>match rd P (L j) with|some p=>ws p.1++ws p.2|none=>[]) (i+1) C2:=by
    have:=hR.next hi (by show WV (match rd P (L i) with|some p=>_|none=>_)=_;rw[hrdv];rfl);rw[<-hC2e];have e:(fun j=>match rd P (L j) with|some p=>ws p.1++ws p.2|none=>[]) i=(ws x++ws y):=by show(match rd P (L i) with|some p=>_|none=>_)=_;rw[hrdv]
    rw[<-e];exact this
   have M10:RG.M w w.heap.size [] 32 [C] [kt] [(4,(.s 0 n n)),(12,(.v (.slice (some ⟨gg,0,none⟩) n cap))),(13,(.v (.int .i64 n))),(14,(.v (.int .i64 i)))] a _:=⟨hSp,sl,⟨p4,p12,p13,p14,trivial⟩⟩
   repeat refine wp_seq ?_
   refine M10.u [.x 15 [] (.bool true)] [(4,(.s 0 n n)),(12,(.v (.slice (some ⟨gg,0,none⟩) n cap))),(13,(.v (.int .i64 n))),(14,(.v (.int .i64 i))),(15,(.v (.bool true)))] ⟨RG.aL rfl .lss 3 3 14 13 (.int .i64 i) (.int .i64 n) (.bool true) rfl rfl RG.sx RG.sx (fun w=>by kernel_rfl) (eR hi),trivial⟩ ?_;intro a11 w11 M11;repeat refine wp_seq ?_
   refine wp_cond_true M11.ev ?_;refine wp_skip ?_;refine wp_seq ?_;refine wp_block ?_;repeat refine wp_seq ?_
   refine M11.u [.x 16 [] (.int .i64 i),.x 17 [] (.pointer (some ⟨gg,(0+i),none⟩)),.x 18 [(17,1)] v,.x 5 [(16,0)] (.int .i64 i),.x 6 [(18,2)] v] [(4,(.s 0 n n)),(5,(.v (.int .i64 i))),(6,(.v v)),(12,(.v (.slice (some ⟨gg,0,none⟩) n cap))),(13,(.v (.int .i64 n))),(14,(.v (.int .i64 i)))] ⟨RG.st,RG.aZ rfl 31 12 14 rfl (.v (.slice (some ⟨gg,0,none⟩) n cap)) (.int .i64 i) RG.sx RG.sx (fun μ w=>JR _ 0 _ _ i hi w),RG.bK rfl gg (0+i) hgg Qk 22 17 rfl v rfl RG.sx hcell u23,RG.st,RG.st,trivial⟩ ?_;intro a12 w12 M12;repeat refine wp_seq ?_
   refine M12.t [.x 20 [] v,.c 21 [(20,0)] (.tuple #[(pv x y),(.bool true)]),.x 19 [(21,1)] (.tuple #[(pv x y),(.bool true)]),.x 22 [(19,2)] (pv x y),.x 23 [(19,2)] (.bool true),.m 7 [] 1,.u [(7,5),(22,3)] 1,.x 8 [(23,4)] (.bool true)] [(5,(RG.z 8))] [(1,6,(ws x++(ws y)))] [C,(ws x++(ws y))] [(4,(.s 0 n n)),(5,(.v (.int .i64 i))),(7,(.p 1 0)),(8,(.v (.bool true))),(12,(.v (.slice (some ⟨gg,0,none⟩) n cap))),(13,(.v (.int .i64 n))),(14,(.v (.int .i64 i)))] ⟨RG.st,RG.qF rfl 103 20 v (.tuple #[(pv x y),(.bool true)]) rfl (fun a w=>by kernel_rfl) RG.sx hrd,RG.st,RG.st,RG.st,RG.mk 1 47,RG.pt i109,RG.st,trivial⟩ ?_;intro j13 a13 w13 M13;repeat refine wp_seq ?_
   refine M13.u [.x 24 [] (.bool true),.x 25 [(24,0)] (.bool false)] [(4,(.s 0 n n)),(5,(.v (.int .i64 i))),(7,(.p 1 0)),(12,(.v (.slice (some ⟨gg,0,none⟩) n cap))),(13,(.v (.int .i64 n))),(14,(.v (.int .i64 i))),(25,(.v (.bool false)))] ⟨RG.st,RG.st,trivial⟩ ?_;intro a14 w14 M14;repeat refine wp_seq ?_
   refine wp_cond_false M14.ev ?_;refine wp_skip ?_;repeat refine wp_seq ?_
   refine M14.tx [.s 26 [] (.s 0 n n),.x 27 [] (.int .i64 i),.x 28 [] (pv x y),.s 29 [(26,0),(27,1)] (.p 0 (0+8*i)),.u [(29,3),(28,2)] 0] [] [(0,4,C2)] [C2,(ws x++(ws y))] [(4,(.s 0 n n)),(12,(.v (.slice (some ⟨gg,0,none⟩) n cap))),(13,(.v (.int .i64 n))),(14,(.v (.int .i64 i)))] (by kernel_rfl) (congrArg (fun n=>[n]) hcl) ⟨RG.st,RG.st,RG.ld h9 i109,RG.aZ rfl 155 26 27 rfl (.s 0 n n) (.int .i64 i) RG.sx RG.sx (fun μ w=>Ks _ 0 _ _ i hi w),RG.dS 0 (0+8*i) rfl _ rfl 47 (.tmp 29) (.tmp 28) (ws x++ws y) rfl rfl RG.sx RG.sx hoff hC2 i109 rfl,trivial⟩ ?_;intro a15 w15 M15;repeat refine wp_seq ?_
   refine M15.u [.x 30 [] (.int .i64 ((i+1:Nat):Int)),.x 14 [(30,0)] (.int .i64 ((i+1:Nat):Int))] [(4,(.s 0 n n)),(12,(.v (.slice (some ⟨gg,0,none⟩) n cap))),(13,(.v (.int .i64 n))),(14,(.v (.int .i64 ((i+1:Nat):Int))))] ⟨RG.aK rfl .add 3 3 14 (.int .i64 i) (.int .i64 1) (.int .i64 ((i+1:Nat):Int)) rfl rfl RG.sx (fun w=>by kernel_rfl) (qN i 1 (by omega) (by omega)),RG.st,trivial⟩ ?_;intro a16 w16 M16;have f4_16:a16.tmps[4]? = some (.slice (some ⟨kt,0,none⟩) n n):=M16.at (s:=(.s 0 n n));have f12_16:a16.tmps[12]? = some (.slice (some ⟨gg,0,none⟩) n cap):=M16.at (s:=(.v (.slice (some ⟨gg,0,none⟩) n cap)));have f13_16:a16.tmps[13]? = some (.int .i64 n):=M16.at (s:=(.v (.int .i64 n)));have f14_16:a16.tmps[14]? = some (.int .i64 ((i+1:Nat):Int)):=M16.at (s:=(.v (.int .i64 ((i+1:Nat):Int))));show ∃n',_;exact⟨m'-1,by omega,i+1,C2,by omega,fun j hj=>(by
    by_cases hji:j=i
    ·rw[hji,hrdv];rfl
    ·exact hall j (by omega)),hR2,M16.sl,f4_16,(by rw[hqe];exact f12_16),f13_16,f14_16,RG.St.init (cs:=[C2]) (ks:=[kt]) M16.st⟩
  | none =>
   have hrd:∀w',RG.BelX w.heap.size [] w w'->Calls prog 103 #[v] w' (Ret fun e w''=>Below w'.heap.size w' w''/\e=.tuple #[pv (0:Fin P) 0,.bool false]):=fun w' hb=>by
    have:=kV F v (L i) w' (harg.below hb.below);rw[hrdv]at this;exact this
   have M20:RG.M w w.heap.size [] 32 [C] [kt] [(4,(.s 0 n n)),(12,(.v (.slice (some ⟨gg,0,none⟩) n cap))),(13,(.v (.int .i64 n))),(14,(.v (.int .i64 i)))] a _:=⟨hSp,sl,⟨p4,p12,p13,p14,trivial⟩⟩
   repeat refine wp_seq ?_
   refine M20.u [.x 15 [] (.bool true)] [(12,(.v (.slice (some ⟨gg,0,none⟩) n cap))),(14,(.v (.int .i64 i))),(15,(.v (.bool true)))] ⟨RG.aL rfl .lss 3 3 14 13 (.int .i64 i) (.int .i64 n) (.bool true) rfl rfl RG.sx RG.sx (fun w=>by kernel_rfl) (eR hi),trivial⟩ ?_;intro a21 w21 M21;repeat refine wp_seq ?_
   refine wp_cond_true M21.ev ?_;refine wp_skip ?_;refine wp_seq ?_;refine wp_block ?_;repeat refine wp_seq ?_
   refine M21.u [.x 16 [] (.int .i64 i),.x 17 [] (.pointer (some ⟨gg,(0+i),none⟩)),.x 18 [(17,1)] v,.x 5 [(16,0)] (.int .i64 i),.x 6 [(18,2)] v] [(6,(.v v))] ⟨RG.st,RG.aZ rfl 31 12 14 rfl (.v (.slice (some ⟨gg,0,none⟩) n cap)) (.int .i64 i) RG.sx RG.sx (fun μ w=>JR _ 0 _ _ i hi w),RG.bK rfl gg (0+i) hgg Qk 22 17 rfl v rfl RG.sx hcell u23,RG.st,RG.st,trivial⟩ ?_;intro a22 w22 M22;repeat refine wp_seq ?_
   refine M22.t [.x 20 [] v,.c 21 [(20,0)] (.tuple #[(pv (0:Fin P) (0:Fin P)),(.bool false)]),.x 19 [(21,1)] (.tuple #[(pv (0:Fin P) (0:Fin P)),(.bool false)]),.x 22 [(19,2)] (pv (0:Fin P) (0:Fin P)),.x 23 [(19,2)] (.bool false),.m 7 [] 1,.u [(7,5),(22,3)] 1,.x 8 [(23,4)] (.bool false)] [(5,(RG.z 8))] [(1,6,(ws (0:Fin P)++(ws (0:Fin P))))] [C,(ws (0:Fin P)++(ws (0:Fin P)))] [(8,(.v (.bool false)))] ⟨RG.st,RG.qF rfl 103 20 v (.tuple #[(pv (0:Fin P) (0:Fin P)),(.bool false)]) rfl (fun a w=>by kernel_rfl) RG.sx hrd,RG.st,RG.st,RG.st,RG.mk 1 47,RG.pt i109,RG.st,trivial⟩ ?_;intro j23 a23 w23 M23;repeat refine wp_seq ?_
   refine M23.u [.x 24 [] (.bool false),.x 25 [(24,0)] (.bool true)] [(25,(.v (.bool true)))] ⟨RG.st,RG.st,trivial⟩ ?_;intro a24 w24 M24;repeat refine wp_seq ?_
   refine wp_cond_true M24.ev ?_;repeat refine wp_seq ?_
   refine M24.u [.x 2 [] (.slice none 0 0),.x 3 [] (.int .i64 4)] [(2,(.v (.slice none 0 0))),(3,(.v (.int .i64 4)))] ⟨RG.st,RG.st,trivial⟩ ?_;intro a25 w25 M25;refine wp_ret ?_;refine bodyPost_ret (v:=.tuple #[.slice none 0 0,.int .i64 4]) (RG.cP 2 3 rfl _ _ (M25.at (s:=(.v (.slice none 0 0)))) (M25.at (s:=(.v (.int .i64 4))))) M25.sl.defers ?_;exact⟨_,rfl,M25.st.bel.below,Qc ⟨⟨i,hi,hrdv⟩,rfl⟩⟩
 ·have hiN:i=n:=by omega
  have M30:RG.M w w.heap.size [] 32 [C] [kt] [(4,(.s 0 n n)),(12,(.v (.slice q n cap))),(13,(.v (.int .i64 n))),(14,(.v (.int .i64 i)))] a _:=⟨hSp,sl,⟨p4,p12,p13,p14,trivial⟩⟩
  repeat refine wp_seq ?_
  refine M30.u [.x 15 [] (.bool false)] [(4,(.s 0 n n)),(15,(.v (.bool false)))] ⟨RG.aL rfl .lss 3 3 14 13 (.int .i64 i) (.int .i64 n) (.bool false) rfl rfl RG.sx RG.sx (fun w=>by kernel_rfl) (lE hi),trivial⟩ ?_;intro a31 w31 M31;repeat refine wp_seq ?_
  refine wp_cond_false M31.ev ?_;refine wp_exit ?_;dsimp only[Exit.then,S1];rw[if_pos rfl];repeat refine wp_seq ?_
  refine M31.u [.s 31 [] (.s 0 n n),.s 2 [(31,0)] (.s 0 n n),.x 3 [] (.int .i64 0)] [(2,(.s 0 n n)),(3,(.v (.int .i64 0)))] ⟨RG.st,RG.st,RG.st,trivial⟩ ?_;intro a32 w32 M32;refine wp_ret ?_;refine bodyPost_ret (v:=.tuple #[.slice (some ⟨kt,0,none⟩) n n,.int .i64 0]) (RG.cP 2 3 rfl _ _ (M32.at (s:=(.s 0 n n))) (M32.at (s:=(.v (.int .i64 0))))) M32.sl.defers ?_;refine⟨_,rfl,M32.st.bel.below,Qh ⟨kt,?_,?_,rfl,fun j hj=>?_⟩⟩
  ·exact(M32.st.has 0 C rfl).2.2.2.elim id (fun h=>absurd h Qk)
  ·exact(M32.st.has 0 C rfl).2.2.1
  ·obtain⟨pp,hpp⟩:=Qz.1 (hall j (by omega));refine⟨pp,hpp,RG.oZ (M32.st.has 0 C rfl).1 (fun r hr=>?_)⟩;have h5:=hR.row j r (by omega) hr;rw[h5];show(match rd P (L j) with|some p=>_|none=>_)[r]? = _;rw[hpp]
def rA(w:World)(q:Option Addr)(n:Nat)(L:Nat->Bs):Prop:=0<n->∃gg,q=some ⟨gg,0,none⟩/\gg<w.heap.size/\∀j,j<n->∃v,w.cell? ⟨gg,j,none⟩=some v/\Arg w v (L j)
def PO(N:Nat)(w:World)(n:Nat)(L:Nat->Bs)(e:Value)(w':World):Prop:=
 (∃k,w.heap.size<=k/\k<w'.heap.size/\e=.tuple #[.slice (some ⟨k,0,none⟩) n n,.int .i64 0]/\∀j,j<n->∃p,rq N (L j)=some p/\w'.rangeAt k (4*j) (wn p)) \/
 ((∃j,j<n/\rq N (L j)=none)/\e=.tuple #[.slice none 0 0,.int .i64 3])
theorem Oj{N:Nat}(hG:Gap 4624529908474429119 4994812053365940164 1 N)(n cap:Nat)(hn:n<=512)(q:Option Addr)(L:Nat->Bs)(w:World)(hA:rA w q n L):Calls prog 100 #[.slice q n cap] w (Ret fun e w'=>Below w.heap.size w w'/\PO N w n L e w'):=by
 obtain⟨C,hCl,hmk⟩:=Pl n hn;obtain⟨i,-⟩:∃i:Nat,i=0:=⟨_,rfl⟩
 obtain⟨gg,-⟩:∃i:Nat,i=0:=⟨_,rfl⟩
 obtain⟨m,-⟩:∃i:Nat,i=0:=⟨_,rfl⟩
 obtain⟨v,-⟩:∃v:Value,v=.bool true:=⟨_,rfl⟩
 obtain⟨C2,-⟩:∃c:List Value,c=C:=⟨_,rfl⟩
 go_enter Tryz.func100,Tryz.ntmps100;refine RG.EU (v0:=.slice q n cap) (n:=33) (by kernel_rfl) (by kernel_rfl) (by kernel_rfl) ?_;intro a0 sl0 f0;have hS0:=RG.St.begin w;have M0:RG.M w w.heap.size [] 33 [] [] [(0,(.v (.slice q n cap)))] a0 _:=⟨hS0,sl0,⟨f0,trivial⟩⟩
 repeat refine wp_seq ?_
 refine M0.u [.x 2 [] (.slice none 0 0),.x 3 [] (.int .i64 0)] [(0,(.v (.slice q n cap))),(2,(.v (.slice none 0 0))),(3,(.v (.int .i64 0)))] ⟨RG.st,RG.st,trivial⟩ ?_;intro a1 w1 M1;repeat refine wp_seq ?_
 refine M1.t [.x 9 [] (.slice q n cap),.x 10 [(9,0)] (.int .i64 n),⟨some 11,[(10,1)],(.s 0 n n),.make 0⟩,.s 4 [(11,2)] (.s 0 n n)] [(2,C)] [] [C] [(0,(.v (.slice q n cap))),(2,(.v (.slice none 0 0))),(3,(.v (.int .i64 0))),(4,(.s 0 n n))] ⟨RG.st,RG.eK rfl 9 (.v (.slice q n cap)) (.int .i64 n) rfl RG.sx (fun a w=>by kernel_rfl) (fun μ w=>by kernel_rfl),RG.kJ 0 rfl _ rfl 152 45 10 10 n rfl rfl RG.sx RG.sx (hmk),RG.st,trivial⟩ ?_;intro j2 a2 w2 M2;repeat refine wp_seq ?_
 refine M2.u [.x 12 [] (.slice q n cap),.x 13 [(12,0)] (.int .i64 n),.x 14 [] (.int .i64 0)] [(2,(.v (.slice none 0 0))),(3,(.v (.int .i64 0))),(4,(.s 0 n n)),(12,(.v (.slice q n cap))),(13,(.v (.int .i64 n))),(14,(.v (.int .i64 0)))] ⟨RG.st,RG.eK rfl 12 (.v (.slice q n cap)) (.int .i64 n) rfl RG.sx (fun a w=>by kernel_rfl) (fun μ w=>by kernel_rfl),RG.st,trivial⟩ ?_;intro a3 w3 M3;have f2_3:a3.tmps[2]? = some (.slice none 0 0):=M3.at (s:=(.v (.slice none 0 0)));have f3_3:a3.tmps[3]? = some (.int .i64 0):=M3.at (s:=(.v (.int .i64 0)));have f4_3:a3.tmps[4]? = some (.slice (some ⟨j2,0,none⟩) n n):=M3.at (s:=(.s 0 n n));have f12_3:a3.tmps[12]? = some (.slice q n cap):=M3.at (s:=(.v (.slice q n cap)));have f13_3:a3.tmps[13]? = some (.int .i64 n):=M3.at (s:=(.v (.int .i64 n)));have f14_3:a3.tmps[14]? = some (.int .i64 0):=M3.at (s:=(.v (.int .i64 0)));repeat refine wp_seq ?_
 refine wp_block ?_;refine wp_loop_ghost (fun m a wr=>∃(i:Nat) (C:List Value),i+m=n/\(∀j,j<i->(rq N (L j)).isSome=true)/\Rows 4 n (fun j=>match rq N (L j) with|some k=>wn k|none=>[]) i C/\RG.Sl a 33/\a.tmps[4]? = some (.slice (some ⟨j2,0,none⟩) n n)/\a.tmps[12]? = some (.slice q n cap)/\a.tmps[13]? = some (.int .i64 n)/\a.tmps[14]? = some (.int .i64 i)/\RG.St w w.heap.size [] [C] [j2] wr) n ⟨0,C,by omega,fun j hj=>by omega,⟨hCl,fun j r hj=>by omega⟩,M3.sl,f4_3,f12_3,f13_3,f14_3,M3.st⟩ ?_;intro m' a wr;rintro⟨i,C,him,hall,hR,sl,p4,p12,p13,p14,hSp⟩;generalize j2=kt at p4 hSp;by_cases hi:i<n
 ·obtain⟨gg,hqe,hgg,hc⟩:=hA (by omega);rw[hqe]at p12;obtain⟨v,hv,harg⟩:=hc i hi;have hcell:w.cell? ⟨gg,0+i,none⟩=some v:=by rw[P0];exact hv
  cases hrdv:rq N (L i) with
  | some pp =>
   obtain⟨m,rfl⟩:∃m,m=pp:=⟨_,rfl⟩
   have hrd:∀w',RG.BelX w.heap.size [] w w'->Calls prog 97 #[gv1,v] w' (Ret fun e w''=>Below w'.heap.size w' w''/\e=.tuple #[nv m,.bool true]):=fun w' hb=>by
    have:=wI hG v (L i) w' (harg.below hb.below);rw[hrdv]at this;exact this
   have hlen:=hR.len;have hoff:0+4*i+(wn m).length<=C.length:=by rw[hlen];show 0+4*i+4<=4*n;omega
   obtain⟨C2,hC2e⟩:∃c,RG.rep C (0+4*i) (wn m)=c:=⟨_,rfl⟩
   have hC2:=hC2e ▸ RG.rep_at hoff;have hcl:C2.length=C.length:=hC2e ▸ RG.cG hoff;have hR2:Rows 4 n (fun j=>match rq N (L j) with|some k=>wn k|none=>[]) (i+1) C2:=by
    have:=hR.next hi (by show WV (match rq N (L i) with|some p=>_|none=>_)=_;rw[hrdv];rfl);rw[<-hC2e];have e:(fun j=>match rq N (L j) with|some k=>wn k|none=>[]) i=(wn m):=by show(match rq N (L i) with|some p=>_|none=>_)=_;rw[hrdv]
    rw[<-e];exact this
   have M10:RG.M w w.heap.size [] 33 [C] [kt] [(4,(.s 0 n n)),(12,(.v (.slice (some ⟨gg,0,none⟩) n cap))),(13,(.v (.int .i64 n))),(14,(.v (.int .i64 i)))] a _:=⟨hSp,sl,⟨p4,p12,p13,p14,trivial⟩⟩
   repeat refine wp_seq ?_
   refine M10.u [.x 15 [] (.bool true)] [(4,(.s 0 n n)),(12,(.v (.slice (some ⟨gg,0,none⟩) n cap))),(13,(.v (.int .i64 n))),(14,(.v (.int .i64 i))),(15,(.v (.bool true)))] ⟨RG.aL rfl .lss 3 3 14 13 (.int .i64 i) (.int .i64 n) (.bool true) rfl rfl RG.sx RG.sx (fun w=>by kernel_rfl) (eR hi),trivial⟩ ?_;intro a11 w11 M11;repeat refine wp_seq ?_
   refine wp_cond_true M11.ev ?_;refine wp_skip ?_;refine wp_seq ?_;refine wp_block ?_;repeat refine wp_seq ?_
   refine M11.u [.x 16 [] (.int .i64 i),.x 17 [] (.pointer (some ⟨gg,(0+i),none⟩)),.x 18 [(17,1)] v,.x 5 [(16,0)] (.int .i64 i),.x 6 [(18,2)] v] [(4,(.s 0 n n)),(5,(.v (.int .i64 i))),(6,(.v v)),(12,(.v (.slice (some ⟨gg,0,none⟩) n cap))),(13,(.v (.int .i64 n))),(14,(.v (.int .i64 i)))] ⟨RG.st,RG.aZ rfl 31 12 14 rfl (.v (.slice (some ⟨gg,0,none⟩) n cap)) (.int .i64 i) RG.sx RG.sx (fun μ w=>JR _ 0 _ _ i hi w),RG.bK rfl gg (0+i) hgg Qk 22 17 rfl v rfl RG.sx hcell u23,RG.st,RG.st,trivial⟩ ?_;intro a12 w12 M12;repeat refine wp_seq ?_
   refine M12.t [.c 20 [] gv1,.x 21 [] v,.c 22 [(20,0),(21,1)] (.tuple #[(nv m),(.bool true)]),.x 19 [(22,2)] (.tuple #[(nv m),(.bool true)]),.x 23 [(19,3)] (nv m),.x 24 [(19,3)] (.bool true),.m 7 [] 1,.u [(7,6),(23,4)] 1,.x 8 [(24,5)] (.bool true)] [(6,(RG.z 4))] [(1,7,(wn m))] [C,(wn m)] [(4,(.s 0 n n)),(5,(.v (.int .i64 i))),(7,(.p 1 0)),(8,(.v (.bool true))),(12,(.v (.slice (some ⟨gg,0,none⟩) n cap))),(13,(.v (.int .i64 n))),(14,(.v (.int .i64 i)))] ⟨RG.cl (eX),RG.st,RG.iQ rfl 97 20 21 gv1 v (.tuple #[(nv m),(.bool true)]) rfl (fun a w=>by kernel_rfl) RG.sx RG.sx hrd,RG.st,RG.st,RG.st,RG.mk 1 45,RG.pt i85,RG.st,trivial⟩ ?_;intro j13 a13 w13 M13;repeat refine wp_seq ?_
   refine M13.u [.x 25 [] (.bool true),.x 26 [(25,0)] (.bool false)] [(4,(.s 0 n n)),(5,(.v (.int .i64 i))),(7,(.p 1 0)),(12,(.v (.slice (some ⟨gg,0,none⟩) n cap))),(13,(.v (.int .i64 n))),(14,(.v (.int .i64 i))),(26,(.v (.bool false)))] ⟨RG.st,RG.st,trivial⟩ ?_;intro a14 w14 M14;repeat refine wp_seq ?_
   refine wp_cond_false M14.ev ?_;refine wp_skip ?_;repeat refine wp_seq ?_
   refine M14.tx [.s 27 [] (.s 0 n n),.x 28 [] (.int .i64 i),.x 29 [] (nv m),.s 30 [(27,0),(28,1)] (.p 0 (0+4*i)),.u [(30,3),(29,2)] 0] [] [(0,4,C2)] [C2,(wn m)] [(4,(.s 0 n n)),(12,(.v (.slice (some ⟨gg,0,none⟩) n cap))),(13,(.v (.int .i64 n))),(14,(.v (.int .i64 i)))] (by kernel_rfl) (congrArg (fun n=>[n]) hcl) ⟨RG.st,RG.st,RG.ld u85 i85,RG.aZ rfl 152 27 28 rfl (.s 0 n n) (.int .i64 i) RG.sx RG.sx (fun μ w=>Od _ 0 _ _ i hi w),RG.dS 0 (0+4*i) rfl _ rfl 45 (.tmp 30) (.tmp 29) (wn m) rfl rfl RG.sx RG.sx hoff hC2 i85 rfl,trivial⟩ ?_;intro a15 w15 M15;repeat refine wp_seq ?_
   refine M15.u [.x 31 [] (.int .i64 ((i+1:Nat):Int)),.x 14 [(31,0)] (.int .i64 ((i+1:Nat):Int))] [(4,(.s 0 n n)),(12,(.v (.slice (some ⟨gg,0,none⟩) n cap))),(13,(.v (.int .i64 n))),(14,(.v (.int .i64 ((i+1:Nat):Int))))] ⟨RG.aK rfl .add 3 3 14 (.int .i64 i) (.int .i64 1) (.int .i64 ((i+1:Nat):Int)) rfl rfl RG.sx (fun w=>by kernel_rfl) (qN i 1 (by omega) (by omega)),RG.st,trivial⟩ ?_;intro a16 w16 M16;have f4_16:a16.tmps[4]? = some (.slice (some ⟨kt,0,none⟩) n n):=M16.at (s:=(.s 0 n n));have f12_16:a16.tmps[12]? = some (.slice (some ⟨gg,0,none⟩) n cap):=M16.at (s:=(.v (.slice (some ⟨gg,0,none⟩) n cap)));have f13_16:a16.tmps[13]? = some (.int .i64 n):=M16.at (s:=(.v (.int .i64 n)));have f14_16:a16.tmps[14]? = some (.int .i64 ((i+1:Nat):Int)):=M16.at (s:=(.v (.int .i64 ((i+1:Nat):Int))));show ∃n',_;exact⟨m'-1,by omega,i+1,C2,by omega,fun j hj=>(by
    by_cases hji:j=i
    ·rw[hji,hrdv];rfl
    ·exact hall j (by omega)),hR2,M16.sl,f4_16,(by rw[hqe];exact f12_16),f13_16,f14_16,RG.St.init (cs:=[C2]) (ks:=[kt]) M16.st⟩
  | none =>
   have hrd:∀w',RG.BelX w.heap.size [] w w'->Calls prog 97 #[gv1,v] w' (Ret fun e w''=>Below w'.heap.size w' w''/\e=.tuple #[nv 0,.bool false]):=fun w' hb=>by
    have:=wI hG v (L i) w' (harg.below hb.below);rw[hrdv]at this;exact this
   have M20:RG.M w w.heap.size [] 33 [C] [kt] [(4,(.s 0 n n)),(12,(.v (.slice (some ⟨gg,0,none⟩) n cap))),(13,(.v (.int .i64 n))),(14,(.v (.int .i64 i)))] a _:=⟨hSp,sl,⟨p4,p12,p13,p14,trivial⟩⟩
   repeat refine wp_seq ?_
   refine M20.u [.x 15 [] (.bool true)] [(12,(.v (.slice (some ⟨gg,0,none⟩) n cap))),(14,(.v (.int .i64 i))),(15,(.v (.bool true)))] ⟨RG.aL rfl .lss 3 3 14 13 (.int .i64 i) (.int .i64 n) (.bool true) rfl rfl RG.sx RG.sx (fun w=>by kernel_rfl) (eR hi),trivial⟩ ?_;intro a21 w21 M21;repeat refine wp_seq ?_
   refine wp_cond_true M21.ev ?_;refine wp_skip ?_;refine wp_seq ?_;refine wp_block ?_;repeat refine wp_seq ?_
   refine M21.u [.x 16 [] (.int .i64 i),.x 17 [] (.pointer (some ⟨gg,(0+i),none⟩)),.x 18 [(17,1)] v,.x 5 [(16,0)] (.int .i64 i),.x 6 [(18,2)] v] [(6,(.v v))] ⟨RG.st,RG.aZ rfl 31 12 14 rfl (.v (.slice (some ⟨gg,0,none⟩) n cap)) (.int .i64 i) RG.sx RG.sx (fun μ w=>JR _ 0 _ _ i hi w),RG.bK rfl gg (0+i) hgg Qk 22 17 rfl v rfl RG.sx hcell u23,RG.st,RG.st,trivial⟩ ?_;intro a22 w22 M22;repeat refine wp_seq ?_
   refine M22.t [.c 20 [] gv1,.x 21 [] v,.c 22 [(20,0),(21,1)] (.tuple #[(nv 0),(.bool false)]),.x 19 [(22,2)] (.tuple #[(nv 0),(.bool false)]),.x 23 [(19,3)] (nv 0),.x 24 [(19,3)] (.bool false),.m 7 [] 1,.u [(7,6),(23,4)] 1,.x 8 [(24,5)] (.bool false)] [(6,(RG.z 4))] [(1,7,(wn 0))] [C,(wn 0)] [(8,(.v (.bool false)))] ⟨RG.cl (eX),RG.st,RG.iQ rfl 97 20 21 gv1 v (.tuple #[(nv 0),(.bool false)]) rfl (fun a w=>by kernel_rfl) RG.sx RG.sx hrd,RG.st,RG.st,RG.st,RG.mk 1 45,RG.pt i85,RG.st,trivial⟩ ?_;intro j23 a23 w23 M23;repeat refine wp_seq ?_
   refine M23.u [.x 25 [] (.bool false),.x 26 [(25,0)] (.bool true)] [(26,(.v (.bool true)))] ⟨RG.st,RG.st,trivial⟩ ?_;intro a24 w24 M24;repeat refine wp_seq ?_
   refine wp_cond_true M24.ev ?_;repeat refine wp_seq ?_
   refine M24.u [.x 2 [] (.slice none 0 0),.x 3 [] (.int .i64 3)] [(2,(.v (.slice none 0 0))),(3,(.v (.int .i64 3)))] ⟨RG.st,RG.st,trivial⟩ ?_;intro a25 w25 M25;refine wp_ret ?_;refine bodyPost_ret (v:=.tuple #[.slice none 0 0,.int .i64 3]) (RG.cP 2 3 rfl _ _ (M25.at (s:=(.v (.slice none 0 0)))) (M25.at (s:=(.v (.int .i64 3))))) M25.sl.defers ?_;exact⟨_,rfl,M25.st.bel.below,Qc ⟨⟨i,hi,hrdv⟩,rfl⟩⟩
 ·have hiN:i=n:=by omega
  have M30:RG.M w w.heap.size [] 33 [C] [kt] [(4,(.s 0 n n)),(12,(.v (.slice q n cap))),(13,(.v (.int .i64 n))),(14,(.v (.int .i64 i)))] a _:=⟨hSp,sl,⟨p4,p12,p13,p14,trivial⟩⟩
  repeat refine wp_seq ?_
  refine M30.u [.x 15 [] (.bool false)] [(4,(.s 0 n n)),(15,(.v (.bool false)))] ⟨RG.aL rfl .lss 3 3 14 13 (.int .i64 i) (.int .i64 n) (.bool false) rfl rfl RG.sx RG.sx (fun w=>by kernel_rfl) (lE hi),trivial⟩ ?_;intro a31 w31 M31;repeat refine wp_seq ?_
  refine wp_cond_false M31.ev ?_;refine wp_exit ?_;dsimp only[Exit.then,S1];rw[if_pos rfl];repeat refine wp_seq ?_
  refine M31.u [.s 32 [] (.s 0 n n),.s 2 [(32,0)] (.s 0 n n),.x 3 [] (.int .i64 0)] [(2,(.s 0 n n)),(3,(.v (.int .i64 0)))] ⟨RG.st,RG.st,RG.st,trivial⟩ ?_;intro a32 w32 M32;refine wp_ret ?_;refine bodyPost_ret (v:=.tuple #[.slice (some ⟨kt,0,none⟩) n n,.int .i64 0]) (RG.cP 2 3 rfl _ _ (M32.at (s:=(.s 0 n n))) (M32.at (s:=(.v (.int .i64 0))))) M32.sl.defers ?_;refine⟨_,rfl,M32.st.bel.below,Qh ⟨kt,?_,?_,rfl,fun j hj=>?_⟩⟩
  ·exact(M32.st.has 0 C rfl).2.2.2.elim id (fun h=>absurd h Qk)
  ·exact(M32.st.has 0 C rfl).2.2.1
  ·obtain⟨pp,hpp⟩:=Qz.1 (hall j (by omega));refine⟨pp,hpp,RG.oZ (M32.st.has 0 C rfl).1 (fun r hr=>?_)⟩;have h5:=hR.row j r (by omega) hr;rw[h5];show(match rq N (L j) with|some p=>_|none=>_)[r]? = _;rw[hpp]
end
section
open Go.RowKit Go.Sort Go.Deep
variable {P:Nat}[NeZero P]{N:Nat}
omit [NeZero P] in
theorem EQ(x y:Fin P):∃a b c d p q r s:Nat,pv x y=.agg #[.int .u64 a,.int .u64 b,.int .u64 c,.int .u64 d,.int .u64 p,.int .u64 q,.int .u64 r,.int .u64 s]/\ws x++ws y=[.int .u64 a,.int .u64 b,.int .u64 c,.int .u64 d,.int .u64 p,.int .u64 q,.int .u64 r,.int .u64 s]:=
 ⟨_,_,_,_,_,_,_,_,rfl,rfl⟩
def JY(c:Int)(e:Value):Prop:=e=.tuple #[.slice none 0 0,.int .i64 c]
def ME(w:World)(T:Bs)(e:Value)(w':World):Prop:=∃g cap,e=.tuple #[.slice (some ⟨g,0,none⟩) 33 cap,.int .i64 0]/\33<=cap/\w.heap.size<=g/\g<w'.heap.size/\Holds encB w' g 0 T
theorem zR(C:Fld P)(v:Value)(bs:Bs)(w:World)(hv:Arg33 w v bs):Calls prog 67 #[v] w (Ret fun e w'=>Below w.heap.size w w'/\e=.bool (rd P bs).isSome):=by
 have hc:∃(a1 b1 c1 d1 p1 q1 r1 s1:Nat),Calls prog 103 #[v] w (Ret fun e w'=>Below w.heap.size w w'/\e=.tuple #[.agg #[.int .u64 a1,.int .u64 b1,.int .u64 c1,.int .u64 d1,.int .u64 p1,.int .u64 q1,.int .u64 r1,.int .u64 s1],.bool (rd P bs).isSome]):=by
  have h:=kV C v bs w hv;cases hrd:rd P bs with
  | none =>
   obtain⟨a1,b1,c1,d1,p1,q1,r1,s1,e1,-⟩:=EQ (0:Fin P) 0;refine⟨a1,b1,c1,d1,p1,q1,r1,s1,?_⟩;rw[hrd]at h;rw[<-e1];exact h
  | some p =>
   obtain⟨a1,b1,c1,d1,p1,q1,r1,s1,e1,-⟩:=EQ p.1 p.2;refine⟨a1,b1,c1,d1,p1,q1,r1,s1,?_⟩;rw[hrd]at h;rw[<-e1];exact h
 obtain⟨a1,b1,c1,d1,p1,q1,r1,s1,hc⟩:=hc;generalize (rd P bs).isSome=bb at hc⊢;obtain⟨q,n,cap,rfl,-⟩:=hv;go_enter Tryz.func67,Tryz.ntmps67;go_wp2_with fail
 refine hc.mono ?_;rintro e w1 ⟨v,rfl,hb1,rfl⟩;have HB:Hid (Below w.heap.size w w1):=hb1;clear hb1 hc;go_wp2;go_ret;exact⟨_,rfl,HB.out.alloc HB.out.size _,rfl⟩
def ptP(s:T3 P):Fin P × Fin P:=(s.1*(EC.inv s.2.2*EC.inv s.2.2),s.2.1*(EC.inv s.2.2*EC.inv s.2.2)*EC.inv s.2.2)
theorem cell_below{w w1:World}{k j:Nat}{v:Value}(h:w.cell? ⟨k,j,none⟩=some v)(hb:Below w.heap.size w w1)(hk:k<w.heap.size):w1.cell? ⟨k,j,none⟩=some v:=by
 have h1:w.rangeAt k j [v]:=fun i u hu=>by
  cases i with
  | zero =>
   obtain rfl:v=u:=Qn.inj hu;exact h
  | succ i=>exact absurd hu (by simp)
 exact RG.range_below h1 hb hk 0 v rfl
theorem ArgsPts.below{w w1:World}{q:Option Addr}{n:Nat}{L:Nat->Bs}(h:ArgsPts w q n L)(hb:Below w.heap.size w w1):ArgsPts w1 q n L:=fun hn=>by
 obtain⟨gg,hq,hlt,hc⟩:=h hn;refine⟨gg,hq,PY hlt hb.size,fun j hj=>?_⟩;obtain⟨v,hv,ha⟩:=hc j hj;exact⟨v,cell_below hv hb hlt,ha.below hb⟩
def SumR(P:Nat)[NeZero P](N:Nat)(w:World)(n a:Nat)(L M:Nat->Bs)(e:Value)(w':World):Prop:=
 (n≠a/\JY 2 e)\/(n=a/\512<n/\JY 1 e)\/(n=a/\n<=512/\(((∃j,j<n/\rq N (L j)=none)/\JY 3 e) \/
  ∃ns:Nat->Nat,(∀j,j<n->rq N (L j)=some (ns j))/\(((∃j,j<n/\rd P (M j)=none)/\JY 4 e) \/
   ∃xs ys:Nat->Fin P,(∀j,j<n->rd P (M j)=some (xs j,ys j))/\ME w (Aq (ptP (jD ns xs ys n 257)).1 (ptP (jD ns xs ys n 257)).2) e w')))
theorem tA{A:Type}[Inhabited A]{n:Nat}{p:Nat->A->Prop}(h:∀j,j<n->∃a,p j a):∃f:Nat->A,∀j,j<n->p j (f j):=
 ⟨fun j=>if hj:j<n then(h j hj).choose else default,fun j hj=>by
  show p j (if hj:j<n then(h j hj).choose else default);rw[dif_pos hj];exact(h j hj).choose_spec⟩
theorem Fl{N:Nat}(hN:N<=top){bs:Bs}{m:Nat}(h:rq N bs=some m):m<top:=by
 unfold rq at h;split at h
 ·rename_i h1
  obtain rfl:beV bs.toList=m:=Qn.inj h;exact PY h1.2 hN
 ·exact absurd h (by simp)
theorem L6{N:Nat}(C:Fld P)(hG:Gap 4624529908474429119 4994812053365940164 1 N)(hN:N<=top)(q q':Option Addr)(n cap a cap':Nat)(L M:Nat->Bs)(w:World)(hL:rA w q n L)(hM:ArgsPts w q' a M):
 Calls prog 66 #[.slice q n cap,.slice q' a cap'] w (Ret fun e w'=>Below w.heap.size w w'/\SumR P N w n a L M e w'):=by
 have HL:Hid (rA w q n L):=hL;have HM:Hid (ArgsPts w q' a M):=hM;clear hL hM;by_cases hna:n=a
 ·subst hna;by_cases h512:512<n
  ·go_enter Tryz.func66,Tryz.ntmps66;go_wp2
   go_ret2
   exact⟨_,rfl,Qd _ _,Qc (Qh ⟨rfl,h512,rfl⟩)⟩
  ·have H5:n<=512:=by omega
   go_enter Tryz.func66,Tryz.ntmps66;go_wp2_with fail
   refine(Oj hG n cap H5 q L w HL.out).mono ?_;rintro e w1 ⟨v,rfl,hb1,⟨k,hk1,hk2,rfl,hrow⟩|⟨hno,rfl⟩⟩
   ·obtain⟨ns,hns⟩:=tA hrow;have HB:Hid (Below w.heap.size w w1):=hb1;have HS:Hid (k<w1.heap.size/\∀j,j<n->w1.rangeAt k (4*j) (wn (ns j))):=⟨hk2,fun j hj=>(hns j hj).2⟩
    have HN:Hid (∀j,j<n->rq N (L j)=some (ns j)):=fun j hj=>(hns j hj).1
    clear hrow hns hk1 hk2 hb1;go_wp2_with fail
    refine(Ol C n cap' H5 q' M w1 (HM.out.below HB.out)).mono ?_;rintro e w2 ⟨v,rfl,hb2,⟨k',hk1,hk2,rfl,hrow⟩|⟨hno,rfl⟩⟩
    ·obtain⟨ps,hps⟩:=tA hrow;have HB2:Hid (Below w.heap.size w w2):=HB.out.trans (hb2.mono HB.out.size);have HS2:Hid (k<w2.heap.size/\∀j,j<n->w2.rangeAt k (4*j) (wn (ns j))):=⟨PY HS.out.1 hb2.size,fun j hj=>RG.range_below (HS.out.2 j hj) hb2 HS.out.1⟩
     have HP:Hid (k'<w2.heap.size/\∀j,j<n->w2.rangeAt k' (8*j) (ws (ps j).1++ws (ps j).2)):=⟨hk2,fun j hj=>(hps j hj).2⟩
     have HM2:Hid (∀j,j<n->rd P (M j)=some ((ps j).1,(ps j).2)):=fun j hj=>(hps j hj).1
     clear hrow hps hk1 hk2 hb2;have hBt:∀w,Calls prog 15 #[pv (ptP (jD ns (fun j=>(ps j).1) (fun j=>(ps j).2) n 257)).1 (ptP (jD ns (fun j=>(ps j).1) (fun j=>(ps j).2) n 257)).2] w (Ret fun e w'=>Below w.heap.size w w'/\nA w (Aq (ptP (jD ns (fun j=>(ps j).1) (fun j=>(ps j).2) n 257)).1 (ptP (jD ns (fun j=>(ps j).1) (fun j=>(ps j).2) n 257)).2) e w'):=Dt C _ _;have hS:Calls prog 102 #[.slice (some ⟨k,0,none⟩) n n,.slice (some ⟨k',0,none⟩) n n] w2 (Ret fun e w'=>Below w2.heap.size w2 w'/\e=pv (ptP (jD ns (fun j=>(ps j).1) (fun j=>(ps j).2) n 257)).1 (ptP (jD ns (fun j=>(ps j).1) (fun j=>(ps j).2) n 257)).2):=by
      refine(KR C n H5 ns (fun j=>(ps j).1) (fun j=>(ps j).2) (fun i hi=>Fl hN (HN.out i hi)) k k' w2 HS2.out.1 HP.out.1 HS2.out.2 HP.out.2).mono ?_;rintro e w' ⟨v,rfl,hb,s,rfl,rfl⟩;exact⟨_,rfl,hb,rfl⟩
     generalize hz:ptP (jD ns (fun j=>(ps j).1) (fun j=>(ps j).2) n 257)=z at hS hBt;have HZ:Hid (ptP (jD ns (fun j=>(ps j).1) (fun j=>(ps j).2) n 257)=z):=hz;clear hz;generalize pv z.1 z.2=v4 at hS hBt;go_wp2_with fail
     refine hS.mono ?_;rintro e w3 ⟨v,rfl,hb3,rfl⟩;have HB3:Hid (Below w.heap.size w w3):=HB2.out.trans (hb3.mono HB2.out.size);clear hb3;go_wp2_with fail
     refine(hBt _).mono ?_;rintro e w4 ⟨v,rfl,hb4,g,cap3,rfl,hc3,hg3,hlt3,hH3⟩;have HB4:Hid (Below w.heap.size w w4):=HB3.out.trans (hb4.mono HB3.out.size);have HO:Hid (ME w (Aq z.1 z.2) (.tuple #[.slice (some ⟨g,0,none⟩) 33 cap3,.int .i64 0]) w4):=⟨g,cap3,rfl,hc3,Qj HB3.out.size hg3,hlt3,hH3⟩
     clear hb4 hH3;go_wp2
     go_ret2
     refine⟨_,rfl,HB4.out,Qc (Qc ⟨rfl,H5,Qc ⟨ns,HN.out,Qc ⟨_,_,HM2.out,?_⟩⟩⟩)⟩;rw[HZ.out];exact HO.out
    ·have HB2:Hid (Below w.heap.size w w2):=HB.out.trans (hb2.mono HB.out.size);have HO:Hid (∃j,j<n/\rd P (M j)=none):=hno;clear hb2 hno;go_wp2
     go_ret2
     exact⟨_,rfl,HB2.out,Qc (Qc ⟨rfl,H5,Qc ⟨ns,HN.out,Qh ⟨HO.out,rfl⟩⟩⟩)⟩
   ·have HB:Hid (Below w.heap.size w w1):=hb1;have HO:Hid (∃j,j<n/\rq N (L j)=none):=hno;clear hb1 hno;go_wp2
    go_ret2
    exact⟨_,rfl,HB.out,Qc (Qc ⟨rfl,H5,Qh ⟨HO.out,rfl⟩⟩)⟩
 ·go_enter Tryz.func66,Tryz.ntmps66;go_wp2
  go_ret2
  exact⟨_,rfl,Qd _ _,Qh ⟨hna,rfl⟩⟩
def mM:Bs:=P3 33 0
theorem KW(r d:Nat):d*d%(r+d)=r*r%(r+d):=by
 have h:d*d+(r+d)*r=r*r+(r+d)*d:=by
  rw[SD,SD,Qy d r];omega
 have h1:=congrArg (· % (r+d)) h;simp only[Nat.add_mul_mod_self_left]at h1;exact h1
theorem CC{m y:Fin P}(h:rt m=some y):y*y=m:=by
 have h0:=Fh h;unfold rt at h;rw[if_pos h0]at h;obtain rfl:=Qn.inj h;have hP:=UO P;have hr:m.val^(P/4+1)%P<P:=Rz _ hP;generalize m.val^(P/4+1)%P=r at h0 hr;apply TW;rw[SS];show(even P r%P)*(even P r%P)%P=m.val;rw[Qe (Df hP hr),<-h0];unfold even;split
 ·have h2:=KW r (P-r);rw[show r+(P-r)=P by omega]at h2;exact h2
 ·rfl
theorem jR{bs:Bs}(hs:bs.size=33):kL bs↔bs=mM:=by
 constructor
 ·intro h;apply UN
  ·rw[hs];rfl
  ·intro i h1 h2;have:=h i (RB.2 (by omega));rw[getElem!_pos bs i h1]at this;have h3:bs[i].toNat=0:=by
    have h4:ub bs[i]=(bs[i].toNat:Int):=rfl;rw[h4]at this;omega
   have h5:(mM)[i]=0:=by
    have h6:(P3 33 (0:UInt8))[i]'h2=0:=QY _;exact h6
   rw[h5];exact UInt8.toNat_inj.1 h3
 ·rintro rfl i hi;have hi:=RB.1 hi;unfold mM;rw[getElem!_pos _ i (by rw[P8];exact hi),QY];rfl
theorem zA{x y:Fin P}(h:y*y=x*x*x+7):EC.On (.some (x,y):EC.Pt P):=by
 show y^2=x^3+7
 grobner
theorem Bu{x y:Fin P}(h:y*y=x*x*x+7):EC.On (.some (x,0-y):EC.Pt P):=by
 show(0-y)^2=x^3+7
 grobner
def wr:EC.Pt P->Bs
 | none=>mM
 | some (x,y)=>#[mark y.val]++bx x.val
theorem Du(C:Fld P){x y:Fin P}{p:EC.Pt P}(h:EC.Pair x y p)(ho:EC.On p):Aq x y=wr p:=by
 unfold Aq;match p,h,ho with
 | none,h,_=>rw[if_pos (show x=0/\y=0 from h)];rfl
 | some (a,b),h,ho =>
  obtain⟨rfl,rfl⟩:=h;rw[if_neg (fun e=>C.cur.y_ne ho e.2)];rfl
def pt(p:Fin P × Fin P):EC.Pt P:=if p.1=0/\p.2=0 then none else some p
theorem I5(C:Fld P){x y:Fin P}{q:EC.Pt P}(h:EC.Pair x y q)(ho:EC.On q):q=pt (x,y):=by
 unfold pt;match q,h,ho with
 | none,h,_=>rw[if_pos (show x=0/\y=0 from h)]
 | some (a,b),h,ho =>
  obtain⟨rfl,rfl⟩:=h;rw[if_neg (fun e=>C.cur.y_ne ho e.2)]
theorem CL(C:Fld P){bs:Bs}{p:Fin P × Fin P}(h:rd P bs=some p):EC.Pair p.1 p.2 (pt p)/\EC.On (pt p):=by
 have key:∃q:EC.Pt P,EC.Pair p.1 p.2 q/\EC.On q:=by
  unfold rd at h;split at h
  ·split at h
   ·obtain rfl:=Qn.inj h;exact⟨none,⟨rfl,rfl⟩,EC.fB⟩
   ·split at h
    ·split at h
     ·obtain⟨y,hr,rfl⟩:=PZ.1 h;have hsq:=CC hr;refine⟨some (rdx P bs,if ub bs[0]! = 3 then 0-y else y),⟨rfl,rfl⟩,?_⟩;split
      ·exact Bu hsq
      ·exact zA hsq
     ·cases h
    ·cases h
  ·cases h
 obtain⟨q,h1,h2⟩:=key;have:=I5 C h1 h2;rw[show pt p=q from this.symm];exact⟨h1,h2⟩
omit [NeZero P] in
theorem aN(p:EC.Pt P):(wr p).size=33:=by
 match p with
 | none=>rfl
 | some (x,y) =>
  show(#[mark y.val]++bx x.val).size=33;rw[Qg,aY];rfl
end
section
variable {P:Nat}[NeZero P]{N:Nat}
theorem Fu{a P:Nat}(h:NT.IsP P)(h4:P%4=3):(a*a%P)^(P/4+1)%P*((a*a%P)^(P/4+1)%P)%P=a*a%P:=by
 rw[<-RR,<-Nat.pow_add,<-Nat.pow_mod,<-W9,<-Nat.pow_mul,show 2*(P/4+1+(P/4+1))=P+1 by omega,Nat.pow_succ,RR,h.fermat a,<-RR,W9]
theorem IF{a R P:Nat}(h:NT.IsP P)(ha:a<P)(hR:R<P)(he:R*R%P=a*a%P):R=a\/R+a=P:=by
 have key:∀x y:Nat,x<P->y<P->y<=x->x*x%P=y*y%P->x=y\/x+y=P:=by
  intro x y hx hy hxy hxe;have hd:P ∣ x*x-y*y:=by
   refine Nat.dvd_of_mod_eq_zero ?_;exact Nat.sub_mod_eq_zero_of_mod_eq hxe
  have hf:x*x-y*y=(x-y)*(x+y):=by
   rw[Qy (x-y),Nat.mul_self_sub_mul_self_eq]
  rw[hf]at hd;rcases h.euclid hd with h1|h1
  ·left;have:=Nat.eq_zero_of_dvd_of_lt h1 (by omega);omega
  ·obtain⟨k,hk⟩:=h1;have:k=0\/k=1\/2<=k:=by omega
   rcases this with rfl|rfl|h2
   ·left;omega
   ·right;omega
   ·have:=Nat.mul_le_mul_left P h2;omega
 rcases Nat.le_total a R with h1|h1
 ·exact key R a hR ha h1 he
 ·rcases key a R ha hR h1 he.symm with h2|h2
  ·left;exact h2.symm
  ·right;omega
end
section
open Go.RowKit Go.Sort Go.Deep
theorem vR(x:Nat)(hx:x<18446744073709551616):
 w8 (P6 (x/72057594037927936)) (P6 (x/281474976710656)) (P6 (x/1099511627776)) (P6 (x/4294967296)) (P6 (x/16777216)) (P6 (x/65536)) (P6 (x/256)) (P6 x)=x:=by
 unfold w8;simp only[Uo];omega
theorem EG(a b c d:Nat):(be32 a b c d).toList=[P6 (d/72057594037927936),P6 (d/281474976710656),P6 (d/1099511627776),P6 (d/4294967296),P6 (d/16777216),P6 (d/65536),P6 (d/256),P6 d,P6 (c/72057594037927936),P6 (c/281474976710656),P6 (c/1099511627776),P6 (c/4294967296),P6 (c/16777216),P6 (c/65536),P6 (c/256),P6 c,P6 (b/72057594037927936),P6 (b/281474976710656),P6 (b/1099511627776),P6 (b/4294967296),P6 (b/16777216),P6 (b/65536),P6 (b/256),P6 b,P6 (a/72057594037927936),P6 (a/281474976710656),P6 (a/1099511627776),P6 (a/4294967296),P6 (a/16777216),P6 (a/65536),P6 (a/256),P6 a]:=by
 simp only[be32,be8,Tu,UR,List.nil_append]
theorem val_congr{a b c d p q r s:Nat}(h1:a=p)(h2:b=q)(h3:c=r)(h4:d=s):val a b c d=val p q r s:=by subst h1 h2 h3 h4;rfl
theorem GW(a b c d:Nat)(ha:a<18446744073709551616)(hb:b<18446744073709551616)(hc:c<18446744073709551616)(hd:d<18446744073709551616):beV (be32 a b c d).toList=val a b c d:=
 (congrArg beV (EG a b c d)).trans ((GX _ _ _ _ _ _ _ _ _ _ _ _ _ _ _ _ _ _ _ _ _ _ _ _ _ _ _ _ _ _ _ _).trans (val_congr (vR a ha) (vR b hb) (vR c hc) (vR d hd)))
theorem xI{n:Nat}(hn:n<top):beV (bx n).toList=n:=by
 unfold bx;rw[GW _ _ _ _ (by omega) (by omega) (by omega) (by omega)];unfold val;unfold top at hn;omega
variable {P:Nat}[NeZero P]
theorem Fj(C:Fld P){y m:Fin P}(h:y*y=m):rt m=some (if y.val%2=1 then 0-y else y):=by
 have hm:y.val*y.val%P=m.val:=by rw[<-h,SS]
 have h1:=Fu (a:=y.val) C.cur.pr C.p3;rw[hm]at h1;unfold rt;rw[if_pos h1];have hP:=UO P;have hr:m.val^(P/4+1)%P<P:=Rz _ hP;generalize m.val^(P/4+1)%P=r at h1 hr;have hy:=y.isLt;have h3:=C.p3;have hor:=IF C.cur.pr hy hr (h1.trans hm.symm)
 congr 1
 apply TW;show even P r%P=_;unfold even;have h0:(0-y:Fin P).val=(P-y.val)%P:=by rw[<-jU,EC.val_zero,P0]
 by_cases ho:y.val%2=1
 ·rw[if_pos ho,h0];rcases hor with e|e
  ·rw[e,if_pos ho]
  ·rw[if_neg (by omega),show P-y.val=r by omega]
 ·rw[if_neg ho];rcases hor with e|e
  ·rw[e,if_neg ho,Qe hy]
  ·by_cases hz:y.val=0
   ·omega
   ·rw[if_pos (by omega),show P-r=y.val by omega,Qe hy]
theorem Ie(n:Nat):ub (mark n)=if n%2=1 then 3 else 2:=by
 unfold mark;split<;>rfl
theorem Ih{m:UInt8}{b:Bs}(h:b.size=32):eA (#[m]++b)=b:=by
 unfold eA;rw[Array.extract_append];have h1:(#[m]:Bs).extract 1 33=#[]:=by rfl
 rw[h1];simp[h]
theorem LK(m:UInt8)(b:Bs):(#[m]++b)[0]! = m:=by
 rw[getElem!_pos _ 0 (by rw[Qg];simp;omega),Array.getElem_append_left (by simp)];rfl
theorem Nm(C:Fld P){b:Bs}(hs:b.size=33){x y:Fin P}(hm:ub b[0]! = if y.val%2=1 then 3 else 2)(hv:beV (eA b).toList=x.val)(h:EC.On (some (x,y):EC.Pt P)):rd P b=some (x,y):=by
 have hz:¬kL b:=fun hz=>by
  have:=hz 0 (RB.2 (by decide));rw[hm]at this;split at this<;>omega
 have hx:rdx P b=x:=by
  unfold rdx;rw[hv];exact TW (Qe x.isLt)
 have hy:y*y=x*x*x+7:=by
  have:y^2=x^3+7:=h
  grobner
 unfold rd;rw[if_pos hs,if_neg hz,hm,hv,if_pos x.isLt,hx,Fj C hy];by_cases ho:y.val%2=1
 ·rw[if_pos ho,if_pos (Qc rfl),if_pos ho,TY,if_pos rfl];have e:0-(0-y)=y:=by grobner
  rw[e]
 ·rw[if_neg ho,if_pos (Qh rfl),if_neg ho,TY,if_neg (by decide)]
theorem yQ(C:Fld P){X:EC.Pt P}(h:EC.On X):∃p,rd P (wr X)=some p/\pt p=X:=by
 match X,h with
 | none,_ =>
  refine⟨(0,0),?_,by unfold pt;rw[if_pos ⟨rfl,rfl⟩]⟩;have h1:(wr (none:EC.Pt P)).size=33:=aN _;have h2:kL (wr (none:EC.Pt P)):=(jR h1).2 rfl;generalize wr (none:EC.Pt P)=b at h1 h2;unfold rd;rw[if_pos h1,if_pos h2]
 | some (x,y),h =>
  have hs:=aN (P:=P) (some (x,y));have hb0:(wr (some (x,y):EC.Pt P))[0]! = mark y.val:=LK _ _;have ht:eA (wr (some (x,y):EC.Pt P))=bx x.val:=Ih (aY _);refine⟨(x,y),Nm C hs (by rw[hb0,Ie]) (by rw[ht,xI (C.top x)]) h,by unfold pt;rw[if_neg (fun e=>C.cur.y_ne h e.2)]⟩
end
section
open Go.RowKit Go.Sort Go.Deep
variable {P:Nat}[NeZero P]{N:Nat}
def gxl:List Value:=[.int .u64 6481385041966929816,.int .u64 188021827762530521,.int .u64 6170039885052185351,.int .u64 8772561819708210092]
def gyl:List Value:=[.int .u64 11261198710074299576,.int .u64 18237243440184513561,.int .u64 6747795201694173352,.int .u64 5204712524664259685]
def gX(P:Nat)[NeZero P]:Fin P:=Su P 55066263022277343669578718895168534326250603453777594175500187360389116729240
def gY(P:Nat)[NeZero P]:Fin P:=Su P 32670510020758816978083085130507043184471273380659243275938904335757337482424
def gG(P:Nat)[NeZero P]:EC.Pt P:=some (gX P,gY P)
theorem Fld.eq(C:Fld P):P=115792089237316195423570985008687907853269984665640564039457584007908834671663:=by
 have h:=C.gap.hP;have e:val 4294968273 0 0 0=4294968273:=by decide
 rw[e]at h;unfold Go.Proofs.YtbceebahamkmdaaGreat.top at h;omega
theorem BO(C:Fld P):(gX P).val=55066263022277343669578718895168534326250603453777594175500187360389116729240:=by
 have h:=C.eq;exact Qe (by omega)
theorem BN(C:Fld P):(gY P).val=32670510020758816978083085130507043184471273380659243275938904335757337482424:=by
 have h:=C.eq;exact Qe (by omega)
theorem LW(C:Fld P):gxl=ws (gX P):=by
 show _=wn (gX P).val;rw[BO C];kernel_rfl
theorem LV(C:Fld P):gyl=ws (gY P):=by
 show _=wn (gY P).val;rw[BN C];kernel_rfl
theorem qB(C:Fld P):EC.On (gG P):=by
 refine zA (TW ?_);have h7:(7:Fin P).val=7:=Qe C.p7;rw[SS,Fin.val_add,SS,SS,BO C,BN C,h7];have h:=C.eq;rw[h]
theorem Mk:Gives 14 #[] (.agg (gxl++gyl).toArray):=by
 intro w;go_enter Tryz.func14,Tryz.ntmps14;refine RG.M.enter [] 4 (by kernel_rfl) ?_;intro a0 M0;repeat refine wp_seq ?_
 refine M0.t [.m 0 [] 0] [(0,RG.z 8)] [] [RG.z 8] [(0,.p 0 0)] ⟨RG.mk 0 47,trivial⟩ ?_;intro j1 a1 w1 M1;repeat refine wp_seq ?_
 refine M1.t [.x 1 [] (.agg gxl.toArray),.x 2 [] (.agg gyl.toArray),.x 3 [(1,0),(2,1)] (.agg (gxl++gyl).toArray),.u [(3,2)] 0] [] [(0,3,gxl++gyl)] [gxl++gyl] [(0,.p 0 0)] ⟨RG.st,RG.st,RG.st,RG.pt i109,trivial⟩ ?_;intro a2 w2 M2;refine wp_ret ?_;refine bodyPost_ret (v:=.agg (gxl++gyl).toArray) (RG.aE M2.st 0 47 rfl 0 _ rfl (M2.at (s:=.p 0 0)) h9 i109) M2.sl.defers ?_;exact⟨_,rfl,M2.st.bel.below,rfl⟩
theorem Ml(C:Fld P):Gives 14 #[] (pv (gX P) (gY P)):=by
 unfold pv;rw[<-LW C,<-LV C];exact Mk
theorem NW(C:Fld P):Aq (gX P) (gY P)=wr (gG P):=Du C ⟨rfl,rfl⟩ (qB C)
theorem Hu(C:Fld P)(w:World):Calls prog 5 #[] w (Ret fun e w'=>Below w.heap.size w w'/\nA w (wr (gG P)) e w'):=by
 have HC:Hid (Fld P):=C;clear C;go_enter Tryz.func5,Tryz.ntmps5;go_wp2_with fail
 refine(Ml HC.out _).mono ?_;rintro e w1 ⟨v,rfl,hb1,rfl⟩;go_wp2_with fail
 refine(Dt HC.out (gX P) (gY P) _).mono ?_;rintro e w2 ⟨v,rfl,hb2,g,cap,rfl,h1,h2,h3,h4⟩;rw[NW HC.out]at h4;have HB:Hid (Below w.heap.size w w2/\nA w (wr (gG P)) (.slice (some ⟨g,0,none⟩) 33 cap) w2):=⟨hb1.trans (hb2.mono hb1.size),g,cap,rfl,h1,Qj hb1.size h2,h3,h4⟩
 clear hb1 hb2 h1 h2 h3 h4;go_wp2;go_ret;exact⟨_,rfl,HB.out⟩
end
section
open Go.RowKit Go.Sort Go.Deep Go.Shelf
attribute [local go_sem] Oper.semAt_some
section
variable {F:Fence}{n:Nat}{P:Program}{ops:Array Oper}{rest:List Oper}{op:Oper}{a:Act}{w:World}{Q:Exit->Act->World->Prop}
end
def Row(W:World)(k:Nat)(vs:List Value):Prop:=k<W.heap.size/\W.rangeAt k 0 vs/\W.there k 0 vs.length
theorem CH(k:Nat)(vs:List Value):Own (fun(_:Unit) W=>Row W k vs):=fun s A B row hs hg hr=>by
 refine⟨PY hs.1 hg.size,fun j v hj=>?_,fun j hj=>?_⟩
 ·exact cell_kept (hs.2.1 j v hj) hg hr
 ·have h1:=hs.2.1 j vs[j] (List.getElem?_eq_getElem hj);have h2:=cell_kept h1 hg hr;exact⟨by rw[h2];rfl,(frozen_kept h1 hg hr).trans (hs.2.2 j hj).2⟩
theorem Row.alloc{W:World}{k:Nat}{vs:List Value}(h:Row W k vs)(o:Obj):Row (W.alloc o) k vs:=
 CH k vs () W (W.alloc o) none h (World.grownBy_alloc W o none) (fun _ e=>by cases e)
theorem Row.putObj{W:World}{k D:Nat}{vs:List Value}(h:Row W k vs){o:Obj}(hD:W.heap[D]? = some o)(ho:o.isCells=false)(o':Obj):Row (W.putObj D o') k vs:=
 CH k vs () W (W.putObj D o') (some D) h (grownBy_putObj' W D o') (fun r e=>by cases e;exact⟨_,hD,ho⟩)
theorem Row.below{W W':World}{k:Nat}{vs:List Value}(h:Row W k vs)(hb:Below W.heap.size W W'):Row W' k vs:=by
 have e:=hb.block k h.1;refine⟨PY h.1 hb.size,fun j v hj=>?_,fun j hj=>?_⟩
 ·exact(QD e).trans (h.2.1 j v hj)
 ·have h1:=h.2.2 j hj;exact⟨by rw[QD e];exact h1.1,(RL e).trans h1.2⟩
theorem bE{P:Program}{fn:Func}{tmps:Array Value}{W:World}{k:Nat}{vs:List Value}(t:Tmp)(T:TypeId)(hr:fn.results=#[.cell t T])(h:Row W k vs)(ht:tmps[t]? = some (.pointer (some ⟨k,0,none⟩)))
 (hu:(P.underlying T).map (·.isRow)=some true) (hi:(P.info? T).map (·.size)=some vs.length):(results fn tmps).run P W=.ok (.agg vs.toArray) W:=by
 obtain⟨d,hu,hd⟩:=PZ.1 hu;have h1:=run_loadVar_mid (P:=P) W k 0 T vs d h.2.1 hu hd hi;have h2:tmps.getD t undef=.pointer (some ⟨k,0,none⟩):=by rw[Array.getD_eq_getD_getElem?,ht];rfl
 unfold results;rw[hr];simp only[Array.mapM_eq_mapM_toList,List.mapM_cons,List.mapM_nil,h2,asAddr];simp[Sem.run_bind,h1]
theorem Row.put{W:World}{k:Nat}{vs us:List Value}(h:Row W k vs)(hl:us.length=vs.length):Row (W.setCells k 0 us) k us:=
 ⟨by rw[RG.setCells_size];exact h.1,World.rangeAt_setCells_same W k 0 us (by rw[hl];exact h.2.2),by rw[hl];exact Tq h.2.2 _ _ _⟩
theorem Row.other{W:World}{k j:Nat}{vs us:List Value}(h:Row W k vs)(hne:k≠j):Row (W.setCells j 0 us) k vs:=
 ⟨by rw[RG.setCells_size];exact h.1,World.rangeAt_setCells_apart h.2.1 j 0 us (Qh hne),Tq h.2.2 _ _ _⟩
variable {P:Nat}[NeZero P]
end
section
open Go.RowKit Go.Sort Go.Deep
variable {P:Nat}[NeZero P]{N:Nat}
theorem iK{w W:World}{k0 k1 g0 g1 g2:Nat}(h:Kept w k0 [⟨k0,0,g0,g1,g2,0⟩,⟨k1,0,0,0,0,0⟩] W):W.cell? ⟨k0,0,none⟩=some (.int .u64 g0)/\W.cell? ⟨k0,1,none⟩=some (.int .u64 g1)/\W.cell? ⟨k0,2,none⟩=some (.int .u64 g2)/\W.cell? ⟨k0,3,none⟩=some (.int .u64 0)/\Kept w k0 [⟨k0,0,g0,g1,g2,0⟩,⟨k1,0,0,0,0,0⟩] W:=⟨h.head.c0,h.head.c1,h.head.c2,h.head.c3,h⟩
theorem jI{w W:World}{k0 k1 g0 g1 g2:Nat}(h:W.cell? ⟨k0,0,none⟩=some (.int .u64 g0)/\W.cell? ⟨k0,1,none⟩=some (.int .u64 g1)/\W.cell? ⟨k0,2,none⟩=some (.int .u64 g2)/\W.cell? ⟨k0,3,none⟩=some (.int .u64 0)/\Kept w k0 [⟨k0,0,g0,g1,g2,0⟩,⟨k1,0,0,0,0,0⟩] W):Kept w k0 [⟨k0,0,g0,g1,g2,0⟩,⟨k1,0,0,0,0,0⟩] W:=h.2.2.2.2
theorem Ba{w W:World}{k0 k1 g0 g1 g2:Nat}{o:Obj}(h:W.cell? ⟨k0,0,none⟩=some (.int .u64 g0)/\W.cell? ⟨k0,1,none⟩=some (.int .u64 g1)/\W.cell? ⟨k0,2,none⟩=some (.int .u64 g2)/\W.cell? ⟨k0,3,none⟩=some (.int .u64 0)/\Kept w k0 [⟨k0,0,g0,g1,g2,0⟩,⟨k1,0,0,0,0,0⟩] W):(W.alloc o).cell? ⟨k0,0,none⟩=some (.int .u64 g0)/\(W.alloc o).cell? ⟨k0,1,none⟩=some (.int .u64 g1)/\(W.alloc o).cell? ⟨k0,2,none⟩=some (.int .u64 g2)/\(W.alloc o).cell? ⟨k0,3,none⟩=some (.int .u64 0)/\Kept w k0 [⟨k0,0,g0,g1,g2,0⟩,⟨k1,0,0,0,0,0⟩] (W.alloc o):=iK ((jI h).alloc o)
theorem yO{w W:World}{k0 k1 g0 g1 g2:Nat}{o:Obj}(h:W.drew.cell? ⟨k0,0,none⟩=some (.int .u64 g0)/\W.drew.cell? ⟨k0,1,none⟩=some (.int .u64 g1)/\W.drew.cell? ⟨k0,2,none⟩=some (.int .u64 g2)/\W.drew.cell? ⟨k0,3,none⟩=some (.int .u64 0)/\Kept w k0 [⟨k0,0,g0,g1,g2,0⟩,⟨k1,0,0,0,0,0⟩] W.drew):(W.alloc o).drew.cell? ⟨k0,0,none⟩=some (.int .u64 g0)/\(W.alloc o).drew.cell? ⟨k0,1,none⟩=some (.int .u64 g1)/\(W.alloc o).drew.cell? ⟨k0,2,none⟩=some (.int .u64 g2)/\(W.alloc o).drew.cell? ⟨k0,3,none⟩=some (.int .u64 0)/\Kept w k0 [⟨k0,0,g0,g1,g2,0⟩,⟨k1,0,0,0,0,0⟩] (W.alloc o).drew:=iK (((jI h).undrew).alloc o).drew
theorem mZ{w:World}{g o:Nat}{bs:Bs}(p l:Nat)(h:Holds encB w g o bs)(hp:p+l<=bs.size):Holds encB w g (o+p) (bs.extract p (p+l)):=by
 refine Holds.part h (by rw[Rb];omega) (fun j hj=>?_);rw[Rb]at hj;rw[getElem!_pos (bs.extract p (p+l)) j (by rw[Rb];omega),getElem!_pos bs (p+j) (by omega),Tl]
theorem zP{w:World}{g o:Nat}{bs:Bs}(f:Nat)(h:Holds encB w g o bs)(hf:f<=bs.size):Holds encB w g o (bs.extract 0 f):=by
 have:=mZ 0 f h (by omega);rwa[P0,RI]at this
def RedR(w:World)(k0 k1 g0 g1 g2 N:Nat)(s6:Value)(wx:World):Prop:=
 ∃k6 a b c d:Nat,s6=.pointer (some ⟨k6,0,none⟩)/\Kept w k0 [⟨k6,0,a,b,c,d⟩,⟨k0,0,g0,g1,g2,0⟩,⟨k1,0,0,0,0,0⟩] wx/\k6≠k0/\k6≠k1/\k0<=k6 /\
  Hid (Four (.agg #[.int .u64 a,.int .u64 b,.int .u64 c,.int .u64 d]) N)
theorem RedR.made{w w1:World}{k0 k1 g0 g1 g2 N a b c d:Nat}(KP:Kept w k0 [⟨k0,0,g0,g1,g2,0⟩,⟨k1,0,0,0,0,0⟩] w1)(hF:Hid (Four (.agg #[.int .u64 a,.int .u64 b,.int .u64 c,.int .u64 d]) N)):
 RedR w k0 k1 g0 g1 g2 N (.pointer (some ⟨w1.heap.size,0,none⟩)) (w1.alloc (.cells #[.int .u64 a,.int .u64 b,.int .u64 c,.int .u64 d] 143)):=
 ⟨w1.heap.size,a,b,c,d,rfl,(KP.alloc _).cons (At4.made w1 143 a b c d rfl).blk,QW KP.head.lt,QW KP.tail.head.lt,KP.le,hF⟩
theorem RedR.put{w w1:World}{k0 k1 k6 g0 g1 g2 N a b c d x y z u:Nat}(KP:Kept w k0 [⟨k0,0,g0,g1,g2,0⟩,⟨k1,0,0,0,0,0⟩] w1)(T:At4 w1 k6 x y z u)(M7:k0<=k6)(N7:∀x∈([⟨k0,0,g0,g1,g2,0⟩,⟨k1,0,0,0,0,0⟩]:List Blk),x.k<k6)(hF:Hid (Four (.agg #[.int .u64 a,.int .u64 b,.int .u64 c,.int .u64 d]) N)):
 RedR w k0 k1 g0 g1 g2 N (.pointer (some ⟨k6,0,none⟩)) ((((w1.setCell ⟨k6,0,none⟩ (.int .u64 a)).setCell ⟨k6,1,none⟩ (.int .u64 b)).setCell ⟨k6,2,none⟩ (.int .u64 c)).setCell ⟨k6,3,none⟩ (.int .u64 d)):=
 ⟨k6,a,b,c,d,rfl,(KP.set4' M7 (fun x hx=>QW (N7 x hx)) _ _ _ _).cons (T.self4 a b c d).blk,QW (N7 ⟨k0,0,g0,g1,g2,0⟩ (by simp)),QW (N7 ⟨k1,0,0,0,0,0⟩ (by simp)),M7,hF⟩
theorem Fz{P:Nat}(bs:Bs)(p:Nat)(hp:p+32<=bs.size):(beV (bs.extract p (p+32)).toList+top*(beV (bs.extract 0 p).toList%P))%P=beV (bs.extract 0 (p+32)).toList%P:=by
 have e:(bs.extract 0 (p+32)).toList=(bs.extract 0 p).toList++(bs.extract p (p+32)).toList:=by
  rw[<-Tu,Array.extract_append_extract,Wy (by omega),Nat.max_eq_right (by omega)]
 have l32:(bs.extract p (p+32)).toList.length=32:=by rw[P5,Rb];omega
 have ht:256^32=top:=by unfold top;decide
 rw[e,dT,l32,ht,Nat.add_comm,TT,RR,Nat.mod_mod,<-RR,<-TT,Qy]
theorem AA(g0 g1 g2 P g o n cap : Nat)(bs : Bs)(hG : Gap g0 g1 g2 P)(w : World)(hs : bs.size = n)(hc : n <= cap)(hg : g < w.heap.size)(hB : Holds encB w g o bs):
    Calls prog 141 #[.agg #[.int .u64 (g0 : Int), .int .u64 (g1 : Int), .int .u64 (g2 : Int), .int .u64 0], .slice (some ⟨g, o, none⟩) n cap] w (Ret fun e w' => Below w.heap.size w w' /\ Four e (beV bs.toList % P)) := by
  obtain⟨f, hf⟩ : ∃f, f = n % 32 := ⟨_, rfl⟩;have hf32 : f < 32 := by omega
  have hfn : f <= n := by omega
  have e1 : (n : Int) % 32 = (f : Int) := by omega
  have e2 : (f : Int) <= (cap : Int) := by omega
  have e3 : (f : Int) <= (n : Int) := by omega
  have e4 : f <= cap := by omega
  have hsz0 : (bs.extract 0 f).size = f := by rw [Rb]; omega
  have Hf : Hid (f = n % 32) := hf;have HS : Hid ((bs.extract 0 f).size = f) := hsz0;have hbs : f <= bs.size := by omega
  have HSZ : Hid (bs.size = n) := hs;have HG : Hid (Gap g0 g1 g2 P) := hG;clear hf hsz0 hG;go_enter Tryz.func141, Tryz.ntmps141
  go_upto_region 2 with fail
  rw [e1];clear e1;have PR := (At4.made w 145 g0 g1 g2 0 rfl).alloc (.cells #[.int .u64 0, .int .u64 0, .int .u64 0, .int .u64 0] 45);have RE := At4.made (w.alloc (.cells #[.int .u64 (g0 : Int), .int .u64 (g1 : Int), .int .u64 (g2 : Int), .int .u64 0] 145)) 45 0 0 0 0 (P4 _ _);have KP := ((Kept.mk1 (below2 w (.cells #[.int .u64 (g0 : Int), .int .u64 (g1 : Int), .int .u64 (g2 : Int), .int .u64 0] 145) (.cells #[.int .u64 0, .int .u64 0, .int .u64 0, .int .u64 0] 45)) (below2 w (.cells #[.int .u64 (g0 : Int), .int .u64 (g1 : Int), .int .u64 (g2 : Int), .int .u64 0] 145) (.cells #[.int .u64 0, .int .u64 0, .int .u64 0, .int .u64 0] 45)).size).cons RE.blk).cons PR.blk;clear PR RE;generalize World.alloc _ _ = W0 at KP⊢;generalize h1 : w.heap.size + 1 = k1 at KP⊢;have Q1 : Hid (w.heap.size <= k1) := by unfold Hid; omega
  generalize h0 : w.heap.size = k0 at KP Q1 hg⊢;have n01 : k0 ≠ k1 := by omega
  have H0 : Hid (w.heap.size = k0) := h0;have HBS : Hid (Holds encB w g o bs) := hB;clear h0 h1 hB hs
  go_cut [6] (fun s6 wx => RedR w k0 k1 g0 g1 g2 (beV (bs.extract 0 f).toList % P) s6 wx)
  case first =>
    go_region_held3 (fun w' => w'.cell? ⟨k0, 0, none⟩ = some (.int .u64 (g0 : Int)) /\ w'.cell? ⟨k0, 1, none⟩ = some (.int .u64 (g1 : Int)) /\ w'.cell? ⟨k0, 2, none⟩ = some (.int .u64 (g2 : Int)) /\ w'.cell? ⟨k0, 3, none⟩ = some (.int .u64 0) /\ Kept w k0 [⟨k0, 0, g0, g1, g2, 0⟩, ⟨k1, 0, 0, 0, 0, 0⟩] w') (first | (with_reducible exact iK KP) | (with_reducible exact iK KP.drew) | (with_reducible exact yO (by assumption)) | (with_reducible exact Ba (by assumption)) | (with_reducible exact iK (KP.alloc _)) | (with_reducible exact iK (KP.set4' M7 (fun x hx => QW (N7 x hx)) _ _ _ _)) | (with_reducible exact iK (KP.alloc _).drew) | (with_reducible exact iK (KP.set4' M7 (fun x hx => QW (N7 x hx)) _ _ _ _).drew) | fail) (first | (go_at_call 127; refine(iZ (some ⟨g, o, none⟩) g o f cap (bs.extract 0 f) _ (Nat.le_of_lt hf32) e4 HS.out (Qc ⟨rfl, zP f (Holds.below HBS.out (jI (by assumption)).bl hg) hbs⟩)).mono ?_; rintro e w1 ⟨v, rfl, hb1, hF1⟩; obtain⟨a1, b1, c1, d1, rfl, ha1, hb1', hc1, hd1, es1⟩ := id hF1; clear es1; have HF1 : Hid (Four _ _) := hF1; clear hF1; (try(with_reducible have T1 := T.call hb1; clear T; have T := T1; clear T1)); (try(first | (with_reducible have T := (At4.made _ 143 0 0 0 0 rfl).call hb1) | (with_reducible have T := (At4.made _ 143 0 0 0 0 rfl).drew.call hb1)); have N7 := KP.lts; have M7 := KP.le); have KP1 := Kept.call (jI (by assumption)) hb1; clear KP; have KP := KP1; clear KP1 hb1) | (go_at_call 129; refine(gW _ _ HF1.out _).mono ?_; rintro e w1 ⟨v, rfl, hb1, rfl⟩; (try(with_reducible have T1 := T.call hb1; clear T; have T := T1; clear T1)); (try(first | (with_reducible have T := (At4.made _ 143 0 0 0 0 rfl).call hb1) | (with_reducible have T := (At4.made _ 143 0 0 0 0 rfl).drew.call hb1)); have N7 := KP.lts; have M7 := KP.le); have KP1 := Kept.call (jI (by assumption)) hb1; clear KP; have KP := KP1; clear KP1 hb1) | (go_at_call 165; refine(sT g0 g1 g2 _ _ _ _ P HG.out.h0 HG.out.h1 HG.out.h2 HG.out.hor HG.out.hP HG.out.hP2 HF1.out (Four.mk (a := 0) (b := 0) (c := 0) (d := 0) (by decide) (by decide) (by decide) (by decide) rfl) _).mono ?_; rintro e w1 ⟨v, rfl, hb1, hF3⟩; obtain⟨a', b', c', d', rfl, ha', hb', hc', hd', es3⟩ := id hF3; clear es3; have HF3 : Hid (Four _ _) := hF3; clear hF3; (try(with_reducible have T1 := T.call hb1; clear T; have T := T1; clear T1)); (try(first | (with_reducible have T := (At4.made _ 143 0 0 0 0 rfl).call hb1) | (with_reducible have T := (At4.made _ 143 0 0 0 0 rfl).drew.call hb1)); have N7 := KP.lts; have M7 := KP.le); have KP1 := Kept.call (jI (by assumption)) hb1; clear KP; have KP := KP1; clear KP1 hb1; (try(obtain⟨tc0, tc1, tc2, tc3, tf⟩ := id T; have zt := T.lt))))
    all_goals (try go_wp2)
    all_goals (rw [show val 0 0 0 0 = 0 from rfl, TG, RI]at HF3)
    all_goals (go_meet; first | (with_reducible exact RedR.made KP HF3) | (with_reducible exact(RedR.made KP HF3).drew) | (with_reducible exact RedR.put KP T M7 N7 HF3) | (with_reducible exact(RedR.put KP T M7 N7 HF3).drew) | fail)
  case rest =>
    clear KP;obtain⟨k6, a, b, c, d, rfl, KP, n60, n61, M6, HF⟩ := hcut;have f0 : (0 : Int) <= (f : Int) := VX _
    go_upto_region 3 with fail
    go_cut [1] (fun s1 wx => ∃q : Nat, s1 = .slice (some ⟨g, q, none⟩) (n - f) (cap - f) /\ Hid (0 < n - f -> q = o + f) /\ Kept w k0 [⟨k6, 0, a, b, c, d⟩, ⟨k0, 0, g0, g1, g2, 0⟩, ⟨k1, 0, 0, 0, 0, 0⟩] wx)
    case first =>
      by_cases ec : cap = f
      · have en : n = f := by omega
        have HEN : Hid (n = f /\ cap = f) := ⟨en, ec⟩;go_wp2
        go_meet
        refine⟨o, ?_, fun h => ?_, KP⟩
        · rw [HEN.out.1, HEN.out.2]; try simp
        · have := HEN.out.1; omega
      · go_wp2
        go_meet
        exact⟨o + f, rfl, fun _ => rfl, KP⟩
    case rest =>
    clear KP;obtain⟨q0, rfl, HQ0, KP⟩ := hcut;go_wp2_with fail
    go_loopg [1] (n - f) (fun gk s1 wr => ∃(l q lc a b c d : Nat), gk = l /\ l <= n /\ s1 = .slice (some ⟨g, q, none⟩) l lc /\ Hid (l % 32 = 0 /\ (0 < l -> q = o + (n - l)) /\ lc = cap - (n - l)) /\ Kept w k0 [⟨k6, 0, a, b, c, d⟩, ⟨k0, 0, g0, g1, g2, 0⟩, ⟨k1, 0, 0, 0, 0, 0⟩] wr /\
      Hid (Four (.agg #[.int .u64 (a : Int), .int .u64 (b : Int), .int .u64 (c : Int), .int .u64 (d : Int)]) (beV (bs.extract 0 (n - l)).toList % P)))
    case atStart =>
      refine⟨n - f, q0, cap - f, a, b, c, d, rfl, by omega, rfl, ⟨by have := Hf.out; omega, fun h => by have := HQ0.out h; omega, by omega⟩, KP, ?_⟩;rw [show n - (n - f) = f by omega];exact HF
    case round =>
      clear KP HF;obtain⟨l, q, lc, a, b, c, d, hgk, hln, rfl, HQ3, KP, HF⟩ := hrel;clear e2 e3 e4 f0 hbs HS hf32 hfn HQ0;have hlcl : l <= lc := by have := HQ3.out; omega
      by_cases h0 : l = 0
      · subst h0
        obtain⟨xc0, xc1, xc2, xc3, xf⟩ := KP.head.at4;have z7 := KP.head.lt;go_wp2_with fail
        refine(gR _ _ HF.out _).mono ?_;rintro e w3 ⟨v, rfl, hb3, rfl⟩;have KP3 := KP.call hb3;clear hb3 xc0 xc1 xc2 xc3 xf z7 KP;obtain⟨rc0, rc1, rc2, rc3, rf⟩ := KP3.tail.tail.head.at4;have z3 := KP3.tail.tail.head.lt;go_wp2;have RF := KP3.tail.tail.head.at4.self4 a b c d;unfold set4 at RF;refine bodyPost_ret (v := ?v) ?hr rfl ?hR
        case hr => simp [results, Tryz.results141, go_sem, RF.c0, RF.c1, RF.c2, RF.c3]; rfl
        refine⟨_, rfl, ?_, ?_⟩
        · rw [H0.out]
          exact aF KP3.bl Q1.out _ _ _ _
        · have := HF.out
          rw [T8, <-HSZ.out, Array.extract_size]at this;exact this
      · have h32 : 32 <= l := by have := HQ3.out; omega
        have HQ : Hid (o + (n - l) = q) := (HQ3.out.2.1 (by omega)).symm;have h32c : 32 <= lc := by omega
        have i1 : (32 : Int) <= (lc : Int) := by omega
        have i2 : (32 : Int) <= (l : Int) := by omega
        have i3 : (0 : Int) < (l : Int) := by omega
        have HSL : Hid (n - l + 32 <= bs.size) := by unfold Hid; have := HSZ.out; omega
        have HS3 : Hid ((bs.extract (n - l) (n - l + 32)).size = 32) := by unfold Hid; rw [Rb]; have := HSL.out; omega
        obtain⟨tc0, tc1, tc2, tc3, tf⟩ := KP.head.at4;have zt := KP.head.lt;obtain⟨pc0, pc1, pc2, pc3, pf⟩ := KP.tail.head.at4;have hl6 : ∀x ∈ ([⟨k0, 0, g0, g1, g2, 0⟩, ⟨k1, 0, 0, 0, 0, 0⟩] : List Blk), k6 ≠ x.k := by simp only [List.mem_cons, Qk, or_false]; rintro x (rfl | rfl); exact n60; exact n61
        have HFF : Hid (_ = _) := Fz (P := P) bs (n - l) HSL.out;go_wp2_with fail
        go_region_with (first | (go_at_call 127; refine(iZ (some ⟨g, q, none⟩) g q 32 lc (bs.extract (n - l) (n - l + 32)) _ (PX 32) h32c HS3.out (Qc ⟨rfl, HQ.out ▸ mZ (n - l) 32 (by first | (with_reducible exact Holds.below HBS.out KP.bl hg) | (with_reducible exact Holds.below HBS.out KP.drew.bl hg) | fail) HSL.out⟩)).mono ?_; rintro e w1 ⟨v, rfl, hb1, hF1⟩; obtain⟨a1, b1, c1, d1, rfl, ha1, hb1', hc1, hd1, es1⟩ := id hF1; clear es1; have HF1 : Hid (Four _ _) := hF1; clear hF1; (first | (with_reducible have KP1 := KP.call hb1) | (with_reducible have KP1 := KP.drew.call hb1) | fail); clear KP; have KP := KP1; clear KP1 hb1; obtain⟨tc0, tc1, tc2, tc3, tf⟩ := KP.head.at4; have zt := KP.head.lt; obtain⟨pc0, pc1, pc2, pc3, pf⟩ := KP.tail.head.at4) | (go_at_call 129; refine(gW _ _ HF1.out _).mono ?_; rintro e w1 ⟨v, rfl, hb1, rfl⟩; (first | (with_reducible have KP1 := KP.call hb1) | (with_reducible have KP1 := KP.drew.call hb1) | fail); clear KP; have KP := KP1; clear KP1 hb1; obtain⟨tc0, tc1, tc2, tc3, tf⟩ := KP.head.at4; have zt := KP.head.lt; obtain⟨pc0, pc1, pc2, pc3, pf⟩ := KP.tail.head.at4) | (go_at_call 165; refine(sT g0 g1 g2 _ _ _ _ P HG.out.h0 HG.out.h1 HG.out.h2 HG.out.hor HG.out.hP HG.out.hP2 HF1.out HF.out _).mono ?_; rintro e w1 ⟨v, rfl, hb1, hF3⟩; obtain⟨a', b', c', d', rfl, ha', hb', hc', hd', es3⟩ := id hF3; clear es3; have HF3 : Hid (Four _ _) := hF3; clear hF3; (first | (with_reducible have KP1 := KP.call hb1) | (with_reducible have KP1 := KP.drew.call hb1) | fail); clear KP; have KP := KP1; clear KP1 hb1; obtain⟨tc0, tc1, tc2, tc3, tf⟩ := KP.head.at4; have zt := KP.head.lt; obtain⟨pc0, pc1, pc2, pc3, pf⟩ := KP.tail.head.at4))
        all_goals (rw [HFF.out]at HF3)
        all_goals (by_cases i4 : lc = 32)
        all_goals (try go_wp2)
        all_goals
          (go_roundg (l - 32)
           case measure => omega
           case rel =>
            first
              | refine⟨l - 32, q + 32, lc - 32, a', b', c', d', rfl, by omega, rfl, ⟨by have := HQ3.out; omega, fun _ => by have := HQ.out; omega, by have := HQ3.out; omega⟩, ?_, ?_⟩
              | refine⟨l - 32, q, lc - 32, a', b', c', d', rfl, by omega, by first | rfl | (rw [i4]), ⟨by have := HQ3.out; omega, fun h => by omega, by have := HQ3.out; omega⟩, ?_, ?_⟩
              | fail
            · first | (with_reducible exact KP.put M6 hl6 a' b' c' d') | (with_reducible exact(KP.put M6 hl6 a' b' c' d').drew) | fail
            · rw [show n - (l - 32) = n - l + 32 by omega]; exact HF3)
def sPl(N a b:Nat):Nat:=(a+b)%N
theorem Ord.pl(O:Ord N)(a b:Nat):sPl N a b<N:=Rz _ O.pos
theorem Iz(O:Ord N){a b:Nat}(ha:a<N)(hb:b<N):Gives 112 #[gv1,nv a,nv b] (nv (sPl N a b)):=fun w =>
 (Ay _ _ _ N _ _ a b O.gap (O.four ha) (O.four hb) ha hb w).mono (by rintro e w' ⟨v,rfl,hb,hF⟩;exact⟨_,rfl,hb,hF.nv⟩)
theorem Fe(O:Ord N)(a b:Nat)(ha:a<N)(hb:b<N):Gives 75 #[(nv a),(nv b)] (nv (sPl N a b)):=by
 intro w;go_enter Tryz.func75,Tryz.ntmps75;refine RG.M.enter [(0,(.v (nv a))),(1,(.v (nv b)))] 12 (by kernel_rfl) ?_;intro a0 M0;repeat refine wp_seq ?_
 refine M0.t [.m 2 [] 0,.m 3 [] 1,.m 4 [] 2] [(0,(wn a)),(1,(wn b)),(2,(RG.z 4))] [] [(wn a),(wn b),(RG.z 4)] [(2,(.p 0 0)),(3,(.p 1 0)),(4,(.p 2 0))] ⟨RG.mk 0 66,RG.mk 1 66,RG.mk 2 66,trivial⟩ ?_;intro j1 i1 m1 a1 w1 M1;repeat refine wp_seq ?_
 refine M1.d [.c 5 [] gv1,.s 6 [] (.p 0 0),.x 7 [(6,1)] (nv a),.s 8 [] (.p 1 0),.x 9 [(8,3)] (nv b),.c 10 [(5,0),(7,2),(9,4)] (nv (sPl N a b)),.x 11 [(10,5)] (nv (sPl N a b)),.u [(11,6)] 2] [] [(2,7,(wn (sPl N a b)))] [(wn a),(wn b),(wn (sPl N a b))] [(4,(.p 2 0))] ⟨RG.cl (eX),RG.st,RG.ld u38 i38,RG.st,RG.ld u38 i38,RG.cl (Iz O ha hb),RG.st,RG.pt i40,trivial⟩ ?_;intro a2 w2 M2;refine wp_ret ?_;refine bodyPost_ret (v:=(nv (sPl N a b))) (RG.aE M2.st 4 66 rfl 2 _ rfl (M2.at (s:=(.p 2 0))) u40 i40) M2.sl.defers ?_;exact⟨_,rfl,M2.st.bel.below,rfl⟩
def jH(N:Nat)(bs:Bs):Nat:=beV bs.toList%N
def MJ(v:Value)(n:Nat):List RG.It:=[.c 3 [] gv1,.x 4 [] v,.c 5 [(3,0),(4,1)] (nv n),.x 6 [(5,2)] (nv n),.u [(6,3)] 0]
theorem uN(O:Ord N)(g:Nat)(bs:Bs)(hs:bs.size=64)(w:World)(hg:g<w.heap.size)(hB:Holds encB w g 0 bs):Calls prog 105 #[.slice (some ⟨g,0,none⟩) 64 64] w (Ret fun e w'=>Below w.heap.size w w'/\e=nv (jH N bs)):=by
 have hc:∀w',RG.BelX w.heap.size [] w w'->Calls prog 141 #[gv1,.slice (some ⟨g,0,none⟩) 64 64] w' (Ret fun e w''=>Below w'.heap.size w' w''/\e=nv (jH N bs)):=fun w' hb =>
  (AA _ _ _ N g 0 64 64 bs O.gap w' hs (PX _) (PY hg hb.below.size) (Holds.below hB hb.below hg)).mono (by rintro e w'' ⟨v,rfl,hb,hF⟩;exact⟨_,rfl,hb,hF.nv⟩)
 go_enter Tryz.func105,Tryz.ntmps105;refine RG.M.enter [(0,(.v (.slice (some ⟨g,0,none⟩) 64 64)))] 7 (by kernel_rfl) ?_;intro a0 M0;repeat refine wp_seq ?_
 refine M0.t [.m 2 [] 0] [(0,(RG.z 4))] [] [(RG.z 4)] [(0,(.v (.slice (some ⟨g,0,none⟩) 64 64))),(2,(.p 0 0))] ⟨RG.mk 0 66,trivial⟩ ?_;intro j1 a1 w1 M1;repeat refine wp_seq ?_
 refine M1.t (MJ (.slice (some ⟨g,0,none⟩) 64 64) (jH N bs)) [] [(0,4,(wn (jH N bs)))] [(wn (jH N bs))] [(2,(.p 0 0))] ⟨RG.cl (eX),RG.st,RG.clB (fun _ _=>by kernel_rfl) hc,RG.st,RG.pt i40,trivial⟩ ?_;intro a2 w2 M2;refine wp_ret ?_;refine bodyPost_ret (v:=(nv (jH N bs))) (RG.aE M2.st 2 66 rfl 0 _ rfl (M2.at (s:=(.p 0 0))) u40 i40) M2.sl.defers ?_;exact⟨_,rfl,M2.st.bel.below,rfl⟩
theorem wF(O:Ord N)(bs:Bs):jH N bs<N:=Rz _ O.pos
def chL(N:Nat)(label:List UInt8)(ps:List (List UInt8)):Nat:=jH N (SP.gB (SP.gA label ps).toList 64)
theorem aJ(w:World)(c:List Value)(T:TypeId):Row (w.alloc (.cells c.toArray T)) w.heap.size c:=
 have h:=RG.Made.alloc w c T
 ⟨h.lt,h.range,h.there⟩
theorem dO(n:Nat):(wn n).toArray.all (·.oneCell')=true:=by kernel_rfl
theorem E6(O:Ord N)(r2:Nat)(T:Bs)(w:World)(hTs:T.size=32)(hT:Holds encB w r2 0 T):
 Calls prog 68 #[.slice (some ⟨r2,0,none⟩) 32 32] w (Ret fun e w'=>Below w.heap.size w w'/\e=nv (jH N (SP.gB T.toList 64))):=by
 obtain⟨S,hS⟩:∃S,Hid (SP.gB T.toList 64=S):=⟨_,rfl⟩
 have hSs:S.size=64:=by rw[<-hS.out];exact SP.oW _ _
 rw[hS.out];obtain⟨w1,hw1⟩:∃w1,Hid (w.alloc (.cells #[.int .u64 0,.int .u64 0,.int .u64 0,.int .u64 0] 66)=w1):=⟨_,rfl⟩
 have K2:Hid (Row w1 w.heap.size [.int .u64 0,.int .u64 0,.int .u64 0,.int .u64 0]/\Below w.heap.size w w1/\Holds encB w1 r2 0 T):=by rw[<-hw1.out];exact⟨aJ w _ _,aH w _,Holds.below hT (aH w _) (Holds.lt hT (by omega))⟩
 clear hT;go_enter Tryz.func68,Tryz.ntmps68;go_wp2_with fail
 rw[hw1.out];clear hw1;refine(SP.tU (some ⟨r2,0,none⟩) r2 0 32 32 64 T w1 (by decide) hTs (PX _) (by decide) (Qc ⟨rfl,K2.out.2.2⟩)).mono ?_;rintro e w3 ⟨r3,rfl,h1,h2,h3⟩;rw[hS.out]at h3;have K3:Hid (Row w3 w.heap.size [.int .u64 0,.int .u64 0,.int .u64 0,.int .u64 0]/\Below w.heap.size w w3/\Holds encB w3 r3 0 S):=⟨K2.out.1.below h2,K2.out.2.1.trans (h2.mono K2.out.2.1.size),h3⟩
 clear h1 h2 h3 K2;go_wp2_with fail
 refine(uN O r3 S hSs w3 (Holds.lt K3.out.2.2 (by omega)) K3.out.2.2).mono ?_;rintro e w4 ⟨v,rfl,hb4,rfl⟩;have K4:Hid (Row w4 w.heap.size [.int .u64 0,.int .u64 0,.int .u64 0,.int .u64 0]/\Below w.heap.size w w4):=⟨K3.out.1.below hb4,K3.out.2.1.trans (hb4.mono K3.out.2.1.size)⟩
 clear hb4 K3;obtain⟨m,hm⟩:∃m,Hid (jH N S=m):=⟨_,rfl⟩
 rw[hm.out];obtain⟨w5,hw5⟩:∃w5,Hid (w4.setCells w.heap.size 0 (wn m)=w5):=⟨_,rfl⟩
 have K5:Hid (Row w5 w.heap.size (wn m)/\Below w.heap.size w w5):=by rw[<-hw5.out];exact⟨K4.out.1.put rfl,RG.below_setCells (PX _) _ _ _ K4.out.2⟩
 obtain⟨vm,hvm⟩:∃vm,Hid (nv m=vm):=⟨_,rfl⟩
 rw[hvm.out];go_wp2_with (refine wpList_store_mid rfl 66 _ _ rfl w.heap.size 0 (wn m).toArray ?_ ?_ ?_ ?_ ?_ ?_;rfl;exact hvm.out.symm;exact K4.out.1.2.2;exact i40;exact dO m;rw[show(wn m).toArray.toList=wn m from rfl,hw5.out])
 refine bodyPost_ret (bE 2 66 rfl K5.out.1 rfl u40 i40) rfl ?_;exact⟨_,rfl,K5.out.2,by rw[hm.out];rfl⟩
theorem GM(O:Ord N)(label:ByteArray)(pa:Option Addr)(n cap:Nat)(ps:List (List UInt8))(w:World)(hlab:label.size<=1048576)(hn:ps.length=n)(hn2:n<=1048576)(hP:SP.PartsOk w pa ps):
 Calls prog 32 #[.string label,.slice pa n cap] w (Ret fun e w'=>Below w.heap.size w w'/\e=nv (chL N label.data.toList ps)):=by
 obtain⟨T,hT⟩:∃T,Hid (SP.gA label.data.toList ps=T):=⟨_,rfl⟩
 have hTs:T.size=32:=by rw[<-hT.out];exact SP.eN _ _
 have hr:chL N label.data.toList ps=jH N (SP.gB T.toList 64):=by unfold chL;rw[hT.out]
 rw[hr];clear hr;obtain⟨w1,hw1⟩:∃w1,Hid (w.alloc (.cells #[.int .u64 0,.int .u64 0,.int .u64 0,.int .u64 0] 66)=w1):=⟨_,rfl⟩
 have hR1:Hid (Row w1 w.heap.size [.int .u64 0,.int .u64 0,.int .u64 0,.int .u64 0]/\Below w.heap.size w w1):=by rw[<-hw1.out];exact⟨aJ w _ _,aH w _⟩
 have hTag:Hid (Calls prog 69 #[.string label,.slice pa n cap] w1 fun e w'=>∃r,e=.returned (.slice (some ⟨r,0,none⟩) 32 32)/\w1.heap.size<=r/\Below w1.heap.size w1 w'/\Holds encB w' r 0 T):=by
  subst hn;rw[<-hT.out];exact SP.xO label pa cap ps w1 hlab hn2 (hP.below hR1.out.2)
 clear hP hn hn2;go_enter Tryz.func32,Tryz.ntmps32;go_wp2_with fail
 rw[hw1.out];clear hw1;refine hTag.out.mono ?_;rintro e w2 ⟨r2,rfl,h1,h2,h3⟩;have K2:Hid (Row w2 w.heap.size [.int .u64 0,.int .u64 0,.int .u64 0,.int .u64 0]/\Below w.heap.size w w2/\Holds encB w2 r2 0 T):=⟨hR1.out.1.below h2,hR1.out.2.trans (h2.mono hR1.out.2.size),h3⟩
 clear h1 h2 h3 hTag hR1;go_wp2_with fail
 refine(E6 O r2 T w2 hTs K2.out.2.2).mono ?_;rintro e w4 ⟨v,rfl,hb4,rfl⟩;have K4:Hid (Row w4 w.heap.size [.int .u64 0,.int .u64 0,.int .u64 0,.int .u64 0]/\Below w.heap.size w w4):=⟨K2.out.1.below hb4,K2.out.2.1.trans (hb4.mono K2.out.2.1.size)⟩
 clear hb4 K2;obtain⟨m,hm⟩:∃m,Hid (jH N (SP.gB T.toList 64)=m):=⟨_,rfl⟩
 rw[hm.out];obtain⟨w5,hw5⟩:∃w5,Hid (w4.setCells w.heap.size 0 (wn m)=w5):=⟨_,rfl⟩
 have K5:Hid (Row w5 w.heap.size (wn m)/\Below w.heap.size w w5):=by rw[<-hw5.out];exact⟨K4.out.1.put rfl,RG.below_setCells (PX _) _ _ _ K4.out.2⟩
 obtain⟨vm,hvm⟩:∃vm,Hid (nv m=vm):=⟨_,rfl⟩
 rw[hvm.out];go_wp2_with (refine wpList_store_mid rfl 66 _ _ rfl w.heap.size 0 (wn m).toArray ?_ ?_ ?_ ?_ ?_ ?_;rfl;exact hvm.out.symm;exact K4.out.1.2.2;exact i40;exact dO m;rw[show(wn m).toArray.toList=wn m from rfl,hw5.out])
 refine bodyPost_ret (bE 4 66 rfl K5.out.1 rfl u40 i40) rfl ?_;exact⟨_,rfl,K5.out.2,by rw[hm.out];rfl⟩
end
section
open Go.RowKit Go.Sort Go.Deep
section
variable {P:Program}{ops:Array Oper}{rest:List Oper}{op:Oper}{a:Act}{w w':World}{v:Value}{Q:Exit->Act->World->Prop}
theorem aP(hgd:op.guard=none)(X:Op)(_:op.op=X)(hr:(execOp a.eval op).run P w=.ok (.value v) w')(h:wpList P ops Q rest (a.put op.dst v) w'):wpList P ops Q (op :: rest) a w:=
 wpList_plain hgd fun K hK=>by
  unfold Oper.wp;rw[hr];exact hK _ _ h
end
variable {N:Nat}
theorem Row.only{W W':World}{k b o n:Nat}{vs:List Value}(h:Row W k vs)(hO:SP.Only b o n W W')(hne:k≠b):Row W' k vs:=by
 refine⟨PY h.1 hO.size,fun j v hj=>?_,fun j hj=>?_⟩
 ·rw[(hO.other (c:=k) (o:=0+j) hne h.1).1];exact h.2.1 j v hj
 ·have h1:=h.2.2 j hj;have h2:=hO.other (c:=k) (o:=0+j) hne h.1;exact⟨by rw[h2.1];exact h1.1,by rw[h2.2];exact h1.2⟩
theorem iW{w W:World}{y o n k:Nat}{vs:List Value}(h:SP.Only y o n w W)(hy:y<w.heap.size)(hk:w.heap.size<=k)(q:Nat):SP.Only y o n w (W.setCells k q vs):=
 have hb:Below w.heap.size W (W.setCells k q vs):=RG.below_setCells hk _ _ _ (Qd _ _)
 ⟨hb.os.trans h.os,hb.tape.trans h.tape,hb.output.trans h.output,Qj h.size hb.size,fun j hj hne=>(hb.block j hj).trans (h.block j hj hne),fun p hp=>(QD (a:=⟨y,p,none⟩) (hb.block y hy)).trans (h.cell p hp),fun p=>(RL (a:=⟨y,p,none⟩) (hb.block y hy)).trans (h.froz p)⟩
theorem Hid.mk'{p:Prop}(h:p):Hid p:=h
theorem u124:(prog.underlying 109).map (·.isRow)=some true:=by kernel_rfl
theorem i124:(prog.info? 109).map (·.size)=some 1:=by kernel_rfl
theorem D4(label:ByteArray)(w:World)(hlab:label.size<=1048576):Calls prog 70 #[.string label] w (Ret fun e w'=>Below w.heap.size w w'/\∃r,e=.agg #[.pointer (some ⟨r,0,none⟩)]/\w.heap.size<=r/\r<w'.heap.size/\Holds encB w' r 0 (SP.newL label.data.toList)):=by
 obtain⟨L,hL⟩:∃L,Hid (SP.newL label.data.toList=L):=⟨_,rfl⟩
 have hLs:L.size=32:=by rw[<-hL.out];exact SP.pG _
 rw[hL.out];obtain⟨w1,hw1⟩:∃w1,Hid (w.alloc (.cells #[.pointer none] 109)=w1):=⟨_,rfl⟩
 have K1:Hid (Row w1 w.heap.size [.pointer none]/\Below w.heap.size w w1):=by rw[<-hw1.out];exact⟨aJ w _ _,aH w _⟩
 go_enter Tryz.func70,Tryz.ntmps70;go_wp2_with fail
 rw[hw1.out];clear hw1;refine(SP.Cm label w1 hlab).mono ?_;rintro e w2 ⟨rfl,hb2,hH2⟩;rw[hL.out]at hH2;have hlt:w1.heap.size<w2.heap.size:=Holds.lt hH2 (by omega);obtain⟨r,hr⟩:∃r,Hid (w1.heap.size=r):=⟨_,rfl⟩
 rw[hr.out]at hH2 hlt⊢;have hle:w.heap.size<r:=by rw[<-hr.out];exact K1.out.1.1
 have K2:Hid (Row w2 w.heap.size [.pointer none]/\Below w.heap.size w w2/\Holds encB w2 r 0 L):=⟨K1.out.1.below hb2,K1.out.2.trans (hb2.mono K1.out.2.size),hH2⟩
 clear hb2 hH2 K1 hr;obtain⟨w5,hw5⟩:∃w5,Hid (w2.setCells w.heap.size 0 [.pointer (some ⟨r,0,none⟩)]=w5):=⟨_,rfl⟩
 have K5:Hid (Row w5 w.heap.size [.pointer (some ⟨r,0,none⟩)]/\Below w.heap.size w w5/\Holds encB w5 r 0 L/\r<w5.heap.size):=by
  rw[<-hw5.out];refine⟨K2.out.1.put rfl,RG.below_setCells (PX _) _ _ _ K2.out.2.1,fun j hj=>?_,by rw[RG.setCells_size];exact hlt⟩;have h:=K2.out.2.2 j hj;have e:=RG.cK w.heap.size [.pointer (some ⟨r,0,none⟩)] 0 w2 r (by omega);rw[QD (a:=⟨r,0+j,none⟩) e,RL (a:=⟨r,0+j,none⟩) e];exact h
 go_wp2_with (refine aP (v:=.agg #[.pointer (some ⟨r,0,none⟩)]) (w':=w2) rfl (.build 109 _) rfl ?_ ?_;kernel_rfl;refine Hid.out ?_)
 show wpList _ _ _ _ _ _;refine wpList_store_mid rfl 109 _ _ rfl w.heap.size 0 #[.pointer (some ⟨r,0,none⟩)] ?_ ?_ ?_ ?_ ?_ ?_
 ·kernel_rfl
 ·kernel_rfl
 ·exact K2.out.1.2.2
 ·exact i124
 ·kernel_rfl
 rw[show(#[Value.pointer (some ⟨r,0,none⟩)]).toList=[.pointer (some ⟨r,0,none⟩)] from rfl,hw5.out];go_wp2;refine bodyPost_ret (bE 2 109 rfl K5.out.1 rfl u124 i124) rfl ?_;exact⟨_,rfl,K5.out.2.1,r,rfl,by omega,K5.out.2.2.2,K5.out.2.2.1⟩
def cha(N:Nat)(L:Bs):Nat:=jH N (SP.qM L [99,104,97,108,108,101,110,103,101] 64)
theorem D3(O:Ord N)(r:Nat)(L:Bs)(lab:ByteArray)(w:World)(hlab:lab.size<=1048576)(hL:Holds encB w r 0 L)(hl:L.size=32):
 Calls prog 111 #[.agg #[.pointer (some ⟨r,0,none⟩)],.string lab] w (Ret fun e w'=>SP.Only r 0 32 w w'/\e=nv (jH N (SP.qM L lab.data.toList 64))):=by
 obtain⟨A,hA⟩:∃A,Hid (SP.qM L lab.data.toList 64=A):=⟨_,rfl⟩
 have hAs:A.size=64:=by rw[<-hA.out];exact SP.vK _ _ _
 rw[hA.out];have hr:=Holds.lt hL (by omega);obtain⟨w1,hw1⟩:∃w1,Hid ((w.alloc (.cells #[.pointer (some ⟨r,0,none⟩)] 109)).alloc (.cells #[.int .u64 0,.int .u64 0,.int .u64 0,.int .u64 0] 66)=w1):=⟨_,rfl⟩
 have K1:Hid (Row w1 (w.heap.size+1) [.int .u64 0,.int .u64 0,.int .u64 0,.int .u64 0]/\Below w.heap.size w w1/\Holds encB w1 r 0 L):=by
  rw[<-hw1.out];have hb:Below w.heap.size w ((w.alloc (.cells #[.pointer (some ⟨r,0,none⟩)] 109)).alloc (.cells #[.int .u64 0,.int .u64 0,.int .u64 0,.int .u64 0] 66)):=(aH w _).alloc (by rw[P4];omega) _;have hR:=aJ (w.alloc (.cells #[.pointer (some ⟨r,0,none⟩)] 109)) [.int .u64 0,.int .u64 0,.int .u64 0,.int .u64 0] 66;rw[P4]at hR;exact⟨hR,hb,Holds.below hL hb hr⟩
 clear hL;go_enter Tryz.func111,Tryz.ntmps111;go_wp2_with fail
 rw[hw1.out];clear hw1;refine(SP.JZ r L lab 64 w1 hlab (by decide) K1.out.2.2 hl).mono ?_;rintro e w2 ⟨r2,rfl,h1,hO,-,hA2⟩;rw[hA.out]at hA2;have K2:Hid (Row w2 (w.heap.size+1) [.int .u64 0,.int .u64 0,.int .u64 0,.int .u64 0]/\SP.Only r 0 32 w w2/\Holds encB w2 r2 0 A):=⟨K1.out.1.only hO (by omega),(SP.Only.of_below K1.out.2.1 rfl hr).trans hO,hA2⟩
 clear h1 hO hA2 K1;go_wp2_with fail
 refine(uN O r2 A hAs w2 (Holds.lt K2.out.2.2 (by omega)) K2.out.2.2).mono ?_;rintro e w4 ⟨v,rfl,hb4,rfl⟩;have K4:Hid (Row w4 (w.heap.size+1) [.int .u64 0,.int .u64 0,.int .u64 0,.int .u64 0]/\SP.Only r 0 32 w w4):=⟨K2.out.1.below hb4,K2.out.2.1.trans (SP.Only.of_below hb4 rfl (PY hr K2.out.2.1.size))⟩
 clear hb4 K2;obtain⟨m,hm⟩:∃m,Hid (jH N A=m):=⟨_,rfl⟩
 rw[hm.out];obtain⟨w5,hw5⟩:∃w5,Hid (w4.setCells (w.heap.size+1) 0 (wn m)=w5):=⟨_,rfl⟩
 have K5:Hid (Row w5 (w.heap.size+1) (wn m)/\SP.Only r 0 32 w w5):=by rw[<-hw5.out];exact⟨K4.out.1.put rfl,iW K4.out.2 hr (by omega) _⟩
 obtain⟨vm,hvm⟩:∃vm,Hid (nv m=vm):=⟨_,rfl⟩
 rw[hvm.out];go_wp2_with (refine wpList_store_mid rfl 66 _ _ rfl (w.heap.size+1) 0 (wn m).toArray ?_ ?_ ?_ ?_ ?_ ?_;rfl;exact hvm.out.symm;exact K4.out.1.2.2;exact i40;exact dO m;rw[show(wn m).toArray.toList=wn m from rfl,hw5.out])
 refine bodyPost_ret (bE 4 66 rfl K5.out.1 rfl u40 i40) rfl ?_;exact⟨_,rfl,K5.out.2,by rw[hm.out];rfl⟩
theorem wC(O:Ord N)(r:Nat)(L:Bs)(w:World)(hL:Holds encB w r 0 L)(hl:L.size=32):
 Calls prog 72 #[.agg #[.pointer (some ⟨r,0,none⟩)]] w (Ret fun e w'=>SP.Only r 0 32 w w'/\e=nv (cha N L)):=by
 have hr:=Holds.lt hL (by omega);obtain⟨w1,hw1⟩:∃w1,Hid ((w.alloc (.cells #[.pointer (some ⟨r,0,none⟩)] 109)).alloc (.cells #[.int .u64 0,.int .u64 0,.int .u64 0,.int .u64 0] 66)=w1):=⟨_,rfl⟩
 have K1:Hid (Row w1 (w.heap.size+1) [.int .u64 0,.int .u64 0,.int .u64 0,.int .u64 0]/\Below w.heap.size w w1/\Holds encB w1 r 0 L/\w1.rangeAt w.heap.size 0 [.pointer (some ⟨r,0,none⟩)]):=by
  rw[<-hw1.out];have hb:Below w.heap.size w ((w.alloc (.cells #[.pointer (some ⟨r,0,none⟩)] 109)).alloc (.cells #[.int .u64 0,.int .u64 0,.int .u64 0,.int .u64 0] 66)):=(aH w _).alloc (by rw[P4];omega) _;have hR:=aJ (w.alloc (.cells #[.pointer (some ⟨r,0,none⟩)] 109)) [.int .u64 0,.int .u64 0,.int .u64 0,.int .u64 0] 66;rw[P4]at hR;exact⟨hR,hb,Holds.below hL hb hr,((aJ w [.pointer (some ⟨r,0,none⟩)] 109).alloc _).2.1⟩
 clear hL;obtain⟨d,hd1,hd2⟩:=PZ.1 u124;have HD:Hid (prog.underlying 109=some d/\d.isRow=true):=⟨hd1,hd2⟩
 clear hd1 hd2;have hS:=D3 O r L ⟨#[99,104,97,108,108,101,110,103,101]⟩ w1 (by decide) K1.out.2.2.1 hl;have hcha:jH N (SP.qM L (⟨#[99,104,97,108,108,101,110,103,101]⟩:ByteArray).data.toList 64)=cha N L:=rfl;rw[hcha]at hS;clear hcha;have HS:=Hid.mk' hS;clear hS;go_enter Tryz.func72,Tryz.ntmps72;go_wp2_with (refine wpList_load_mid rfl 109 _ rfl w.heap.size 0 ?_ [.pointer (some ⟨r,0,none⟩)] d ?_ ?_ ?_ ?_ ?_;kernel_rfl;(rw[hw1.out];exact K1.out.2.2.2);exact HD.out.1;exact HD.out.2;exact i124;rw[hw1.out])
 refine HS.out.mono ?_;rintro e w4 ⟨v,rfl,hO,rfl⟩;have K4:Hid (Row w4 (w.heap.size+1) [.int .u64 0,.int .u64 0,.int .u64 0,.int .u64 0]/\SP.Only r 0 32 w w4):=⟨K1.out.1.only hO (by omega),(SP.Only.of_below K1.out.2.1 rfl hr).trans hO⟩
 clear hO K1 HS hw1;obtain⟨m,hm⟩:∃m,Hid (cha N L=m):=⟨_,rfl⟩
 rw[hm.out];obtain⟨w5,hw5⟩:∃w5,Hid (w4.setCells (w.heap.size+1) 0 (wn m)=w5):=⟨_,rfl⟩
 have K5:Hid (Row w5 (w.heap.size+1) (wn m)/\SP.Only r 0 32 w w5):=by rw[<-hw5.out];exact⟨K4.out.1.put rfl,iW K4.out.2 hr (by omega) _⟩
 obtain⟨vm,hvm⟩:∃vm,Hid (nv m=vm):=⟨_,rfl⟩
 rw[hvm.out];go_wp2_with (refine wpList_store_mid rfl 66 _ _ rfl (w.heap.size+1) 0 (wn m).toArray ?_ ?_ ?_ ?_ ?_ ?_;rfl;exact hvm.out.symm;exact K4.out.1.2.2;exact i40;exact dO m;rw[show(wn m).toArray.toList=wn m from rfl,hw5.out])
 refine bodyPost_ret (bE 2 66 rfl K5.out.1 rfl u40 i40) rfl ?_;exact⟨_,rfl,K5.out.2,by rw[hm.out];rfl⟩
end
namespace SP
open Go.RowKit Go.Sort Go.Deep
attribute [local go_sem] cI cS cN mN
theorem dW(a b:Int)(n:Nat)(w:World)(ha:0<=a/\a<=1000)(hb:0<=b/\b<=1000)(h:a%5+5*(b%5)=(n:Int)):
 Calls prog 183 #[.int .i64 a,.int .i64 b] w fun e w'=>e=.returned (.int .i64 n)/\w'=w:=by
 obtain⟨a1,a2⟩:=ha;obtain⟨b1,b2⟩:=hb;rw[<-h];clear h;go_enter Tryz.func183,Tryz.ntmps183;go_wp2;go_ret;exact⟨rfl,rfl⟩
theorem zL(x:BitVec 64)(k:Nat)(w:World)(hk:k<64):
 Calls prog 184 #[.int .u64 (u x),.int .i64 k] w fun e w'=>e=.returned (.int .u64 (u (rol x k)))/\∃n,w'=w.drewN n:=by
 have h1:(0:Int)<=64-(k:Int):=by omega
 have h2:(64:Int)-(k:Int)<=64:=by omega
 have h3:(k:Int)<=64:=by omega
 have h4:QE.wrap (64-(k:Int))=64-(k:Int):=QI _ (by omega);have h5:((64:Int)-(k:Int)).toNat=64-k:=by omega
 have s1:=uK x k;have s2:=Cz x (64-k);go_enter Tryz.func184,Tryz.ntmps184;go_wp2;go_quiet (fail);go_wp2;go_ret;refine⟨ret_int ?_,_,rfl⟩;rfl
theorem JL(t:Nat)(w:World)(ht:t<=1000):
 Calls prog 185 #[.int .i64 t] w fun e w'=>e=.returned (.int .u64 (u (JM t)))/\w'=w:=by
 go_enter Tryz.func185,Tryz.ntmps185;go_wp2
 go_loop [3,4] (fun s3 s4=>∃(i q:Nat),i<=t/\s4=.int .i64 i/\s3=.int .i64 q/\q<256/\Hid (yK i=q)) (fun _ s4=>t-(intOf s4).toNat)
 case atStart=>exact⟨0,1,by omega,rfl,rfl,by decide,rfl⟩
 case round =>
  obtain⟨i,q,hi,rfl,rfl,hq,HE⟩:=hrel;by_cases hlt:i<t
  ·have a2:=FC q hq;rw[Int.mul_comm]at a2;have hlt2:=rS q hq;have HC:Hid (yK (i+1)=kM q):=by show kM (yK i)=_;rw[HE.out]
   by_cases h255:255<2*q
   ·have HR:Hid (kM q=2*q ^^^ 369):=if_pos h255;rw[HR.out]at hlt2;generalize 2*q ^^^ 369=q2 at *;go_wp2
    go_round
    case rel=>exact⟨i+1,q2,by omega,by go_num,rfl,hlt2,by rw[HC.out,HR.out];rfl⟩
    case measure=>simp[intOf];omega
   ·have HR:Hid (kM q=2*q):=if_neg h255;go_wp2
    go_round
    case rel=>exact⟨i+1,2*q,by omega,by go_num,by go_num,by omega,by rw[HC.out,HR.out];rfl⟩
    case measure=>simp[intOf];omega
  ·have a1:=FD q hq;have hit:i=t:=by omega
   subst hit;go_wp2;go_ret;unfold JM;rw[HE.out];exact⟨rfl,rfl⟩
end SP
namespace SP
open Go.RowKit Go.Sort Go.Deep
attribute [local go_sem] cI cS cN mN
theorem Bi(j:Nat)(hj:j<7):min (Qu.wrap (Qu.wrap ((2:Int)^j)-1)).toNat 64=2^j-1:=by
 have H:∀j:Fin 7,min (Qu.wrap (Qu.wrap ((2:Int)^j.val)-1)).toNat 64=2^j.val-1:=by decide +kernel
 exact H ⟨j,hj⟩
theorem xC(r:Nat)(w:World)(hr:r<24):
 Calls prog 171 #[.int .i64 r] w fun e w'=>e=.returned (.int .u64 (u (BZ r)))/\w'=w:=by
 go_enter Tryz.func171,Tryz.ntmps171;go_wp2
 go_loop [3,4] (fun s3 s4=>∃(j:Nat) (c:BitVec 64),j<=7/\s4=.int .i64 j/\s3=.int .u64 (u c)/\Hid (Ad r j=c)) (fun _ s4=>7-(intOf s4).toNat)
 case atStart=>exact⟨0,0,by omega,rfl,rfl,rfl⟩
 case round =>
  obtain⟨j,c,hj,rfl,rfl,HE⟩:=hrel;by_cases hlt:j<7
  ·have hj6:(j:Int)<=6:=by omega
   go_wp2_with fail
   rw[show(j:Int)+7*(r:Int)=((j+7*r:Nat):Int) from by omega];refine(JL (j+7*r) _ (by omega)).mono ?_;rintro e w' ⟨rfl,rfl⟩;go_wp2
   go_round
   case rel =>
    refine⟨j+1,Ad r (j+1),by omega,by go_num,?_,rfl⟩;rw[Bi j hlt,uK,cN];show _=QR .u64 (u (Ad r j ||| JM (j+7*r) <<< (2^j-1)));rw[HE.out]
   case measure=>simp[intOf];omega
  ·have hj6:¬(j:Int)<=6:=by omega
   have hj7:j=7:=by omega
   subst hj7;go_wp2;go_ret;unfold BZ;rw[HE.out];exact⟨rfl,rfl⟩
theorem Iv:prog.underlying 223=some (.slice 3):=by kernel_rfl
theorem info3:(prog.info? 3).map (fun i=>(i.zero,i.size,i.bytes))=some (some (.int .i64 0),1,8):=by kernel_rfl
theorem Mp{w:World}{b off:Nat}{d:Array Nat}(h:Holds encI w b off d)(i:Nat)(hi:i<d.size){x:Nat}(hx:d[i]! = x):
 w.cell? ⟨b,off+i,none⟩=some (.int .i64 x)/\w.frozen? ⟨b,off+i,none⟩=false:=by
 rw[<-hx];exact h i hi
theorem offs_int'(t:Nat)(h:t<24):(wrap64 ((wrap64 (((t:Int)+1)*((t:Int)+2))).tdiv 2)).tmod 64=(sF t:Int):=by
 have H:∀j:Fin 24,(wrap64 ((wrap64 (((j.val:Int)+1)*((j.val:Int)+2))).tdiv 2)).tmod 64=(sF j.val:Int):=by decide +kernel
 exact H ⟨t,h⟩
theorem zC(w:World):
 Calls prog 169 #[] w fun e w'=>e=.returned (.slice (some ⟨w.heap.size,0,none⟩) 25 25)/\Below w.heap.size w w'/\Holds encI w' w.heap.size 0 cE:=by
 have hmk:∀w:World,(Rf 223 (.int .i64 25) (.int .i64 25)).run prog w=.ok (.slice (some ⟨w.heap.size,0,none⟩) 25 25) (w.alloc (.cells (madeCells #[.int .i64 0] 25) 3)):=
  run_make_row' (P:=prog) 223 3 (.int .i64 0) 8 Iv info3 rfl .i64 .i64 25 (by omega) (by omega)
 go_enter Tryz.func169,Tryz.ntmps169;go_wp2;generalize hW1:(w.alloc _)=W1;go_loopg [2,3,4] 24 (fun g sx sy st wr=>∃t T,t+g=24/\st=.int .i64 (t:Nat)/\sx=.int .i64 (T.x:Nat)/\sy=.int .i64 (T.y:Nat)/\Holds encI wr w.heap.size 0 T.o/\Only w.heap.size 0 25 W1 wr/\Hid (T=iY t))
 case atStart =>
  refine⟨0,iY 0,rfl,rfl,rfl,rfl,?_,Only.refl _ _ _ _,rfl⟩;rw[<-hW1];exact Holds.made (enc:=encI) w 3 25 0
 case round =>
  obtain⟨t,⟨x,y,o⟩,ht,rfl,rfl,rfl,hD,hO,HE⟩:=hrel;have hok:=Ji t;rw[<-HE.out]at hok;obtain⟨hx,hy,hs⟩:=hok;dsimp only at hx hy hs hD;by_cases hlt:t<24
  ·obtain⟨i,hi⟩:∃i,x%5+5*(y%5)=i:=⟨_,rfl⟩
   have hib:i<25:=by omega
   obtain⟨c,f⟩:=hD i (by omega);rw[P0]at c f;have Hi:Hid (x%5+5*(y%5)=i):=hi;have l24:(t:Int)<24:=by omega
   clear hi;go_wp2_with fail
   refine(dW (x:Int) (y:Int) i _ (by omega) (by omega) (by have:=Hi.out;omega)).mono ?_;rintro e w' ⟨rfl,rfl⟩;have hoff:=offs_int' t hlt;have i25:(i:Int)<25:=by omega
   go_wp2;go_roundg (gk-1)
   case measure=>omega
   case rel =>
    refine⟨t+1,⟨y,(2*x+3*y)%5,o.setIfInBounds i (sF t)⟩,by omega,by go_num,rfl,by go_num,?_,?_,?_⟩
    ·have:=Holds.set hD (i:=i) (by omega) (sF t);rw[P0]at this;exact this
    ·exact hO.setCell (o:=i) (by omega) (by omega) _
    ·show _=(Of.mk (iY t).y ((2*(iY t).x+3*(iY t).y)%5) ((iY t).o.setIfInBounds ((iY t).x%5+5*((iY t).y%5)) (sF t)));rw[<-HE.out];dsimp only;rw[Hi.out]
  ·have ht24:t=24:=by omega
   subst ht24;go_wp2;go_ret;refine⟨rfl,?_,?_⟩
   ·rw[<-hW1]at hO;exact hO.fresh
   ·unfold cE;rw[<-HE.out];exact hD
end SP
namespace SP
open Go.RowKit Go.Sort Go.Deep
attribute [local go_sem] cI cS cN m6 mN
theorem v9:prog.underlying 222=some (.slice 43):=by kernel_rfl
theorem BK:(prog.info? 43).map (fun i=>(i.zero,i.size,i.bytes))=some (some (.int .u64 0),1,8):=by kernel_rfl
theorem D5(ab tb:Nat)(a:St)(tn:Array Nat)(c:BitVec 64)(w:World)(ha:a.size=25)(ht:tn.size=25)(hA:Holds enc w ab 0 a)(hT:Holds encI w tb 0 tn)(h64:∀i,i<25->tn[i]! < 64):
 Calls prog 170 #[.slice (some ⟨ab,0,none⟩) 25 25,.slice (some ⟨tb,0,none⟩) 25 25,.int .u64 (u c)] w fun e w'=>∃r,e=.returned (.slice (some ⟨r,0,none⟩) 25 25)/\w.heap.size<=r/\Below w.heap.size w w'/\Holds enc w' r 0 (dJ a tn c):=by
 have hab:=Holds.lt hA (by omega);have htb:=Holds.lt hT (by omega);have hmk5:∀w:World,(Rf 222 (.int .i64 5) (.int .i64 5)).run prog w=.ok (.slice (some ⟨w.heap.size,0,none⟩) 5 5) (w.alloc (.cells (madeCells #[.int .u64 0] 5) 43)):=
  run_make_row' (P:=prog) 222 43 (.int .u64 0) 8 v9 BK rfl .i64 .i64 5 (by omega) (by omega)
 have hmk25:∀w:World,(Rf 222 (.int .i64 25) (.int .i64 25)).run prog w=.ok (.slice (some ⟨w.heap.size,0,none⟩) 25 25) (w.alloc (.cells (madeCells #[.int .u64 0] 25) 43)):=
  run_make_row' (P:=prog) 222 43 (.int .u64 0) 8 v9 BK rfl .i64 .i64 25 (by omega) (by omega)
 have HM25:Hid _:=hmk25;clear hmk25;go_enter Tryz.func170,Tryz.ntmps170;go_wp2;clear hmk5;have hC1:Holds enc (w.alloc (.cells (madeCells #[.int .u64 0] 5) 43)) w.heap.size 0 (lI a 0):=Holds.made (enc:=enc) w 43 5 0;have hb1:Below w.heap.size w (w.alloc (.cells (madeCells #[.int .u64 0] 5) 43)):=(Qd _ _).alloc (PX _) _;generalize hW1:(w.alloc _)=W1 at hC1 hb1⊢;have hs1:w.heap.size<W1.heap.size:=by rw[<-hW1];simp
 have hA1:=Holds.below hA hb1 hab;have hT1:=Holds.below hT hb1 htb;clear hW1;go_loopg [8] 5 (fun g s8 wr=>∃(x:Nat) (ck:St),x+g=5/\s8=.int .i64 x/\Holds enc wr w.heap.size 0 ck/\Only w.heap.size 0 5 W1 wr/\Hid (ck=lI a x))
 case atStart=>exact⟨0,_,rfl,rfl,hC1,Only.refl _ _ _ _,rfl⟩
 case round =>
  obtain⟨x,ck,hx,rfl,hC,hO,HE⟩:=hrel;have hcs:ck.size=5:=by rw[HE.out,B6]
  by_cases hlt:x<5
  ·have l5:(x:Int)<5:=by omega
   go_wp2;go_loopg [9] 5 (fun g s9 wq=>∃(y:Nat) (cy:St),y+g=5/\s9=.int .i64 y/\Holds enc wq w.heap.size 0 cy/\Only w.heap.size 0 5 W1 wq/\Hid (cy=sZ a x ck y))
   case atStart=>exact⟨0,ck,rfl,rfl,hC,hO,rfl⟩
   case round =>
    obtain⟨y,cy,hy,rfl,hCy,hOy,HEy⟩:=hrel;have hcys:cy.size=5:=by rw[HEy.out,sY,hcs]
    by_cases hlty:y<5
    ·have hAy:=Holds.other hA1 hOy (by omega) (by omega);obtain⟨z,hz⟩:∃z,a[x+5*y]! = z:=⟨_,rfl⟩
     obtain⟨v,hv⟩:∃z,cy[x]! = z:=⟨_,rfl⟩
     obtain⟨c0,f0⟩:=aT hAy (x+5*y) (by omega) hz;obtain⟨c1,f1⟩:=aT hCy x (by omega) hv;rw[P0]at c0 c1 f1;have HZ:Hid (a[x+5*y]! = z):=hz;have HV:Hid (cy[x]! = v):=hv;obtain⟨i,hi⟩:∃i,x+5*y=i:=⟨_,rfl⟩
     rw[hi]at c0;have Hi:Hid (x+5*y=i):=hi;have i25:i<25:=by omega
     have i25':(i:Int)<25:=by omega
     have y5:(y:Int)<5:=by omega
     clear hz hv hi f0;go_wp2_with fail
     refine wp_region_still_tail 14 mixed (by kernel_rfl) ?_;simp only[VB,TE,VD,WB];repeat still_step
     still_call (dW (x:Int) (y:Int) i _ (by omega) (by omega) (by have:=Hi.out;omega))
     repeat still_step
     refine wpStill_nil ?_;go_wp2;go_roundg (gk-1)
     case measure=>omega
     case rel =>
      refine⟨y+1,bJ cy x z,by omega,by go_num,?_,?_,?_⟩
      ·have:=Holds.xor hCy (i:=x) (by omega) HV.out z;rw[P0]at this;exact Holds.drew this
      ·exact(hOy.setCell (o:=x) (by omega) (by omega) _).drew
      ·show _=bJ (sZ a x ck y) x a[x+5*y]!;rw[HZ.out,HEy.out]
    ·have hy5:y=5:=by omega
     subst hy5;go_wp2;go_roundg (4-x)
     case measure=>omega
     case rel =>
      refine⟨x+1,cy,by omega,by go_num,hCy,hOy,?_⟩;show _=sZ a x (lI a x) 5;rw[HEy.out,HE.out]
  ·have hx5:x=5:=by omega
   subst hx5;have hb2:Below w.heap.size w wr:=hb1.trans (hO.below (by omega) (PX _));have hs2:w.heap.size<wr.heap.size:=PY hs1 hO.size;clear hlt hx hC1 hb1 hs1 hA1 hT1 hO;have hmk:=HM25.out;go_wp2;clear hmk;have hM3:Holds enc (wr.alloc (.cells (madeCells #[.int .u64 0] 25) 43)) wr.heap.size 0 (lD a tn ck 0):=Holds.made (enc:=enc) wr 43 25 0;have hb3':Below wr.heap.size wr (wr.alloc (.cells (madeCells #[.int .u64 0] 25) 43)):=(Qd _ _).alloc (PX _) _;generalize hW3:(wr.alloc _)=W3 at hM3 hb3'⊢;have hs3:wr.heap.size<W3.heap.size:=by rw[<-hW3];simp
   have hC3:=Holds.below hC hb3' hs2;have hb3:=hb2.trans (hb3'.mono (by omega));have hA3:=Holds.below hA hb3 hab;have hT3:=Holds.below hT hb3 htb;clear hW3 hb3' hb2 hC;generalize hMB:wr.heap.size=MB at *;go_loopg [11] 5 (fun g s11 wr=>∃(x:Nat) (mk:St),x+g=5/\s11=.int .i64 x/\Holds enc wr MB 0 mk/\Only MB 0 25 W3 wr/\Hid (mk=lD a tn ck x))
   case atStart=>exact⟨0,_,rfl,rfl,hM3,Only.refl _ _ _ _,rfl⟩
   case round =>
    obtain⟨x,mk,hx,rfl,hM,hO,HEx⟩:=hrel;have hms:mk.size=25:=by rw[HEx.out,BE]
    by_cases hlt:x<5
    ·have hCw:=Holds.other hC3 hO (by omega) (by omega);obtain⟨y0,hy0⟩:∃z,ck[(x+4)%5]! = z:=⟨_,rfl⟩
     obtain⟨y1,hy1⟩:∃z,ck[(x+1)%5]! = z:=⟨_,rfl⟩
     obtain⟨c0,f0⟩:=aT hCw ((x+4)%5) (by omega) hy0;obtain⟨c1,f1⟩:=aT hCw ((x+1)%5) (by omega) hy1;rw[P0]at c0 c1;have HD:Hid (bO ck x=y0 ^^^ rol y1 1):=by rw[<-hy0,<-hy1];rfl
     clear hy0 hy1 f0 f1;have l5:(x:Int)<5:=by omega
     have q1:0<=((x:Int)+4)%5:=by omega
     have q2:((x:Int)+4)%5<5:=by omega
     have q3:(((x:Int)+4)%5).toNat=(x+4)%5:=by omega
     have q4:0<=((x:Int)+1)%5:=by omega
     have q5:((x:Int)+1)%5<5:=by omega
     have q6:(((x:Int)+1)%5).toNat=(x+1)%5:=by omega
     go_wp2_with fail
     go_quiet ((go_at_call 184;exact Calls.quiet_of (zL _ 1 _ (by decide))));clear c0 c1 q1 q2 q3 q4 q5 q6;go_wp2;have hM1:=Holds.drewN hM nq;have hO1:=hO.drewN nq;generalize y0 ^^^ rol y1 1=dv at *;go_loopg [13] 5 (fun g s13 wq=>∃(y:Nat) (my:St),y+g=5/\s13=.int .i64 y/\Holds enc wq MB 0 my/\Only MB 0 25 W3 wq/\Hid (my=sH a tn x dv mk y))
     case atStart=>exact⟨0,mk,rfl,rfl,hM1,hO1,rfl⟩
     case round =>
      obtain⟨y,my,hy,rfl,hMy,hOy,HEy⟩:=hrel;have hmys:my.size=25:=by rw[HEy.out,sG,hms]
      by_cases hlty:y<5
      ·have hAy:=Holds.other hA3 hOy (by omega) (by omega);have hTy:=Holds.other hT3 hOy (by omega) (by omega);obtain⟨z,hz⟩:∃z,a[x+5*y]! = z:=⟨_,rfl⟩
       obtain⟨tv,htv⟩:∃z,tn[x+5*y]! = z:=⟨_,rfl⟩
       obtain⟨c0,f0⟩:=aT hAy (x+5*y) (by omega) hz;obtain⟨c1,f1⟩:=Mp hTy (x+5*y) (by omega) htv;have t64:tv<64:=by rw[<-htv];exact h64 _ (by omega)
       obtain⟨i,hi⟩:∃i,x+5*y=i:=⟨_,rfl⟩
       obtain⟨j,hj⟩:∃j,y%5+5*((2*x+3*y)%5)=j:=⟨_,rfl⟩
       obtain⟨c2,f2⟩:=hMy j (by omega);rw[P0]at c0 c1 c2 f2;rw[hi]at c0 c1;have Hi:Hid (x+5*y=i):=hi;have Hj:Hid (y%5+5*((2*x+3*y)%5)=j):=hj;have HZ:Hid (a[x+5*y]! = z):=hz;have HT:Hid (tn[x+5*y]! = tv):=htv;have i25:i<25:=by omega
       have j25:j<25:=by omega
       have i25':(i:Int)<25:=by omega
       have j25':(j:Int)<25:=by omega
       have y5:(y:Int)<5:=by omega
       have s1:QE.wrap (2*(x:Int))=2*(x:Int):=QI _ (by omega);have s2:QE.wrap (3*(y:Int))=3*(y:Int):=QI _ (by omega);have s3:QE.wrap (2*(x:Int)+3*(y:Int))=2*(x:Int)+3*(y:Int):=QI _ (by omega);clear hz htv hi hj f0 f1;go_wp2_with fail
       have P1:∀w,Hid (Calls prog 183 #[.int .i64 y,.int .i64 (2*(x:Int)+3*(y:Int))] w fun e w'=>e=.returned (.int .i64 j)/\w'=w):=fun w=>dW _ _ j w (by omega) (by omega) (by have:=Hj.out;omega)
       have P2:∀w,Hid (Calls prog 183 #[.int .i64 x,.int .i64 y] w fun e w'=>e=.returned (.int .i64 i)/\w'=w):=fun w=>dW _ _ i w (by omega) (by omega) (by have:=Hi.out;omega)
       go_region_with (first|(go_at_call_of 183 (QR QE (x:Int));refine VJ (P2 _).out ?_;rintro e w2 ⟨rfl,rfl⟩)|(go_at_call 183;refine VJ (P1 _).out ?_;rintro e w2 ⟨rfl,rfl⟩)|(go_at_call 184;refine(zL (z ^^^ dv) tv _ t64).mono ?_;rintro e w2 ⟨rfl,n2,rfl⟩))
       all_goals
        go_wp2;go_roundg (gk-1)
        case measure=>omega
        case rel =>
         refine⟨y+1,my.setIfInBounds j (rol (z ^^^ dv) tv),by omega,by go_num,?_,?_,?_⟩
         ·have:=Holds.set (Holds.drewN hMy (1+n2)) (i:=j) (by omega) (rol (z ^^^ dv) tv);rw[P0]at this;exact this
         ·exact(hOy.drewN (1+n2)).setCell (o:=j) (by omega) (by omega) _
         ·show _=(sH a tn x dv mk y).setIfInBounds (y%5+5*((2*x+3*y)%5)) (rol (a[x+5*y]! ^^^ dv) tn[x+5*y]!);rw[HZ.out,HT.out,Hj.out,HEy.out]
      ·have hy5:y=5:=by omega
       subst hy5;go_wp2;go_roundg (4-x)
       case measure=>omega
       case rel =>
        refine⟨x+1,my,by omega,by go_num,hMy,hOy,?_⟩;show _=sH a tn x (bO ck x) (lD a tn ck x) 5;rw[HEy.out,HEx.out,HD.out]
    ·have hx5:x=5:=by omega
     subst hx5;have hb4:Below w.heap.size w wr:=hb3.trans (hO.below (by omega) (by omega));have hs4:MB<wr.heap.size:=PY hs3 hO.size;clear hlt hx hb3 hs3 hA3 hT3 hC3 hM3 hO;have hmk:=HM25.out;go_wp2;clear hmk;have hU5:Holds enc (wr.alloc (.cells (madeCells #[.int .u64 0] 25) 43)) wr.heap.size 0 (mJ mk 0):=Holds.made (enc:=enc) wr 43 25 0;have hb5':Below wr.heap.size wr (wr.alloc (.cells (madeCells #[.int .u64 0] 25) 43)):=(Qd _ _).alloc (PX _) _;generalize hW5:(wr.alloc _)=W5 at hU5 hb5'⊢;have hs5:wr.heap.size<W5.heap.size:=by rw[<-hW5];simp
     have hM5:=Holds.below hM hb5' hs4;have hb5:=hb4.trans (hb5'.mono (by omega));clear hW5 hb5' hb4 hM;generalize hOB:wr.heap.size=OB at *;go_loopg [15] 5 (fun g s15 wr=>∃(x:Nat) (ok:St),x+g=5/\s15=.int .i64 x/\Holds enc wr OB 0 ok/\Only OB 0 25 W5 wr/\Hid (ok=mJ mk x))
     case atStart=>exact⟨0,_,rfl,rfl,hU5,Only.refl _ _ _ _,rfl⟩
     case round =>
      obtain⟨x,ok,hx,rfl,hU,hO,HEu⟩:=hrel;have hus:ok.size=25:=by rw[HEu.out,rZ]
      by_cases hlt:x<5
      ·have l5:(x:Int)<5:=by omega
       go_wp2;go_loopg [16] 5 (fun g s16 wq=>∃(y:Nat) (oy:St),y+g=5/\s16=.int .i64 y/\Holds enc wq OB 0 oy/\Only OB 0 25 W5 wq/\Hid (oy=sC mk x ok y))
       case atStart=>exact⟨0,ok,rfl,rfl,hU,hO,rfl⟩
       case round =>
        obtain⟨y,oy,hy,rfl,hUy,hOy,HEy⟩:=hrel;have hoys:oy.size=25:=by rw[HEy.out,sA,hus]
        by_cases hlty:y<5
        ·have hMy:=Holds.other hM5 hOy (by omega) (by omega);obtain⟨i0,hi0⟩:∃i,x+5*y=i:=⟨_,rfl⟩
         obtain⟨i1,hi1⟩:∃i,(x+1)%5+5*y=i:=⟨_,rfl⟩
         obtain⟨i2,hi2⟩:∃i,(x+2)%5+5*y=i:=⟨_,rfl⟩
         obtain⟨z0,hz0⟩:∃z,mk[i0]! = z:=⟨_,rfl⟩
         obtain⟨z1,hz1⟩:∃z,mk[i1]! = z:=⟨_,rfl⟩
         obtain⟨z2,hz2⟩:∃z,mk[i2]! = z:=⟨_,rfl⟩
         obtain⟨c0,f0⟩:=aT hMy i0 (by omega) hz0;obtain⟨c1,f1⟩:=aT hMy i1 (by omega) hz1;obtain⟨c2,f2⟩:=aT hMy i2 (by omega) hz2;obtain⟨c3,f3⟩:=hUy i0 (by omega);rw[P0]at c0 c1 c2 c3 f3;have H0:Hid (x+5*y=i0):=hi0;have H1:Hid ((x+1)%5+5*y=i1):=hi1;have H2:Hid ((x+2)%5+5*y=i2):=hi2;have HV:Hid (mk[x+5*y]! ^^^ (~~~mk[(x+1)%5+5*y]! &&& mk[(x+2)%5+5*y]!)=z0 ^^^ (~~~z1 &&& z2)):=by
          show _=_;rw[hi0,hi1,hi2,hz0,hz1,hz2]
         have b0:i0<25:=by omega
         have b0':(i0:Int)<25:=by omega
         have b1':(i1:Int)<25:=by omega
         have b2':(i2:Int)<25:=by omega
         have y5:(y:Int)<5:=by omega
         have s1:QE.wrap ((x:Int)+1)=(x:Int)+1:=QI _ (by omega);have s2:QE.wrap ((x:Int)+2)=(x:Int)+2:=QI _ (by omega);clear hz0 hz1 hz2 hi0 hi1 hi2 f0 f1 f2;go_wp2_with fail
         refine wp_region_still_tail 28 mixed (by kernel_rfl) ?_;simp only[VB,TE,VD,WB];repeat still_step
         still_call (dW (x:Int) (y:Int) i0 _ (by omega) (by omega) (by have:=H0.out;omega))
         repeat still_step
         still_call (dW (x:Int) (y:Int) i0 _ (by omega) (by omega) (by have:=H0.out;omega))
         repeat still_step
         still_call (dW ((x:Int)+1) (y:Int) i1 _ (by omega) (by omega) (by have:=H1.out;omega))
         repeat still_step
         still_call (dW ((x:Int)+2) (y:Int) i2 _ (by omega) (by omega) (by have:=H2.out;omega))
         repeat still_step
         refine wpStill_nil ?_;go_wp2;go_roundg (gk-1)
         case measure=>omega
         case rel =>
          refine⟨y+1,oy.setIfInBounds i0 (z0 ^^^ (~~~z1 &&& z2)),by omega,by go_num,?_,?_,?_⟩
          ·have:=Holds.set hUy (i:=i0) (by omega) (z0 ^^^ (~~~z1 &&& z2));rw[P0]at this;exact Holds.drew this
          ·exact(hOy.setCell (o:=i0) (by omega) (by omega) _).drew
          ·show _=(sC mk x ok y).setIfInBounds (x+5*y) (mk[x+5*y]! ^^^ (~~~mk[(x+1)%5+5*y]! &&& mk[(x+2)%5+5*y]!));rw[HV.out,H0.out,HEy.out]
        ·have hy5:y=5:=by omega
         subst hy5;go_wp2;go_roundg (4-x)
         case measure=>omega
         case rel =>
          refine⟨x+1,oy,by omega,by go_num,hUy,hOy,?_⟩;show _=sC mk x (mJ mk x) 5;rw[HEy.out,HEu.out]
      ·have hx5:x=5:=by omega
       subst hx5;obtain⟨z,hz⟩:∃z,ok[0]! = z:=⟨_,rfl⟩
       obtain⟨c0,f0⟩:=aT hU 0 (by omega) hz;rw[P0]at c0 f0;have HZ:Hid (ok[0]! = z):=hz;clear hz;go_wp2;go_ret;refine⟨OB,rfl,by omega,?_,?_⟩
       ·exact(hb5.trans (hO.below (by omega) (by omega))).setCell (p:=⟨OB,0,none⟩) (by show _<=OB;omega) _
       ·have e:dJ a tn c=bJ ok 0 c:=by unfold dJ;rw[HEu.out,HEx.out,HE.out]
        rw[e];exact Holds.xor (i:=0) hU (by omega) HZ.out c
end SP
namespace SP
open Go.RowKit Go.Sort Go.Deep
attribute [local go_sem] cI cS cN m6 mN vO Kd
theorem kU(s:ByteArray)(w:World)(hs:s.size=200):
 Calls prog 149 #[.string s] w fun e w'=>e=.returned (.string ⟨fH s.data⟩)/\Below w.heap.size w w':=by
 have hmk25:∀w:World,(Rf 222 (.int .i64 25) (.int .i64 25)).run prog w=.ok (.slice (some ⟨w.heap.size,0,none⟩) 25 25) (w.alloc (.cells (madeCells #[.int .u64 0] 25) 43)):=
  run_make_row' (P:=prog) 222 43 (.int .u64 0) 8 v9 BK rfl .i64 .i64 25 (by omega) (by omega)
 have hmk200:∀w:World,(Rf 22 (.int .i64 200) (.int .i64 200)).run prog w=.ok (.slice (some ⟨w.heap.size,0,none⟩) 200 200) (w.alloc (.cells (madeCells #[.int .u8 0] 200) 5)):=
  run_make_row' (P:=prog) 22 5 (.int .u8 0) 1 slice22 info5 rfl .i64 .i64 200 (by omega) (by omega)
 have HM200:Hid _:=hmk200;clear hmk200;go_enter Tryz.func149,Tryz.ntmps149;go_wp2;clear hmk25;have hA1:Holds enc (w.alloc (.cells (madeCells #[.int .u64 0] 25) 43)) w.heap.size 0 (mY s.data 0):=Holds.made (enc:=enc) w 43 25 0;have hb1:Below w.heap.size w (w.alloc (.cells (madeCells #[.int .u64 0] 25) 43)):=(Qd _ _).alloc (PX _) _;generalize hW1:(w.alloc _)=W1 at hA1 hb1⊢;have hs1:w.heap.size<W1.heap.size:=by rw[<-hW1];simp
 clear hW1;go_loopg [4] 200 (fun g s4 wr=>∃(i:Nat) (dk:St),i+g=200/\s4=.int .i64 i/\Holds enc wr w.heap.size 0 dk/\Only w.heap.size 0 25 W1 wr/\Hid (dk=mY s.data i))
 case atStart=>exact⟨0,_,rfl,rfl,hA1,Only.refl _ _ _ _,rfl⟩
 case round =>
  obtain⟨i,dk,hi,rfl,hD,hO,HE⟩:=hrel;have hds:dk.size=25:=by rw[HE.out,jL]
  by_cases hlt:i<200
  ·obtain⟨x,hx⟩:∃x,dk[i/8]! = x:=⟨_,rfl⟩
   obtain⟨c0,f0⟩:=aT hD (i/8) (by omega) hx;rw[P0]at c0 f0;have HX:Hid (dk[i/8]! = x):=hx;clear hx;have l200:(i:Int)<200:=by omega
   have p0:0<=(i:Int)/8:=by omega
   have p1:(i:Int)/8<25:=by omega
   have p2:((i:Int)/8).toNat=i/8:=by omega
   have s1:QE.wrap ((i:Int)/8)=(i:Int)/8:=QI _ (by omega);have s2:QE.wrap (8*((i:Int)%8))=8*((i:Int)%8):=QI _ (by omega);have s3:0<=8*((i:Int)%8):=by omega
   have s4:8*((i:Int)%8)<=64:=by omega
   have s5:(8*((i:Int)%8)).toNat=8*(i%8):=by omega
   have his:(i:Int)<(s.size:Int):=by omega
   have his':i<s.size:=by omega
   have tm:(i:Int).tmod 8=(i:Int)%8:=RP (by omega);obtain⟨y,hy⟩:∃y,wide s.data[i]! = y:=⟨_,rfl⟩
   have hsb:Qu.wrap (s[i].toNat:Int)=u y:=by
    have e:s.data[i]! = s[i]:=getElem!_pos s.data i his';rw[<-hy,e];exact vO s[i]
   have HY:Hid (wide s.data[i]! = y):=hy;clear hy;have sh:=uK y (8*(i%8));go_wp2_with fail
   go_still_tail 18,mixed;go_wp2;go_roundg (gk-1)
   case measure=>omega
   case rel =>
    refine⟨i+1,dk.setIfInBounds (i/8) (x ||| y <<< (8*(i%8))),by omega,by go_num,?_,?_,?_⟩
    ·have:=Holds.set hD (i:=i/8) (by omega) (x ||| y <<< (8*(i%8)));rw[P0]at this;exact Holds.drew this
    ·exact(hO.setCell (o:=i/8) (by omega) (by omega) _).drew
    ·show _=(mY s.data i).setIfInBounds (i/8) ((mY s.data i)[i/8]! ||| wide s.data[i]! <<< (8*(i%8)));rw[HY.out,<-HE.out,HX.out]
  ·have hi200:i=200:=by omega
   subst hi200;have hb2:Below w.heap.size w wr:=hb1.trans (hO.below (by omega) (PX _));have hs2:w.heap.size<wr.heap.size:=PY hs1 hO.size;clear hlt hi hA1 hb1 hs1 hO;go_wp2_with fail
   refine(zC _).mono ?_;rintro e w3 ⟨rfl,hb3,hT⟩;have hD3:=Holds.below hD hb3 hs2;have hb4:=hb2.trans (hb3.mono (by omega));have hs3:wr.heap.size<w3.heap.size:=Holds.lt hT (by rw[kB];omega);generalize hTB:wr.heap.size=TB at *;clear hb2 hb3 hD;go_wp2;go_loopg [3,6] 24 (fun g s3 s6 wr=>∃(k ab:Nat) (dk:St),k+g=24/\s6=.int .i64 k/\s3=.slice (some ⟨ab,0,none⟩) 25 25/\Holds enc wr ab 0 dk/\w.heap.size<=ab/\Holds encI wr TB 0 cE/\Below w.heap.size w wr/\Hid (dk=yL (mY s.data 200) k))
   case atStart=>exact⟨0,w.heap.size,dk,rfl,rfl,rfl,hD3,PX _,hT,hb4,HE⟩
   case round =>
    clear hT hb4 hD3 HE hds dk;obtain⟨k,ab,dk,hk,rfl,rfl,hD,hab,hT,hb,HE⟩:=hrel;have hds:dk.size=25:=by
     rw[HE.out];cases k with
     | zero=>exact jL _ _
     | succ k=>exact tZ _ _ _
    by_cases hlt:k<24
    ·have l24:(k:Int)<24:=by omega
     go_wp2_with fail
     refine(xC k _ hlt).mono ?_;rintro e w4 ⟨rfl,rfl⟩;go_wp2_with fail
     refine(D5 ab TB dk cE (BZ k) _ hds kB hD hT Bv).mono ?_;rintro e w5 ⟨r,rfl,hr,hb5,hR⟩;have hTl:=Holds.lt hT (by rw[kB];omega);have hsz:=hb.size;go_wp2;go_roundg (gk-1)
     case measure=>omega
     case rel =>
      refine⟨k+1,r,dJ dk cE (BZ k),by omega,by go_num,rfl,hR,by omega,Holds.below hT hb5 hTl,hb.trans (hb5.mono (by omega)),?_⟩;rw[HE.out];rfl
    ·have hk24:k=24:=by omega
     subst hk24;have hmk:=HM200.out;go_wp2;clear hmk;have hsz:=hb.size;have hal:=Holds.lt hD (by omega);have hF1:Holds encB (wr.alloc (.cells (madeCells #[.int .u8 0] 200) 5)) wr.heap.size 0 (dH dk 200 0):=Holds.made (enc:=encB) wr 5 200 0;have hb6:Below wr.heap.size wr (wr.alloc (.cells (madeCells #[.int .u8 0] 200) 5)):=(Qd _ _).alloc (PX _) _;generalize hW6:(wr.alloc _)=W6 at hF1 hb6⊢;have hs6:wr.heap.size<W6.heap.size:=by rw[<-hW6];simp
     have hD6:=Holds.below hD hb6 hal;have hb7:=hb.trans (hb6.mono hsz);clear hW6 hb6 hb hD hT;generalize hFB:wr.heap.size=FB at *;go_loopg [8] 200 (fun g s8 wr=>∃(i:Nat) (bs:Bs),i+g=200/\s8=.int .i64 i/\Holds encB wr FB 0 bs/\Only FB 0 200 W6 wr/\Hid (bs=dH dk 200 i))
     case atStart=>exact⟨0,_,rfl,rfl,hF1,Only.refl _ _ _ _,rfl⟩
     case round =>
      obtain⟨i,bs,hi,rfl,hB,hO,HEb⟩:=hrel;have hbs:bs.size=200:=by rw[HEb.out,fU]
      by_cases hlt:i<200
      ·have hDw:=Holds.other hD6 hO (by omega) (by omega);obtain⟨x,hx⟩:∃x,dk[i/8]! = x:=⟨_,rfl⟩
       obtain⟨c0,f0⟩:=aT hDw (i/8) (by omega) hx;obtain⟨c1,f1⟩:=hB i (by omega);rw[P0]at c0 c1 f1;have HX:Hid (byteOf dk i=low (x >>> (8*(i%8)))):=by show low _=_;rw[hx]
       clear hx f0;have p1:(i:Int)/8<25:=by omega
       have l200:(i:Int)<200:=by omega
       have hsr:=Cz x (8*(i%8));go_wp2;go_roundg (gk-1)
       case measure=>omega
       case rel =>
        refine⟨i+1,bs.setIfInBounds i (low (x >>> (8*(i%8)))),by omega,by go_num,?_,?_,?_⟩
        ·have:=Holds.set hB (i:=i) (by omega) (low (x >>> (8*(i%8))));rw[P0]at this;exact this
        ·exact hO.setCell (o:=i) (by omega) (by omega) _
        ·show _=(dH dk 200 i).setIfInBounds i (byteOf dk i);rw[HX.out,HEb.out]
      ·have hi200:i=200:=by omega
       subst hi200;have kc:=conv_str prog 22 9 5 slice22 int5 str9 wr FB 0 200 200 bs hB hbs;go_wp2;go_ret;have e1:bs=fH s.data:=by rw[HEb.out,HE.out];exact D6 s.data
       rw[e1];exact⟨rfl,hb7.trans (hO.below (by omega) (by omega))⟩
end SP
namespace SP
open Go.RowKit Go.Sort Go.Deep
attribute [local go_sem] vH
theorem holds_one(w:World)(x:UInt8):Holds encB (w.alloc (.cells #[.int .u8 (ub x)] 5)) w.heap.size 0 #[x]:=by
 have h:=Holds.new (enc:=encB) w 5 #[x];have e:Xg encB #[x]=#[.int .u8 (ub x)]:=by simp[encB]
 rw[e]at h;exact h
def pE(l:List UInt8)(e:UInt8)(k:Nat):List UInt8:=l++e :: QS k 0
theorem pY(l:List UInt8)(e:UInt8)(k:Nat):(pE l e k).length=l.length+1+k:=by
 unfold pE;rw[P9,QB,Rx];omega
theorem Eh(l:List UInt8)(e:UInt8)(k:Nat):pE l e k++[0]=pE l e (k+1):=by
 unfold pE;rw[Ux,UR,List.replicate_succ']
theorem Bn(l:List UInt8)(e:UInt8):(pE l e (135-l.length%136)).set (l.length+(135-l.length%136)) ((pE l e (135-l.length%136))[l.length+(135-l.length%136)]! ^^^ 128)=total l e:=by
 unfold pE total eD;rw[List.set_append_right _ _ (by omega),Tj,mK _ _ _ (by omega) (by rw[QB,Rx];omega),Tj]
theorem zI(l:List UInt8)(i j:Nat)(x:UInt8)(hj:j<l.length):(l.set i x)[j]! = if i=j then x else l[j]!:=by
 rw[getElem!_pos (l.set i x) j (by rw[List.length_set];exact hj),List.getElem_set,getElem!_pos l j hj]
theorem EY(l:List UInt8)(e:UInt8)(cur:Bs)(L k:Nat)(hk:k=135-l.length%136)(hL:L=l.length+1+k)(hc:L<=cur.size)(hT:∀j,j<L->cur[j]! = (pE l e k)[j]!):
 ∀j,j<L->(cur.setIfInBounds (L-1) (cur[L-1]! ^^^ 128))[j]! = (total l e)[j]!:=by
 intro j hj;have hpl:=pY l e k;rw[<-Bn,<-hk,zI _ _ _ _ (by omega),show l.length+k=L-1 by omega];by_cases h:j=L-1
 ·rw[if_pos h.symm,h,getElem!_set_same _ _ _ (by omega),hT _ (by omega)]
 ·rw[if_neg (by omega),getElem!_set_other _ _ _ _ h,hT _ hj]
theorem v8(o:ByteArray)(d:St)(n m:Nat)(ho:o.size=136*m)(hnm:n<=136*m)(h:∀j,j<136*m->o.data[j]! = cB d j):o.extract 0 n=⟨eF d n⟩:=by
 apply ByteArray.ext;have hd:(o.extract 0 n).data=o.data.extract 0 n:=Xf;have hs:o.data.size=136*m:=ho;rw[hd];refine xJ _ _ n (by rw[Rb,hs];omega) (eE _ _) (fun j hj=>?_);have h1:j<(o.data.extract 0 n).size:=by rw[Rb,hs];omega
 have h2:j<o.data.size:=by omega
 have h3:=h j (by omega);rw[getElem!_pos o.data j h2]at h3;rw[mT _ _ _ hj,<-h3,getElem!_pos (o.data.extract 0 n) j h1,Tl];simp only[P0]
theorem FY(o:ByteArray)(d:St)(m:Nat)(p:Bs)(hp:p.size=136)(hpa:∀j,j<136->p[j]! = byteOf (b9 d m) j)(ho:o.size=136*m)(h:∀j,j<136*m->o.data[j]! = cB d j):
 (o++⟨p⟩).size=136*(m+1)/\∀j,j<136*(m+1)->(o++(⟨p⟩:ByteArray)).data[j]! = cB d j:=by
 have hd:(o++(⟨p⟩:ByteArray)).data=o.data++p:=S4;have hs:o.data.size=136*m:=ho;refine⟨?_,fun j hj=>?_⟩
 ·show(o++(⟨p⟩:ByteArray)).data.size=_;rw[hd,Qg,hp,hs];omega
 ·rw[hd];by_cases h1:j<136*m
  ·have h2:j<o.data.size:=by omega
   have h3:=h j h1;rw[getElem!_pos o.data j h2]at h3;rw[app_front _ _ j h2,h3]
  ·rw[app_back _ _ j (by omega) (by omega),hs,hpa _ (by omega)];unfold cB;rw[show j/136=m by omega,show j%136=j-136*m by omega]
theorem Dl(w:World)(p:Bs)(h:p.size=200):
 ∃sc w',(convert 9 22 (.string ⟨p⟩)).run prog w=.ok (.slice (some ⟨w.heap.size,0,none⟩) 200 sc) w'/\200<=sc/\Holds encB w' w.heap.size 0 p/\Below w.heap.size w w':=by
 obtain⟨v,w',hcv,own,hb,hv⟩:=kH (w:=w) (B:=0) ⟨p⟩ (Rh _);have hps:(RU p).size=200:=h;have hpl:(RU p).data.toList.length=200:=by rw[P5];exact h
 rw[hv]at hcv own;rw[hps]at hcv own;obtain⟨_,_,hle,hH⟩:=own.holds;exact⟨_,_,hcv,by omega,by simpa using hH,hb⟩
theorem zS(d:St):Ue (front d 136)<=Ue (front d 200)/\∀j,j<(front d 136).size->(front d 136)[j]! = (front d 200)[j]!:=by
 refine⟨by rw[aS,aS];omega,fun j hj=>?_⟩;rw[aS]at hj;rw[gV _ _ _ hj,gV _ _ _ (by omega)]
theorem mI(s:ByteArray)(e:UInt8)(n:Nat)(w:World)(hs:s.size<=1048576)(hn:n<=16384):
 Calls prog 122 #[.string s,.int .u8 (ub e),.int .i64 n] w fun r w'=>r=.returned (.string ⟨eF (eW s.data.toList e) n⟩)/\Below w.heap.size w w':=by
 obtain⟨v0,w0,hcv,own0,hb0,hv0⟩:=kH (w:=w) (B:=w.heap.size) s (PX _);rw[hv0]at hcv own0;have hsz0:w.heap.size<=w0.heap.size:=hb0.size;have hX:=holds_one w0 e;have hbx:Below w0.heap.size w0 (w0.alloc (.cells #[.int .u8 (ub e)] 5)):=(Qd _ _).alloc (PX _) _;have hl:s.data.toList.length=s.size:=P5;obtain⟨v1,w1,hap,own1,hb1⟩:=tO (c:=1) (own0.below hbx) hX (by rw[P4];omega) (by rw[hl];simp;omega) 1 rfl;have hbb1:Below w.heap.size w w1:=(hb0.trans (hbx.mono hsz0)).trans hb1;have own1':Own w.heap.size w1 v1 (pE s.data.toList e 0):=own1;clear hv0 own0 hX own1 hb1 hbx;have hmk200:∀w:World,(Rf 22 (.int .i64 200) (.int .i64 200)).run prog w=.ok (.slice (some ⟨w.heap.size,0,none⟩) 200 200) (w.alloc (.cells (madeCells #[.int .u8 0] 200) 5)):=
  run_make_row' (P:=prog) 22 5 (.int .u8 0) 1 slice22 info5 rfl .i64 .i64 200 (by omega) (by omega)
 have HM200:Hid _:=hmk200;clear hmk200;go_enter Tryz.func122,Tryz.ntmps122;go_wp2_with (at_builtin;refine Rj _ rfl _ _ 22 22 rfl _ _ rfl rfl _ _ hap ?_)
 clear hap hcv hb0;obtain⟨h,hh⟩:∃h,s.data.toList.length%136=h:=⟨_,rfl⟩
 have h136:h<136:=by rw[<-hh];exact Rz _ (by decide)
 have Hh:Hid (s.data.toList.length%136=h):=hh;clear hh;go_loopg [7] (135-h) (fun g s7 wr=>∃k,k+g=135-h/\Own w.heap.size wr s7 (pE s.data.toList e k)/\Below w.heap.size w wr)
 case atStart=>exact⟨0,by omega,own1',hbb1⟩
 case round =>
  clear own1' hbb1;obtain⟨k,hk,own,hb⟩:=hrel;have own':=own;obtain⟨g,cap,cur,rfl,hg,hgl,hcs,hlc,hH,hT⟩:=own';have hL:=pY s.data.toList e k;generalize hLL:(pE s.data.toList e k).length=L at *;have hL':L=s.size+1+k:=by rw[hL,hl]
  have HL':Hid (L=s.size+1+k):=hL';have hLb:L<=1048900:=by omega
  have hL0:1<=L:=by omega
  have tm:(L:Int).tmod 136=(L:Int)%136:=RP (by omega);by_cases hlt:k<135-h
  ·have hb2:((L:Int)%136 != 0)=true:=by rw[bne_iff_ne];have:=Hh.out;rw[hl]at this;omega
   have hX:=holds_one wr 0;have hbx:Below wr.heap.size wr (wr.alloc (.cells #[.int .u8 (ub 0)] 5)):=(Qd _ _).alloc (PX _) _;obtain⟨v2,w2,hap,own2,hbb⟩:=tO (c:=1) (own.below hbx) hX (by rw[P4];have:=hb.size;omega) (by rw[hLL];simp;omega) 1 rfl;have own3:Own w.heap.size w2 v2 (pE s.data.toList e (k+1)):=by rw[<-Eh];exact own2
   have hb3:Below w.heap.size w w2:=(hb.trans (hbx.mono hb.size)).trans hbb;clear hL hL' hLL own own2 hX hbb hbx hH hT;go_wp2_with (at_builtin;refine Rj _ rfl _ _ 22 22 rfl _ _ rfl rfl _ _ hap ?_)
   go_roundg (gk-1)
   case measure=>omega
   case rel=>exact⟨k+1,by omega,own3,hb3⟩
  ·have hb2:((L:Int)%136 != 0)=false:=by
    rw[bne_eq_false_iff_eq];have:=Hh.out;rw[hl]at this;omega
   have hk0:k=135-s.data.toList.length%136:=by have:=Hh.out;omega
   obtain⟨x,hx⟩:∃x,cur[L-1]! = x:=⟨_,rfl⟩
   obtain⟨c0,f0⟩:=oO hH (L-1) (by omega) hx;rw[P0]at c0 f0;have hx80:=J1 x;have hTot:=EY s.data.toList e cur L k hk0 hL (by omega) hT;rw[hx]at hTot;have hH2:=Holds.set hH (i:=L-1) (by omega) (x ^^^ 128);rw[P0]at hH2;have htl:(total s.data.toList e).length=L:=by rw[nD];omega
   have hTA:Holds encB (wr.setCell ⟨g,L-1,none⟩ (.int .u8 (ub (x ^^^ 128)))) g 0 (total s.data.toList e).toArray:=
    Holds.front hH2 (by rw[Qw,Qr,htl];omega) (fun j hj=>by rw[lF];exact(hTot j (by simpa[htl]using hj)).symm)
   have hb4:Below w.heap.size w (wr.setCell ⟨g,L-1,none⟩ (.int .u8 (ub (x ^^^ 128)))):=hb.setCell (p:=⟨g,L-1,none⟩) hg _;have hg4:g<(wr.setCell ⟨g,L-1,none⟩ (.int .u8 (ub (x ^^^ 128)))).heap.size:=by rw[VF];exact hgl
   obtain⟨M,hM⟩:∃M,s.data.toList.length/136+1=M:=⟨_,rfl⟩
   have hLM:L=136*M:=by have:=Hh.out;omega
   have HLM:Hid (L=136*M):=hLM;have HM:Hid (s.data.toList.length/136+1=M):=hM;have z1:(0:Int)<=(L:Int)-1:=by omega
   have z2:(L:Int)-1<(L:Int):=by omega
   have z3:((L:Int)-1).toNat=L-1:=by omega
   have hmk:=HM200.out;clear hM hLM hTot hH2 hH hT hx hL hL' hLL own hk0;go_wp2;clear hmk c0 f0 hb2 tm hx80;have hW2:(wr.setCell ⟨g,L-1,none⟩ (.int .u8 (ub (x ^^^ 128)))).heap.size=wr.heap.size:=by rw[VF]
   generalize wr.setCell ⟨g,L-1,none⟩ (.int .u8 (ub (x ^^^ 128)))=W2 at hTA hb4 hg4 hW2⊢;have hS0:Holds encB (W2.alloc (.cells (madeCells #[.int .u8 0] 200) 5)) W2.heap.size 0 (iJ (total s.data.toList e) 0):=Holds.made (enc:=encB) W2 5 200 0;have hb5':Below W2.heap.size W2 (W2.alloc (.cells (madeCells #[.int .u8 0] 200) 5)):=(Qd _ _).alloc (PX _) _;have hs5:W2.heap.size<(W2.alloc (.cells (madeCells #[.int .u8 0] 200) 5)).heap.size:=by simp
   have hTA5:=Holds.below hTA hb5' hg4;have hb5:=hb4.trans (hb5'.mono hb4.size);have hz4:=hb4.size;rw[hW2]at hS0 hs5 hg4 hz4;generalize hSG:wr.heap.size=SG at *;generalize (W2.alloc _)=W3 at hS0 hb5 hs5 hTA5⊢;clear hTA hb4 hb5' hSG hW2;go_loopg [8,9] M (fun g2 s8 s9 wr=>∃(i sg sc:Nat),i+g2=M/\s9=.int .i64 ((136*i:Nat):Int)/\s8=.slice (some ⟨sg,0,none⟩) 200 sc/\200<=sc/\w.heap.size<=sg/\sg≠g/\Holds encB wr sg 0 (iJ (total s.data.toList e) i)/\Holds encB wr g 0 (total s.data.toList e).toArray/\Below w.heap.size w wr)
   case atStart=>exact⟨0,SG,200,by omega,rfl,rfl,PX _,by omega,by omega,hS0,hTA5,hb5⟩
   case round =>
    clear hS0 hTA5 hb5 hs5;obtain⟨i,sg,sc,hi,rfl,rfl,hsc,hsg,hne,hS,hTA,hb⟩:=hrel;have hrs:(iJ (total s.data.toList e) i).size=200:=by
     cases i with
     | zero=>rw[iJ,P8]
     | succ i=>rw[iJ,fH,aS]
    have hgz:g<wr.heap.size:=Holds.lt hTA (by rw[Qr,htl];omega);by_cases hlt:i<M
    ·have hlt':((136*i:Nat):Int)<(L:Int):=by have:=HLM.out;omega
     have hii:136*i+136<=L:=by have:=HLM.out;omega
     generalize hI:136*i=I at *;have HI:Hid (136*i=I):=hI;clear hI;go_wp2;have hD0:Holds encB wr sg 0 (nB (iJ (total s.data.toList e) i) (total s.data.toList e) I 0):=hS;generalize hR:iJ (total s.data.toList e) i=R at *;have HR:Hid (R=iJ (total s.data.toList e) i):=hR.symm;clear hR;go_loopg [10] 136 (fun g3 s10 wq=>∃(k:Nat) (st:Bs),k+g3=136/\s10=.int .i64 k/\Holds encB wq sg 0 st/\Only sg 0 200 wr wq/\Hid (st=nB R (total s.data.toList e) I k))
     case atStart=>exact⟨0,_,rfl,rfl,hD0,Only.refl _ _ _ _,rfl⟩
     case round =>
      clear hD0;obtain⟨k,st,hk,rfl,hSt,hO,HE⟩:=hrel;have hsts:st.size=200:=by rw[HE.out,uA];exact hrs
      have hTq:=Holds.other hTA hO (Ne.symm hne) (by rw[Qr,htl];omega);by_cases hltk:k<136
      ·obtain⟨y,hy⟩:∃y,(total s.data.toList e)[I+k]! = y:=⟨_,rfl⟩
       obtain⟨c0,f0⟩:=oO (x:=y) hTq (I+k) (by rw[Qr,htl];omega) (by rw[lF];exact hy);obtain⟨z,hz⟩:∃z,st[k]! = z:=⟨_,rfl⟩
       obtain⟨c1,f1⟩:=oO hSt k (by omega) hz;rw[P0]at c0 c1 f1;have HY:Hid ((total s.data.toList e)[I+k]! = y):=hy;have HZ:Hid (st[k]! = z):=hz;have k136:(k:Int)<136:=by omega
       have k200:(k:Int)<200:=by omega
       have ik0:(0:Int)<=(I:Int)+(k:Int):=by omega
       have ik1:(I:Int)+(k:Int)<(L:Int):=by omega
       have ik2:((I:Int)+(k:Int)).toNat=I+k:=by omega
       have ik3:QE.wrap ((I:Int)+(k:Int))=(I:Int)+(k:Int):=QI _ (by omega);clear hy hz f0 hTq;go_wp2_with fail
       go_still_tail 14,mixed;go_wp2;go_roundg (gk-1)
       case measure=>omega
       case rel =>
        refine⟨k+1,st.setIfInBounds k (z ^^^ y),by omega,by go_num,?_,?_,?_⟩
        ·have:=Holds.set hSt (i:=k) (by omega) (z ^^^ y);rw[P0]at this;exact Holds.drew this
        ·exact(hO.setCell (o:=k) (by omega) (by omega) _).drew
        ·show _=(nB R (total s.data.toList e) I k).setIfInBounds k ((nB R (total s.data.toList e) I k)[k]! ^^^ (total s.data.toList e)[I+k]!);rw[<-HE.out,HZ.out,HY.out]
      ·have hk136:k=136:=by omega
       subst hk136;have hgz2:=Holds.lt hSt (by omega);have kc:=conv_str prog 22 9 5 slice22 int5 str9 _ sg 0 200 sc st hSt hsts;have hbq:=hb.trans (hO.below hb.size hsg);obtain⟨PB,hPB⟩:∃x,fH st=x:=⟨_,rfl⟩
       have hps:PB.size=200:=by rw[<-hPB,fH,aS]
       have HE2:Hid (PB=iJ (total s.data.toList e) (i+1)):=by
        show PB=fH (nB (iJ (total s.data.toList e) i) (total s.data.toList e) (136*i) 136);rw[<-HR.out,HI.out,<-HE.out,hPB]
       have HPB:Hid (PB=fH st):=hPB.symm;clear hPB HE;go_wp2_with fail
       refine(kU ⟨st⟩ _ hsts).mono ?_;rintro r w5 ⟨rfl,hb5⟩;have e5:(RU (fH (RU st).data))=RU PB:=congrArg RU HPB.out.symm;rw[e5];clear e5;obtain⟨sc6,w6,hcv6,hle6,hH6,hb6⟩:=Dl w5 PB hps;have hgq:=Holds.lt hTq (by rw[Qr,htl];omega);have hg5:g<w5.heap.size:=PY hgq hb5.size;have hT6:=Holds.below (Holds.below hTq hb5 hgq) hb6 hg5;have hb8:Below w.heap.size w w6:=(hbq.trans (hb5.mono hbq.size)).trans (hb6.mono (by have:=hb5.size;have:=hbq.size;omega));rw[HE2.out]at hH6;have hz5:w.heap.size<=w5.heap.size:=by have:=hb5.size;have:=hbq.size;omega
       go_wp2;go_roundg (M-(i+1))
       case measure=>omega
       case rel=>exact⟨i+1,w5.heap.size,sc6,by omega,by rw[<-HI.out];go_num,rfl,hle6,hz5,by omega,hH6,hT6,hb8⟩
    ·have hiM:i=M:=by omega
     have hge:(L:Int)<=((136*i:Nat):Int):=by have:=HLM.out;omega
     obtain⟨d,hd⟩:∃d,eW s.data.toList e=d:=⟨_,rfl⟩
     obtain⟨F,hF⟩:∃F,front (b9 d 0) 200=F:=⟨_,rfl⟩
     have hSf:Holds encB wr sg 0 F:=by
      have:=yM s.data.toList e;rw[HM.out,<-hiM,hd]at this;rw[this]at hS;rw[<-hF,b9];exact hS
     have hab:d.size=25:=by rw[<-hd];exact lM s.data.toList e
     have HDD:Hid (d=eW s.data.toList e):=hd.symm;have HFF:Hid (F=front (b9 d 0) 200):=hF.symm;clear hS hrs hTA hgz hiM hlt hi hd hF;generalize hI:136*i=I at *;clear hI;have hdec:decide ((I:Int)<(L:Int))=false:=decide_eq_false (by omega);have hdec2:decide (I<L)=false:=decide_eq_false (by omega);go_wp2;go_loopg [8,11] (n+136) (fun g4 s8 s11 wq=>∃(m sg sc:Nat) (o:ByteArray) (Fm:Bs),136*m+g4=n+136/\1<=g4/\s11=.string o/\o.size=136*m/\s8=.slice (some ⟨sg,0,none⟩) 200 sc/\200<=sc/\Holds encB wq sg 0 Fm/\Fm.size=200/\Below w.heap.size w wq/\Hid (Fm=front (b9 d m) 200)/\Hid (∀j,j<136*m->o.data[j]! = cB d j))
     case atStart=>exact⟨0,sg,sc,Tg,F,by omega,by omega,rfl,rfl,rfl,hsc,hSf,by rw[HFF.out,aS],hb,HFF,fun j hj=>by omega⟩
     case round =>
      clear hSf HFF hsc;obtain⟨m,sg,sc,o,Fm,hg4,hg41,rfl,ho,rfl,hsc,hF,hFs,hb,HF,HO⟩:=hrel;have Ho:Hid (o.size=136*m):=ho;have hob:o.size<=n+136:=by omega
      by_cases hlt:o.size<n
      ·have hlt':(o.size:Int)<(n:Int):=by omega
       obtain⟨Q,hQ⟩:∃Q,front (b9 d m) 136=Q:=⟨_,rfl⟩
       have hQs:Q.size=136:=by rw[<-hQ,aS]
       have hQa:∀j,j<136->Q[j]! = byteOf (b9 d m) j:=fun j hj=>by rw[<-hQ,gV _ _ _ hj]
       have hHQ:Holds encB wr sg 0 Q:=by
        have h1:=zS (b9 d m);rw[<-HF.out,hQ]at h1;exact Holds.front hF h1.1 h1.2
       have hnx:=FY o d m Q hQs hQa ho HO;have HNX:Hid ((o++⟨Q⟩).size=136*(m+1)/\∀j,j<136*(m+1)->(o++(⟨Q⟩:ByteArray)).data[j]! = cB d j):=hnx;obtain⟨PB,hPB⟩:∃x,fH Fm=x:=⟨_,rfl⟩
       have hps:PB.size=200:=by rw[<-hPB,fH,aS]
       have HN:Hid (PB=front (b9 d (m+1)) 200):=by
        show PB=front (perm (b9 d m)) 200;rw[<-hPB,HF.out,yX _ (cH d hab m)]
       have HPB:Hid (PB=fH Fm):=hPB.symm;have kc1:=conv_str prog 22 9 5 slice22 int5 str9 wr sg 0 136 sc Q hHQ hQs;have kc2:=conv_str prog 22 9 5 slice22 int5 str9 wr sg 0 200 sc Fm hF hFs;have hsc0:(sc=0)=False:=eq_false (by omega);have hsc1:(136:Int)<=(sc:Int):=by omega
       clear hQ hQa hHQ hnx hPB HO ho;go_wp2_with fail
       refine(kU ⟨Fm⟩ _ hFs).mono ?_;rintro r w5 ⟨rfl,hb5⟩;have e5:(RU (fH (RU Fm).data))=RU PB:=congrArg RU HPB.out.symm;rw[e5];clear e5;obtain⟨sc6,w6,hcv6,hle6,hH6,hb6⟩:=Dl w5 PB hps;have hb8:Below w.heap.size w w6:=(hb.trans (hb5.mono hb.size)).trans (hb6.mono (by have:=hb5.size;have:=hb.size;omega));go_wp2;go_roundg (gk-136)
       case measure=>have:=Ho.out;omega
       case rel=>exact⟨m+1,w5.heap.size,sc6,o++(RU Q),PB,by have:=Ho.out;omega,by have:=Ho.out;omega,rfl,HNX.out.1,rfl,hle6,hH6,hps,hb8,HN,HNX.out.2⟩
      ·have hge:(n:Int)<=(o.size:Int):=by omega
       have hex:=v8 o d n m ho (by omega) HO;have HEX:Hid (o.extract 0 n=⟨eF d n⟩):=hex;clear hex ho HO;go_wp2;go_ret;rw[<-HDD.out,<-HEX.out];exact⟨rfl,hb⟩
end SP
namespace SP
open Go.RowKit Go.Sort Go.Deep
end SP
namespace SP
open Go.RowKit Go.Sort Go.Deep
theorem yN(s:ByteArray)(w:World)(hs:s.size<=1048576):
 Calls prog 124 #[.string s] w fun r w'=>r=.returned (.string ⟨vC s.data.toList⟩)/\Below w.heap.size w w':=by
 go_enter Tryz.func124,Tryz.ntmps124;go_wp2_with fail
 refine(mI s 6 32 _ hs (by decide)).mono ?_;rintro r w1 ⟨rfl,hb⟩;rw[<-zQ];go_wp2;go_ret;exact⟨rfl,hb⟩
theorem mH(s:ByteArray)(n:Nat)(w:World)(hs:s.size<=1048576)(hn:n<=16384):
 Calls prog 87 #[.string s,.int .i64 n] w fun r w'=>r=.returned (.string ⟨gB s.data.toList n⟩)/\Below w.heap.size w w':=by
 go_enter Tryz.func87,Tryz.ntmps87;go_wp2_with fail
 refine(mI s 31 n _ hs hn).mono ?_;rintro r w1 ⟨rfl,hb⟩;go_wp2;go_ret;exact⟨rfl,hb⟩
end SP
namespace SP
open Go.RowKit Go.Sort Go.Deep
theorem rQ(label:ByteArray)(pa:Option Addr)(pcap:Nat)(ps:List ByteArray)(w:World)(hlab:label.size<=1048576)(hpl:ps.length<=1048576)
 (hP:ps.length=0\/∃pb po,pa=some ⟨pb,po,none⟩/\∀j,j<ps.length->w.cell? ⟨pb,po+j,none⟩=some (.string ps[j]!)) (hsz:∀j,j<ps.length->(ps[j]!).size<=1048576)
 (htot:(bR label.data.toList (ps.map fun s=>s.data.toList)).length<=1048576) :
 Calls prog 88 #[.string label,.slice pa ps.length pcap] w fun e w'=>e=.returned (.string ⟨gA label.data.toList (ps.map fun s=>s.data.toList)⟩)/\Below w.heap.size w w':=by
 obtain⟨n,hn⟩:∃n,ps.length=n:=⟨_,rfl⟩
 rw[hn];have Hn:Hid (ps.length=n):=hn;have hn20:n<=1048576:=by omega
 clear hn;go_enter Tryz.func88,Tryz.ntmps88;go_wp2_with fail
 refine(vM label _ hlab).mono ?_;rintro e w1 ⟨o1,rfl,ho1,hb1⟩;go_wp2;go_loopg [5,6] n (fun g s5 s6 wr=>∃(k:Nat) (o:ByteArray),k+g=n/\s6=.int .i64 k/\s5=.string o/\Below w.heap.size w wr/\Hid (o.data.toList=bR label.data.toList ((ps.map fun s=>s.data.toList).take k)))
 case atStart =>
  refine⟨0,o1,by omega,rfl,rfl,hb1,?_⟩;rw[TE];unfold bR;rw[We,SK];exact ho1
 case round =>
  clear ho1 hb1;obtain⟨k,o,hk,rfl,rfl,hb,HE⟩:=hrel;by_cases hlt:k<n
  ·obtain⟨pb,po,rfl,hPj⟩:∃pb po,pa=some ⟨pb,po,none⟩/\∀j,j<ps.length->w.cell? ⟨pb,po+j,none⟩=some (.string ps[j]!):=by
    rcases hP with h|h
    ·have:=Hn.out;omega
    ·exact h
   have hvc:=hPj k (by have:=Hn.out;omega);have hszk:=hsz k (by have:=Hn.out;omega);obtain⟨s,hs⟩:∃s,ps[k]! = s:=⟨_,rfl⟩
   rw[hs]at hvc hszk;have HS:Hid (s=ps[k]!):=hs.symm;have hvc':wr.cell? ⟨pb,po+k,none⟩=some (.string s):=by rw[hb.cell (p:=⟨pb,po+k,none⟩) (Rm _ _ hvc)];exact hvc
   have l1:(k:Int)<(n:Int):=by omega
   clear hs hvc hPj;go_wp2_with fail
   refine(vM s _ hszk).mono ?_;rintro e w2 ⟨o2,rfl,ho2,hb2⟩;have HO2:Hid (o2.data.toList=eI s.data.toList):=ho2;have hos:o.size<=1048576:=by
    have h1:o.data.toList.length=o.size:=P5;rw[HE.out]at h1;have:=wY label.data.toList (ps.map fun s=>s.data.toList) k;omega
   have ho2s:o2.size<=1048580:=by
    have h1:o2.data.toList.length=o2.size:=P5;have h2:s.data.toList.length=s.size:=P5;rw[ho2,jB]at h1;omega
   clear ho2;go_wp2;go_roundg (gk-1)
   case measure=>omega
   case rel =>
    refine⟨k+1,o++o2,by omega,by go_num,rfl,hb.trans (hb2.mono hb.size),?_⟩;have hkl:k<(ps.map fun s=>s.data.toList).length:=by rw[Qi];have:=Hn.out;omega
    have hkl2:k<ps.length:=by have:=Hn.out;omega
    rw[kO _ k hkl,oH,S4,Tu,HE.out,HO2.out,getElem!_pos (ps.map fun s=>s.data.toList) k hkl,Sg,HS.out,getElem!_pos ps k hkl2];rfl
  ·have l1:(n:Int)<=(k:Int):=by omega
   have HE2:Hid (o.data.toList=bR label.data.toList (ps.map fun s=>s.data.toList)):=by
    have e1:(ps.map fun s=>s.data.toList).take k=ps.map fun s=>s.data.toList:=T9 (by rw[Qi];have:=Hn.out;omega)
    rw[e1]at HE;exact HE
   have hos:o.size<=1048576:=by
    have h1:o.data.toList.length=o.size:=P5;rw[HE2.out]at h1;omega
   clear HE;go_wp2_with fail
   refine(yN o _ hos).mono ?_;rintro e w3 ⟨rfl,hb3⟩;rw[HE2.out];go_wp2;go_ret;exact⟨rfl,hb.trans (hb3.mono hb.size)⟩
end SP
end Go.Proofs.YtbceebahamkmdaaGreat
