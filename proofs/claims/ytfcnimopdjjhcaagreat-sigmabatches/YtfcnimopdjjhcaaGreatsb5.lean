import Derived.Deep.AppendSrc
import Derived.Lib.AppendZeros
import Derived.Lib.ConvBytes
import Derived.BigQuiet
import Derived.Deep.LoopGhost
import Derived.Deep.RegionHeld3
import Derived.Lib.LazyBuf
import Derived.RangeFuncNested
import Derived.RangeFuncBound
import Derived.RangeFuncCalls
import Derived.RangeFuncLeaves
import Derived.Shelf.Abstract
import Derived.Shelf.RegionOpen
import Derived.WalkKit
import Derived.OwnWalkIn
import Derived.TacticsInMore
import Derived.LoopNIn
import Derived.LoopIn
import Derived.Deep.RegionWith
import Derived.Deep.CutRange
import Derived.Deep.DeepCutAuto
import Derived.Deep.OwnRows
import Derived.Test.YtfcnimopdjjhcaaGreatsb4
set_option linter.unusedVariables false
set_option linter.constructorNameAsVariable false
set_option linter.unusedSimpArgs false
set_option maxRecDepth 1000000
set_option maxHeartbeats 4000000
namespace Go.Proofs.YtfcnimopdjjhcaaGreat
open _root_.Array renaming append_assoc->Wj,ext->Vf,getElem?_append_left->TR,getElem?_append_right->Vl,getElem?_eq_getElem->Qo,getElem_extract->Tu,getElem_replicate->Q6,getElem_toList->Ry,length_toList->P8,map->XO,map_append->WC,map_replicate->UG,replicate->PX,size->Vr,size_append->QF,size_extract->QQ,size_replicate->P7,toList_append->TI
open _root_.ByteArray renaming data_append->Ue,data_extract->UL,empty->UK,ext->XN,mk->RX
open _root_.Fin renaming ext->Ud,ofNat->SA,val_mul->S9
open _root_.Go.Addr renaming add->UZ
open _root_.Go.Builtin renaming append_->QS,copy_->Wo,firstCells->XS,growBy->XR,nextslicecap->Ui,zeroCells->Q9
open _root_.Go.Calls renaming mono->Wh
open _root_.Go.Exit renaming inBlock->So
open _root_.Go.Instr renaming makeSlice->Rm
open _root_.Go.IntKind renaming i64->QA,u64->Qs
open _root_.Go.IntWalk renaming i64_in->QG
open _root_.Go.Lib renaming bytesCells->S8,bytesWorld->Ua,bytesWorld_size->UY,wpList_append_run->QC
open _root_.Go.Question renaming cut->Wn
open _root_.Go.RowKit.Below renaming refl->Qd
open _root_.Go.Src renaming ofSlice->XL
open _root_.Go.Value renaming int->QT
open _root_.Go.World renaming block_lt_of_cell?->Rx,cell?_alloc_new->Qj,cell?_of_block->Qt,freeze->Up,frozen?_alloc_new->Ri,frozen?_of_block->Ro,size_alloc->Qa,size_setCell->Tg,there_setCells->TC
open _root_.Int renaming tmod_eq_emod_of_nonneg->Sy
open _root_.List renaming append_assoc->UX,append_nil->SB,cons_append->Vj,drop_succ_cons->Wb,drop_zero->Xk,flatMap_append->TP,flatMap_nil->WL,getElem?_eq_some_iff->Qe,getElem_map->Sj,length->XC,length_append->PY,length_cons->Qw,length_map->Qb,length_replicate->Rt,mem_map->QZ,mem_range->Rh,not_mem_nil->P4,size_toArray->QB,take_of_length_le->Uv,take_succ_cons->V8,take_zero->UC
open _root_.Nat renaming add_assoc->RO,add_mod->T9,add_mul->SK,add_sub_cancel_left->Tt,add_zero->RD,le_add_right->Vt,le_refl->PQ,le_trans->Qn,lt_of_lt_of_le->PS,mod_eq_of_lt->Qf,mod_lt->RN,mul_comm->Qr,mul_mod->RP,mul_one->Se,ne_of_gt->QW,pos_of_neZero->Vg,pow_two->XG,zero_add->PU,zero_le->SJ
open _root_.Option renaming isSome_iff_exists->Qx,map_eq_some_iff->PV,map_some->Ty,some->Qh
open _root_.Or renaming inl->Ql,inr->Qc
open _root_.UInt8 renaming ofNat->P9,toNat_ofNat'->UN
open Go.Proofs.Tryz (prog)
namespace SP
open Go.RowKit Go.Sort Go.Deep
theorem kW{w:World}{g l cap r k n c:Nat}{cur bs:Bs}(hC:Holds encB w g 0 cur)(hs:cur.size=cap)(hB:Holds encB w r 0 bs)(hk:bs.size=n)(hk2:k=n)(hroom:l+n<=cap)(ty:TypeId):
 (QS #[28,28] ty #[.slice (some ⟨g,0,none⟩) l cap,.slice (some ⟨r,0,none⟩) k c]).run prog w=.ok (.slice (some ⟨g,0,none⟩) (l+n) cap) (w.setCells g l (bs.toList.map encB)):=by
 subst hk2;obtain⟨i,hi,_,hsz,_⟩:=info_parts info5;have hlen:(bs.toList.map encB).length=k:=by rw[Qb,P8,hk]
 have hsrc:Src prog i.size 28 (.slice (some ⟨r,0,none⟩) k c) k (bs.toList.map encB) w:=by
  rw[hsz];refine XL w slice22 ⟨r,0,none⟩ k c _ (by rw[hlen,Se]) (fun j v hj=>?_) (fun v hv=>?_)
  ·obtain⟨h1,h2⟩:=Qe.1 hj;rw[hlen]at h1;have hc:=(hB j (by omega)).1;rw[getElem!_pos bs j (by omega)]at hc;rw[Sj,Ry]at h2;have e1:(⟨r,0,none⟩:Addr).add j=⟨r,0+j,none⟩:=by
    unfold UZ;by_cases h0:j=0
    ·subst h0;rw[if_pos rfl]
    ·rw[if_neg h0]
   rw[e1,hc,h2]
  ·obtain⟨x,_,rfl⟩:=QZ.1 hv;rfl
 have h:=run_append_room_src (P:=prog) w 28 28 ty 5 i slice22 hi g 0 l cap (.slice (some ⟨r,0,none⟩) k c) k _ hsrc hroom
  (fun j hj=>by
   rw[hlen]at hj;rw[hsz,Se,RO,(hC (l+j) (by omega)).1];rfl)
  (fun j hj=>by
   rw[hlen]at hj;rw[hsz,Se,RO];exact(hC (l+j) (by omega)).2)
 rw[hsz,Se,PU]at h;exact h
theorem Only.with_new{b o n g m p:Nat}{w w1 w2:World}(h:Only b o n w w1)(k:Only g p m w1 w2)(hg:w.heap.size<=g)(hb:b<w.heap.size):Only b o n w w2:=by
 have hs:=h.size;have e:=k.block b (by omega) (by omega);exact⟨k.os.trans h.os,k.tape.trans h.tape,k.output.trans h.output,Qn h.size k.size,
  fun j hj hn=>(k.block j (by omega) (by omega)).trans (h.block j hj hn),
  fun q hq=>(Qt (w:=w1) (a:=⟨b,q,none⟩) e).trans (h.cell q hq),fun q=>(Ro (w:=w1) (a:=⟨b,q,none⟩) e).trans (h.froz q)⟩
theorem AX(d:St)(m:Nat)(h:¬m=0):perm (bX d (m-1))=bX d m:=by
 obtain⟨k,rfl⟩:∃k,m=k+1:=⟨m-1,by omega⟩
 rw[Nat.add_sub_cancel,bX]
theorem xW(d:St)(m:Nat)(cur:Bs)(hc:136*m+136<=cur.size)(h:∀j,j<136*m->cur[j]! = cA d j):∀j,j<136*(m+1)->(splice cur (136*m) (front (bX d m) 136).toList)[j]! = cA d j:=by
 intro j hj;have hl:(front (bX d m) 136).toList.length=136:=by rw[P8,aP]
 rw[eH _ _ _ _ (by rw[hl];exact hc) (by omega),hl];by_cases h1:j<136*m
 ·rw[if_neg (by omega),h j h1]
 ·rw[if_pos (by omega),getElem!_pos _ (j-136*m) (by rw[hl];omega),Ry,<-getElem!_pos (front (bX d m) 136) (j-136*m) (by rw[aP];omega),f8 _ _ _ (by omega)];unfold cA;rw[show j/136=m by omega,show j%136=j-136*m by omega]
theorem GR(b:Nat)(d:St)(n:Nat)(w:World)(h25:d.size=25)(hD:Holds enc w b 0 d)(hn:n<=16384):
 Calls prog 133 #[.pointer (some ⟨b,0,none⟩),.int .i64 n] w fun e w'=>e=.returned (.slice (some ⟨w.heap.size,0,none⟩) n n)/\Only b 0 25 w w'/\Holds encB w' w.heap.size 0 (dY d n):=by
 have hb:=Holds.lt hD (by omega);obtain⟨i,hi,hz0,hsz,hby⟩:=info_parts info5;obtain⟨cp,hcp⟩:∃c,n+136=c:=⟨_,rfl⟩
 have hmk:∀w:World,(Rm 28 (.int .i64 0) (.int .i64 ((n:Int)+136))).run prog w=.ok (.slice (some ⟨w.heap.size,0,none⟩) 0 cp) (w.alloc (.cells (madeCells #[.int .u8 0] cp) 5)):=by
  intro w;have h:=run_make (P:=prog) w 28 5 i (.int .u8 0) slice22 hi hz0 .i64 .i64 0 ((n:Int)+136) (by omega) (by omega) (by rw[hby];omega) (by omega);rw[hsz,Se,show((n:Int)+136).toNat=cp by omega]at h;exact h
 have hC0:Holds encB (w.alloc (.cells (madeCells #[.int .u8 0] cp) 5)) w.heap.size 0 (PX cp 0):=Holds.made (enc:=encB) w 5 cp 0;have hO0:Only b 0 25 w (w.alloc (.cells (madeCells #[.int .u8 0] cp) 5)):=(Only.refl _ _ _ _).alloc hb _;have hD0:=Holds.below hD ((Qd w.heap.size w).alloc (PQ _) (.cells (madeCells #[.int .u8 0] cp) 5)) hb;have hs0:w.heap.size<(w.alloc (.cells (madeCells #[.int .u8 0] cp) 5)).heap.size:=by simp
 clear hi hz0 hsz hby;have Hcp:Hid (n+136=cp):=hcp;have hcl:n+136<=cp:=by omega
 have hcg:cp<=n+136:=by omega
 clear hcp;go_enter Tryz.func133,Tryz.ntmps133;go_wp2;generalize w.alloc _=W1 at hC0 hO0 hD0 hs0⊢;clear hmk;go_loopg [5] cp (fun g s5 wr=>∃(m l:Nat) (cur:Bs),Hid (l=136*m)/\l+g=cp/\1<=g/\s5=.slice (some ⟨w.heap.size,0,none⟩) l cp/\Holds encB wr w.heap.size 0 cur/\cur.size=cp/\Holds enc wr b 0 (bX d (m-1))/\Only b 0 25 w wr/\w.heap.size<wr.heap.size/\Hid (∀j,j<136*m->cur[j]! = cA d j))
 case atStart=>exact⟨0,0,_,rfl,by omega,by have:=Hcp.out;omega,rfl,hC0,by rw[P7],hD0,hO0,hs0,fun j hj=>by omega⟩
 case round =>
  clear hC0 hO0 hD0 hs0;obtain⟨m,l,cur,Hl,hg,hg1,rfl,hC,hcs,hDm,hO,hs,HE⟩:=hrel;have hps:=cF d h25 (m-1);by_cases hlt:l<n
  ·have hlt':(l:Int)<(n:Int):=by omega
   have HN:Hid (∀j,j<136*(m+1)->(splice cur l (front (bX d m) 136).toList)[j]! = cA d j):=by
    rw[Hl.out];exact xW d m cur (by rw[<-Hl.out];omega) HE
   by_cases hm0:m=0
   ·have hz0:¬(0:Int)<(l:Int):=by have:=Hl.out;omega
    have hDm0:Holds enc wr b 0 (bX d m):=by rw[hm0]at hDm⊢;exact hDm
    have Hm0:Hid (m=0):=hm0;clear hm0 hDm HE;go_wp2_with fail
    refine(oW b 0 136 _ _ (cF d h25 m) hDm0 (by decide)).mono ?_;rintro e w2 ⟨rfl,hb2,hF⟩;have hC2:=Holds.below hC hb2 (Holds.lt hC (by omega));have hD2:=Holds.below hDm0 hb2 (Holds.lt hDm0 (by rw[cF d h25];decide));have hap:=kW (l:=l) (k:=136) (n:=136) (c:=136) hC2 hcs hF (aP _ _) rfl (by omega) 28;have hC3:=d5 hC2 l (front (bX d m) 136).toList (by rw[P8,aP];omega);rw[PU]at hC3;have hO2:Only b 0 25 w w2:=hO.trans (Only.of_below hb2 rfl (Holds.lt hDm0 (by rw[cF d h25];decide)));have hOn:Only w.heap.size 0 cp w2 (w2.setCells w.heap.size l ((front (bX d m) 136).toList.map encB)):=(Only.refl _ _ _ _).setCells _ _ (by omega) (by rw[Qb,P8,aP];omega);have hO3:=hO2.with_new hOn (PQ _) hb;have hD3:=Holds.other hD2 hOn (by omega) (by rw[cF d h25];decide);have hs3:w.heap.size<(w2.setCells w.heap.size l ((front (bX d m) 136).toList.map encB)).heap.size:=PS (Holds.lt hC2 (by omega)) hOn.size;generalize w2.setCells w.heap.size l ((front (bX d m) 136).toList.map encB)=W3 at hap hC3 hO3 hD3 hs3;have HAP:Hid _:=hap;clear hC2 hD2 hF hb2 hOn hO2 hap;go_wp2_with (at_builtin;refine QC _ rfl _ _ 28 28 rfl _ _ rfl rfl _ _ HAP.out ?_)
    go_roundg (gk-136)
    case measure=>omega
    case rel =>
     exact⟨m+1,l+136,_,by have:=Hl.out;show _=_;omega,by omega,by omega,rfl,hC3,by rw[cB,hcs],hD3,hO3,hs3,HN⟩
   ·have hpos:(0:Int)<(l:Int):=by have:=Hl.out;omega
    clear HE;go_wp2_with fail
    refine(pE b 0 _ _ hps hDm).mono ?_;rintro e w1 ⟨rfl,hO1,hD1⟩;rw[AX d m hm0]at hD1;have hC1:=Holds.other hC hO1 (by omega) (by omega);have hO1':=hO.trans hO1;go_wp2_with fail
    refine(oW b 0 136 _ _ (cF d h25 m) hD1 (by decide)).mono ?_;rintro e w2 ⟨rfl,hb2,hF⟩;have hC2:=Holds.below hC1 hb2 (Holds.lt hC1 (by omega));have hD2:=Holds.below hD1 hb2 (Holds.lt hD1 (by rw[cF d h25];decide));have hap:=kW (l:=l) (k:=136) (n:=136) (c:=136) hC2 hcs hF (aP _ _) rfl (by omega) 28;have hC3:=d5 hC2 l (front (bX d m) 136).toList (by rw[P8,aP];omega);rw[PU]at hC3;have hO2:Only b 0 25 w w2:=hO1'.trans (Only.of_below hb2 rfl (Holds.lt hD1 (by rw[cF d h25];decide)));have hOn:Only w.heap.size 0 cp w2 (w2.setCells w.heap.size l ((front (bX d m) 136).toList.map encB)):=(Only.refl _ _ _ _).setCells _ _ (by omega) (by rw[Qb,P8,aP];omega);have hO3:=hO2.with_new hOn (PQ _) hb;have hD3:=Holds.other hD2 hOn (by omega) (by rw[cF d h25];decide);have hs3:w.heap.size<(w2.setCells w.heap.size l ((front (bX d m) 136).toList.map encB)).heap.size:=PS (Holds.lt hC2 (by omega)) hOn.size;generalize w2.setCells w.heap.size l ((front (bX d m) 136).toList.map encB)=W3 at hap hC3 hO3 hD3 hs3;have HAP:Hid _:=hap;clear hC2 hD2 hF hb2 hOn hO2 hap;go_wp2_with (at_builtin;refine QC _ rfl _ _ 28 28 rfl _ _ rfl rfl _ _ HAP.out ?_)
    go_roundg (gk-136)
    case measure=>omega
    case rel =>
     exact⟨m+1,l+136,_,by have:=Hl.out;show _=_;omega,by omega,by omega,rfl,hC3,by rw[cB,hcs],hD3,hO3,hs3,HN⟩
  ·have hge:(n:Int)<=(l:Int):=by omega
   have hle:n<=cp:=by omega
   have hle':(n:Int)<=(cp:Int):=by omega
   go_wp2;go_ret;refine⟨rfl,hO,fun j hj=>?_⟩;rw[dX]at hj;have:=hC j (by omega);rw[HE.out j (by have:=Hl.out;omega)]at this;rw[l8 d n j hj];exact this
end SP
namespace SP
open Go.RowKit Go.Sort Go.Deep
def dD:Array Value:=PX 25 (.int .u64 0)++PX 136 (.int .u8 0)++#[.int .i64 0]
theorem EZ:∀w:World,(zeroValue 159).run prog w=.ok (.agg dD) w:=fun _=>by kernel_rfl
theorem Fy(j:Nat)(hj:j<25):dD[j]? = some (.int .u64 0):=by
 have h1:j<(PX 25 (QT .u64 0)).size:=by rw[P7];exact hj
 unfold dD;rw[Wj,TR h1,Qo h1,Q6]
theorem Fw(j:Nat)(hj:j<136):dD[25+j]? = some (.int .u8 0):=by
 have h1:j<(PX 136 (QT .u8 0)).size:=by rw[P7];exact hj
 unfold dD;rw[Wj,Vl (by rw[P7];omega),P7,Tt,TR h1,Qo h1,Q6]
theorem Fx:dD[161]? = some (.int .i64 0):=by
 unfold dD;rw[Vl (by rw[QF,P7,P7];decide),QF,P7,P7];rfl
theorem C3(w:World)(t:TypeId):HSp (w.alloc (.cells dD t)) w.heap.size S0:=by
 refine⟨fun j hj=>?_,fun j hj=>?_,?_,?_⟩
 ·have hj':j<25:=by simpa[S0,bT]using hj
  rw[Qj,Ri,PU,Fy j hj'];refine⟨?_,rfl⟩;have e:S0.d[j]! = 0:=fK j hj';rw[e];rfl
 ·have hj':j<136:=by simpa[S0]using hj
  rw[Qj,Ri,Fw j hj'];refine⟨?_,rfl⟩;have e:S0.p[j]! = 0:=rep_at 136 j hj';rw[e];rfl
 ·rw[Qj,Fx];rfl
 ·rw[Ri]
theorem tG(a:Option Addr)(sb so len cap n:Nat)(bs:Bs)(w:World)(hn:n<=16384)(hl:bs.size=len)(hcap:len<=cap)(hbig:len<=1099511627776)(hsrc:len=0\/(a=some ⟨sb,so,none⟩/\Holds encB w sb so bs)):
 Calls prog 85 #[.slice a len cap,.int .i64 n] w fun e w'=>∃r,e=.returned (.tuple #[.slice (some ⟨r,0,none⟩) n n,.int .i64 0])/\w.heap.size<=r/\Below w.heap.size w w'/\Holds encB w' r 0 (jR bs.toList n):=by
 have hS0:=C3 w 159;have hb0:Below w.heap.size w (w.alloc (.cells dD 159)):=(Qd _ _).alloc (PQ _) _;have hs0:w.heap.size<(w.alloc (.cells dD 159)).heap.size:=by simp
 have hsrc':len=0\/(a=some ⟨sb,so,none⟩/\sb≠w.heap.size/\Holds encB (w.alloc (.cells dD 159)) sb so bs):=by
  by_cases h0:len=0
  ·exact Ql h0
  ·rcases hsrc with h|⟨h1,h2⟩
   ·exact Ql h
   ·have hlt:=Holds.lt h2 (by omega);exact Qc ⟨h1,by omega,Holds.below h2 hb0 hlt⟩
 have d0:decide ((n:Int)<0)=false:=decide_eq_false (by omega);have d1:¬(16384:Int)<(n:Int):=by omega
 have zv:=EZ;go_enter Tryz.func85,Tryz.ntmps85;go_wp2_with fail
 generalize w.alloc (.cells dD 159)=W1 at hS0 hb0 hs0 hsrc'⊢;refine(take_any w.heap.size S0 a sb so len cap bs W1 nT hS0 hl hcap hbig hsrc').mono ?_;rintro e w1 ⟨rfl,hO1,hS1⟩;go_wp2_with fail
 refine(Dg w.heap.size (cQ S0 bs.toList) 31 w1 (dU nT _) hS1).mono ?_;rintro e w2 ⟨rfl,hO2,hS2⟩;have hD2:Holds enc w2 w.heap.size 0 (eJ bs.toList 31):=hS2.d;clear hS2;go_wp2_with fail
 refine(GR w.heap.size _ n _ (kY _ _) hD2 hn).mono ?_;rintro e w3 ⟨rfl,hO3,hF⟩;go_wp2
 go_ret2
 have s1:=hO1.size;have s2:=hO2.size;exact⟨w2.heap.size,rfl,by omega,(hb0.trans ((hO1.trans hO2).below (by omega) (PQ _))).trans (hO3.below (by omega) (PQ _)),hF⟩
end SP
namespace SP
open Go.RowKit Go.Sort Go.Deep
def Own(B:Nat)(w:World)(v:Value)(T:List UInt8):Prop:=
 ∃g cap cur,v=.slice (some ⟨g,0,none⟩) T.length cap/\B<=g/\g<w.heap.size/\Vr cur=cap/\T.length<=cap/\Holds encB w g 0 cur/\∀j,j<T.length->cur[j]! = T[j]!
theorem Holds.front{α:Type}[Inhabited α]{f:α->Value}{w:World}{b o:Nat}{d e:Array α}(h:Holds f w b o d)(hs:e.size<=d.size)(he:∀j,j<e.size->e[j]! = d[j]!):Holds f w b o e:=by
 intro j hj;rw[he j hj];exact h j (by omega)
theorem kQ(T:List UInt8)(j:Nat):T.toArray[j]! = T[j]!:=by
 by_cases h:j<T.length
 ·rw[getElem!_pos T.toArray j (by simpa using h),getElem!_pos T j h];simp
 ·rw[getElem!_neg T.toArray j (by simpa using h),getElem!_neg T j h]
theorem rW(a b:List UInt8)(j:Nat)(h:j<a.length):(a++b)[j]! = a[j]!:=by
 rw[getElem!_pos (a++b) j (by rw[PY];omega),getElem!_pos a j h,List.getElem_append_left h]
theorem lV(a b:List UInt8)(j:Nat)(h:a.length<=j)(h2:j<a.length+b.length):(a++b)[j]! = b[j-a.length]!:=by
 rw[getElem!_pos (a++b) j (by rw[PY];omega),getElem!_pos b (j-a.length) (by omega),List.getElem_append_right h]
variable {B:Nat}{w w1:World}{v:Value}{T:List UInt8}
theorem Own.holds{g cap n:Nat}(h:Own B w (.slice (some ⟨g,0,none⟩) n cap) T):B<=g/\n=T.length/\T.length<=cap/\Holds encB w g 0 T.toArray:=by
 obtain⟨g',cap',cur,hv,hg,_,hs,hl,hH,hT⟩:=h;injection hv with e1 e2 e3
 injection e1 with e1
 injection e1 with e1 _ _
 subst e1 e3;exact⟨hg,e2,hl,Holds.front hH (by simp;omega) (fun j hj=>by rw[kQ];exact(hT j (by simpa using hj)).symm)⟩
theorem Own.below(h:Own B w v T)(k:Below w.heap.size w w1):Own B w1 v T:=by
 obtain⟨g,cap,cur,hv,hg,hgl,hs,hl,hH,hT⟩:=h;exact⟨g,cap,cur,hv,hg,PS hgl k.size,hs,hl,Holds.below hH k hgl,hT⟩
theorem jP(s:ByteArray)(hB:B<=w.heap.size):
 ∃v' w',(convert 9 28 (.string s)).run prog w=.ok v' w'/\Own B w' v' s.data.toList/\Below w.heap.size w w'/\v'=.slice (some ⟨w.heap.size,0,none⟩) s.size (grownCap w s.size 0 5):=by
 have h:=Lib.run_convert_string_bytes (P:=prog) w 9 28 5 s str9 slice22 int5;have hcap:s.size<=grownCap w s.size 0 5:=by
  unfold grownCap Wn;exact Vt _ _
 have hl:s.data.size=s.size:=rfl;refine⟨_,_,h,⟨w.heap.size,grownCap w s.size 0 5,s.data++PX (grownCap w s.size 0 5-s.size) 0,?_,hB,by rw[UY];omega,?_,?_,?_,?_⟩,?_,rfl⟩
 ·rw[P8];rfl
 ·rw[QF,P7];omega
 ·rw[P8];omega
 ·intro j hj;rw[QF,P7]at hj;have hb:=Lib.bytesWorld_at_new w 5 s;have hsz:(S8 w 5 s).size=grownCap w s.size 0 5:=by
   unfold S8;rw[QF,Array.size_map,P7];omega
  have hc:(S8 w 5 s)=(s.data++PX (grownCap w s.size 0 5-s.size) 0).map encB:=by
   unfold S8;rw[WC,UG];rfl
  have hj2:j<(s.data++PX (grownCap w s.size 0 5-s.size) 0).size:=by rw[QF,P7];exact hj
  constructor
  ·unfold World.cell?;rw[hb];simp only[PU];rw[if_neg (by decide),hc,Array.getElem?_map,Qo hj2,Ty,getElem!_pos _ j hj2]
  ·unfold World.frozen?;rw[hb];simp only[PU,hsz];simp;omega
 ·intro j hj;rw[P8]at hj;rw[app_front _ _ j hj,getElem!_pos s.data.toList j (by rw[P8];exact hj),Ry]
 ·refine⟨?_,?_,?_,?_,fun k hk=>Lib.bytesWorld_at_old w 5 s k hk⟩
  ·unfold Ua Up;rw[if_neg (by decide)];rfl
  ·unfold Ua Up;rw[if_neg (by decide)];rfl
  ·unfold Ua Up;rw[if_neg (by decide)];rfl
  ·rw[UY];omega
theorem Holds.below'{α:Type}[Inhabited α]{f:α->Value}{w w1:World}{b o:Nat}{d:Array α}(h:Holds f w b o d)(k:Below w.heap.size w w1):Holds f w1 b o d:=by
 intro j hj;have hlt:=Holds.lt h (by omega);exact Holds.below h k hlt j hj
theorem Bn(l:List UInt8):(uP l).size=32:=by rw[uP,aP]
end SP
namespace SP
open Go.RowKit Go.Sort Go.Deep
def cM(n d:Nat):UInt8:=P9 (n/d)
theorem fZ(n d:Nat):(n:Int)/(d:Int)%256=ub (cM n d):=by
 have e2:((n:Int)/(d:Int))=((n/d:Nat):Int):=by rw[Int.natCast_ediv]
 rw[e2];unfold ub cM;rw[UN];omega
theorem y9(n:Nat):(n:Int)%256=ub (cM n 1):=by
 have:=fZ n 1;rw[show((1:Nat):Int)=1 from rfl,Int.ediv_one]at this;exact this
def d6(l:List UInt8):List UInt8:=[cM l.length 16777216,cM l.length 65536,cM l.length 256,cM l.length 1]++l
theorem iJ(l:List UInt8):(d6 l).length=l.length+4:=by
 unfold d6;rw[PY];simp only[Qw,List.length_nil];omega
theorem rY(w:World)(x y z t:UInt8):Holds encB (w.alloc (.cells #[.int .u8 (ub x),.int .u8 (ub y),.int .u8 (ub z),.int .u8 (ub t)] 5)) w.heap.size 0 #[x,y,z,t]:=by
 have h:=Holds.new (enc:=encB) w 5 #[x,y,z,t];have e:XO encB #[x,y,z,t]=#[.int .u8 (ub x),.int .u8 (ub y),.int .u8 (ub z),.int .u8 (ub t)]:=by simp[encB]
 rw[e]at h;exact h
theorem lS(b:Nat)(S:Sp)(a:Option Addr)(sb so len cap:Nat)(bs:Bs)(w:World)(hok:Ok S)(hS:HSp w b S)(hl:bs.size=len)(hcap:len<=cap)(hbig:len<=1099511627776)
 (hsrc:len=0\/(a=some ⟨sb,so,none⟩/\sb≠b/\Holds encB w sb so bs)) :
 Calls prog 87 #[.pointer (some ⟨b,0,none⟩),.slice a len cap] w fun e w'=>e=.returned (.tuple #[])/\Only b 0 162 w w'/\HSp w' b (cQ S (d6 bs.toList)):=by
 have hb:=hS.lt;have b0:(len:Int)/16777216%256=ub (cM len 16777216):=fZ len 16777216;have b1:(len:Int)/65536%256=ub (cM len 65536):=fZ len 65536;have b2:(len:Int)/256%256=ub (cM len 256):=fZ len 256;have b3:(len:Int)%256=ub (cM len 1):=y9 len;have hF:Hid (d6 bs.toList=(#[cM len 16777216,cM len 65536,cM len 256,cM len 1]:Bs).toList++bs.toList):=by
  unfold d6;rw[P8,hl];rfl
 have h4:=rY w (cM len 16777216) (cM len 65536) (cM len 256) (cM len 1);generalize cM len 16777216=x0 at *;generalize cM len 65536=x1 at *;generalize cM len 256=x2 at *;generalize cM len 1=x3 at *;have hb0:Below w.heap.size w (w.alloc (.cells #[.int .u8 (ub x0),.int .u8 (ub x1),.int .u8 (ub x2),.int .u8 (ub x3)] 5)):=(Qd _ _).alloc (PQ _) _;have hS1:=hS.below hb0 hb;have hO0:Only b 0 162 w (w.alloc (.cells #[.int .u8 (ub x0),.int .u8 (ub x1),.int .u8 (ub x2),.int .u8 (ub x3)] 5)):=Only.of_below hb0 rfl hb;have hsrc1:len=0\/(a=some ⟨sb,so,none⟩/\sb≠b/\Holds encB (w.alloc (.cells #[.int .u8 (ub x0),.int .u8 (ub x1),.int .u8 (ub x2),.int .u8 (ub x3)] 5)) sb so bs):=by
  by_cases h0:len=0
  ·exact Ql h0
  ·rcases hsrc with h|⟨h1,h2,h3⟩
   ·exact Ql h
   ·exact Qc ⟨h1,h2,Holds.below h3 hb0 (Holds.lt h3 (by omega))⟩
 clear hsrc;go_enter Tryz.func87,Tryz.ntmps87;go_wp2_with fail
 generalize w.alloc (.cells #[.int .u8 (ub x0),.int .u8 (ub x1),.int .u8 (ub x2),.int .u8 (ub x3)] 5)=W1 at h4 hb0 hS1 hO0 hsrc1⊢;refine(take_any b S (some ⟨w.heap.size,0,none⟩) w.heap.size 0 4 4 #[x0,x1,x2,x3] W1 hok hS1 rfl (PQ _) (by decide) (Qc ⟨rfl,by omega,h4⟩)).mono ?_;rintro e w2 ⟨rfl,hO2,hS2⟩;have hsrc2:len=0\/(a=some ⟨sb,so,none⟩/\sb≠b/\Holds encB w2 sb so bs):=by
  by_cases h0:len=0
  ·exact Ql h0
  ·rcases hsrc1 with h|⟨h1,h2,h3⟩
   ·exact Ql h
   ·exact Qc ⟨h1,h2,Holds.other h3 hO2 h2 (by omega)⟩
 go_wp2_with fail
 refine(take_any b _ a sb so len cap bs w2 (dU hok _) hS2 hl hcap hbig hsrc2).mono ?_;rintro e w3 ⟨rfl,hO3,hS3⟩;go_wp2
 go_end0
 refine⟨rfl,(hO0.trans hO2).trans hO3,?_⟩;rw[hF.out,dV];exact hS3
theorem uJ9(s:ByteArray)(w:World)(hs:s.size<=1048576):
 Calls prog 103 #[.string s] w fun e w'=>∃o,e=.returned (.string o)/\o.data.toList=d6 s.data.toList/\Below w.heap.size w w':=by
 have b0:(s.size:Int)/16777216%256=ub (cM s.size 16777216):=fZ s.size 16777216;have b1:(s.size:Int)/65536%256=ub (cM s.size 65536):=fZ s.size 65536;have b2:(s.size:Int)/256%256=ub (cM s.size 256):=fZ s.size 256;have b3:(s.size:Int)%256=ub (cM s.size 1):=y9 s.size;have hF:Hid (d6 s.data.toList=(#[cM s.size 16777216,cM s.size 65536,cM s.size 256,cM s.size 1]:Bs).toList++s.data.toList):=by
  unfold d6;rw[P8];rfl
 have h4:=rY w (cM s.size 16777216) (cM s.size 65536) (cM s.size 256) (cM s.size 1);generalize cM s.size 16777216=x0 at *;generalize cM s.size 65536=x1 at *;generalize cM s.size 256=x2 at *;generalize cM s.size 1=x3 at *;have kc:=conv_str prog 28 9 5 slice22 int5 str9 _ w.heap.size 0 4 4 #[x0,x1,x2,x3] h4 rfl;have c0:(s.size:Int)/16777216=ub x0:=by omega
 have c1:(s.size:Int)/65536=ub x1:=by omega
 go_enter Tryz.func103,Tryz.ntmps103;go_wp2;go_ret;refine⟨_,rfl,?_,(Qd _ _).alloc (PQ _) _⟩;rw[hF.out,Ue,TI]
end SP
namespace SP
open Go.RowKit Go.Sort Go.Deep
def bQ(label:List UInt8)(ps:List (List UInt8)):List UInt8:=d6 label++ps.flatMap d6
def iF(label:List UInt8)(ps:List (List UInt8)):Bs:=uP (bQ label ps)
theorem eG(label:List UInt8)(ps:List (List UInt8)):(iF label ps).size=32:=Bn _
theorem nF(label:List UInt8)(ps:List (List UInt8))(x:List UInt8):bQ label (ps++[x])=bQ label ps++d6 x:=by
 unfold bQ;rw[TP,<-UX];simp
def PartOk(w:World)(v:Value)(x:List UInt8):Prop:=
 ∃a sb so cap bs,v=.slice a (Vr bs) cap/\bs.toList=x/\bs.size<=cap/\bs.size<=1099511627776/\(bs.size=0\/(a=some ⟨sb,so,none⟩/\Holds encB w sb so bs))
theorem PartOk.below{w w1:World}{v:Value}{x:List UInt8}(h:PartOk w v x)(k:Below w.heap.size w w1):PartOk w1 v x:=by
 obtain⟨a,sb,so,cap,bs,h1,h2,h3,h4,h5⟩:=h;refine⟨a,sb,so,cap,bs,h1,h2,h3,h4,?_⟩;rcases h5 with h5|⟨h5,h6⟩
 ·exact Ql h5
 ·exact Qc ⟨h5,Holds.below' h6 k⟩
def PartsOk(w:World)(pa:Option Addr)(ps:List (List UInt8)):Prop:=
 ps.length=0\/∃pb po,pa=some ⟨pb,po,none⟩/\∀j,j<ps.length->∃v,w.cell? ⟨pb,po+j,none⟩=some v/\PartOk w v ps[j]!
theorem PartsOk.below{w w1:World}{pa:Option Addr}{ps:List (List UInt8)}(h:PartsOk w pa ps)(k:Below w.heap.size w w1):PartsOk w1 pa ps:=by
 rcases h with h|⟨pb,po,h1,h2⟩
 ·exact Ql h
 ·refine Qc ⟨pb,po,h1,fun j hj=>?_⟩;obtain⟨v,h3,h4⟩:=h2 j hj;exact⟨v,by rw[k.cell (p:=⟨pb,po+j,none⟩) (Rx _ _ h3)];exact h3,h4.below k⟩
theorem wO(label:List UInt8)(ps:List (List UInt8))(k:Nat):(bQ label (ps.take k)).length<=(bQ label ps).length:=by
 have e:bQ label ps=bQ label (ps.take k)++(ps.drop k).flatMap d6:=by
  unfold bQ;rw[UX,<-TP,List.take_append_drop]
 rw[e,PY];omega
theorem jV{α:Type}[Inhabited α](l:List α)(k:Nat)(h:k<l.length):l.take (k+1)=l.take k++[l[k]!]:=by
 rw[List.take_succ_eq_append_getElem h,getElem!_pos l k h]
theorem xG(label:ByteArray)(pa:Option Addr)(pcap:Nat)(ps:List (List UInt8))(w:World)(hlab:label.size<=1048576)(hpl:ps.length<=1048576)(hP:PartsOk w pa ps):
 Calls prog 46 #[.string label,.slice pa ps.length pcap] w fun e w'=>∃r,e=.returned (.slice (some ⟨r,0,none⟩) 32 32)/\w.heap.size<=r/\Below w.heap.size w w'/\Holds encB w' r 0 (iF label.data.toList ps):=by
 have hS0:=C3 w 159;have hb0:Below w.heap.size w (w.alloc (.cells dD 159)):=(Qd _ _).alloc (PQ _) _;have hs0:(w.alloc (.cells dD 159)).heap.size=w.heap.size+1:=by simp
 have zv:=EZ;generalize hW1:w.alloc (.cells dD 159)=W1 at hS0 hb0 hs0;obtain⟨v2,W2,hcv,own2,hb2,hv2⟩:=jP (w:=W1) (B:=0) label (SJ _);rw[hv2]at hcv own2;obtain⟨hq0,hq1,hle2,hH2⟩:=own2.holds;rw[<-hq1]at hle2;clear hq0 hq1;have hH2':Holds encB W2 W1.heap.size 0 label.data:=by simpa using hH2
 have hS2:=hS0.below hb2 hS0.lt;have hsz2:=hb2.size;obtain⟨n,hn⟩:∃n,ps.length=n:=⟨_,rfl⟩
 rw[hn];have Hn:Hid (ps.length=n):=hn;have hn20:n<=1048576:=by omega
 rw[hs0]at hcv hH2';generalize hc2:grownCap W1 label.size 0 5=c2 at *;clear own2 hv2 hH2 hn hc2;have hcv':(convert 9 28 (.string label)).run prog (w.alloc (.cells dD 159))=.ok (.slice (some ⟨w.heap.size+1,0,none⟩) label.size c2) W2:=by rw[hW1];exact hcv
 clear hW1 hcv;go_enter Tryz.func46,Tryz.ntmps46;go_wp2_with fail
 refine(lS w.heap.size S0 (some ⟨w.heap.size+1,0,none⟩) (w.heap.size+1) 0 label.size c2 label.data W2 nT hS2 rfl (by omega) (by omega) (Qc ⟨rfl,by omega,hH2'⟩)).mono ?_;rintro e w3 ⟨rfl,hO3,hS3⟩;have hb3:Below w.heap.size w w3:=(hb0.trans (hb2.mono (by omega))).trans (hO3.below (by omega) (PQ _));have hz3:w.heap.size<w3.heap.size:=hS3.lt;clear hcv' hH2' hO3 zv hS2;go_wp2;go_loopg [13] n (fun g s13 wr=>∃(k:Nat) (Sk:Sp),k+g=n/\s13=.int .i64 k/\HSp wr w.heap.size Sk/\Below w.heap.size w wr/\Ok Sk/\Hid (Sk=cQ S0 (bQ label.data.toList (ps.take k))))
 case atStart =>
  refine⟨0,_,by omega,rfl,hS3,hb3,dU nT _,?_⟩;rw[UC];unfold bQ;rw[WL,SB];rfl
 case round =>
  clear hS3 hb3 hz3;obtain⟨k,Sk,hk,rfl,hSk,hb,hok,HE⟩:=hrel;by_cases hlt:k<n
  ·obtain⟨pb,po,rfl,hPj⟩:∃pb po,pa=some ⟨pb,po,none⟩/\∀j,j<ps.length->∃v,w.cell? ⟨pb,po+j,none⟩=some v/\PartOk w v ps[j]!:=by
    rcases hP with h|h
    ·have:=Hn.out;omega
    ·exact h
   obtain⟨v,hvc,hvp⟩:=hPj k (by have:=Hn.out;omega);have hpb:=Rx _ _ hvc;have hvc':wr.cell? ⟨pb,po+k,none⟩=some v:=by rw[hb.cell (p:=⟨pb,po+k,none⟩) hpb];exact hvc
   obtain⟨a,sb,so,cap,bs,rfl,hbl,hbc,hbb,hsrc⟩:=hvp;have hsrc':bs.size=0\/(a=some ⟨sb,so,none⟩/\sb≠w.heap.size/\Holds encB wr sb so bs):=by
    by_cases h0:bs.size=0
    ·exact Ql h0
    ·rcases hsrc with h|⟨h1,h2⟩
     ·exact Ql h
     ·have:=Holds.lt h2 (by omega);exact Qc ⟨h1,by omega,Holds.below h2 hb this⟩
   have HB:Hid (bs.toList=ps[k]!):=hbl;have l1:(k:Int)<(n:Int):=by omega
   generalize hbz:bs.size=bz at *;clear hvc hsrc hPj hbl;go_wp2_with fail
   refine(lS w.heap.size Sk a sb so bz cap bs wr hok hSk hbz hbc hbb hsrc').mono ?_;rintro e w4 ⟨rfl,hO4,hS4⟩;go_wp2;go_roundg (gk-1)
   case measure=>omega
   case rel =>
    refine⟨k+1,_,by omega,by go_num,hS4,hb.trans (hO4.below hb.size (PQ _)),dU hok _,?_⟩;rw[jV ps k (by have:=Hn.out;omega),nF,dV,<-HE.out,HB.out];rfl
  ·have hkn:k=n:=by omega
   have l1:(n:Int)<=(k:Int):=by omega
   have HE2:Hid (Sk=cQ S0 (bQ label.data.toList ps)):=by
    have e1:ps.take k=ps:=Uv (by have:=Hn.out;omega);rw[e1]at HE;exact HE
   clear HE;go_wp2_with fail
   refine(Dg w.heap.size Sk 6 wr hok hSk).mono ?_;rintro e w5 ⟨rfl,hO5,hS5⟩;have hD5:Holds enc w5 w.heap.size 0 (eJ (bQ label.data.toList ps) 6):=by
    have:=hS5.d;rw[HE2.out]at this;exact this
   clear hS5;go_wp2_with fail
   refine(oW w.heap.size 0 32 _ _ (kY _ _) hD5 (by decide)).mono ?_;rintro e w6 ⟨rfl,hb6,hF6⟩;have hs5:=hO5.size;have hs4:=hb.size;go_wp2;go_ret;exact⟨w5.heap.size,rfl,by omega,(hb.trans (hO5.below hb.size (PQ _))).trans (hb6.mono (by omega)),hF6⟩
end SP
namespace SP
open Go.RowKit Go.Sort Go.Deep
variable {B:Nat}{w w1:World}{v:Value}{T:List UInt8}
set_option maxRecDepth 4000
theorem tA{r c:Nat}{xs:Bs}(h:Own B w v T)(hX:Holds encB w r 0 xs)(hB:B<=w.heap.size)(hbig:T.length+xs.size<=1099511627776)(k:Nat)(hk:k=xs.size):
 ∃v' w',(QS #[28,28] 28 #[v,.slice (some ⟨r,0,none⟩) k c]).run prog w=.ok v' w'/\Own B w' v' (T++xs.toList)/\Below B w w':=by
 subst hk;obtain⟨g,cap,cur,rfl,hg,hgl,hs,hl,hH,hTc⟩:=h;obtain⟨i,hi,hz,hsz,hby⟩:=info_parts info5;have hxl0:xs.toList.length=xs.size:=P8;have hlen:(T++xs.toList).length=T.length+xs.size:=by rw[PY,hxl0]
 by_cases hroom:T.length+xs.size<=cap
 ·have hap:=kW (l:=T.length) (k:=xs.size) (n:=xs.size) (c:=c) hH hs hX rfl rfl hroom 28;have hH3:=d5 hH T.length xs.toList (by rw[hxl0];omega);rw[PU]at hH3;refine⟨_,_,hap,⟨g,cap,splice cur T.length xs.toList,by rw[hlen],hg,PS hgl (below_setCells (B:=0) (b:=g) (SJ _) _ _ _ (Qd 0 w)).size,by rw[cB,hs],by omega,hH3,fun j hj=>?_⟩,?_⟩
  ·rw[hlen]at hj;rw[eH _ _ _ _ (by rw[hxl0];omega) (by omega),hxl0];by_cases h1:j<T.length
   ·rw[if_neg (by omega),rW _ _ _ h1,hTc j h1]
   ·rw[if_pos (by omega),lV _ _ _ (by omega) (by rw[hxl0];omega)]
  ·exact below_setCells hg _ _ _ (Qd _ _)
 ·have hold:(XS i.size T.length (.slice (some ⟨g,0,none⟩) T.length cap)).run prog w.drew=.ok (T.map encB).toArray w.drew:=by
   rw[hsz];refine run_firstCells_some w.drew 1 T.length ⟨g,0,none⟩ T.length cap (T.map encB) (by rw[Qb,Se]) (fun j u hj=>?_);obtain⟨h1,h2⟩:=Qe.1 hj;rw[Qb]at h1;have hc:=(hH j (by omega)).1;rw[hTc j h1,getElem!_pos T j h1]at hc;rw[Sj]at h2;have e1:(⟨g,0,none⟩:Addr).add j=⟨g,0+j,none⟩:=by
    unfold UZ;by_cases h0:j=0
    ·subst h0;rw[if_pos rfl]
    ·rw[if_neg h0]
   rw[e1,World.cell?_drew,hc,h2]
  have hxl:(xs.toList.map encB).length=xs.size:=by rw[Qb,hxl0]
  have hsrc:Src prog i.size 28 (.slice (some ⟨r,0,none⟩) xs.size c) xs.size (xs.toList.map encB) w:=by
   rw[hsz];refine XL w slice22 ⟨r,0,none⟩ xs.size c _ (by rw[hxl,Se]) (fun j u hj=>?_) (fun u hu=>?_)
   ·obtain⟨h1,h2⟩:=Qe.1 hj;rw[hxl]at h1;have hc:=(hX j (by omega)).1;rw[getElem!_pos xs j (by omega)]at hc;rw[Sj,Ry]at h2;have e1:(⟨r,0,none⟩:Addr).add j=⟨r,0+j,none⟩:=by
     unfold UZ;by_cases h0:j=0
     ·subst h0;rw[if_pos rfl]
     ·rw[if_neg h0]
    rw[e1,hc,h2]
   ·obtain⟨x,_,rfl⟩:=QZ.1 hu;rfl
  have hnc:Ui (T.length+xs.size) cap<=2*(T.length+xs.size)+768:=by
   unfold Ui;split
   ·omega
   ·split
    ·omega
    ·simp only[XR];repeat' split
     all_goals omega
  have hap:=run_append_grow_src (P:=prog) w 28 28 28 5 i (.int .u8 0) slice22 hi hz (some ⟨g,0,none⟩) T.length cap (T.map encB) hold _ xs.size (xs.toList.map encB) hsrc (by omega) (by omega) (by rw[hby];omega);generalize hG:grownCap w (T.length+xs.size) cap 5=G at hap;have hGl:T.length+xs.size<=G:=by
   rw[<-hG];unfold grownCap Wn;exact Vt _ _
  have hcells:(T.map encB++xs.toList.map encB).toArray++Q9 (QT .u8 0).cells (G-(T.length+xs.size))=((T++xs.toList).toArray++PX (G-(T.length+xs.size)) (0:UInt8)).map encB:=by
   rw[WC,UG,<-List.map_append]
   congr 1
   ·simp
   ·unfold Q9;have e:(QT .u8 0).cells=#[QT .u8 0]:=rfl;rw[e];apply Vf
    ·simp
    ·intro k h1 h2;simp[Nat.mod_one];rfl
  rw[hcells]at hap;refine⟨_,_,hap,⟨w.heap.size,G,(T++xs.toList).toArray++PX (G-(T.length+xs.size)) 0,by rw[hlen],hB,by simp,?_,by omega,?_,fun j hj=>?_⟩,?_⟩
  ·rw[QF,P7,QB,hlen];omega
  ·exact Holds.new (enc:=encB) w.drew 5 _
  ·rw[app_front _ _ j (by simpa using hj)];rw[getElem!_pos (T++xs.toList) j hj];simp
  ·exact((Qd B w).drew).alloc (by exact hB) _
end SP
namespace SP
open Go.RowKit Go.Sort Go.Deep
theorem Hg{w:World}{b r:Nat}{L T:Bs}(hL:Holds encB w b 0 L)(hl:L.size=32)(hT:Holds encB w r 0 T)(ht:T.size=32):
 (Wo #[28,28] 3 #[.slice (some ⟨b,0,none⟩) 32 32,.slice (some ⟨r,0,none⟩) 32 32]).run prog w=.ok (goInt 32) (w.setCells b 0 (T.toList.map encB)):=by
 have hlen:(T.toList.map encB).length=32:=by rw[Qb,P8,ht]
 have:=run_copy_cells (P:=prog) w 28 28 3 5 b 0 32 32 ⟨r,0,none⟩ 32 32 (T.toList.map encB) slice22 ints5 (by rw[hlen];rfl)
  (fun j u hj=>by
   obtain⟨h1,h2⟩:=Qe.1 hj;rw[hlen]at h1;have hc:=(hT j (by omega)).1;rw[getElem!_pos T j (by omega)]at hc;rw[Sj,Ry]at h2;have e1:(⟨r,0,none⟩:Addr).add j=⟨r,0+j,none⟩:=by
    unfold UZ;by_cases h0:j=0
    ·subst h0;rw[if_pos rfl]
    ·rw[if_neg h0]
   rw[e1,hc,h2])
  (fun j hj=>by rw[(hL j (by omega)).1];rfl) (fun j hj=>(hL j (by omega)).2)
  (fun u hu=>by obtain⟨x,_,rfl⟩:=QZ.1 hu;rfl)
 rw[hlen]at this;exact this
theorem wM{w:World}{b:Nat}{L T:Bs}(hL:Holds encB w b 0 L)(hl:L.size=32)(ht:T.size=32):Holds encB (w.setCells b 0 (T.toList.map encB)) b 0 T:=by
 have hlen:(T.toList.map encB).length=32:=by rw[Qb,P8,ht]
 refine Holds.setCells hL (T.toList.map encB) 0 (by omega) (by omega) (fun j hj=>?_) (fun j h1 h2=>by omega);rw[hlen]at hj;rw[Sj,Ry,PU,getElem!_pos T j (by omega)]
theorem BS{w w2:World}{b:Nat}{L T:Bs}(hL:Holds encB w b 0 L)(hl:L.size=32)(ht:T.size=32)(hb:b<w.heap.size)(hb2:Below w.drew.heap.size w.drew w2):
 Only b 0 32 w (w2.setCells b 0 (T.toList.map encB))/\Holds encB (w2.setCells b 0 (T.toList.map encB)) b 0 T:=by
 have hlen:(T.toList.map encB).length=32:=by rw[Qb,P8,ht]
 refine⟨?_,wM (Holds.below (Holds.drew hL) hb2 hb) hl ht⟩;exact Only.setCells (((Only.refl b 0 32 w).drew).trans (Only.of_below hb2 rfl hb)) _ 0 (PQ _) (by omega)
theorem mG(b:Nat)(L:Bs)(label:ByteArray)(pa:Option Addr)(pcap n:Nat)(ps:List (List UInt8))(w:World)(hlab:label.size<=1048576)(hpl:ps.length=n)(hn:n<=1048576)(hP:PartsOk w pa ps)(hL:Holds encB w b 0 L)(hl:L.size=32):
 Calls prog 93 #[.pointer (some ⟨b,0,none⟩),.string label,.slice pa n pcap] w fun e w'=>e=.returned (.tuple #[])/\Only b 0 32 w w'/\Holds encB w' b 0 (iF label.data.toList ps):=by
 subst hpl;have hb:=Holds.lt hL (by omega);have ht:=xG label pa pcap ps w.drew hlab hn (hP.below ((Qd _ _).drew));generalize hT:iF label.data.toList ps=T at ht⊢;have hTs:T.size=32:=by rw[<-hT,eG]
 have HT:Hid (Calls prog 46 #[.string label,.slice pa ps.length pcap] w.drew fun e w'=>∃r,e=.returned (.slice (some ⟨r,0,none⟩) 32 32)/\w.drew.heap.size<=r/\Below w.drew.heap.size w.drew w'/\Holds encB w' r 0 T):=ht;generalize ps.length=n at *;clear hT ht hP;go_enter Tryz.func93,Tryz.ntmps93;go_wp2;go_region_with (go_at_call 46;refine Wh HT.out ?_;rintro e w2 ⟨r2,rfl,hr2,hb2,hH2⟩;have hcp:=Hg (Holds.below (Holds.drew hL) hb2 hb) hl hH2 hTs;have hfin:=BS hL hl hTs hb hb2)
 all_goals (try go_wp2)
 all_goals go_end0
 all_goals exact⟨rfl,hfin⟩
end SP
namespace SP
open Go.RowKit Go.Sort Go.Deep
def encV(v:Value):Value:=v
theorem tZ(l:List UInt8)(n:Nat):(jR l n).size=n:=by rw[jR,dX]
def newL(label:List UInt8):Bs:=iF [108,111,103] [label]
def cT(L:Bs)(label text:List UInt8):Bs:=iF [115,97,121] [L.toList,label,text]
def iK(L:Bs)(label:List UInt8)(n:Nat):Bs:=jR (iF [97,115,107] [L.toList,label]).toList n
def gJ(L:Bs)(label:List UInt8):Bs:=iF [97,115,107,101,100] [L.toList,label]
theorem lI(l:List UInt8):(newL l).size=32:=eG _ _
theorem cI(L:Bs)(l t:List UInt8):(cT L l t).size=32:=eG _ _
theorem pS(L:Bs)(l:List UInt8):(gJ L l).size=32:=eG _ _
theorem lO(L:Bs)(l:List UInt8)(n:Nat):(iK L l n).size=n:=tZ _ _
theorem lL(s:ByteArray)(w:World)(hs:s.size<=1099511627776):
 ∃c w',(convert 9 28 (.string s)).run prog w=.ok (.slice (some ⟨w.heap.size,0,none⟩) s.size c) w'/\s.size<=c/\Holds encB w' w.heap.size 0 s.data/\PartOk w' (.slice (some ⟨w.heap.size,0,none⟩) s.size c) s.data.toList/\Below w.heap.size w w'/\w.heap.size<w'.heap.size:=by
 obtain⟨v2,W2,hcv,own2,hb2,hv2⟩:=jP (w:=w) (B:=0) s (SJ _);rw[hv2]at hcv own2;have hlt:w.heap.size<W2.heap.size:=by
  obtain⟨g,cap,cur,h1,_,h3,_⟩:=own2;injection h1 with h1
  injection h1 with h1
  injection h1 with h1
  omega
 obtain⟨hq0,hq1,hle2,hH2⟩:=own2.holds;rw[<-hq1]at hle2;have hH2':Holds encB W2 w.heap.size 0 s.data:=by simpa using hH2
 have hle:s.size<=grownCap w s.size 0 5:=hle2;exact⟨_,W2,hcv,hle,hH2',⟨_,w.heap.size,0,_,s.data,rfl,rfl,hle,hs,Qc ⟨rfl,hH2'⟩⟩,hb2,hlt⟩
theorem lG(W:World)(vs:Array Value)(ps:List (List UInt8))(t:TypeId)(hl:vs.size=ps.length)(h:∀j,j<ps.length->PartOk W vs[j]! ps[j]!):
 PartsOk (W.alloc (.cells vs t)) (some ⟨W.heap.size,0,none⟩) ps:=by
 refine Qc ⟨W.heap.size,0,rfl,fun j hj=>⟨vs[j]!,?_,(h j hj).below ((Qd _ _).alloc (PQ _) _)⟩⟩;have e0:vs.map encV=vs:=by
  have:encV=id:=rfl;rw[this,Array.map_id]
 have:=(Holds.new (enc:=encV) W t vs j (by omega)).1;rw[e0]at this;exact this
theorem rJ{w:World}{b:Nat}{L:Bs}(hL:Holds encB w b 0 L)(hl:L.size=32):PartOk w (.slice (some ⟨b,0,none⟩) 32 32) L.toList:=
 ⟨_,b,0,32,L,by rw[hl],rfl,by omega,by omega,Qc ⟨rfl,hL⟩⟩
theorem Iq:∀w:World,(zeroValue 170).run prog w=.ok (.agg (PX 32 (.int .u8 0))) w:=fun _=>by kernel_rfl
theorem Cf(label:ByteArray)(w:World)(hlab:label.size<=1048576):
 Calls prog 92 #[.string label] w fun e w'=>e=.returned (.pointer (some ⟨w.heap.size,0,none⟩))/\Below w.heap.size w w'/\Holds encB w' w.heap.size 0 (newL label.data.toList):=by
 have zv:=Iq;have hH0:Holds encB (w.alloc (.cells (PX 32 (.int .u8 0)) 170)) w.heap.size 0 (PX 32 0):=by
  have:=Holds.new (enc:=encB) w 170 (PX 32 0);rw[UG]at this;exact this
 have hb0:Below w.heap.size w (w.alloc (.cells (PX 32 (.int .u8 0)) 170)):=(Qd _ _).alloc (PQ _) _;have hs0:(w.alloc (.cells (PX 32 (.int .u8 0)) 170)).heap.size=w.heap.size+1:=by simp
 obtain⟨c,W1,hcv,hc,hH1,hP1,hb1,hlt1⟩:=lL label (w.alloc (.cells (PX 32 (.int .u8 0)) 170)) (by omega);have hH01:=Holds.below' hH0 hb1;have hPs:=lG W1 #[.slice (some ⟨(w.alloc (.cells (PX 32 (.int .u8 0)) 170)).heap.size,0,none⟩) label.size c] [label.data.toList] 28 rfl (fun j hj=>by
  have hj0:j=0:=by simpa using hj
  subst hj0;exact hP1)
 have hb2:Below W1.heap.size W1 (W1.alloc (.cells #[.slice (some ⟨(w.alloc (.cells (PX 32 (.int .u8 0)) 170)).heap.size,0,none⟩) label.size c] 28)):=(Qd _ _).alloc (PQ _) _;have hH02:=Holds.below' hH01 hb2;rw[hs0]at hcv hPs hb2 hH02 hlt1;have hb3:Below w.heap.size w (W1.alloc (.cells #[.slice (some ⟨w.heap.size+1,0,none⟩) label.size c] 28)):=(hb0.trans (hb1.mono (by omega))).trans (hb2.mono (by omega));clear hH0 hb0 hH1 hP1 hb1 hH01 hs0;go_enter Tryz.func92,Tryz.ntmps92;go_wp2_with fail
 refine(mG w.heap.size (PX 32 0) ⟨#[108,111,103]⟩ (some ⟨W1.heap.size,0,none⟩) 1 1 [label.data.toList] _ (by decide) rfl (by decide) hPs hH02 (by simp)).mono ?_;rintro e w4 ⟨rfl,hO4,hH4⟩;go_wp2;go_ret;exact⟨rfl,hb3.trans (hO4.below hb3.size (PQ _)),hH4⟩
end SP
namespace SP
open Go.RowKit Go.Sort Go.Deep
theorem eD(b:Nat)(L:Bs)(label:ByteArray)(ta:Option Addr)(tl tc:Nat)(text:List UInt8)(w:World)(hlab:label.size<=1048576)(hL:Holds encB w b 0 L)(hl:L.size=32)(hT:PartOk w (.slice ta tl tc) text):
 Calls prog 50 #[.pointer (some ⟨b,0,none⟩),.string label,.slice ta tl tc] w fun e w'=>e=.returned (.tuple #[])/\Only b 0 32 w w'/\Holds encB w' b 0 (cT L label.data.toList text):=by
 have hb:=Holds.lt hL (by omega);obtain⟨c,W1,hcv,hc,hH1,hP1,hb1,hlt1⟩:=lL label w (by omega);have hL1:=Holds.below hL hb1 hb;have hT1:=hT.below hb1;have hPs:=lG W1 #[.slice (some ⟨b,0,none⟩) 32 32,.slice (some ⟨w.heap.size,0,none⟩) label.size c,.slice ta tl tc] [L.toList,label.data.toList,text] 28 rfl (fun j hj=>by
  have hj3:j<3:=hj;match j,hj3 with
  | 0,_=>exact rJ hL1 hl
  | 1,_=>exact hP1
  | 2,_=>exact hT1)
 have hb2:Below W1.heap.size W1 (W1.alloc (.cells #[.slice (some ⟨b,0,none⟩) 32 32,.slice (some ⟨w.heap.size,0,none⟩) label.size c,.slice ta tl tc] 28)):=(Qd _ _).alloc (PQ _) _;have hL2:=Holds.below' hL1 hb2;have hO2:Only b 0 32 w (W1.alloc (.cells #[.slice (some ⟨b,0,none⟩) 32 32,.slice (some ⟨w.heap.size,0,none⟩) label.size c,.slice ta tl tc] 28)):=(Only.of_below hb1 rfl hb).alloc (by omega) _;clear hH1 hP1 hT1 hT hb2;go_enter Tryz.func50,Tryz.ntmps50;go_wp2_with fail
 refine(mG b L ⟨#[115,97,121]⟩ (some ⟨W1.heap.size,0,none⟩) 3 3 [L.toList,label.data.toList,text] _ (by decide) rfl (by decide) hPs hL2 hl).mono ?_;rintro e w4 ⟨rfl,hO4,hH4⟩;go_wp2
 go_end0
 exact⟨rfl,hO2.trans hO4,hH4⟩
theorem DR(b:Nat)(L:Bs)(label:ByteArray)(n:Nat)(w:World)(hlab:label.size<=1048576)(hn:n<=1024)(hL:Holds encB w b 0 L)(hl:L.size=32):
 Calls prog 102 #[.pointer (some ⟨b,0,none⟩),.string label,.int .i64 n] w fun e w'=>∃r,e=.returned (.tuple #[.slice (some ⟨r,0,none⟩) n n,.int .i64 0])/\w.heap.size<=r/\Only b 0 32 w w'/\Holds encB w' b 0 (gJ L label.data.toList)/\Holds encB w' r 0 (iK L label.data.toList n):=by
 have hb:=Holds.lt hL (by omega);obtain⟨c,W1,hcv,hc,hH1,hP1,hb1,hlt1⟩:=lL label w (by omega);have hL1:=Holds.below hL hb1 hb;have hPs:=lG W1 #[.slice (some ⟨b,0,none⟩) 32 32,.slice (some ⟨w.heap.size,0,none⟩) label.size c] [L.toList,label.data.toList] 28 rfl (fun j hj=>by
  have hj3:j<2:=hj;match j,hj3 with
  | 0,_=>exact rJ hL1 hl
  | 1,_=>exact hP1)
 have hb2:Below W1.heap.size W1 (W1.alloc (.cells #[.slice (some ⟨b,0,none⟩) 32 32,.slice (some ⟨w.heap.size,0,none⟩) label.size c] 28)):=(Qd _ _).alloc (PQ _) _;have hL2:=Holds.below' hL1 hb2;have hO2:Only b 0 32 w (W1.alloc (.cells #[.slice (some ⟨b,0,none⟩) 32 32,.slice (some ⟨w.heap.size,0,none⟩) label.size c] 28)):=(Only.of_below hb1 rfl hb).alloc (by omega) _;have d0:decide ((n:Int)<0)=false:=decide_eq_false (by omega);have d1:¬(1024:Int)<(n:Int):=by omega
 clear hH1 hP1 hb2;go_enter Tryz.func102,Tryz.ntmps102;go_wp2_with fail
 refine(xG ⟨#[97,115,107]⟩ (some ⟨W1.heap.size,0,none⟩) 2 [L.toList,label.data.toList] _ (by decide) (by show 2<=1048576;omega) hPs).mono ?_;rintro e w3 ⟨r3,rfl,hr3,hb3,hH3⟩;have hL3:=Holds.below' hL2 hb3;have hO3:=hO2.trans (Only.of_below hb3 rfl (PS hb hO2.size));clear hPs hL2 hL1;go_wp2_with fail
 refine(tG (some ⟨r3,0,none⟩) r3 0 32 32 n _ _ (by omega) (eG _ _) (by omega) (by omega) (Qc ⟨rfl,hH3⟩)).mono ?_;rintro e w4 ⟨r4,rfl,hr4,hb4,hH4⟩;have hL4:=Holds.below' hL3 hb4;have hs3:=hO3.size;have hO4:=hO3.trans (Only.of_below hb4 rfl (by omega));have hA4:Holds encB w4 r4 0 (iK L label.data.toList n):=hH4;have hs4:=hO4.size;obtain⟨c5,W5,hcv5,hc5,hH5,hP5,hb5,hlt5⟩:=lL label w4 (by omega);have hL5:=Holds.below' hL4 hb5;have hA5:=Holds.below' hA4 hb5;have hPs5:=lG W5 #[.slice (some ⟨b,0,none⟩) 32 32,.slice (some ⟨w4.heap.size,0,none⟩) label.size c5] [L.toList,label.data.toList] 28 rfl (fun j hj=>by
  have hj3:j<2:=hj;match j,hj3 with
  | 0,_=>exact rJ hL5 hl
  | 1,_=>exact hP5)
 have hb6:Below W5.heap.size W5 (W5.alloc (.cells #[.slice (some ⟨b,0,none⟩) 32 32,.slice (some ⟨w4.heap.size,0,none⟩) label.size c5] 28)):=(Qd _ _).alloc (PQ _) _;have hL6:=Holds.below' hL5 hb6;have hA6:=Holds.below' hA5 hb6;have hO6:Only b 0 32 w (W5.alloc (.cells #[.slice (some ⟨b,0,none⟩) 32 32,.slice (some ⟨w4.heap.size,0,none⟩) label.size c5] 28)):=hO4.trans ((Only.of_below hb5 rfl (by omega)).alloc (by omega) _);clear hH5 hP5 hH4 hA4 hA5 hL4 hL5 hH3 hcv hb6 hL3;go_wp2_with fail
 refine(mG b L ⟨#[97,115,107,101,100]⟩ (some ⟨W5.heap.size,0,none⟩) 2 2 [L.toList,label.data.toList] _ (by decide) rfl (by decide) hPs5 hL6 hl).mono ?_;rintro e w7 ⟨rfl,hO7,hH7⟩;clear hPs5;have hA7:Holds encB w7 r4 0 (iK L label.data.toList n):=by
  intro j hj;have h1:=hA6 j hj;have h2:=Rx _ _ h1.1;have h3:=hO7.other (c:=r4) (o:=0+j) (by omega) h2;rw[h3.1,h3.2];exact h1
 go_wp2
 go_ret2
 exact⟨r4,rfl,by omega,hO6.trans hO7,hH7,hA7⟩
end SP
section
open Go.RowKit Go.Sort
variable {P:Nat}[NeZero P]{N:Nat}
def ArgsPts(w:World)(q:Option Addr)(n:Nat)(L:Nat->Bs):Prop:=0<n->∃gg,q=some ⟨gg,0,none⟩/\gg<w.heap.size/\∀j,j<n->∃v,w.cell? ⟨gg,j,none⟩=some v/\Arg33 w v (L j)
def PG(P:Nat)[NeZero P](w:World)(n:Nat)(L:Nat->Bs)(e:Value)(w':World):Prop:=
 (∃k,w.heap.size<=k/\k<w'.heap.size/\e=.tuple #[.slice (some ⟨k,0,none⟩) n n,.int .i64 0]/\∀j,j<n->∃p,rd P (L j)=some p/\w'.rangeAt k (8*j) (ws p.1++ws p.2)) \/
 ((∃j,j<n/\rd P (L j)=none)/\e=.tuple #[.slice none 0 0,.int .i64 4])
theorem Oj(F:Fld P)(n cap:Nat)(hn:n<=512)(q:Option Addr)(L:Nat->Bs)(w:World)(hA:ArgsPts w q n L):Calls prog 40 #[.slice q n cap] w (Ret fun e w'=>Below w.heap.size w w'/\PG P w n L e w'):=by
 obtain⟨C,hCl,hmk⟩:=NM n hn;obtain⟨i,-⟩:∃i:Nat,i=0:=⟨_,rfl⟩
 obtain⟨gg,-⟩:∃i:Nat,i=0:=⟨_,rfl⟩
 obtain⟨m,-⟩:∃i:Nat,i=0:=⟨_,rfl⟩
 obtain⟨v,-⟩:∃v:Value,v=.bool true:=⟨_,rfl⟩
 obtain⟨x,-⟩:∃x:Fin P,x=0:=⟨_,rfl⟩
 obtain⟨y,-⟩:∃x:Fin P,x=0:=⟨_,rfl⟩
 obtain⟨C2,-⟩:∃c:List Value,c=C:=⟨_,rfl⟩
 go_enter Tryz.func40,Tryz.ntmps40;refine RG.Ff (v0:=.slice q n cap) (n:=32) (by kernel_rfl) (by kernel_rfl) (by kernel_rfl) ?_;intro a0 sl0 f0;have hS0:=RG.St.begin w;have M0:RG.M w w.heap.size [] 32 [] [] [(0,(.v (.slice q n cap)))] a0 _:=⟨hS0,sl0,⟨f0,trivial⟩⟩
 repeat refine wp_seq ?_
 refine M0.u [.x 2 [] (.slice none 0 0),.x 3 [] (.int .i64 0)] [(0,(.v (.slice q n cap))),(2,(.v (.slice none 0 0))),(3,(.v (.int .i64 0)))] ⟨RG.st,RG.st,trivial⟩ ?_;intro a1 w1 M1;repeat refine wp_seq ?_
 refine M1.t [.x 9 [] (.slice q n cap),.x 10 [(9,0)] (.int .i64 n),⟨some 11,[(10,1)],(.s 0 n n),.make 0⟩,.s 4 [(11,2)] (.s 0 n n)] [(2,C)] [] [C] [(0,(.v (.slice q n cap))),(2,(.v (.slice none 0 0))),(3,(.v (.int .i64 0))),(4,(.s 0 n n))] ⟨RG.st,RG.eC rfl 9 (.v (.slice q n cap)) (.int .i64 n) rfl RG.sx (fun a w=>by kernel_rfl) (fun μ w=>by kernel_rfl),RG.gC 0 rfl _ rfl 90 43 10 10 n rfl rfl RG.sx RG.sx (hmk),RG.st,trivial⟩ ?_;intro j2 a2 w2 M2;repeat refine wp_seq ?_
 refine M2.u [.x 12 [] (.slice q n cap),.x 13 [(12,0)] (.int .i64 n),.x 14 [] (.int .i64 0)] [(2,(.v (.slice none 0 0))),(3,(.v (.int .i64 0))),(4,(.s 0 n n)),(12,(.v (.slice q n cap))),(13,(.v (.int .i64 n))),(14,(.v (.int .i64 0)))] ⟨RG.st,RG.eC rfl 12 (.v (.slice q n cap)) (.int .i64 n) rfl RG.sx (fun a w=>by kernel_rfl) (fun μ w=>by kernel_rfl),RG.st,trivial⟩ ?_;intro a3 w3 M3;have f2_3:a3.tmps[2]? = some (.slice none 0 0):=M3.at (s:=(.v (.slice none 0 0)));have f3_3:a3.tmps[3]? = some (.int .i64 0):=M3.at (s:=(.v (.int .i64 0)));have f4_3:a3.tmps[4]? = some (.slice (some ⟨j2,0,none⟩) n n):=M3.at (s:=(.s 0 n n));have f12_3:a3.tmps[12]? = some (.slice q n cap):=M3.at (s:=(.v (.slice q n cap)));have f13_3:a3.tmps[13]? = some (.int .i64 n):=M3.at (s:=(.v (.int .i64 n)));have f14_3:a3.tmps[14]? = some (.int .i64 0):=M3.at (s:=(.v (.int .i64 0)));repeat refine wp_seq ?_
 refine wp_block ?_;refine wp_loop_ghost (fun m a wr=>∃(i:Nat) (C:List Value),i+m=n/\(∀j,j<i->(rd P (L j)).isSome=true)/\Rows 8 n (fun j=>match rd P (L j) with|some p=>ws p.1++ws p.2|none=>[]) i C/\RG.Sl a 32/\a.tmps[4]? = some (.slice (some ⟨j2,0,none⟩) n n)/\a.tmps[12]? = some (.slice q n cap)/\a.tmps[13]? = some (.int .i64 n)/\a.tmps[14]? = some (.int .i64 i)/\RG.St w w.heap.size [] [C] [j2] wr) n ⟨0,C,by omega,fun j hj=>by omega,⟨hCl,fun j r hj=>by omega⟩,M3.sl,f4_3,f12_3,f13_3,f14_3,M3.st⟩ ?_;intro m' a wr;rintro⟨i,C,him,hall,hR,sl,p4,p12,p13,p14,hSp⟩;generalize j2=kt at p4 hSp;by_cases hi:i<n
 ·obtain⟨gg,hqe,hgg,hc⟩:=hA (by omega);rw[hqe]at p12;obtain⟨v,hv,harg⟩:=hc i hi;have hcell:w.cell? ⟨gg,0+i,none⟩=some v:=by rw[PU];exact hv
  cases hrdv:rd P (L i) with
  | some pp =>
   obtain⟨x,y⟩:=pp;have hrd:∀w',RG.BelX w.heap.size [] w w'->Calls prog 78 #[v] w' (Ret fun e w''=>Below w'.heap.size w' w''/\e=.tuple #[pv x y,.bool true]):=fun w' hb=>by
    have:=kD F v (L i) w' (harg.below hb.below);rw[hrdv]at this;exact this
   have hlen:=hR.len;have hoff:0+8*i+(ws x++ws y).length<=C.length:=by rw[hlen];show 0+8*i+8<=8*n;omega
   obtain⟨C2,hC2e⟩:∃c,RG.rep C (0+8*i) (ws x++ws y)=c:=⟨_,rfl⟩
   have hC2:=hC2e ▸ RG.rep_at hoff;have hcl:C2.length=C.length:=hC2e ▸ RG.bV hoff;have hR2:Rows 8 n (fun j=>match rd P (L j) with|some p=>ws p.1++ws p.2|none=>[]) (i+1) C2:=by
    have:=hR.next hi (by show XC (match rd P (L i) with|some p=>_|none=>_)=_;rw[hrdv];rfl);rw[<-hC2e];have e:(fun j=>match rd P (L j) with|some p=>ws p.1++ws p.2|none=>[]) i=(ws x++ws y):=by show(match rd P (L i) with|some p=>_|none=>_)=_;rw[hrdv]
    rw[<-e];exact this
   have M10:RG.M w w.heap.size [] 32 [C] [kt] [(4,(.s 0 n n)),(12,(.v (.slice (some ⟨gg,0,none⟩) n cap))),(13,(.v (.int .i64 n))),(14,(.v (.int .i64 i)))] a _:=⟨hSp,sl,⟨p4,p12,p13,p14,trivial⟩⟩
   repeat refine wp_seq ?_
   refine M10.u [.x 15 [] (.bool true)] [(4,(.s 0 n n)),(12,(.v (.slice (some ⟨gg,0,none⟩) n cap))),(13,(.v (.int .i64 n))),(14,(.v (.int .i64 i))),(15,(.v (.bool true)))] ⟨RG.aG rfl .lss 3 3 14 13 (.int .i64 i) (.int .i64 n) (.bool true) rfl rfl RG.sx RG.sx (fun w=>by kernel_rfl) (dE hi),trivial⟩ ?_;intro a11 w11 M11;repeat refine wp_seq ?_
   refine wp_cond_true M11.ev ?_;refine wp_skip ?_;refine wp_seq ?_;refine wp_block ?_;repeat refine wp_seq ?_
   refine M11.u [.x 16 [] (.int .i64 i),.x 17 [] (.pointer (some ⟨gg,(0+i),none⟩)),.x 18 [(17,1)] v,.x 5 [(16,0)] (.int .i64 i),.x 6 [(18,2)] v] [(4,(.s 0 n n)),(5,(.v (.int .i64 i))),(6,(.v v)),(12,(.v (.slice (some ⟨gg,0,none⟩) n cap))),(13,(.v (.int .i64 n))),(14,(.v (.int .i64 i)))] ⟨RG.st,RG.aK rfl 23 12 14 rfl (.v (.slice (some ⟨gg,0,none⟩) n cap)) (.int .i64 i) RG.sx RG.sx (fun μ w=>J7 _ 0 _ _ i hi w),RG.aJ rfl gg (0+i) hgg P4 28 17 rfl v rfl RG.sx hcell u23,RG.st,RG.st,trivial⟩ ?_;intro a12 w12 M12;repeat refine wp_seq ?_
   refine M12.t [.x 20 [] v,.c 21 [(20,0)] (.tuple #[(pv x y),(.bool true)]),.x 19 [(21,1)] (.tuple #[(pv x y),(.bool true)]),.x 22 [(19,2)] (pv x y),.x 23 [(19,2)] (.bool true),.m 7 [] 1,.u [(7,5),(22,3)] 1,.x 8 [(23,4)] (.bool true)] [(5,(RG.z 8))] [(1,6,(ws x++(ws y)))] [C,(ws x++(ws y))] [(4,(.s 0 n n)),(5,(.v (.int .i64 i))),(7,(.p 1 0)),(8,(.v (.bool true))),(12,(.v (.slice (some ⟨gg,0,none⟩) n cap))),(13,(.v (.int .i64 n))),(14,(.v (.int .i64 i)))] ⟨RG.st,RG.pQ rfl 78 20 v (.tuple #[(pv x y),(.bool true)]) rfl (fun a w=>by kernel_rfl) RG.sx hrd,RG.st,RG.st,RG.st,RG.mk 1 43,RG.pt i109,RG.st,trivial⟩ ?_;intro j13 a13 w13 M13;repeat refine wp_seq ?_
   refine M13.u [.x 24 [] (.bool true),.x 25 [(24,0)] (.bool false)] [(4,(.s 0 n n)),(5,(.v (.int .i64 i))),(7,(.p 1 0)),(12,(.v (.slice (some ⟨gg,0,none⟩) n cap))),(13,(.v (.int .i64 n))),(14,(.v (.int .i64 i))),(25,(.v (.bool false)))] ⟨RG.st,RG.st,trivial⟩ ?_;intro a14 w14 M14;repeat refine wp_seq ?_
   refine wp_cond_false M14.ev ?_;refine wp_skip ?_;repeat refine wp_seq ?_
   refine M14.tx [.s 26 [] (.s 0 n n),.x 27 [] (.int .i64 i),.x 28 [] (pv x y),.s 29 [(26,0),(27,1)] (.p 0 (0+8*i)),.u [(29,3),(28,2)] 0] [] [(0,4,C2)] [C2,(ws x++(ws y))] [(4,(.s 0 n n)),(12,(.v (.slice (some ⟨gg,0,none⟩) n cap))),(13,(.v (.int .i64 n))),(14,(.v (.int .i64 i)))] (by kernel_rfl) (congrArg (fun n=>[n]) hcl) ⟨RG.st,RG.st,RG.ld gP i109,RG.aK rfl 90 26 27 rfl (.s 0 n n) (.int .i64 i) RG.sx RG.sx (fun μ w=>KL _ 0 _ _ i hi w),RG.cU 0 (0+8*i) rfl _ rfl 43 (.tmp 29) (.tmp 28) (ws x++ws y) rfl rfl RG.sx RG.sx hoff hC2 i109 rfl,trivial⟩ ?_;intro a15 w15 M15;repeat refine wp_seq ?_
   refine M15.u [.x 30 [] (.int .i64 ((i+1:Nat):Int)),.x 14 [(30,0)] (.int .i64 ((i+1:Nat):Int))] [(4,(.s 0 n n)),(12,(.v (.slice (some ⟨gg,0,none⟩) n cap))),(13,(.v (.int .i64 n))),(14,(.v (.int .i64 ((i+1:Nat):Int))))] ⟨RG.aI rfl .add 3 3 14 (.int .i64 i) (.int .i64 1) (.int .i64 ((i+1:Nat):Int)) rfl rfl RG.sx (fun w=>by kernel_rfl) (mH i 1 (by omega) (by omega)),RG.st,trivial⟩ ?_;intro a16 w16 M16;have f4_16:a16.tmps[4]? = some (.slice (some ⟨kt,0,none⟩) n n):=M16.at (s:=(.s 0 n n));have f12_16:a16.tmps[12]? = some (.slice (some ⟨gg,0,none⟩) n cap):=M16.at (s:=(.v (.slice (some ⟨gg,0,none⟩) n cap)));have f13_16:a16.tmps[13]? = some (.int .i64 n):=M16.at (s:=(.v (.int .i64 n)));have f14_16:a16.tmps[14]? = some (.int .i64 ((i+1:Nat):Int)):=M16.at (s:=(.v (.int .i64 ((i+1:Nat):Int))));show ∃n',_;exact⟨m'-1,by omega,i+1,C2,by omega,fun j hj=>(by
    by_cases hji:j=i
    ·rw[hji,hrdv];rfl
    ·exact hall j (by omega)),hR2,M16.sl,f4_16,(by rw[hqe];exact f12_16),f13_16,f14_16,RG.St.init (cs:=[C2]) (ks:=[kt]) M16.st⟩
  | none =>
   have hrd:∀w',RG.BelX w.heap.size [] w w'->Calls prog 78 #[v] w' (Ret fun e w''=>Below w'.heap.size w' w''/\e=.tuple #[pv (0:Fin P) 0,.bool false]):=fun w' hb=>by
    have:=kD F v (L i) w' (harg.below hb.below);rw[hrdv]at this;exact this
   have M20:RG.M w w.heap.size [] 32 [C] [kt] [(4,(.s 0 n n)),(12,(.v (.slice (some ⟨gg,0,none⟩) n cap))),(13,(.v (.int .i64 n))),(14,(.v (.int .i64 i)))] a _:=⟨hSp,sl,⟨p4,p12,p13,p14,trivial⟩⟩
   repeat refine wp_seq ?_
   refine M20.u [.x 15 [] (.bool true)] [(12,(.v (.slice (some ⟨gg,0,none⟩) n cap))),(14,(.v (.int .i64 i))),(15,(.v (.bool true)))] ⟨RG.aG rfl .lss 3 3 14 13 (.int .i64 i) (.int .i64 n) (.bool true) rfl rfl RG.sx RG.sx (fun w=>by kernel_rfl) (dE hi),trivial⟩ ?_;intro a21 w21 M21;repeat refine wp_seq ?_
   refine wp_cond_true M21.ev ?_;refine wp_skip ?_;refine wp_seq ?_;refine wp_block ?_;repeat refine wp_seq ?_
   refine M21.u [.x 16 [] (.int .i64 i),.x 17 [] (.pointer (some ⟨gg,(0+i),none⟩)),.x 18 [(17,1)] v,.x 5 [(16,0)] (.int .i64 i),.x 6 [(18,2)] v] [(6,(.v v))] ⟨RG.st,RG.aK rfl 23 12 14 rfl (.v (.slice (some ⟨gg,0,none⟩) n cap)) (.int .i64 i) RG.sx RG.sx (fun μ w=>J7 _ 0 _ _ i hi w),RG.aJ rfl gg (0+i) hgg P4 28 17 rfl v rfl RG.sx hcell u23,RG.st,RG.st,trivial⟩ ?_;intro a22 w22 M22;repeat refine wp_seq ?_
   refine M22.t [.x 20 [] v,.c 21 [(20,0)] (.tuple #[(pv (0:Fin P) (0:Fin P)),(.bool false)]),.x 19 [(21,1)] (.tuple #[(pv (0:Fin P) (0:Fin P)),(.bool false)]),.x 22 [(19,2)] (pv (0:Fin P) (0:Fin P)),.x 23 [(19,2)] (.bool false),.m 7 [] 1,.u [(7,5),(22,3)] 1,.x 8 [(23,4)] (.bool false)] [(5,(RG.z 8))] [(1,6,(ws (0:Fin P)++(ws (0:Fin P))))] [C,(ws (0:Fin P)++(ws (0:Fin P)))] [(8,(.v (.bool false)))] ⟨RG.st,RG.pQ rfl 78 20 v (.tuple #[(pv (0:Fin P) (0:Fin P)),(.bool false)]) rfl (fun a w=>by kernel_rfl) RG.sx hrd,RG.st,RG.st,RG.st,RG.mk 1 43,RG.pt i109,RG.st,trivial⟩ ?_;intro j23 a23 w23 M23;repeat refine wp_seq ?_
   refine M23.u [.x 24 [] (.bool false),.x 25 [(24,0)] (.bool true)] [(25,(.v (.bool true)))] ⟨RG.st,RG.st,trivial⟩ ?_;intro a24 w24 M24;repeat refine wp_seq ?_
   refine wp_cond_true M24.ev ?_;repeat refine wp_seq ?_
   refine M24.u [.x 2 [] (.slice none 0 0),.x 3 [] (.int .i64 4)] [(2,(.v (.slice none 0 0))),(3,(.v (.int .i64 4)))] ⟨RG.st,RG.st,trivial⟩ ?_;intro a25 w25 M25;refine wp_ret ?_;refine bodyPost_ret (v:=.tuple #[.slice none 0 0,.int .i64 4]) (RG.bH 2 3 rfl _ _ (M25.at (s:=(.v (.slice none 0 0)))) (M25.at (s:=(.v (.int .i64 4))))) M25.sl.defers ?_;exact⟨_,rfl,M25.st.bel.below,Qc ⟨⟨i,hi,hrdv⟩,rfl⟩⟩
 ·have hiN:i=n:=by omega
  have M30:RG.M w w.heap.size [] 32 [C] [kt] [(4,(.s 0 n n)),(12,(.v (.slice q n cap))),(13,(.v (.int .i64 n))),(14,(.v (.int .i64 i)))] a _:=⟨hSp,sl,⟨p4,p12,p13,p14,trivial⟩⟩
  repeat refine wp_seq ?_
  refine M30.u [.x 15 [] (.bool false)] [(4,(.s 0 n n)),(15,(.v (.bool false)))] ⟨RG.aG rfl .lss 3 3 14 13 (.int .i64 i) (.int .i64 n) (.bool false) rfl rfl RG.sx RG.sx (fun w=>by kernel_rfl) (fY hi),trivial⟩ ?_;intro a31 w31 M31;repeat refine wp_seq ?_
  refine wp_cond_false M31.ev ?_;refine wp_exit ?_;dsimp only[Exit.then,So];rw[if_pos rfl];repeat refine wp_seq ?_
  refine M31.u [.s 31 [] (.s 0 n n),.s 2 [(31,0)] (.s 0 n n),.x 3 [] (.int .i64 0)] [(2,(.s 0 n n)),(3,(.v (.int .i64 0)))] ⟨RG.st,RG.st,RG.st,trivial⟩ ?_;intro a32 w32 M32;refine wp_ret ?_;refine bodyPost_ret (v:=.tuple #[.slice (some ⟨kt,0,none⟩) n n,.int .i64 0]) (RG.bH 2 3 rfl _ _ (M32.at (s:=(.s 0 n n))) (M32.at (s:=(.v (.int .i64 0))))) M32.sl.defers ?_;refine⟨_,rfl,M32.st.bel.below,Ql ⟨kt,?_,?_,rfl,fun j hj=>?_⟩⟩
  ·exact(M32.st.has 0 C rfl).2.2.2.elim id (fun h=>absurd h P4)
  ·exact(M32.st.has 0 C rfl).2.2.1
  ·obtain⟨pp,hpp⟩:=Qx.1 (hall j (by omega));refine⟨pp,hpp,RG.oJ (M32.st.has 0 C rfl).1 (fun r hr=>?_)⟩;have h5:=hR.row j r (by omega) hr;rw[h5];show(match rd P (L j) with|some p=>_|none=>_)[r]? = _;rw[hpp]
def ArgsScs(w:World)(q:Option Addr)(n:Nat)(L:Nat->Bs):Prop:=0<n->∃gg,q=some ⟨gg,0,none⟩/\gg<w.heap.size/\∀j,j<n->∃v,w.cell? ⟨gg,j,none⟩=some v/\Arg w v (L j)
def PD(N:Nat)(w:World)(n:Nat)(L:Nat->Bs)(e:Value)(w':World):Prop:=
 (∃k,w.heap.size<=k/\k<w'.heap.size/\e=.tuple #[.slice (some ⟨k,0,none⟩) n n,.int .i64 0]/\∀j,j<n->∃p,rq N (L j)=some p/\w'.rangeAt k (4*j) (wn p)) \/
 ((∃j,j<n/\rq N (L j)=none)/\e=.tuple #[.slice none 0 0,.int .i64 3])
theorem Oi{N:Nat}(hG:Gap 4624529908474429119 4994812053365940164 1 N)(n cap:Nat)(hn:n<=512)(q:Option Addr)(L:Nat->Bs)(w:World)(hA:ArgsScs w q n L):Calls prog 39 #[.slice q n cap] w (Ret fun e w'=>Below w.heap.size w w'/\PD N w n L e w'):=by
 obtain⟨C,hCl,hmk⟩:=O8 n hn;obtain⟨i,-⟩:∃i:Nat,i=0:=⟨_,rfl⟩
 obtain⟨gg,-⟩:∃i:Nat,i=0:=⟨_,rfl⟩
 obtain⟨m,-⟩:∃i:Nat,i=0:=⟨_,rfl⟩
 obtain⟨v,-⟩:∃v:Value,v=.bool true:=⟨_,rfl⟩
 obtain⟨C2,-⟩:∃c:List Value,c=C:=⟨_,rfl⟩
 go_enter Tryz.func39,Tryz.ntmps39;refine RG.Ff (v0:=.slice q n cap) (n:=33) (by kernel_rfl) (by kernel_rfl) (by kernel_rfl) ?_;intro a0 sl0 f0;have hS0:=RG.St.begin w;have M0:RG.M w w.heap.size [] 33 [] [] [(0,(.v (.slice q n cap)))] a0 _:=⟨hS0,sl0,⟨f0,trivial⟩⟩
 repeat refine wp_seq ?_
 refine M0.u [.x 2 [] (.slice none 0 0),.x 3 [] (.int .i64 0)] [(0,(.v (.slice q n cap))),(2,(.v (.slice none 0 0))),(3,(.v (.int .i64 0)))] ⟨RG.st,RG.st,trivial⟩ ?_;intro a1 w1 M1;repeat refine wp_seq ?_
 refine M1.t [.x 9 [] (.slice q n cap),.x 10 [(9,0)] (.int .i64 n),⟨some 11,[(10,1)],(.s 0 n n),.make 0⟩,.s 4 [(11,2)] (.s 0 n n)] [(2,C)] [] [C] [(0,(.v (.slice q n cap))),(2,(.v (.slice none 0 0))),(3,(.v (.int .i64 0))),(4,(.s 0 n n))] ⟨RG.st,RG.eC rfl 9 (.v (.slice q n cap)) (.int .i64 n) rfl RG.sx (fun a w=>by kernel_rfl) (fun μ w=>by kernel_rfl),RG.gC 0 rfl _ rfl 87 41 10 10 n rfl rfl RG.sx RG.sx (hmk),RG.st,trivial⟩ ?_;intro j2 a2 w2 M2;repeat refine wp_seq ?_
 refine M2.u [.x 12 [] (.slice q n cap),.x 13 [(12,0)] (.int .i64 n),.x 14 [] (.int .i64 0)] [(2,(.v (.slice none 0 0))),(3,(.v (.int .i64 0))),(4,(.s 0 n n)),(12,(.v (.slice q n cap))),(13,(.v (.int .i64 n))),(14,(.v (.int .i64 0)))] ⟨RG.st,RG.eC rfl 12 (.v (.slice q n cap)) (.int .i64 n) rfl RG.sx (fun a w=>by kernel_rfl) (fun μ w=>by kernel_rfl),RG.st,trivial⟩ ?_;intro a3 w3 M3;have f2_3:a3.tmps[2]? = some (.slice none 0 0):=M3.at (s:=(.v (.slice none 0 0)));have f3_3:a3.tmps[3]? = some (.int .i64 0):=M3.at (s:=(.v (.int .i64 0)));have f4_3:a3.tmps[4]? = some (.slice (some ⟨j2,0,none⟩) n n):=M3.at (s:=(.s 0 n n));have f12_3:a3.tmps[12]? = some (.slice q n cap):=M3.at (s:=(.v (.slice q n cap)));have f13_3:a3.tmps[13]? = some (.int .i64 n):=M3.at (s:=(.v (.int .i64 n)));have f14_3:a3.tmps[14]? = some (.int .i64 0):=M3.at (s:=(.v (.int .i64 0)));repeat refine wp_seq ?_
 refine wp_block ?_;refine wp_loop_ghost (fun m a wr=>∃(i:Nat) (C:List Value),i+m=n/\(∀j,j<i->(rq N (L j)).isSome=true)/\Rows 4 n (fun j=>match rq N (L j) with|some k=>wn k|none=>[]) i C/\RG.Sl a 33/\a.tmps[4]? = some (.slice (some ⟨j2,0,none⟩) n n)/\a.tmps[12]? = some (.slice q n cap)/\a.tmps[13]? = some (.int .i64 n)/\a.tmps[14]? = some (.int .i64 i)/\RG.St w w.heap.size [] [C] [j2] wr) n ⟨0,C,by omega,fun j hj=>by omega,⟨hCl,fun j r hj=>by omega⟩,M3.sl,f4_3,f12_3,f13_3,f14_3,M3.st⟩ ?_;intro m' a wr;rintro⟨i,C,him,hall,hR,sl,p4,p12,p13,p14,hSp⟩;generalize j2=kt at p4 hSp;by_cases hi:i<n
 ·obtain⟨gg,hqe,hgg,hc⟩:=hA (by omega);rw[hqe]at p12;obtain⟨v,hv,harg⟩:=hc i hi;have hcell:w.cell? ⟨gg,0+i,none⟩=some v:=by rw[PU];exact hv
  cases hrdv:rq N (L i) with
  | some pp =>
   obtain⟨m,rfl⟩:∃m,m=pp:=⟨_,rfl⟩
   have hrd:∀w',RG.BelX w.heap.size [] w w'->Calls prog 77 #[gv1,v] w' (Ret fun e w''=>Below w'.heap.size w' w''/\e=.tuple #[nv m,.bool true]):=fun w' hb=>by
    have:=vY hG v (L i) w' (harg.below hb.below);rw[hrdv]at this;exact this
   have hlen:=hR.len;have hoff:0+4*i+(wn m).length<=C.length:=by rw[hlen];show 0+4*i+4<=4*n;omega
   obtain⟨C2,hC2e⟩:∃c,RG.rep C (0+4*i) (wn m)=c:=⟨_,rfl⟩
   have hC2:=hC2e ▸ RG.rep_at hoff;have hcl:C2.length=C.length:=hC2e ▸ RG.bV hoff;have hR2:Rows 4 n (fun j=>match rq N (L j) with|some k=>wn k|none=>[]) (i+1) C2:=by
    have:=hR.next hi (by show XC (match rq N (L i) with|some p=>_|none=>_)=_;rw[hrdv];rfl);rw[<-hC2e];have e:(fun j=>match rq N (L j) with|some k=>wn k|none=>[]) i=(wn m):=by show(match rq N (L i) with|some p=>_|none=>_)=_;rw[hrdv]
    rw[<-e];exact this
   have M10:RG.M w w.heap.size [] 33 [C] [kt] [(4,(.s 0 n n)),(12,(.v (.slice (some ⟨gg,0,none⟩) n cap))),(13,(.v (.int .i64 n))),(14,(.v (.int .i64 i)))] a _:=⟨hSp,sl,⟨p4,p12,p13,p14,trivial⟩⟩
   repeat refine wp_seq ?_
   refine M10.u [.x 15 [] (.bool true)] [(4,(.s 0 n n)),(12,(.v (.slice (some ⟨gg,0,none⟩) n cap))),(13,(.v (.int .i64 n))),(14,(.v (.int .i64 i))),(15,(.v (.bool true)))] ⟨RG.aG rfl .lss 3 3 14 13 (.int .i64 i) (.int .i64 n) (.bool true) rfl rfl RG.sx RG.sx (fun w=>by kernel_rfl) (dE hi),trivial⟩ ?_;intro a11 w11 M11;repeat refine wp_seq ?_
   refine wp_cond_true M11.ev ?_;refine wp_skip ?_;refine wp_seq ?_;refine wp_block ?_;repeat refine wp_seq ?_
   refine M11.u [.x 16 [] (.int .i64 i),.x 17 [] (.pointer (some ⟨gg,(0+i),none⟩)),.x 18 [(17,1)] v,.x 5 [(16,0)] (.int .i64 i),.x 6 [(18,2)] v] [(4,(.s 0 n n)),(5,(.v (.int .i64 i))),(6,(.v v)),(12,(.v (.slice (some ⟨gg,0,none⟩) n cap))),(13,(.v (.int .i64 n))),(14,(.v (.int .i64 i)))] ⟨RG.st,RG.aK rfl 23 12 14 rfl (.v (.slice (some ⟨gg,0,none⟩) n cap)) (.int .i64 i) RG.sx RG.sx (fun μ w=>J7 _ 0 _ _ i hi w),RG.aJ rfl gg (0+i) hgg P4 28 17 rfl v rfl RG.sx hcell u23,RG.st,RG.st,trivial⟩ ?_;intro a12 w12 M12;repeat refine wp_seq ?_
   refine M12.t [.c 20 [] gv1,.x 21 [] v,.c 22 [(20,0),(21,1)] (.tuple #[(nv m),(.bool true)]),.x 19 [(22,2)] (.tuple #[(nv m),(.bool true)]),.x 23 [(19,3)] (nv m),.x 24 [(19,3)] (.bool true),.m 7 [] 1,.u [(7,6),(23,4)] 1,.x 8 [(24,5)] (.bool true)] [(6,(RG.z 4))] [(1,7,(wn m))] [C,(wn m)] [(4,(.s 0 n n)),(5,(.v (.int .i64 i))),(7,(.p 1 0)),(8,(.v (.bool true))),(12,(.v (.slice (some ⟨gg,0,none⟩) n cap))),(13,(.v (.int .i64 n))),(14,(.v (.int .i64 i)))] ⟨RG.cl (fO),RG.st,RG.iD rfl 77 20 21 gv1 v (.tuple #[(nv m),(.bool true)]) rfl (fun a w=>by kernel_rfl) RG.sx RG.sx hrd,RG.st,RG.st,RG.st,RG.mk 1 41,RG.pt i85,RG.st,trivial⟩ ?_;intro j13 a13 w13 M13;repeat refine wp_seq ?_
   refine M13.u [.x 25 [] (.bool true),.x 26 [(25,0)] (.bool false)] [(4,(.s 0 n n)),(5,(.v (.int .i64 i))),(7,(.p 1 0)),(12,(.v (.slice (some ⟨gg,0,none⟩) n cap))),(13,(.v (.int .i64 n))),(14,(.v (.int .i64 i))),(26,(.v (.bool false)))] ⟨RG.st,RG.st,trivial⟩ ?_;intro a14 w14 M14;repeat refine wp_seq ?_
   refine wp_cond_false M14.ev ?_;refine wp_skip ?_;repeat refine wp_seq ?_
   refine M14.tx [.s 27 [] (.s 0 n n),.x 28 [] (.int .i64 i),.x 29 [] (nv m),.s 30 [(27,0),(28,1)] (.p 0 (0+4*i)),.u [(30,3),(29,2)] 0] [] [(0,4,C2)] [C2,(wn m)] [(4,(.s 0 n n)),(12,(.v (.slice (some ⟨gg,0,none⟩) n cap))),(13,(.v (.int .i64 n))),(14,(.v (.int .i64 i)))] (by kernel_rfl) (congrArg (fun n=>[n]) hcl) ⟨RG.st,RG.st,RG.ld u85 i85,RG.aK rfl 87 27 28 rfl (.s 0 n n) (.int .i64 i) RG.sx RG.sx (fun μ w=>Oc _ 0 _ _ i hi w),RG.cU 0 (0+4*i) rfl _ rfl 41 (.tmp 30) (.tmp 29) (wn m) rfl rfl RG.sx RG.sx hoff hC2 i85 rfl,trivial⟩ ?_;intro a15 w15 M15;repeat refine wp_seq ?_
   refine M15.u [.x 31 [] (.int .i64 ((i+1:Nat):Int)),.x 14 [(31,0)] (.int .i64 ((i+1:Nat):Int))] [(4,(.s 0 n n)),(12,(.v (.slice (some ⟨gg,0,none⟩) n cap))),(13,(.v (.int .i64 n))),(14,(.v (.int .i64 ((i+1:Nat):Int))))] ⟨RG.aI rfl .add 3 3 14 (.int .i64 i) (.int .i64 1) (.int .i64 ((i+1:Nat):Int)) rfl rfl RG.sx (fun w=>by kernel_rfl) (mH i 1 (by omega) (by omega)),RG.st,trivial⟩ ?_;intro a16 w16 M16;have f4_16:a16.tmps[4]? = some (.slice (some ⟨kt,0,none⟩) n n):=M16.at (s:=(.s 0 n n));have f12_16:a16.tmps[12]? = some (.slice (some ⟨gg,0,none⟩) n cap):=M16.at (s:=(.v (.slice (some ⟨gg,0,none⟩) n cap)));have f13_16:a16.tmps[13]? = some (.int .i64 n):=M16.at (s:=(.v (.int .i64 n)));have f14_16:a16.tmps[14]? = some (.int .i64 ((i+1:Nat):Int)):=M16.at (s:=(.v (.int .i64 ((i+1:Nat):Int))));show ∃n',_;exact⟨m'-1,by omega,i+1,C2,by omega,fun j hj=>(by
    by_cases hji:j=i
    ·rw[hji,hrdv];rfl
    ·exact hall j (by omega)),hR2,M16.sl,f4_16,(by rw[hqe];exact f12_16),f13_16,f14_16,RG.St.init (cs:=[C2]) (ks:=[kt]) M16.st⟩
  | none =>
   have hrd:∀w',RG.BelX w.heap.size [] w w'->Calls prog 77 #[gv1,v] w' (Ret fun e w''=>Below w'.heap.size w' w''/\e=.tuple #[nv 0,.bool false]):=fun w' hb=>by
    have:=vY hG v (L i) w' (harg.below hb.below);rw[hrdv]at this;exact this
   have M20:RG.M w w.heap.size [] 33 [C] [kt] [(4,(.s 0 n n)),(12,(.v (.slice (some ⟨gg,0,none⟩) n cap))),(13,(.v (.int .i64 n))),(14,(.v (.int .i64 i)))] a _:=⟨hSp,sl,⟨p4,p12,p13,p14,trivial⟩⟩
   repeat refine wp_seq ?_
   refine M20.u [.x 15 [] (.bool true)] [(12,(.v (.slice (some ⟨gg,0,none⟩) n cap))),(14,(.v (.int .i64 i))),(15,(.v (.bool true)))] ⟨RG.aG rfl .lss 3 3 14 13 (.int .i64 i) (.int .i64 n) (.bool true) rfl rfl RG.sx RG.sx (fun w=>by kernel_rfl) (dE hi),trivial⟩ ?_;intro a21 w21 M21;repeat refine wp_seq ?_
   refine wp_cond_true M21.ev ?_;refine wp_skip ?_;refine wp_seq ?_;refine wp_block ?_;repeat refine wp_seq ?_
   refine M21.u [.x 16 [] (.int .i64 i),.x 17 [] (.pointer (some ⟨gg,(0+i),none⟩)),.x 18 [(17,1)] v,.x 5 [(16,0)] (.int .i64 i),.x 6 [(18,2)] v] [(6,(.v v))] ⟨RG.st,RG.aK rfl 23 12 14 rfl (.v (.slice (some ⟨gg,0,none⟩) n cap)) (.int .i64 i) RG.sx RG.sx (fun μ w=>J7 _ 0 _ _ i hi w),RG.aJ rfl gg (0+i) hgg P4 28 17 rfl v rfl RG.sx hcell u23,RG.st,RG.st,trivial⟩ ?_;intro a22 w22 M22;repeat refine wp_seq ?_
   refine M22.t [.c 20 [] gv1,.x 21 [] v,.c 22 [(20,0),(21,1)] (.tuple #[(nv 0),(.bool false)]),.x 19 [(22,2)] (.tuple #[(nv 0),(.bool false)]),.x 23 [(19,3)] (nv 0),.x 24 [(19,3)] (.bool false),.m 7 [] 1,.u [(7,6),(23,4)] 1,.x 8 [(24,5)] (.bool false)] [(6,(RG.z 4))] [(1,7,(wn 0))] [C,(wn 0)] [(8,(.v (.bool false)))] ⟨RG.cl (fO),RG.st,RG.iD rfl 77 20 21 gv1 v (.tuple #[(nv 0),(.bool false)]) rfl (fun a w=>by kernel_rfl) RG.sx RG.sx hrd,RG.st,RG.st,RG.st,RG.mk 1 41,RG.pt i85,RG.st,trivial⟩ ?_;intro j23 a23 w23 M23;repeat refine wp_seq ?_
   refine M23.u [.x 25 [] (.bool false),.x 26 [(25,0)] (.bool true)] [(26,(.v (.bool true)))] ⟨RG.st,RG.st,trivial⟩ ?_;intro a24 w24 M24;repeat refine wp_seq ?_
   refine wp_cond_true M24.ev ?_;repeat refine wp_seq ?_
   refine M24.u [.x 2 [] (.slice none 0 0),.x 3 [] (.int .i64 3)] [(2,(.v (.slice none 0 0))),(3,(.v (.int .i64 3)))] ⟨RG.st,RG.st,trivial⟩ ?_;intro a25 w25 M25;refine wp_ret ?_;refine bodyPost_ret (v:=.tuple #[.slice none 0 0,.int .i64 3]) (RG.bH 2 3 rfl _ _ (M25.at (s:=(.v (.slice none 0 0)))) (M25.at (s:=(.v (.int .i64 3))))) M25.sl.defers ?_;exact⟨_,rfl,M25.st.bel.below,Qc ⟨⟨i,hi,hrdv⟩,rfl⟩⟩
 ·have hiN:i=n:=by omega
  have M30:RG.M w w.heap.size [] 33 [C] [kt] [(4,(.s 0 n n)),(12,(.v (.slice q n cap))),(13,(.v (.int .i64 n))),(14,(.v (.int .i64 i)))] a _:=⟨hSp,sl,⟨p4,p12,p13,p14,trivial⟩⟩
  repeat refine wp_seq ?_
  refine M30.u [.x 15 [] (.bool false)] [(4,(.s 0 n n)),(15,(.v (.bool false)))] ⟨RG.aG rfl .lss 3 3 14 13 (.int .i64 i) (.int .i64 n) (.bool false) rfl rfl RG.sx RG.sx (fun w=>by kernel_rfl) (fY hi),trivial⟩ ?_;intro a31 w31 M31;repeat refine wp_seq ?_
  refine wp_cond_false M31.ev ?_;refine wp_exit ?_;dsimp only[Exit.then,So];rw[if_pos rfl];repeat refine wp_seq ?_
  refine M31.u [.s 32 [] (.s 0 n n),.s 2 [(32,0)] (.s 0 n n),.x 3 [] (.int .i64 0)] [(2,(.s 0 n n)),(3,(.v (.int .i64 0)))] ⟨RG.st,RG.st,RG.st,trivial⟩ ?_;intro a32 w32 M32;refine wp_ret ?_;refine bodyPost_ret (v:=.tuple #[.slice (some ⟨kt,0,none⟩) n n,.int .i64 0]) (RG.bH 2 3 rfl _ _ (M32.at (s:=(.s 0 n n))) (M32.at (s:=(.v (.int .i64 0))))) M32.sl.defers ?_;refine⟨_,rfl,M32.st.bel.below,Ql ⟨kt,?_,?_,rfl,fun j hj=>?_⟩⟩
  ·exact(M32.st.has 0 C rfl).2.2.2.elim id (fun h=>absurd h P4)
  ·exact(M32.st.has 0 C rfl).2.2.1
  ·obtain⟨pp,hpp⟩:=Qx.1 (hall j (by omega));refine⟨pp,hpp,RG.oJ (M32.st.has 0 C rfl).1 (fun r hr=>?_)⟩;have h5:=hR.row j r (by omega) hr;rw[h5];show(match rq N (L j) with|some p=>_|none=>_)[r]? = _;rw[hpp]
end
section
open Go.RowKit Go.Sort Go.Deep
variable {P:Nat}[NeZero P]{N:Nat}
omit [NeZero P] in
theorem E9(x y:Fin P):∃a b c d p q r s:Nat,pv x y=.agg #[.int .u64 a,.int .u64 b,.int .u64 c,.int .u64 d,.int .u64 p,.int .u64 q,.int .u64 r,.int .u64 s]/\ws x++ws y=[.int .u64 a,.int .u64 b,.int .u64 c,.int .u64 d,.int .u64 p,.int .u64 q,.int .u64 r,.int .u64 s]:=
 ⟨_,_,_,_,_,_,_,_,rfl,rfl⟩
def Ai(c:Int)(e:Value):Prop:=e=.tuple #[.slice none 0 0,.int .i64 c]
def Cd(w:World)(T:Bs)(e:Value)(w':World):Prop:=∃g cap,e=.tuple #[.slice (some ⟨g,0,none⟩) 33 cap,.int .i64 0]/\33<=cap/\w.heap.size<=g/\g<w'.heap.size/\Holds encB w' g 0 T
theorem Gp{w:World}{v:Value}{bs:Bs}(T:TypeId)(h:Arg33 w v bs):ArgsPts (w.alloc (.cells #[v] T)) (some ⟨w.heap.size,0,none⟩) 1 (fun _=>bs):=fun _ =>
 ⟨w.heap.size,rfl,by rw[Qa];omega,fun j hj=>by
  obtain rfl:j=0:=by omega
  exact⟨v,by rw[Qj];rfl,h.below (aE w _)⟩⟩
theorem zG(C:Fld P)(v:Value)(bs:Bs)(w:World)(hv:Arg33 w v bs):Calls prog 141 #[v] w (Ret fun e w'=>Below w.heap.size w w'/\e=.bool (rd P bs).isSome):=by
 have hc:∃(a1 b1 c1 d1 p1 q1 r1 s1:Nat),Calls prog 78 #[v] w (Ret fun e w'=>Below w.heap.size w w'/\e=.tuple #[.agg #[.int .u64 a1,.int .u64 b1,.int .u64 c1,.int .u64 d1,.int .u64 p1,.int .u64 q1,.int .u64 r1,.int .u64 s1],.bool (rd P bs).isSome]):=by
  have h:=kD C v bs w hv;cases hrd:rd P bs with
  | none =>
   obtain⟨a1,b1,c1,d1,p1,q1,r1,s1,e1,-⟩:=E9 (0:Fin P) 0;refine⟨a1,b1,c1,d1,p1,q1,r1,s1,?_⟩;rw[hrd]at h;rw[<-e1];exact h
  | some p =>
   obtain⟨a1,b1,c1,d1,p1,q1,r1,s1,e1,-⟩:=E9 p.1 p.2;refine⟨a1,b1,c1,d1,p1,q1,r1,s1,?_⟩;rw[hrd]at h;rw[<-e1];exact h
 obtain⟨a1,b1,c1,d1,p1,q1,r1,s1,hc⟩:=hc;generalize (rd P bs).isSome=bb at hc⊢;obtain⟨q,n,cap,rfl,-⟩:=hv;go_enter Tryz.func141,Tryz.ntmps141;go_wp2_with fail
 refine hc.mono ?_;rintro e w1 ⟨v,rfl,hb1,rfl⟩;have HB:Hid (Below w.heap.size w w1):=hb1;clear hb1 hc;go_wp2;go_ret;exact⟨_,rfl,HB.out.alloc HB.out.size _,rfl⟩
def ptP(s:T3 P):Fin P × Fin P:=(s.1*(EC.inv s.2.2*EC.inv s.2.2),s.2.1*(EC.inv s.2.2*EC.inv s.2.2)*EC.inv s.2.2)
theorem cell_below{w w1:World}{k j:Nat}{v:Value}(h:w.cell? ⟨k,j,none⟩=some v)(hb:Below w.heap.size w w1)(hk:k<w.heap.size):w1.cell? ⟨k,j,none⟩=some v:=by
 have h1:w.rangeAt k j [v]:=fun i u hu=>by
  cases i with
  | zero =>
   obtain rfl:v=u:=Qh.inj hu;exact h
  | succ i=>exact absurd hu (by simp)
 exact RG.range_below h1 hb hk 0 v rfl
theorem ArgsPts.below{w w1:World}{q:Option Addr}{n:Nat}{L:Nat->Bs}(h:ArgsPts w q n L)(hb:Below w.heap.size w w1):ArgsPts w1 q n L:=fun hn=>by
 obtain⟨gg,hq,hlt,hc⟩:=h hn;refine⟨gg,hq,PS hlt hb.size,fun j hj=>?_⟩;obtain⟨v,hv,ha⟩:=hc j hj;exact⟨v,cell_below hv hb hlt,ha.below hb⟩
theorem ArgsScs.below{w w1:World}{q:Option Addr}{n:Nat}{L:Nat->Bs}(h:ArgsScs w q n L)(hb:Below w.heap.size w w1):ArgsScs w1 q n L:=fun hn=>by
 obtain⟨gg,hq,hlt,hc⟩:=h hn;refine⟨gg,hq,PS hlt hb.size,fun j hj=>?_⟩;obtain⟨v,hv,ha⟩:=hc j hj;exact⟨v,cell_below hv hb hlt,ha.below hb⟩
def SumR(P:Nat)[NeZero P](N:Nat)(w:World)(n a:Nat)(L M:Nat->Bs)(e:Value)(w':World):Prop:=
 (n≠a/\Ai 2 e)\/(n=a/\512<n/\Ai 1 e)\/(n=a/\n<=512/\(((∃j,j<n/\rq N (L j)=none)/\Ai 3 e) \/
  ∃ns:Nat->Nat,(∀j,j<n->rq N (L j)=some (ns j))/\(((∃j,j<n/\rd P (M j)=none)/\Ai 4 e) \/
   ∃xs ys:Nat->Fin P,(∀j,j<n->rd P (M j)=some (xs j,ys j))/\Cd w (sV (ptP (eE ns xs ys n 257)).1 (ptP (eE ns xs ys n 257)).2) e w')))
theorem sK{A:Type}[Inhabited A]{n:Nat}{p:Nat->A->Prop}(h:∀j,j<n->∃a,p j a):∃f:Nat->A,∀j,j<n->p j (f j):=
 ⟨fun j=>if hj:j<n then(h j hj).choose else default,fun j hj=>by
  show p j (if hj:j<n then(h j hj).choose else default);rw[dif_pos hj];exact(h j hj).choose_spec⟩
theorem AG{N:Nat}(hN:N<=top){bs:Bs}{m:Nat}(h:rq N bs=some m):m<top:=by
 unfold rq at h;split at h
 ·rename_i h1
  obtain rfl:beV bs.toList=m:=Qh.inj h;exact PS h1.2 hN
 ·exact absurd h (by simp)
theorem GV{N:Nat}(C:Fld P)(hG:Gap 4624529908474429119 4994812053365940164 1 N)(hN:N<=top)(q q':Option Addr)(n cap a cap':Nat)(L M:Nat->Bs)(w:World)(hL:ArgsScs w q n L)(hM:ArgsPts w q' a M):
 Calls prog 10 #[.slice q n cap,.slice q' a cap'] w (Ret fun e w'=>Below w.heap.size w w'/\SumR P N w n a L M e w'):=by
 have HL:Hid (ArgsScs w q n L):=hL;have HM:Hid (ArgsPts w q' a M):=hM;clear hL hM;by_cases hna:n=a
 ·subst hna;by_cases h512:512<n
  ·go_enter Tryz.func10,Tryz.ntmps10;go_wp2
   go_ret2
   exact⟨_,rfl,Qd _ _,Qc (Ql ⟨rfl,h512,rfl⟩)⟩
  ·have H5:n<=512:=by omega
   go_enter Tryz.func10,Tryz.ntmps10;go_wp2_with fail
   refine(Oi hG n cap H5 q L w HL.out).mono ?_;rintro e w1 ⟨v,rfl,hb1,⟨k,hk1,hk2,rfl,hrow⟩|⟨hno,rfl⟩⟩
   ·obtain⟨ns,hns⟩:=sK hrow;have HB:Hid (Below w.heap.size w w1):=hb1;have HS:Hid (k<w1.heap.size/\∀j,j<n->w1.rangeAt k (4*j) (wn (ns j))):=⟨hk2,fun j hj=>(hns j hj).2⟩
    have HN:Hid (∀j,j<n->rq N (L j)=some (ns j)):=fun j hj=>(hns j hj).1
    clear hrow hns hk1 hk2 hb1;go_wp2_with fail
    refine(Oj C n cap' H5 q' M w1 (HM.out.below HB.out)).mono ?_;rintro e w2 ⟨v,rfl,hb2,⟨k',hk1,hk2,rfl,hrow⟩|⟨hno,rfl⟩⟩
    ·obtain⟨ps,hps⟩:=sK hrow;have HB2:Hid (Below w.heap.size w w2):=HB.out.trans (hb2.mono HB.out.size);have HS2:Hid (k<w2.heap.size/\∀j,j<n->w2.rangeAt k (4*j) (wn (ns j))):=⟨PS HS.out.1 hb2.size,fun j hj=>RG.range_below (HS.out.2 j hj) hb2 HS.out.1⟩
     have HP:Hid (k'<w2.heap.size/\∀j,j<n->w2.rangeAt k' (8*j) (ws (ps j).1++ws (ps j).2)):=⟨hk2,fun j hj=>(hps j hj).2⟩
     have HM2:Hid (∀j,j<n->rd P (M j)=some ((ps j).1,(ps j).2)):=fun j hj=>(hps j hj).1
     clear hrow hps hk1 hk2 hb2;have hBt:∀w,Calls prog 12 #[pv (ptP (eE ns (fun j=>(ps j).1) (fun j=>(ps j).2) n 257)).1 (ptP (eE ns (fun j=>(ps j).1) (fun j=>(ps j).2) n 257)).2] w (Ret fun e w'=>Below w.heap.size w w'/\mK w (sV (ptP (eE ns (fun j=>(ps j).1) (fun j=>(ps j).2) n 257)).1 (ptP (eE ns (fun j=>(ps j).1) (fun j=>(ps j).2) n 257)).2) e w'):=Ds C _ _;have hS:Calls prog 41 #[.slice (some ⟨k,0,none⟩) n n,.slice (some ⟨k',0,none⟩) n n] w2 (Ret fun e w'=>Below w2.heap.size w2 w'/\e=pv (ptP (eE ns (fun j=>(ps j).1) (fun j=>(ps j).2) n 257)).1 (ptP (eE ns (fun j=>(ps j).1) (fun j=>(ps j).2) n 257)).2):=by
      refine(Lj C n H5 ns (fun j=>(ps j).1) (fun j=>(ps j).2) (fun i hi=>AG hN (HN.out i hi)) k k' w2 HS2.out.1 HP.out.1 HS2.out.2 HP.out.2).mono ?_;rintro e w' ⟨v,rfl,hb,s,rfl,rfl⟩;exact⟨_,rfl,hb,rfl⟩
     generalize hz:ptP (eE ns (fun j=>(ps j).1) (fun j=>(ps j).2) n 257)=z at hS hBt;have HZ:Hid (ptP (eE ns (fun j=>(ps j).1) (fun j=>(ps j).2) n 257)=z):=hz;clear hz;generalize pv z.1 z.2=v4 at hS hBt;go_wp2_with fail
     refine hS.mono ?_;rintro e w3 ⟨v,rfl,hb3,rfl⟩;have HB3:Hid (Below w.heap.size w w3):=HB2.out.trans (hb3.mono HB2.out.size);clear hb3;go_wp2_with fail
     refine(hBt _).mono ?_;rintro e w4 ⟨v,rfl,hb4,g,cap3,rfl,hc3,hg3,hlt3,hH3⟩;have HB4:Hid (Below w.heap.size w w4):=HB3.out.trans (hb4.mono HB3.out.size);have HO:Hid (Cd w (sV z.1 z.2) (.tuple #[.slice (some ⟨g,0,none⟩) 33 cap3,.int .i64 0]) w4):=⟨g,cap3,rfl,hc3,Qn HB3.out.size hg3,hlt3,hH3⟩
     clear hb4 hH3;go_wp2
     go_ret2
     refine⟨_,rfl,HB4.out,Qc (Qc ⟨rfl,H5,Qc ⟨ns,HN.out,Qc ⟨_,_,HM2.out,?_⟩⟩⟩)⟩;rw[HZ.out];exact HO.out
    ·have HB2:Hid (Below w.heap.size w w2):=HB.out.trans (hb2.mono HB.out.size);have HO:Hid (∃j,j<n/\rd P (M j)=none):=hno;clear hb2 hno;go_wp2
     go_ret2
     exact⟨_,rfl,HB2.out,Qc (Qc ⟨rfl,H5,Qc ⟨ns,HN.out,Ql ⟨HO.out,rfl⟩⟩⟩)⟩
   ·have HB:Hid (Below w.heap.size w w1):=hb1;have HO:Hid (∃j,j<n/\rq N (L j)=none):=hno;clear hb1 hno;go_wp2
    go_ret2
    exact⟨_,rfl,HB.out,Qc (Qc ⟨rfl,H5,Ql ⟨HO.out,rfl⟩⟩)⟩
 ·go_enter Tryz.func10,Tryz.ntmps10;go_wp2
  go_ret2
  exact⟨_,rfl,Qd _ _,Ql ⟨hna,rfl⟩⟩
theorem JA{w:World}{v:Value}{bs:Bs}(T:TypeId)(h:Arg w v bs):ArgsScs (w.alloc (.cells #[v] T)) (some ⟨w.heap.size,0,none⟩) 1 (fun _=>bs):=fun _ =>
 ⟨w.heap.size,rfl,by rw[Qa];omega,fun j hj=>by
  obtain rfl:j=0:=by omega
  exact⟨v,by rw[Qj];rfl,h.below (aE w _)⟩⟩
theorem JM(ns:Nat->Nat)(xs ys:Nat->Fin P)(st:T3 P)(p:Nat):inn ns xs ys st p 1=inn (fun _=>ns 0) (fun _=>xs 0) (fun _=>ys 0) st p 1:=rfl
theorem xT(ns:Nat->Nat)(xs ys:Nat->Fin P):∀m,eE ns xs ys 1 m=eE (fun _=>ns 0) (fun _=>xs 0) (fun _=>ys 0) 1 m
 | 0=>rfl
 | m+1=>by
  unfold eE;rw[xT ns xs ys m,JM]
def TimesR(P:Nat)[NeZero P](N:Nat)(w:World)(az bs:Bs)(e:Value)(w':World):Prop:=match rq N az,rd P bs with
 | none,_=>Ai 3 e
 | some _,none=>Ai 4 e
 | some n,some p=>Cd w (sV (ptP (eE (fun _=>n) (fun _=>p.1) (fun _=>p.2) 1 257)).1 (ptP (eE (fun _=>n) (fun _=>p.1) (fun _=>p.2) 1 257)).2) e w'
theorem GU{N:Nat}(C:Fld P)(hG:Gap 4624529908474429119 4994812053365940164 1 N)(hN:N<=top)(v u:Value)(az bs:Bs)(w:World)(hv:Arg w v az)(hu:Arg33 w u bs):
 Calls prog 5 #[v,u] w (Ret fun e w'=>Below w.heap.size w w'/\TimesR P N w az bs e w'):=by
 have HV:Hid (Arg w v az/\Arg33 w u bs):=⟨hv,hu⟩
 obtain⟨q,n,cap,rfl,-⟩:=hv;obtain⟨q',n',cap',rfl,-⟩:=hu;have HA:Hid (ArgsScs ((w.alloc (.cells #[.slice q n cap] 28)).alloc (.cells #[.slice q' n' cap'] 28)) (some ⟨w.heap.size,0,none⟩) 1 (fun _=>az)):=(JA _ HV.out.1).below (aE _ _);have HA':Hid (ArgsPts ((w.alloc (.cells #[.slice q n cap] 28)).alloc (.cells #[.slice q' n' cap'] 28)) (some ⟨w.heap.size+1,0,none⟩) 1 (fun _=>bs)):=by
  have h:=Gp 28 (HV.out.2.below (aE w (.cells #[.slice q n cap] 28)));rw[Qa]at h;exact h
 have HW:Hid (Below w.heap.size w ((w.alloc (.cells #[.slice q n cap] 28)).alloc (.cells #[.slice q' n' cap'] 28))):=(aE w _).trans ((aE _ _).mono (by simp));go_enter Tryz.func5,Tryz.ntmps5;go_wp2_with fail
 refine(GV C hG hN _ _ 1 1 1 1 (fun _=>az) (fun _=>bs) _ HA.out HA'.out).mono ?_;have hone:∀m (ns:Nat->Nat) (xs ys:Nat->Fin P) W k z,m=257->Holds encB W k 0 (sV (ptP (eE ns xs ys 1 m)).1 (ptP (eE ns xs ys 1 m)).2)->z=eE (fun _=>ns 0) (fun _=>xs 0) (fun _=>ys 0) 1 m->Holds encB W k 0 (sV (ptP z).1 (ptP z).2):=by
  intro m ns xs ys W k z _ h hz;rw[xT ns xs ys m]at h;rw[hz];exact h
 rintro e w1 ⟨v,rfl,hb1,hs⟩;have HB:Hid (Below w.heap.size w w1):=HW.out.trans (hb1.mono HW.out.size);have HT:Hid (TimesR P N w az bs v w1):=by
  unfold TimesR;rcases hs with⟨h,-⟩|⟨-,h,-⟩|⟨-,-,⟨⟨j,-,h⟩,ho⟩|⟨ns,hns,⟨⟨j,-,h⟩,ho⟩|⟨xs,ys,hp,g,cp,ho,hc,hg1,hg2,hH⟩⟩⟩
  ·exact absurd rfl h
  ·omega
  ·rw[show rq N az=none from h];exact ho
  ·rw[show rq N az=some (ns 0) from hns 0 (by decide),show rd P bs=none from h];exact ho
  ·rw[show rq N az=some (ns 0) from hns 0 (by decide),show rd P bs=some (xs 0,ys 0) from hp 0 (by decide)];refine⟨g,cp,ho,hc,?_,hg2,?_⟩
   ·exact Qn HW.out.size hg1
   ·exact hone 257 ns xs ys _ _ _ rfl hH rfl
 clear hb1 hs;have hv2:∃a b,v=.tuple #[a,b]:=by
  have:=HT.out;unfold TimesR at this;split at this
  ·exact⟨_,_,this⟩
  ·exact⟨_,_,this⟩
  ·obtain⟨g,cp,ho,-⟩:=this;exact⟨_,_,ho⟩
 obtain⟨a,b,rfl⟩:=hv2;go_wp2
 go_ret2
 exact⟨_,rfl,HB.out,HT.out⟩
def nW:Bs:=PX 33 0
theorem Lm(r d:Nat):d*d%(r+d)=r*r%(r+d):=by
 have h:d*d+(r+d)*r=r*r+(r+d)*d:=by
  rw[SK,SK,Qr d r];omega
 have h1:=congrArg (· % (r+d)) h;simp only[Nat.add_mul_mod_self_left]at h1;exact h1
theorem Cv{m y:Fin P}(h:rt m=some y):y*y=m:=by
 have h0:=FD h;unfold rt at h;rw[if_pos h0]at h;obtain rfl:=Qh.inj h;have hP:=Vg P;have hr:m.val^(P/4+1)%P<P:=RN _ hP;generalize m.val^(P/4+1)%P=r at h0 hr;apply Ud;rw[S9];show(even P r%P)*(even P r%P)%P=m.val;rw[Qf (Db hP hr),<-h0];unfold even;split
 ·have h2:=Lm r (P-r);rw[show r+(P-r)=P by omega]at h2;exact h2
 ·rfl
theorem iU{bs:Bs}(hs:bs.size=33):jQ bs↔bs=nW:=by
 constructor
 ·intro h;apply Vf
  ·rw[hs];rfl
  ·intro i h1 h2;have:=h i (Rh.2 (by omega));rw[getElem!_pos bs i h1]at this;have h3:bs[i].toNat=0:=by
    have h4:ub bs[i]=(bs[i].toNat:Int):=rfl;rw[h4]at this;omega
   have h5:(nW)[i]=0:=by
    have h6:(PX 33 (0:UInt8))[i]'h2=0:=Q6 _;exact h6
   rw[h5];exact UInt8.toNat_inj.1 h3
 ·rintro rfl i hi;have hi:=Rh.1 hi;unfold nW;rw[getElem!_pos _ i (by rw[P7];exact hi),Q6];rfl
theorem yR{x y:Fin P}(h:y*y=x*x*x+7):EC.On (.some (x,y):EC.Pt P):=by
 show y^2=x^3+7
 grobner
theorem Bc{x y:Fin P}(h:y*y=x*x*x+7):EC.On (.some (x,0-y):EC.Pt P):=by
 show(0-y)^2=x^3+7
 grobner
def wr:EC.Pt P->Bs
 | none=>nW
 | some (x,y)=>#[mark y.val]++bx x.val
theorem wW(C:Fld P){x y:Fin P}{p:EC.Pt P}(h:EC.Pair x y p)(ho:EC.On p):sV x y=wr p:=by
 unfold sV;match p,h,ho with
 | none,h,_=>rw[if_pos (show x=0/\y=0 from h)];rfl
 | some (a,b),h,ho =>
  obtain⟨rfl,rfl⟩:=h;rw[if_neg (fun e=>C.cur.y_ne ho e.2)];rfl
def pt(p:Fin P × Fin P):EC.Pt P:=if p.1=0/\p.2=0 then none else some p
theorem Jp(C:Fld P){x y:Fin P}{q:EC.Pt P}(h:EC.Pair x y q)(ho:EC.On q):q=pt (x,y):=by
 unfold pt;match q,h,ho with
 | none,h,_=>rw[if_pos (show x=0/\y=0 from h)]
 | some (a,b),h,ho =>
  obtain⟨rfl,rfl⟩:=h;rw[if_neg (fun e=>C.cur.y_ne ho e.2)]
theorem CE(C:Fld P){bs:Bs}{p:Fin P × Fin P}(h:rd P bs=some p):EC.Pair p.1 p.2 (pt p)/\EC.On (pt p):=by
 have key:∃q:EC.Pt P,EC.Pair p.1 p.2 q/\EC.On q:=by
  unfold rd at h;split at h
  ·split at h
   ·obtain rfl:=Qh.inj h;exact⟨none,⟨rfl,rfl⟩,EC.eN⟩
   ·split at h
    ·split at h
     ·obtain⟨y,hr,rfl⟩:=PV.1 h;have hsq:=Cv hr;refine⟨some (rdx P bs,if ub bs[0]! = 3 then 0-y else y),⟨rfl,rfl⟩,?_⟩;split
      ·exact Bc hsq
      ·exact yR hsq
     ·cases h
    ·cases h
  ·cases h
 obtain⟨q,h1,h2⟩:=key;have:=Jp C h1 h2;rw[show pt p=q from this.symm];exact⟨h1,h2⟩
def Cc(P:Nat)[NeZero P](N:Nat)(w:World)(az bs:Bs)(e:Value)(w':World):Prop:=match rq N az,rd P bs with
 | none,_=>Ai 3 e
 | some _,none=>Ai 4 e
 | some n,some p=>Cd w (wr (EC.mul n (pt p))) e w'
theorem TimesR.q(C:Fld P){N:Nat}(hN:N<=top){w w':World}{az bs:Bs}{e:Value}(h:TimesR P N w az bs e w'):Cc P N w az bs e w':=by
 unfold TimesR at h;unfold Cc;cases h1:rq N az with
 | none=>rw[h1]at h;exact h
 | some n =>
  cases h2:rd P bs with
  | none=>rw[h1,h2]at h;exact h
  | some p =>
   rw[h1,h2]at h;have hp:=CE C h2;have hJ:=xU C (N:=1) (ns:=fun _=>n) (xs:=fun _=>p.1) (ys:=fun _=>p.2) (p:=fun _=>pt p) (fun _ _=>AG hN h1) (fun _ _=>hp.1) (fun _ _=>hp.2);have e1:=wW C (hJ.pair C) hJ.2;have e2:EC.tot (fun _=>pt p) 1 (fun _=>(n:Int))=EC.mul n (pt p):=by
    rfl
   rw[e2]at e1;dsimp only at h⊢;rw[<-e1];exact h
omit [NeZero P] in
theorem aX(p:EC.Pt P):(wr p).size=33:=by
 match p with
 | none=>rfl
 | some (x,y) =>
  show(#[mark y.val]++bx x.val).size=33;rw[QF,cN];rfl
end
section
variable {P:Nat}[NeZero P]{N:Nat}
theorem FN{a P:Nat}(h:NT.IsP P)(h4:P%4=3):(a*a%P)^(P/4+1)%P*((a*a%P)^(P/4+1)%P)%P=a*a%P:=by
 rw[<-RP,<-Nat.pow_add,<-Nat.pow_mod,<-XG,<-Nat.pow_mul,show 2*(P/4+1+(P/4+1))=P+1 by omega,Nat.pow_succ,RP,h.fermat a,<-RP,XG]
theorem I2{a R P:Nat}(h:NT.IsP P)(ha:a<P)(hR:R<P)(he:R*R%P=a*a%P):R=a\/R+a=P:=by
 have key:∀x y:Nat,x<P->y<P->y<=x->x*x%P=y*y%P->x=y\/x+y=P:=by
  intro x y hx hy hxy hxe;have hd:P ∣ x*x-y*y:=by
   refine Nat.dvd_of_mod_eq_zero ?_;exact Nat.sub_mod_eq_zero_of_mod_eq hxe
  have hf:x*x-y*y=(x-y)*(x+y):=by
   rw[Qr (x-y),Nat.mul_self_sub_mul_self_eq]
  rw[hf]at hd;rcases h.euclid hd with h1|h1
  ·left;have:=Nat.eq_zero_of_dvd_of_lt h1 (by omega);omega
  ·obtain⟨k,hk⟩:=h1;have:k=0\/k=1\/2<=k:=by omega
   rcases this with rfl|rfl|h2
   ·left;omega
   ·right;omega
   ·have:=Nat.mul_le_mul_left P h2;omega
 rcases Nat.le_total a R with h1|h1
 ·exact key R a hR ha h1 he
 ·rcases key a R ha hR h1 he.symm with h2|h2
  ·left;exact h2.symm
  ·right;omega
end
section
open Go.RowKit Go.Sort Go.Deep
theorem vI(x:Nat)(hx:x<18446744073709551616):
 w8 (P9 (x/72057594037927936)) (P9 (x/281474976710656)) (P9 (x/1099511627776)) (P9 (x/4294967296)) (P9 (x/16777216)) (P9 (x/65536)) (P9 (x/256)) (P9 x)=x:=by
 unfold w8;simp only[UN];omega
theorem ES(a b c d:Nat):(be32 a b c d).toList=[P9 (d/72057594037927936),P9 (d/281474976710656),P9 (d/1099511627776),P9 (d/4294967296),P9 (d/16777216),P9 (d/65536),P9 (d/256),P9 d,P9 (c/72057594037927936),P9 (c/281474976710656),P9 (c/1099511627776),P9 (c/4294967296),P9 (c/16777216),P9 (c/65536),P9 (c/256),P9 c,P9 (b/72057594037927936),P9 (b/281474976710656),P9 (b/1099511627776),P9 (b/4294967296),P9 (b/16777216),P9 (b/65536),P9 (b/256),P9 b,P9 (a/72057594037927936),P9 (a/281474976710656),P9 (a/1099511627776),P9 (a/4294967296),P9 (a/16777216),P9 (a/65536),P9 (a/256),P9 a]:=by
 simp only[be32,be8,TI,Vj,List.nil_append]
theorem val_congr{a b c d p q r s:Nat}(h1:a=p)(h2:b=q)(h3:c=r)(h4:d=s):val a b c d=val p q r s:=by subst h1 h2 h3 h4;rfl
theorem Hy(a b c d:Nat)(ha:a<18446744073709551616)(hb:b<18446744073709551616)(hc:c<18446744073709551616)(hd:d<18446744073709551616):beV (be32 a b c d).toList=val a b c d:=
 (congrArg beV (ES a b c d)).trans ((HU _ _ _ _ _ _ _ _ _ _ _ _ _ _ _ _ _ _ _ _ _ _ _ _ _ _ _ _ _ _ _ _).trans (val_congr (vI a ha) (vI b hb) (vI c hc) (vI d hd)))
theorem wX{n:Nat}(hn:n<top):beV (bx n).toList=n:=by
 unfold bx;rw[Hy _ _ _ _ (by omega) (by omega) (by omega) (by omega)];unfold val;unfold top at hn;omega
variable {P:Nat}[NeZero P]
theorem FG(C:Fld P){y m:Fin P}(h:y*y=m):rt m=some (if y.val%2=1 then 0-y else y):=by
 have hm:y.val*y.val%P=m.val:=by rw[<-h,S9]
 have h1:=FN (a:=y.val) C.cur.pr C.p3;rw[hm]at h1;unfold rt;rw[if_pos h1];have hP:=Vg P;have hr:m.val^(P/4+1)%P<P:=RN _ hP;generalize m.val^(P/4+1)%P=r at h1 hr;have hy:=y.isLt;have h3:=C.p3;have hor:=I2 C.cur.pr hy hr (h1.trans hm.symm)
 congr 1
 apply Ud;show even P r%P=_;unfold even;have h0:(0-y:Fin P).val=(P-y.val)%P:=by rw[<-iZ,EC.val_zero,PU]
 by_cases ho:y.val%2=1
 ·rw[if_pos ho,h0];rcases hor with e|e
  ·rw[e,if_pos ho]
  ·rw[if_neg (by omega),show P-y.val=r by omega]
 ·rw[if_neg ho];rcases hor with e|e
  ·rw[e,if_neg ho,Qf hy]
  ·by_cases hz:y.val=0
   ·omega
   ·rw[if_pos (by omega),show P-r=y.val by omega,Qf hy]
theorem Iz(n:Nat):ub (mark n)=if n%2=1 then 3 else 2:=by
 unfold mark;split<;>rfl
theorem IC{m:UInt8}{b:Bs}(h:b.size=32):dT (#[m]++b)=b:=by
 unfold dT;rw[Array.extract_append];have h1:(#[m]:Bs).extract 1 33=#[]:=by rfl
 rw[h1];simp[h]
theorem Mb(m:UInt8)(b:Bs):(#[m]++b)[0]! = m:=by
 rw[getElem!_pos _ 0 (by rw[QF];simp;omega),Array.getElem_append_left (by simp)];rfl
theorem Ny(C:Fld P){b:Bs}(hs:b.size=33){x y:Fin P}(hm:ub b[0]! = if y.val%2=1 then 3 else 2)(hv:beV (dT b).toList=x.val)(h:EC.On (some (x,y):EC.Pt P)):rd P b=some (x,y):=by
 have hz:¬jQ b:=fun hz=>by
  have:=hz 0 (Rh.2 (by decide));rw[hm]at this;split at this<;>omega
 have hx:rdx P b=x:=by
  unfold rdx;rw[hv];exact Ud (Qf x.isLt)
 have hy:y*y=x*x*x+7:=by
  have:y^2=x^3+7:=h
  grobner
 unfold rd;rw[if_pos hs,if_neg hz,hm,hv,if_pos x.isLt,hx,FG C hy];by_cases ho:y.val%2=1
 ·rw[if_pos ho,if_pos (Qc rfl),if_pos ho,Ty,if_pos rfl];have e:0-(0-y)=y:=by grobner
  rw[e]
 ·rw[if_neg ho,if_pos (Ql rfl),if_neg ho,Ty,if_neg (by decide)]
theorem rC(C:Fld P){X:EC.Pt P}(h:EC.On X):∃p,rd P (wr X)=some p/\pt p=X:=by
 match X,h with
 | none,_ =>
  refine⟨(0,0),?_,by unfold pt;rw[if_pos ⟨rfl,rfl⟩]⟩;have h1:(wr (none:EC.Pt P)).size=33:=aX _;have h2:jQ (wr (none:EC.Pt P)):=(iU h1).2 rfl;generalize wr (none:EC.Pt P)=b at h1 h2;unfold rd;rw[if_pos h1,if_pos h2]
 | some (x,y),h =>
  have hs:=aX (P:=P) (some (x,y));have hb0:(wr (some (x,y):EC.Pt P))[0]! = mark y.val:=Mb _ _;have ht:dT (wr (some (x,y):EC.Pt P))=bx x.val:=IC (cN _);refine⟨(x,y),Ny C hs (by rw[hb0,Iz]) (by rw[ht,wX (C.top x)]) h,by unfold pt;rw[if_neg (fun e=>C.cur.y_ne h e.2)]⟩
end
section
open Go.RowKit Go.Sort Go.Deep
variable {P:Nat}[NeZero P]{N:Nat}
def gxl:List Value:=[.int .u64 6481385041966929816,.int .u64 188021827762530521,.int .u64 6170039885052185351,.int .u64 8772561819708210092]
def gyl:List Value:=[.int .u64 11261198710074299576,.int .u64 18237243440184513561,.int .u64 6747795201694173352,.int .u64 5204712524664259685]
def gX(P:Nat)[NeZero P]:Fin P:=SA P 55066263022277343669578718895168534326250603453777594175500187360389116729240
def gY(P:Nat)[NeZero P]:Fin P:=SA P 32670510020758816978083085130507043184471273380659243275938904335757337482424
def gG(P:Nat)[NeZero P]:EC.Pt P:=some (gX P,gY P)
theorem Fld.eq(C:Fld P):P=115792089237316195423570985008687907853269984665640564039457584007908834671663:=by
 have h:=C.gap.hP;have e:val 4294968273 0 0 0=4294968273:=by decide
 rw[e]at h;unfold Go.Proofs.YtfcnimopdjjhcaaGreat.top at h;omega
theorem Bq(C:Fld P):(gX P).val=55066263022277343669578718895168534326250603453777594175500187360389116729240:=by
 have h:=C.eq;exact Qf (by omega)
theorem Bp(C:Fld P):(gY P).val=32670510020758816978083085130507043184471273380659243275938904335757337482424:=by
 have h:=C.eq;exact Qf (by omega)
theorem Mj(C:Fld P):gxl=ws (gX P):=by
 show _=wn (gX P).val;rw[Bq C];kernel_rfl
theorem Mi(C:Fld P):gyl=ws (gY P):=by
 show _=wn (gY P).val;rw[Bp C];kernel_rfl
theorem nE(C:Fld P):EC.On (gG P):=by
 refine yR (Ud ?_);have h7:(7:Fin P).val=7:=Qf C.p7;rw[S9,Fin.val_add,S9,S9,Bq C,Bp C,h7];have h:=C.eq;rw[h]
theorem MD:Gives 11 #[] (.agg (gxl++gyl).toArray):=by
 intro w;go_enter Tryz.func11,Tryz.ntmps11;refine RG.M.enter [] 4 (by kernel_rfl) ?_;intro a0 M0;repeat refine wp_seq ?_
 refine M0.t [.m 0 [] 0] [(0,RG.z 8)] [] [RG.z 8] [(0,.p 0 0)] ⟨RG.mk 0 43,trivial⟩ ?_;intro j1 a1 w1 M1;repeat refine wp_seq ?_
 refine M1.t [.x 1 [] (.agg gxl.toArray),.x 2 [] (.agg gyl.toArray),.x 3 [(1,0),(2,1)] (.agg (gxl++gyl).toArray),.u [(3,2)] 0] [] [(0,3,gxl++gyl)] [gxl++gyl] [(0,.p 0 0)] ⟨RG.st,RG.st,RG.st,RG.pt i109,trivial⟩ ?_;intro a2 w2 M2;refine wp_ret ?_;refine bodyPost_ret (v:=.agg (gxl++gyl).toArray) (RG.aC M2.st 0 43 rfl 0 _ rfl (M2.at (s:=.p 0 0)) gP i109) M2.sl.defers ?_;exact⟨_,rfl,M2.st.bel.below,rfl⟩
theorem ME(C:Fld P):Gives 11 #[] (pv (gX P) (gY P)):=by
 unfold pv;rw[<-Mj C,<-Mi C];exact MD
theorem NY(C:Fld P):sV (gX P) (gY P)=wr (gG P):=wW C ⟨rfl,rfl⟩ (nE C)
theorem Ch(C:Fld P)(w:World):Calls prog 6 #[] w (Ret fun e w'=>Below w.heap.size w w'/\mK w (wr (gG P)) e w'):=by
 have HC:Hid (Fld P):=C;clear C;go_enter Tryz.func6,Tryz.ntmps6;go_wp2_with fail
 refine(ME HC.out _).mono ?_;rintro e w1 ⟨v,rfl,hb1,rfl⟩;go_wp2_with fail
 refine(Ds HC.out (gX P) (gY P) _).mono ?_;rintro e w2 ⟨v,rfl,hb2,g,cap,rfl,h1,h2,h3,h4⟩;rw[NY HC.out]at h4;have HB:Hid (Below w.heap.size w w2/\mK w (wr (gG P)) (.slice (some ⟨g,0,none⟩) 33 cap) w2):=⟨hb1.trans (hb2.mono hb1.size),g,cap,rfl,h1,Qn hb1.size h2,h3,h4⟩
 clear hb1 hb2 h1 h2 h3 h4;go_wp2;go_ret;exact⟨_,rfl,HB.out⟩
end
section
open Go.RowKit Go.Sort Go.Deep Go.Shelf
attribute [local go_sem] Oper.semAt_some
section
variable {F:Fence}{n:Nat}{P:Program}{ops:Array Oper}{rest:List Oper}{op:Oper}{a:Act}{w:World}{Q:Exit->Act->World->Prop}
end
def Row(W:World)(k:Nat)(vs:List Value):Prop:=k<W.heap.size/\W.rangeAt k 0 vs/\W.there k 0 vs.length
theorem Cy(k:Nat)(vs:List Value):Own (fun(_:Unit) W=>Row W k vs):=fun s A B row hs hg hr=>by
 refine⟨PS hs.1 hg.size,fun j v hj=>?_,fun j hj=>?_⟩
 ·exact cell_kept (hs.2.1 j v hj) hg hr
 ·have h1:=hs.2.1 j vs[j] (List.getElem?_eq_getElem hj);have h2:=cell_kept h1 hg hr;exact⟨by rw[h2];rfl,(frozen_kept h1 hg hr).trans (hs.2.2 j hj).2⟩
theorem Row.alloc{W:World}{k:Nat}{vs:List Value}(h:Row W k vs)(o:Obj):Row (W.alloc o) k vs:=
 Cy k vs () W (W.alloc o) none h (World.grownBy_alloc W o none) (fun _ e=>by cases e)
theorem Row.putObj{W:World}{k D:Nat}{vs:List Value}(h:Row W k vs){o:Obj}(hD:W.heap[D]? = some o)(ho:o.isCells=false)(o':Obj):Row (W.putObj D o') k vs:=
 Cy k vs () W (W.putObj D o') (some D) h (grownBy_putObj' W D o') (fun r e=>by cases e;exact⟨_,hD,ho⟩)
theorem Row.below{W W':World}{k:Nat}{vs:List Value}(h:Row W k vs)(hb:Below W.heap.size W W'):Row W' k vs:=by
 have e:=hb.block k h.1;refine⟨PS h.1 hb.size,fun j v hj=>?_,fun j hj=>?_⟩
 ·exact(Qt e).trans (h.2.1 j v hj)
 ·have h1:=h.2.2 j hj;exact⟨by rw[Qt e];exact h1.1,(Ro e).trans h1.2⟩
theorem aY{P:Program}{fn:Func}{tmps:Array Value}{W:World}{k:Nat}{vs:List Value}(t:Tmp)(T:TypeId)(hr:fn.results=#[.cell t T])(h:Row W k vs)(ht:tmps[t]? = some (.pointer (some ⟨k,0,none⟩)))
 (hu:(P.underlying T).map (·.isRow)=some true) (hi:(P.info? T).map (·.size)=some vs.length):(results fn tmps).run P W=.ok (.agg vs.toArray) W:=by
 obtain⟨d,hu,hd⟩:=PV.1 hu;have h1:=run_loadVar_mid (P:=P) W k 0 T vs d h.2.1 hu hd hi;have h2:tmps.getD t undef=.pointer (some ⟨k,0,none⟩):=by rw[Array.getD_eq_getD_getElem?,ht];rfl
 unfold results;rw[hr];simp only[Array.mapM_eq_mapM_toList,List.mapM_cons,List.mapM_nil,h2,asAddr];simp[Sem.run_bind,h1]
theorem Row.put{W:World}{k:Nat}{vs us:List Value}(h:Row W k vs)(hl:us.length=vs.length):Row (W.setCells k 0 us) k us:=
 ⟨by rw[RG.setCells_size];exact h.1,World.rangeAt_setCells_same W k 0 us (by rw[hl];exact h.2.2),by rw[hl];exact TC h.2.2 _ _ _⟩
theorem Row.other{W:World}{k j:Nat}{vs us:List Value}(h:Row W k vs)(hne:k≠j):Row (W.setCells j 0 us) k vs:=
 ⟨by rw[RG.setCells_size];exact h.1,World.rangeAt_setCells_apart h.2.1 j 0 us (Ql hne),TC h.2.2 _ _ _⟩
variable {P:Nat}[NeZero P]
end
section
open Go.RowKit Go.Sort Go.Deep
variable {P:Nat}[NeZero P]{N:Nat}
theorem g9{w W:World}{k0 k1 g0 g1 g2:Nat}(h:Kept w k0 [⟨k0,0,g0,g1,g2,0⟩,⟨k1,0,0,0,0,0⟩] W):W.cell? ⟨k0,0,none⟩=some (.int .u64 g0)/\W.cell? ⟨k0,1,none⟩=some (.int .u64 g1)/\W.cell? ⟨k0,2,none⟩=some (.int .u64 g2)/\W.cell? ⟨k0,3,none⟩=some (.int .u64 0)/\Kept w k0 [⟨k0,0,g0,g1,g2,0⟩,⟨k1,0,0,0,0,0⟩] W:=⟨h.head.c0,h.head.c1,h.head.c2,h.head.c3,h⟩
theorem iN{w W:World}{k0 k1 g0 g1 g2:Nat}(h:W.cell? ⟨k0,0,none⟩=some (.int .u64 g0)/\W.cell? ⟨k0,1,none⟩=some (.int .u64 g1)/\W.cell? ⟨k0,2,none⟩=some (.int .u64 g2)/\W.cell? ⟨k0,3,none⟩=some (.int .u64 0)/\Kept w k0 [⟨k0,0,g0,g1,g2,0⟩,⟨k1,0,0,0,0,0⟩] W):Kept w k0 [⟨k0,0,g0,g1,g2,0⟩,⟨k1,0,0,0,0,0⟩] W:=h.2.2.2.2
theorem AM{w W:World}{k0 k1 g0 g1 g2:Nat}{o:Obj}(h:W.cell? ⟨k0,0,none⟩=some (.int .u64 g0)/\W.cell? ⟨k0,1,none⟩=some (.int .u64 g1)/\W.cell? ⟨k0,2,none⟩=some (.int .u64 g2)/\W.cell? ⟨k0,3,none⟩=some (.int .u64 0)/\Kept w k0 [⟨k0,0,g0,g1,g2,0⟩,⟨k1,0,0,0,0,0⟩] W):(W.alloc o).cell? ⟨k0,0,none⟩=some (.int .u64 g0)/\(W.alloc o).cell? ⟨k0,1,none⟩=some (.int .u64 g1)/\(W.alloc o).cell? ⟨k0,2,none⟩=some (.int .u64 g2)/\(W.alloc o).cell? ⟨k0,3,none⟩=some (.int .u64 0)/\Kept w k0 [⟨k0,0,g0,g1,g2,0⟩,⟨k1,0,0,0,0,0⟩] (W.alloc o):=g9 ((iN h).alloc o)
theorem yI{w W:World}{k0 k1 g0 g1 g2:Nat}{o:Obj}(h:W.drew.cell? ⟨k0,0,none⟩=some (.int .u64 g0)/\W.drew.cell? ⟨k0,1,none⟩=some (.int .u64 g1)/\W.drew.cell? ⟨k0,2,none⟩=some (.int .u64 g2)/\W.drew.cell? ⟨k0,3,none⟩=some (.int .u64 0)/\Kept w k0 [⟨k0,0,g0,g1,g2,0⟩,⟨k1,0,0,0,0,0⟩] W.drew):(W.alloc o).drew.cell? ⟨k0,0,none⟩=some (.int .u64 g0)/\(W.alloc o).drew.cell? ⟨k0,1,none⟩=some (.int .u64 g1)/\(W.alloc o).drew.cell? ⟨k0,2,none⟩=some (.int .u64 g2)/\(W.alloc o).drew.cell? ⟨k0,3,none⟩=some (.int .u64 0)/\Kept w k0 [⟨k0,0,g0,g1,g2,0⟩,⟨k1,0,0,0,0,0⟩] (W.alloc o).drew:=g9 (((iN h).undrew).alloc o).drew
theorem jL{w:World}{g o:Nat}{bs:Bs}(p l:Nat)(h:Holds encB w g o bs)(hp:p+l<=bs.size):Holds encB w g (o+p) (bs.extract p (p+l)):=by
 refine Holds.part h (by rw[QQ];omega) (fun j hj=>?_);rw[QQ]at hj;rw[getElem!_pos (bs.extract p (p+l)) j (by rw[QQ];omega),getElem!_pos bs (p+j) (by omega),Tu]
theorem zE{w:World}{g o:Nat}{bs:Bs}(f:Nat)(h:Holds encB w g o bs)(hf:f<=bs.size):Holds encB w g o (bs.extract 0 f):=by
 have:=jL 0 f h (by omega);rwa[PU,RD]at this
def RedR(w:World)(k0 k1 g0 g1 g2 N:Nat)(s6:Value)(wx:World):Prop:=
 ∃k6 a b c d:Nat,s6=.pointer (some ⟨k6,0,none⟩)/\Kept w k0 [⟨k6,0,a,b,c,d⟩,⟨k0,0,g0,g1,g2,0⟩,⟨k1,0,0,0,0,0⟩] wx/\k6≠k0/\k6≠k1/\k0<=k6 /\
  Hid (Four (.agg #[.int .u64 a,.int .u64 b,.int .u64 c,.int .u64 d]) N)
theorem RedR.made{w w1:World}{k0 k1 g0 g1 g2 N a b c d:Nat}(KP:Kept w k0 [⟨k0,0,g0,g1,g2,0⟩,⟨k1,0,0,0,0,0⟩] w1)(hF:Hid (Four (.agg #[.int .u64 a,.int .u64 b,.int .u64 c,.int .u64 d]) N)):
 RedR w k0 k1 g0 g1 g2 N (.pointer (some ⟨w1.heap.size,0,none⟩)) (w1.alloc (.cells #[.int .u64 a,.int .u64 b,.int .u64 c,.int .u64 d] 133)):=
 ⟨w1.heap.size,a,b,c,d,rfl,(KP.alloc _).cons (At4.made w1 133 a b c d rfl).blk,QW KP.head.lt,QW KP.tail.head.lt,KP.le,hF⟩
theorem RedR.put{w w1:World}{k0 k1 k6 g0 g1 g2 N a b c d x y z u:Nat}(KP:Kept w k0 [⟨k0,0,g0,g1,g2,0⟩,⟨k1,0,0,0,0,0⟩] w1)(T:At4 w1 k6 x y z u)(M7:k0<=k6)(N7:∀x∈([⟨k0,0,g0,g1,g2,0⟩,⟨k1,0,0,0,0,0⟩]:List Blk),x.k<k6)(hF:Hid (Four (.agg #[.int .u64 a,.int .u64 b,.int .u64 c,.int .u64 d]) N)):
 RedR w k0 k1 g0 g1 g2 N (.pointer (some ⟨k6,0,none⟩)) ((((w1.setCell ⟨k6,0,none⟩ (.int .u64 a)).setCell ⟨k6,1,none⟩ (.int .u64 b)).setCell ⟨k6,2,none⟩ (.int .u64 c)).setCell ⟨k6,3,none⟩ (.int .u64 d)):=
 ⟨k6,a,b,c,d,rfl,(KP.set4' M7 (fun x hx=>QW (N7 x hx)) _ _ _ _).cons (T.self4 a b c d).blk,QW (N7 ⟨k0,0,g0,g1,g2,0⟩ (by simp)),QW (N7 ⟨k1,0,0,0,0,0⟩ (by simp)),M7,hF⟩
theorem FV{P:Nat}(bs:Bs)(p:Nat)(hp:p+32<=bs.size):(beV (bs.extract p (p+32)).toList+top*(beV (bs.extract 0 p).toList%P))%P=beV (bs.extract 0 (p+32)).toList%P:=by
 have e:(bs.extract 0 (p+32)).toList=(bs.extract 0 p).toList++(bs.extract p (p+32)).toList:=by
  rw[<-TI,Array.extract_append_extract,Nat.min_eq_left (by omega),Nat.max_eq_right (by omega)]
 have l32:(bs.extract p (p+32)).toList.length=32:=by rw[P8,QQ];omega
 have ht:256^32=top:=by unfold top;decide
 rw[e,cX,l32,ht,Nat.add_comm,T9,RP,Nat.mod_mod,<-RP,<-T9,Qr]
theorem Ah(g0 g1 g2 P g o n cap : Nat)(bs : Bs)(hG : Gap g0 g1 g2 P)(w : World)(hs : bs.size = n)(hc : n <= cap)(hg : g < w.heap.size)(hB : Holds encB w g o bs):
    Calls prog 134 #[.agg #[.int .u64 (g0 : Int), .int .u64 (g1 : Int), .int .u64 (g2 : Int), .int .u64 0], .slice (some ⟨g, o, none⟩) n cap] w (Ret fun e w' => Below w.heap.size w w' /\ Four e (beV bs.toList % P)) := by
  obtain⟨f, hf⟩ : ∃f, f = n % 32 := ⟨_, rfl⟩;have hf32 : f < 32 := by omega
  have hfn : f <= n := by omega
  have e1 : (n : Int) % 32 = (f : Int) := by omega
  have e2 : (f : Int) <= (cap : Int) := by omega
  have e3 : (f : Int) <= (n : Int) := by omega
  have e4 : f <= cap := by omega
  have hsz0 : (bs.extract 0 f).size = f := by rw [QQ]; omega
  have Hf : Hid (f = n % 32) := hf;have HS : Hid ((bs.extract 0 f).size = f) := hsz0;have hbs : f <= bs.size := by omega
  have HSZ : Hid (bs.size = n) := hs;have HG : Hid (Gap g0 g1 g2 P) := hG;clear hf hsz0 hG;go_enter Tryz.func134, Tryz.ntmps134
  go_upto_region 2 with fail
  rw [e1];clear e1;have PR := (At4.made w 135 g0 g1 g2 0 rfl).alloc (.cells #[.int .u64 0, .int .u64 0, .int .u64 0, .int .u64 0] 41);have RE := At4.made (w.alloc (.cells #[.int .u64 (g0 : Int), .int .u64 (g1 : Int), .int .u64 (g2 : Int), .int .u64 0] 135)) 41 0 0 0 0 (Qa _ _);have KP := ((Kept.mk1 (below2 w (.cells #[.int .u64 (g0 : Int), .int .u64 (g1 : Int), .int .u64 (g2 : Int), .int .u64 0] 135) (.cells #[.int .u64 0, .int .u64 0, .int .u64 0, .int .u64 0] 41)) (below2 w (.cells #[.int .u64 (g0 : Int), .int .u64 (g1 : Int), .int .u64 (g2 : Int), .int .u64 0] 135) (.cells #[.int .u64 0, .int .u64 0, .int .u64 0, .int .u64 0] 41)).size).cons RE.blk).cons PR.blk;clear PR RE;generalize World.alloc _ _ = W0 at KP⊢;generalize h1 : w.heap.size + 1 = k1 at KP⊢;have Q1 : Hid (w.heap.size <= k1) := by unfold Hid; omega
  generalize h0 : w.heap.size = k0 at KP Q1 hg⊢;have n01 : k0 ≠ k1 := by omega
  have H0 : Hid (w.heap.size = k0) := h0;have HBS : Hid (Holds encB w g o bs) := hB;clear h0 h1 hB hs
  go_cut [6] (fun s6 wx => RedR w k0 k1 g0 g1 g2 (beV (bs.extract 0 f).toList % P) s6 wx)
  case first =>
    go_region_held3 (fun w' => w'.cell? ⟨k0, 0, none⟩ = some (.int .u64 (g0 : Int)) /\ w'.cell? ⟨k0, 1, none⟩ = some (.int .u64 (g1 : Int)) /\ w'.cell? ⟨k0, 2, none⟩ = some (.int .u64 (g2 : Int)) /\ w'.cell? ⟨k0, 3, none⟩ = some (.int .u64 0) /\ Kept w k0 [⟨k0, 0, g0, g1, g2, 0⟩, ⟨k1, 0, 0, 0, 0, 0⟩] w') (first | (with_reducible exact g9 KP) | (with_reducible exact g9 KP.drew) | (with_reducible exact yI (by assumption)) | (with_reducible exact AM (by assumption)) | (with_reducible exact g9 (KP.alloc _)) | (with_reducible exact g9 (KP.set4' M7 (fun x hx => QW (N7 x hx)) _ _ _ _)) | (with_reducible exact g9 (KP.alloc _).drew) | (with_reducible exact g9 (KP.set4' M7 (fun x hx => QW (N7 x hx)) _ _ _ _).drew) | fail) (first | (go_at_call 115; refine(iI (some ⟨g, o, none⟩) g o f cap (bs.extract 0 f) _ (Nat.le_of_lt hf32) e4 HS.out (Qc ⟨rfl, zE f (Holds.below HBS.out (iN (by assumption)).bl hg) hbs⟩)).mono ?_; rintro e w1 ⟨v, rfl, hb1, hF1⟩; obtain⟨a1, b1, c1, d1, rfl, ha1, hb1', hc1, hd1, es1⟩ := id hF1; clear es1; have HF1 : Hid (Four _ _) := hF1; clear hF1; (try(with_reducible have T1 := T.call hb1; clear T; have T := T1; clear T1)); (try(first | (with_reducible have T := (At4.made _ 133 0 0 0 0 rfl).call hb1) | (with_reducible have T := (At4.made _ 133 0 0 0 0 rfl).drew.call hb1)); have N7 := KP.lts; have M7 := KP.le); have KP1 := Kept.call (iN (by assumption)) hb1; clear KP; have KP := KP1; clear KP1 hb1) | (go_at_call 117; refine(f9 _ _ HF1.out _).mono ?_; rintro e w1 ⟨v, rfl, hb1, rfl⟩; (try(with_reducible have T1 := T.call hb1; clear T; have T := T1; clear T1)); (try(first | (with_reducible have T := (At4.made _ 133 0 0 0 0 rfl).call hb1) | (with_reducible have T := (At4.made _ 133 0 0 0 0 rfl).drew.call hb1)); have N7 := KP.lts; have M7 := KP.le); have KP1 := Kept.call (iN (by assumption)) hb1; clear KP; have KP := KP1; clear KP1 hb1) | (go_at_call 156; refine(sC g0 g1 g2 _ _ _ _ P HG.out.h0 HG.out.h1 HG.out.h2 HG.out.hor HG.out.hP HG.out.hP2 HF1.out (Four.mk (a := 0) (b := 0) (c := 0) (d := 0) (by decide) (by decide) (by decide) (by decide) rfl) _).mono ?_; rintro e w1 ⟨v, rfl, hb1, hF3⟩; obtain⟨a', b', c', d', rfl, ha', hb', hc', hd', es3⟩ := id hF3; clear es3; have HF3 : Hid (Four _ _) := hF3; clear hF3; (try(with_reducible have T1 := T.call hb1; clear T; have T := T1; clear T1)); (try(first | (with_reducible have T := (At4.made _ 133 0 0 0 0 rfl).call hb1) | (with_reducible have T := (At4.made _ 133 0 0 0 0 rfl).drew.call hb1)); have N7 := KP.lts; have M7 := KP.le); have KP1 := Kept.call (iN (by assumption)) hb1; clear KP; have KP := KP1; clear KP1 hb1; (try(obtain⟨tc0, tc1, tc2, tc3, tf⟩ := id T; have zt := T.lt))))
    all_goals (try go_wp2)
    all_goals (rw [show val 0 0 0 0 = 0 from rfl, Nat.mul_zero, RD]at HF3)
    all_goals (go_meet; first | (with_reducible exact RedR.made KP HF3) | (with_reducible exact(RedR.made KP HF3).drew) | (with_reducible exact RedR.put KP T M7 N7 HF3) | (with_reducible exact(RedR.put KP T M7 N7 HF3).drew) | fail)
  case rest =>
    clear KP;obtain⟨k6, a, b, c, d, rfl, KP, n60, n61, M6, HF⟩ := hcut;have f0 : (0 : Int) <= (f : Int) := Int.natCast_nonneg _
    go_upto_region 3 with fail
    go_cut [1] (fun s1 wx => ∃q : Nat, s1 = .slice (some ⟨g, q, none⟩) (n - f) (cap - f) /\ Hid (0 < n - f -> q = o + f) /\ Kept w k0 [⟨k6, 0, a, b, c, d⟩, ⟨k0, 0, g0, g1, g2, 0⟩, ⟨k1, 0, 0, 0, 0, 0⟩] wx)
    case first =>
      by_cases ec : cap = f
      · have en : n = f := by omega
        have HEN : Hid (n = f /\ cap = f) := ⟨en, ec⟩;go_wp2
        go_meet
        refine⟨o, ?_, fun h => ?_, KP⟩
        · rw [HEN.out.1, HEN.out.2]; try simp
        · have := HEN.out.1; omega
      · go_wp2
        go_meet
        exact⟨o + f, rfl, fun _ => rfl, KP⟩
    case rest =>
    clear KP;obtain⟨q0, rfl, HQ0, KP⟩ := hcut;go_wp2_with fail
    go_loopg [1] (n - f) (fun gk s1 wr => ∃(l q lc a b c d : Nat), gk = l /\ l <= n /\ s1 = .slice (some ⟨g, q, none⟩) l lc /\ Hid (l % 32 = 0 /\ (0 < l -> q = o + (n - l)) /\ lc = cap - (n - l)) /\ Kept w k0 [⟨k6, 0, a, b, c, d⟩, ⟨k0, 0, g0, g1, g2, 0⟩, ⟨k1, 0, 0, 0, 0, 0⟩] wr /\
      Hid (Four (.agg #[.int .u64 (a : Int), .int .u64 (b : Int), .int .u64 (c : Int), .int .u64 (d : Int)]) (beV (bs.extract 0 (n - l)).toList % P)))
    case atStart =>
      refine⟨n - f, q0, cap - f, a, b, c, d, rfl, by omega, rfl, ⟨by have := Hf.out; omega, fun h => by have := HQ0.out h; omega, by omega⟩, KP, ?_⟩;rw [show n - (n - f) = f by omega];exact HF
    case round =>
      clear KP HF;obtain⟨l, q, lc, a, b, c, d, hgk, hln, rfl, HQ3, KP, HF⟩ := hrel;clear e2 e3 e4 f0 hbs HS hf32 hfn HQ0;have hlcl : l <= lc := by have := HQ3.out; omega
      by_cases h0 : l = 0
      · subst h0
        obtain⟨xc0, xc1, xc2, xc3, xf⟩ := KP.head.at4;have z7 := KP.head.lt;go_wp2_with fail
        refine(fW _ _ HF.out _).mono ?_;rintro e w3 ⟨v, rfl, hb3, rfl⟩;have KP3 := KP.call hb3;clear hb3 xc0 xc1 xc2 xc3 xf z7 KP;obtain⟨rc0, rc1, rc2, rc3, rf⟩ := KP3.tail.tail.head.at4;have z3 := KP3.tail.tail.head.lt;go_wp2;have RF := KP3.tail.tail.head.at4.self4 a b c d;unfold set4 at RF;refine bodyPost_ret (v := ?v) ?hr rfl ?hR
        case hr => simp [results, Tryz.results134, go_sem, RF.c0, RF.c1, RF.c2, RF.c3]; rfl
        refine⟨_, rfl, ?_, ?_⟩
        · rw [H0.out]
          exact aD KP3.bl Q1.out _ _ _ _
        · have := HF.out
          rw [Nat.sub_zero, <-HSZ.out, Array.extract_size]at this;exact this
      · have h32 : 32 <= l := by have := HQ3.out; omega
        have HQ : Hid (o + (n - l) = q) := (HQ3.out.2.1 (by omega)).symm;have h32c : 32 <= lc := by omega
        have i1 : (32 : Int) <= (lc : Int) := by omega
        have i2 : (32 : Int) <= (l : Int) := by omega
        have i3 : (0 : Int) < (l : Int) := by omega
        have HSL : Hid (n - l + 32 <= bs.size) := by unfold Hid; have := HSZ.out; omega
        have HS3 : Hid ((bs.extract (n - l) (n - l + 32)).size = 32) := by unfold Hid; rw [QQ]; have := HSL.out; omega
        obtain⟨tc0, tc1, tc2, tc3, tf⟩ := KP.head.at4;have zt := KP.head.lt;obtain⟨pc0, pc1, pc2, pc3, pf⟩ := KP.tail.head.at4;have hl6 : ∀x ∈ ([⟨k0, 0, g0, g1, g2, 0⟩, ⟨k1, 0, 0, 0, 0, 0⟩] : List Blk), k6 ≠ x.k := by simp only [List.mem_cons, P4, or_false]; rintro x (rfl | rfl); exact n60; exact n61
        have HFF : Hid (_ = _) := FV (P := P) bs (n - l) HSL.out;go_wp2_with fail
        go_region_with (first | (go_at_call 115; refine(iI (some ⟨g, q, none⟩) g q 32 lc (bs.extract (n - l) (n - l + 32)) _ (PQ 32) h32c HS3.out (Qc ⟨rfl, HQ.out ▸ jL (n - l) 32 (by first | (with_reducible exact Holds.below HBS.out KP.bl hg) | (with_reducible exact Holds.below HBS.out KP.drew.bl hg) | fail) HSL.out⟩)).mono ?_; rintro e w1 ⟨v, rfl, hb1, hF1⟩; obtain⟨a1, b1, c1, d1, rfl, ha1, hb1', hc1, hd1, es1⟩ := id hF1; clear es1; have HF1 : Hid (Four _ _) := hF1; clear hF1; (first | (with_reducible have KP1 := KP.call hb1) | (with_reducible have KP1 := KP.drew.call hb1) | fail); clear KP; have KP := KP1; clear KP1 hb1; obtain⟨tc0, tc1, tc2, tc3, tf⟩ := KP.head.at4; have zt := KP.head.lt; obtain⟨pc0, pc1, pc2, pc3, pf⟩ := KP.tail.head.at4) | (go_at_call 117; refine(f9 _ _ HF1.out _).mono ?_; rintro e w1 ⟨v, rfl, hb1, rfl⟩; (first | (with_reducible have KP1 := KP.call hb1) | (with_reducible have KP1 := KP.drew.call hb1) | fail); clear KP; have KP := KP1; clear KP1 hb1; obtain⟨tc0, tc1, tc2, tc3, tf⟩ := KP.head.at4; have zt := KP.head.lt; obtain⟨pc0, pc1, pc2, pc3, pf⟩ := KP.tail.head.at4) | (go_at_call 156; refine(sC g0 g1 g2 _ _ _ _ P HG.out.h0 HG.out.h1 HG.out.h2 HG.out.hor HG.out.hP HG.out.hP2 HF1.out HF.out _).mono ?_; rintro e w1 ⟨v, rfl, hb1, hF3⟩; obtain⟨a', b', c', d', rfl, ha', hb', hc', hd', es3⟩ := id hF3; clear es3; have HF3 : Hid (Four _ _) := hF3; clear hF3; (first | (with_reducible have KP1 := KP.call hb1) | (with_reducible have KP1 := KP.drew.call hb1) | fail); clear KP; have KP := KP1; clear KP1 hb1; obtain⟨tc0, tc1, tc2, tc3, tf⟩ := KP.head.at4; have zt := KP.head.lt; obtain⟨pc0, pc1, pc2, pc3, pf⟩ := KP.tail.head.at4))
        all_goals (rw [HFF.out]at HF3)
        all_goals (by_cases i4 : lc = 32)
        all_goals (try go_wp2)
        all_goals
          (go_roundg (l - 32)
           case measure => omega
           case rel =>
            first
              | refine⟨l - 32, q + 32, lc - 32, a', b', c', d', rfl, by omega, rfl, ⟨by have := HQ3.out; omega, fun _ => by have := HQ.out; omega, by have := HQ3.out; omega⟩, ?_, ?_⟩
              | refine⟨l - 32, q, lc - 32, a', b', c', d', rfl, by omega, by first | rfl | (rw [i4]), ⟨by have := HQ3.out; omega, fun h => by omega, by have := HQ3.out; omega⟩, ?_, ?_⟩
              | fail
            · first | (with_reducible exact KP.put M6 hl6 a' b' c' d') | (with_reducible exact(KP.put M6 hl6 a' b' c' d').drew) | fail
            · rw [show n - (l - 32) = n - l + 32 by omega]; exact HF3)
def sPl(N a b:Nat):Nat:=(a+b)%N
theorem IX(O:Ord N){a b:Nat}(ha:a<N)(hb:b<N):Gives 94 #[gv1,nv a,nv b] (nv (sPl N a b)):=fun w =>
 (Ag _ _ _ N _ _ a b O.gap (O.four ha) (O.four hb) ha hb w).mono (by rintro e w' ⟨v,rfl,hb,hF⟩;exact⟨_,rfl,hb,hF.nv⟩)
theorem AD(O:Ord N)(a b:Nat)(ha:a<N)(hb:b<N):Gives 53 #[(nv a),(nv b)] (nv (sPl N a b)):=by
 intro w;go_enter Tryz.func53,Tryz.ntmps53;refine RG.M.enter [(0,(.v (nv a))),(1,(.v (nv b)))] 12 (by kernel_rfl) ?_;intro a0 M0;repeat refine wp_seq ?_
 refine M0.t [.m 2 [] 0,.m 3 [] 1,.m 4 [] 2] [(0,(wn a)),(1,(wn b)),(2,(RG.z 4))] [] [(wn a),(wn b),(RG.z 4)] [(2,(.p 0 0)),(3,(.p 1 0)),(4,(.p 2 0))] ⟨RG.mk 0 46,RG.mk 1 46,RG.mk 2 46,trivial⟩ ?_;intro j1 i1 m1 a1 w1 M1;repeat refine wp_seq ?_
 refine M1.d [.c 5 [] gv1,.s 6 [] (.p 0 0),.x 7 [(6,1)] (nv a),.s 8 [] (.p 1 0),.x 9 [(8,3)] (nv b),.c 10 [(5,0),(7,2),(9,4)] (nv (sPl N a b)),.x 11 [(10,5)] (nv (sPl N a b)),.u [(11,6)] 2] [] [(2,7,(wn (sPl N a b)))] [(wn a),(wn b),(wn (sPl N a b))] [(4,(.p 2 0))] ⟨RG.cl (fO),RG.st,RG.ld u38 i38,RG.st,RG.ld u38 i38,RG.cl (IX O ha hb),RG.st,RG.pt i40,trivial⟩ ?_;intro a2 w2 M2;refine wp_ret ?_;refine bodyPost_ret (v:=(nv (sPl N a b))) (RG.aC M2.st 4 46 rfl 2 _ rfl (M2.at (s:=(.p 2 0))) u40 i40) M2.sl.defers ?_;exact⟨_,rfl,M2.st.bel.below,rfl⟩
def fG(N:Nat)(bs:Bs):Nat:=beV bs.toList%N
def MV(v:Value)(n:Nat):List RG.It:=[.c 3 [] gv1,.x 4 [] v,.c 5 [(3,0),(4,1)] (nv n),.x 6 [(5,2)] (nv n),.u [(6,3)] 0]
theorem oI(O:Ord N)(g:Nat)(bs:Bs)(hs:bs.size=64)(w:World)(hg:g<w.heap.size)(hB:Holds encB w g 0 bs):Calls prog 86 #[.slice (some ⟨g,0,none⟩) 64 64] w (Ret fun e w'=>Below w.heap.size w w'/\e=nv (fG N bs)):=by
 have hc:∀w',RG.BelX w.heap.size [] w w'->Calls prog 134 #[gv1,.slice (some ⟨g,0,none⟩) 64 64] w' (Ret fun e w''=>Below w'.heap.size w' w''/\e=nv (fG N bs)):=fun w' hb =>
  (Ah _ _ _ N g 0 64 64 bs O.gap w' hs (PQ _) (PS hg hb.below.size) (Holds.below hB hb.below hg)).mono (by rintro e w'' ⟨v,rfl,hb,hF⟩;exact⟨_,rfl,hb,hF.nv⟩)
 go_enter Tryz.func86,Tryz.ntmps86;refine RG.M.enter [(0,(.v (.slice (some ⟨g,0,none⟩) 64 64)))] 7 (by kernel_rfl) ?_;intro a0 M0;repeat refine wp_seq ?_
 refine M0.t [.m 2 [] 0] [(0,(RG.z 4))] [] [(RG.z 4)] [(0,(.v (.slice (some ⟨g,0,none⟩) 64 64))),(2,(.p 0 0))] ⟨RG.mk 0 46,trivial⟩ ?_;intro j1 a1 w1 M1;repeat refine wp_seq ?_
 refine M1.t (MV (.slice (some ⟨g,0,none⟩) 64 64) (fG N bs)) [] [(0,4,(wn (fG N bs)))] [(wn (fG N bs))] [(2,(.p 0 0))] ⟨RG.cl (fO),RG.st,RG.clB (fun _ _=>by kernel_rfl) hc,RG.st,RG.pt i40,trivial⟩ ?_;intro a2 w2 M2;refine wp_ret ?_;refine bodyPost_ret (v:=(nv (fG N bs))) (RG.aC M2.st 2 46 rfl 0 _ rfl (M2.at (s:=(.p 0 0))) u40 i40) M2.sl.defers ?_;exact⟨_,rfl,M2.st.bel.below,rfl⟩
theorem vV(O:Ord N)(bs:Bs):fG N bs<N:=RN _ O.pos
def chL(N:Nat)(label:List UInt8)(ps:List (List UInt8)):Nat:=fG N (SP.jR (SP.iF label ps).toList 64)
theorem aM(w:World)(c:List Value)(T:TypeId):Row (w.alloc (.cells c.toArray T)) w.heap.size c:=
 have h:=RG.Made.alloc w c T
 ⟨h.lt,h.range,h.there⟩
theorem dK(n:Nat):(wn n).toArray.all (·.oneCell')=true:=by kernel_rfl
theorem Fv(O:Ord N)(r2:Nat)(T:Bs)(w:World)(hTs:T.size=32)(hT:Holds encB w r2 0 T):
 Calls prog 45 #[.slice (some ⟨r2,0,none⟩) 32 32] w (Ret fun e w'=>Below w.heap.size w w'/\e=nv (fG N (SP.jR T.toList 64))):=by
 obtain⟨S,hS⟩:∃S,Hid (SP.jR T.toList 64=S):=⟨_,rfl⟩
 have hSs:S.size=64:=by rw[<-hS.out];exact SP.tZ _ _
 rw[hS.out];obtain⟨w1,hw1⟩:∃w1,Hid (w.alloc (.cells #[.int .u64 0,.int .u64 0,.int .u64 0,.int .u64 0] 46)=w1):=⟨_,rfl⟩
 have K2:Hid (Row w1 w.heap.size [.int .u64 0,.int .u64 0,.int .u64 0,.int .u64 0]/\Below w.heap.size w w1/\Holds encB w1 r2 0 T):=by rw[<-hw1.out];exact⟨aM w _ _,aE w _,Holds.below hT (aE w _) (Holds.lt hT (by omega))⟩
 clear hT;go_enter Tryz.func45,Tryz.ntmps45;go_wp2_with fail
 rw[hw1.out];clear hw1;refine(SP.tG (some ⟨r2,0,none⟩) r2 0 32 32 64 T w1 (by decide) hTs (PQ _) (by decide) (Qc ⟨rfl,K2.out.2.2⟩)).mono ?_;rintro e w3 ⟨r3,rfl,h1,h2,h3⟩;rw[hS.out]at h3;have K3:Hid (Row w3 w.heap.size [.int .u64 0,.int .u64 0,.int .u64 0,.int .u64 0]/\Below w.heap.size w w3/\Holds encB w3 r3 0 S):=⟨K2.out.1.below h2,K2.out.2.1.trans (h2.mono K2.out.2.1.size),h3⟩
 clear h1 h2 h3 K2;go_wp2_with fail
 refine(oI O r3 S hSs w3 (Holds.lt K3.out.2.2 (by omega)) K3.out.2.2).mono ?_;rintro e w4 ⟨v,rfl,hb4,rfl⟩;have K4:Hid (Row w4 w.heap.size [.int .u64 0,.int .u64 0,.int .u64 0,.int .u64 0]/\Below w.heap.size w w4):=⟨K3.out.1.below hb4,K3.out.2.1.trans (hb4.mono K3.out.2.1.size)⟩
 clear hb4 K3;obtain⟨m,hm⟩:∃m,Hid (fG N S=m):=⟨_,rfl⟩
 rw[hm.out];obtain⟨w5,hw5⟩:∃w5,Hid (w4.setCells w.heap.size 0 (wn m)=w5):=⟨_,rfl⟩
 have K5:Hid (Row w5 w.heap.size (wn m)/\Below w.heap.size w w5):=by rw[<-hw5.out];exact⟨K4.out.1.put rfl,RG.below_setCells (PQ _) _ _ _ K4.out.2⟩
 obtain⟨vm,hvm⟩:∃vm,Hid (nv m=vm):=⟨_,rfl⟩
 rw[hvm.out];go_wp2_with (refine wpList_store_mid rfl 46 _ _ rfl w.heap.size 0 (wn m).toArray ?_ ?_ ?_ ?_ ?_ ?_;rfl;exact hvm.out.symm;exact K4.out.1.2.2;exact i40;exact dK m;rw[show(wn m).toArray.toList=wn m from rfl,hw5.out])
 refine bodyPost_ret (aY 2 46 rfl K5.out.1 rfl u40 i40) rfl ?_;exact⟨_,rfl,K5.out.2,by rw[hm.out];rfl⟩
theorem Hm(O:Ord N)(label:ByteArray)(pa:Option Addr)(n cap:Nat)(ps:List (List UInt8))(w:World)(hlab:label.size<=1048576)(hn:ps.length=n)(hn2:n<=1048576)(hP:SP.PartsOk w pa ps):
 Calls prog 14 #[.string label,.slice pa n cap] w (Ret fun e w'=>Below w.heap.size w w'/\e=nv (chL N label.data.toList ps)):=by
 obtain⟨T,hT⟩:∃T,Hid (SP.iF label.data.toList ps=T):=⟨_,rfl⟩
 have hTs:T.size=32:=by rw[<-hT.out];exact SP.eG _ _
 have hr:chL N label.data.toList ps=fG N (SP.jR T.toList 64):=by unfold chL;rw[hT.out]
 rw[hr];clear hr;obtain⟨w1,hw1⟩:∃w1,Hid (w.alloc (.cells #[.int .u64 0,.int .u64 0,.int .u64 0,.int .u64 0] 46)=w1):=⟨_,rfl⟩
 have hR1:Hid (Row w1 w.heap.size [.int .u64 0,.int .u64 0,.int .u64 0,.int .u64 0]/\Below w.heap.size w w1):=by rw[<-hw1.out];exact⟨aM w _ _,aE w _⟩
 have hTag:Hid (Calls prog 46 #[.string label,.slice pa n cap] w1 fun e w'=>∃r,e=.returned (.slice (some ⟨r,0,none⟩) 32 32)/\w1.heap.size<=r/\Below w1.heap.size w1 w'/\Holds encB w' r 0 T):=by
  subst hn;rw[<-hT.out];exact SP.xG label pa cap ps w1 hlab hn2 (hP.below hR1.out.2)
 clear hP hn hn2;go_enter Tryz.func14,Tryz.ntmps14;go_wp2_with fail
 rw[hw1.out];clear hw1;refine hTag.out.mono ?_;rintro e w2 ⟨r2,rfl,h1,h2,h3⟩;have K2:Hid (Row w2 w.heap.size [.int .u64 0,.int .u64 0,.int .u64 0,.int .u64 0]/\Below w.heap.size w w2/\Holds encB w2 r2 0 T):=⟨hR1.out.1.below h2,hR1.out.2.trans (h2.mono hR1.out.2.size),h3⟩
 clear h1 h2 h3 hTag hR1;go_wp2_with fail
 refine(Fv O r2 T w2 hTs K2.out.2.2).mono ?_;rintro e w4 ⟨v,rfl,hb4,rfl⟩;have K4:Hid (Row w4 w.heap.size [.int .u64 0,.int .u64 0,.int .u64 0,.int .u64 0]/\Below w.heap.size w w4):=⟨K2.out.1.below hb4,K2.out.2.1.trans (hb4.mono K2.out.2.1.size)⟩
 clear hb4 K2;obtain⟨m,hm⟩:∃m,Hid (fG N (SP.jR T.toList 64)=m):=⟨_,rfl⟩
 rw[hm.out];obtain⟨w5,hw5⟩:∃w5,Hid (w4.setCells w.heap.size 0 (wn m)=w5):=⟨_,rfl⟩
 have K5:Hid (Row w5 w.heap.size (wn m)/\Below w.heap.size w w5):=by rw[<-hw5.out];exact⟨K4.out.1.put rfl,RG.below_setCells (PQ _) _ _ _ K4.out.2⟩
 obtain⟨vm,hvm⟩:∃vm,Hid (nv m=vm):=⟨_,rfl⟩
 rw[hvm.out];go_wp2_with (refine wpList_store_mid rfl 46 _ _ rfl w.heap.size 0 (wn m).toArray ?_ ?_ ?_ ?_ ?_ ?_;rfl;exact hvm.out.symm;exact K4.out.1.2.2;exact i40;exact dK m;rw[show(wn m).toArray.toList=wn m from rfl,hw5.out])
 refine bodyPost_ret (aY 4 46 rfl K5.out.1 rfl u40 i40) rfl ?_;exact⟨_,rfl,K5.out.2,by rw[hm.out];rfl⟩
end
section
open Go.RowKit Go.Sort Go.Deep
section
variable {P:Program}{ops:Array Oper}{rest:List Oper}{op:Oper}{a:Act}{w w':World}{v:Value}{Q:Exit->Act->World->Prop}
theorem aQ(hgd:op.guard=none)(X:Op)(_:op.op=X)(hr:(execOp a.eval op).run P w=.ok (.value v) w')(h:wpList P ops Q rest (a.put op.dst v) w'):wpList P ops Q (op :: rest) a w:=
 wpList_plain hgd fun K hK=>by
  unfold Oper.wp;rw[hr];exact hK _ _ h
end
variable {N:Nat}
theorem Row.only{W W':World}{k b o n:Nat}{vs:List Value}(h:Row W k vs)(hO:SP.Only b o n W W')(hne:k≠b):Row W' k vs:=by
 refine⟨PS h.1 hO.size,fun j v hj=>?_,fun j hj=>?_⟩
 ·rw[(hO.other (c:=k) (o:=0+j) hne h.1).1];exact h.2.1 j v hj
 ·have h1:=h.2.2 j hj;have h2:=hO.other (c:=k) (o:=0+j) hne h.1;exact⟨by rw[h2.1];exact h1.1,by rw[h2.2];exact h1.2⟩
theorem eM{w W:World}{y o n k:Nat}{vs:List Value}(h:SP.Only y o n w W)(hy:y<w.heap.size)(hk:w.heap.size<=k)(q:Nat):SP.Only y o n w (W.setCells k q vs):=
 have hb:Below w.heap.size W (W.setCells k q vs):=RG.below_setCells hk _ _ _ (Qd _ _)
 ⟨hb.os.trans h.os,hb.tape.trans h.tape,hb.output.trans h.output,Qn h.size hb.size,fun j hj hne=>(hb.block j hj).trans (h.block j hj hne),fun p hp=>(Qt (a:=⟨y,p,none⟩) (hb.block y hy)).trans (h.cell p hp),fun p=>(Ro (a:=⟨y,p,none⟩) (hb.block y hy)).trans (h.froz p)⟩
theorem Hid.mk'{p:Prop}(h:p):Hid p:=h
theorem u124:(prog.underlying 102).map (·.isRow)=some true:=by kernel_rfl
theorem i124:(prog.info? 102).map (·.size)=some 1:=by kernel_rfl
theorem uD(label:ByteArray)(w:World)(hlab:label.size<=1048576):Calls prog 49 #[.string label] w (Ret fun e w'=>Below w.heap.size w w'/\∃r,e=.agg #[.pointer (some ⟨r,0,none⟩)]/\w.heap.size<=r/\r<w'.heap.size/\Holds encB w' r 0 (SP.newL label.data.toList)):=by
 obtain⟨L,hL⟩:∃L,Hid (SP.newL label.data.toList=L):=⟨_,rfl⟩
 have hLs:L.size=32:=by rw[<-hL.out];exact SP.lI _
 rw[hL.out];obtain⟨w1,hw1⟩:∃w1,Hid (w.alloc (.cells #[.pointer none] 102)=w1):=⟨_,rfl⟩
 have K1:Hid (Row w1 w.heap.size [.pointer none]/\Below w.heap.size w w1):=by rw[<-hw1.out];exact⟨aM w _ _,aE w _⟩
 go_enter Tryz.func49,Tryz.ntmps49;go_wp2_with fail
 rw[hw1.out];clear hw1;refine(SP.Cf label w1 hlab).mono ?_;rintro e w2 ⟨rfl,hb2,hH2⟩;rw[hL.out]at hH2;have hlt:w1.heap.size<w2.heap.size:=Holds.lt hH2 (by omega);obtain⟨r,hr⟩:∃r,Hid (w1.heap.size=r):=⟨_,rfl⟩
 rw[hr.out]at hH2 hlt⊢;have hle:w.heap.size<r:=by rw[<-hr.out];exact K1.out.1.1
 have K2:Hid (Row w2 w.heap.size [.pointer none]/\Below w.heap.size w w2/\Holds encB w2 r 0 L):=⟨K1.out.1.below hb2,K1.out.2.trans (hb2.mono K1.out.2.size),hH2⟩
 clear hb2 hH2 K1 hr;obtain⟨w5,hw5⟩:∃w5,Hid (w2.setCells w.heap.size 0 [.pointer (some ⟨r,0,none⟩)]=w5):=⟨_,rfl⟩
 have K5:Hid (Row w5 w.heap.size [.pointer (some ⟨r,0,none⟩)]/\Below w.heap.size w w5/\Holds encB w5 r 0 L/\r<w5.heap.size):=by
  rw[<-hw5.out];refine⟨K2.out.1.put rfl,RG.below_setCells (PQ _) _ _ _ K2.out.2.1,fun j hj=>?_,by rw[RG.setCells_size];exact hlt⟩;have h:=K2.out.2.2 j hj;have e:=RG.bK w.heap.size [.pointer (some ⟨r,0,none⟩)] 0 w2 r (by omega);rw[Qt (a:=⟨r,0+j,none⟩) e,Ro (a:=⟨r,0+j,none⟩) e];exact h
 go_wp2_with (refine aQ (v:=.agg #[.pointer (some ⟨r,0,none⟩)]) (w':=w2) rfl (.build 102 _) rfl ?_ ?_;kernel_rfl;refine Hid.out ?_)
 show wpList _ _ _ _ _ _;refine wpList_store_mid rfl 102 _ _ rfl w.heap.size 0 #[.pointer (some ⟨r,0,none⟩)] ?_ ?_ ?_ ?_ ?_ ?_
 ·kernel_rfl
 ·kernel_rfl
 ·exact K2.out.1.2.2
 ·exact i124
 ·kernel_rfl
 rw[show(#[Value.pointer (some ⟨r,0,none⟩)]).toList=[.pointer (some ⟨r,0,none⟩)] from rfl,hw5.out];go_wp2;refine bodyPost_ret (aY 2 102 rfl K5.out.1 rfl u124 i124) rfl ?_;exact⟨_,rfl,K5.out.2.1,r,rfl,by omega,K5.out.2.2.2,K5.out.2.2.1⟩
def cha(N:Nat)(L:Bs):Nat:=fG N (SP.iK L [99,104,97,108,108,101,110,103,101] 64)
theorem D3(O:Ord N)(r:Nat)(L:Bs)(lab:ByteArray)(w:World)(hlab:lab.size<=1048576)(hL:Holds encB w r 0 L)(hl:L.size=32):
 Calls prog 58 #[.agg #[.pointer (some ⟨r,0,none⟩)],.string lab] w (Ret fun e w'=>SP.Only r 0 32 w w'/\e=nv (fG N (SP.iK L lab.data.toList 64))):=by
 obtain⟨A,hA⟩:∃A,Hid (SP.iK L lab.data.toList 64=A):=⟨_,rfl⟩
 have hAs:A.size=64:=by rw[<-hA.out];exact SP.lO _ _ _
 rw[hA.out];have hr:=Holds.lt hL (by omega);obtain⟨w1,hw1⟩:∃w1,Hid ((w.alloc (.cells #[.pointer (some ⟨r,0,none⟩)] 102)).alloc (.cells #[.int .u64 0,.int .u64 0,.int .u64 0,.int .u64 0] 46)=w1):=⟨_,rfl⟩
 have K1:Hid (Row w1 (w.heap.size+1) [.int .u64 0,.int .u64 0,.int .u64 0,.int .u64 0]/\Below w.heap.size w w1/\Holds encB w1 r 0 L):=by
  rw[<-hw1.out];have hb:Below w.heap.size w ((w.alloc (.cells #[.pointer (some ⟨r,0,none⟩)] 102)).alloc (.cells #[.int .u64 0,.int .u64 0,.int .u64 0,.int .u64 0] 46)):=(aE w _).alloc (by rw[Qa];omega) _;have hR:=aM (w.alloc (.cells #[.pointer (some ⟨r,0,none⟩)] 102)) [.int .u64 0,.int .u64 0,.int .u64 0,.int .u64 0] 46;rw[Qa]at hR;exact⟨hR,hb,Holds.below hL hb hr⟩
 clear hL;go_enter Tryz.func58,Tryz.ntmps58;go_wp2_with fail
 rw[hw1.out];clear hw1;refine(SP.DR r L lab 64 w1 hlab (by decide) K1.out.2.2 hl).mono ?_;rintro e w2 ⟨r2,rfl,h1,hO,-,hA2⟩;rw[hA.out]at hA2;have K2:Hid (Row w2 (w.heap.size+1) [.int .u64 0,.int .u64 0,.int .u64 0,.int .u64 0]/\SP.Only r 0 32 w w2/\Holds encB w2 r2 0 A):=⟨K1.out.1.only hO (by omega),(SP.Only.of_below K1.out.2.1 rfl hr).trans hO,hA2⟩
 clear h1 hO hA2 K1;go_wp2_with fail
 refine(oI O r2 A hAs w2 (Holds.lt K2.out.2.2 (by omega)) K2.out.2.2).mono ?_;rintro e w4 ⟨v,rfl,hb4,rfl⟩;have K4:Hid (Row w4 (w.heap.size+1) [.int .u64 0,.int .u64 0,.int .u64 0,.int .u64 0]/\SP.Only r 0 32 w w4):=⟨K2.out.1.below hb4,K2.out.2.1.trans (SP.Only.of_below hb4 rfl (PS hr K2.out.2.1.size))⟩
 clear hb4 K2;obtain⟨m,hm⟩:∃m,Hid (fG N A=m):=⟨_,rfl⟩
 rw[hm.out];obtain⟨w5,hw5⟩:∃w5,Hid (w4.setCells (w.heap.size+1) 0 (wn m)=w5):=⟨_,rfl⟩
 have K5:Hid (Row w5 (w.heap.size+1) (wn m)/\SP.Only r 0 32 w w5):=by rw[<-hw5.out];exact⟨K4.out.1.put rfl,eM K4.out.2 hr (by omega) _⟩
 obtain⟨vm,hvm⟩:∃vm,Hid (nv m=vm):=⟨_,rfl⟩
 rw[hvm.out];go_wp2_with (refine wpList_store_mid rfl 46 _ _ rfl (w.heap.size+1) 0 (wn m).toArray ?_ ?_ ?_ ?_ ?_ ?_;rfl;exact hvm.out.symm;exact K4.out.1.2.2;exact i40;exact dK m;rw[show(wn m).toArray.toList=wn m from rfl,hw5.out])
 refine bodyPost_ret (aY 4 46 rfl K5.out.1 rfl u40 i40) rfl ?_;exact⟨_,rfl,K5.out.2,by rw[hm.out];rfl⟩
theorem vT(O:Ord N)(r:Nat)(L:Bs)(w:World)(hL:Holds encB w r 0 L)(hl:L.size=32):
 Calls prog 51 #[.agg #[.pointer (some ⟨r,0,none⟩)]] w (Ret fun e w'=>SP.Only r 0 32 w w'/\e=nv (cha N L)):=by
 have hr:=Holds.lt hL (by omega);obtain⟨w1,hw1⟩:∃w1,Hid ((w.alloc (.cells #[.pointer (some ⟨r,0,none⟩)] 102)).alloc (.cells #[.int .u64 0,.int .u64 0,.int .u64 0,.int .u64 0] 46)=w1):=⟨_,rfl⟩
 have K1:Hid (Row w1 (w.heap.size+1) [.int .u64 0,.int .u64 0,.int .u64 0,.int .u64 0]/\Below w.heap.size w w1/\Holds encB w1 r 0 L/\w1.rangeAt w.heap.size 0 [.pointer (some ⟨r,0,none⟩)]):=by
  rw[<-hw1.out];have hb:Below w.heap.size w ((w.alloc (.cells #[.pointer (some ⟨r,0,none⟩)] 102)).alloc (.cells #[.int .u64 0,.int .u64 0,.int .u64 0,.int .u64 0] 46)):=(aE w _).alloc (by rw[Qa];omega) _;have hR:=aM (w.alloc (.cells #[.pointer (some ⟨r,0,none⟩)] 102)) [.int .u64 0,.int .u64 0,.int .u64 0,.int .u64 0] 46;rw[Qa]at hR;exact⟨hR,hb,Holds.below hL hb hr,((aM w [.pointer (some ⟨r,0,none⟩)] 102).alloc _).2.1⟩
 clear hL;obtain⟨d,hd1,hd2⟩:=PV.1 u124;have HD:Hid (prog.underlying 102=some d/\d.isRow=true):=⟨hd1,hd2⟩
 clear hd1 hd2;have hS:=D3 O r L ⟨#[99,104,97,108,108,101,110,103,101]⟩ w1 (by decide) K1.out.2.2.1 hl;have hcha:fG N (SP.iK L (⟨#[99,104,97,108,108,101,110,103,101]⟩:ByteArray).data.toList 64)=cha N L:=rfl;rw[hcha]at hS;clear hcha;have HS:=Hid.mk' hS;clear hS;go_enter Tryz.func51,Tryz.ntmps51;go_wp2_with (refine wpList_load_mid rfl 102 _ rfl w.heap.size 0 ?_ [.pointer (some ⟨r,0,none⟩)] d ?_ ?_ ?_ ?_ ?_;kernel_rfl;(rw[hw1.out];exact K1.out.2.2.2);exact HD.out.1;exact HD.out.2;exact i124;rw[hw1.out])
 refine HS.out.mono ?_;rintro e w4 ⟨v,rfl,hO,rfl⟩;have K4:Hid (Row w4 (w.heap.size+1) [.int .u64 0,.int .u64 0,.int .u64 0,.int .u64 0]/\SP.Only r 0 32 w w4):=⟨K1.out.1.only hO (by omega),(SP.Only.of_below K1.out.2.1 rfl hr).trans hO⟩
 clear hO K1 HS hw1;obtain⟨m,hm⟩:∃m,Hid (cha N L=m):=⟨_,rfl⟩
 rw[hm.out];obtain⟨w5,hw5⟩:∃w5,Hid (w4.setCells (w.heap.size+1) 0 (wn m)=w5):=⟨_,rfl⟩
 have K5:Hid (Row w5 (w.heap.size+1) (wn m)/\SP.Only r 0 32 w w5):=by rw[<-hw5.out];exact⟨K4.out.1.put rfl,eM K4.out.2 hr (by omega) _⟩
 obtain⟨vm,hvm⟩:∃vm,Hid (nv m=vm):=⟨_,rfl⟩
 rw[hvm.out];go_wp2_with (refine wpList_store_mid rfl 46 _ _ rfl (w.heap.size+1) 0 (wn m).toArray ?_ ?_ ?_ ?_ ?_ ?_;rfl;exact hvm.out.symm;exact K4.out.1.2.2;exact i40;exact dK m;rw[show(wn m).toArray.toList=wn m from rfl,hw5.out])
 refine bodyPost_ret (aY 2 46 rfl K5.out.1 rfl u40 i40) rfl ?_;exact⟨_,rfl,K5.out.2,by rw[hm.out];rfl⟩
end
namespace SP
open Go.RowKit Go.Sort Go.Deep
attribute [local go_sem] cG cO cJ lW
theorem dO(a b:Int)(n:Nat)(w:World)(ha:0<=a/\a<=1000)(hb:0<=b/\b<=1000)(h:a%5+5*(b%5)=(n:Int)):
 Calls prog 172 #[.int .i64 a,.int .i64 b] w fun e w'=>e=.returned (.int .i64 n)/\w'=w:=by
 obtain⟨a1,a2⟩:=ha;obtain⟨b1,b2⟩:=hb;rw[<-h];clear h;go_enter Tryz.func172,Tryz.ntmps172;go_wp2;go_ret;exact⟨rfl,rfl⟩
theorem zA(x:BitVec 64)(k:Nat)(w:World)(hk:k<64):
 Calls prog 173 #[.int .u64 (u x),.int .i64 k] w fun e w'=>e=.returned (.int .u64 (u (rol x k)))/\∃n,w'=w.drewN n:=by
 have h1:(0:Int)<=64-(k:Int):=by omega
 have h2:(64:Int)-(k:Int)<=64:=by omega
 have h3:(k:Int)<=64:=by omega
 have h4:QA.wrap (64-(k:Int))=64-(k:Int):=QG _ (by omega);have h5:((64:Int)-(k:Int)).toNat=64-k:=by omega
 have s1:=uB x k;have s2:=Cu x (64-k);go_enter Tryz.func173,Tryz.ntmps173;go_wp2;go_quiet (fail);go_wp2;go_ret;refine⟨ret_int ?_,_,rfl⟩;rfl
theorem J3(t:Nat)(w:World)(ht:t<=1000):
 Calls prog 174 #[.int .i64 t] w fun e w'=>e=.returned (.int .u64 (u (J4 t)))/\w'=w:=by
 go_enter Tryz.func174,Tryz.ntmps174;go_wp2
 go_loop [3,4] (fun s3 s4=>∃(i q:Nat),i<=t/\s4=.int .i64 i/\s3=.int .i64 q/\q<256/\Hid (yE i=q)) (fun _ s4=>t-(intOf s4).toNat)
 case atStart=>exact⟨0,1,by omega,rfl,rfl,by decide,rfl⟩
 case round =>
  obtain⟨i,q,hi,rfl,rfl,hq,HE⟩:=hrel;by_cases hlt:i<t
  ·have a2:=FW q hq;rw[Int.mul_comm]at a2;have hlt2:=rF q hq;have HC:Hid (yE (i+1)=jS q):=by show jS (yE i)=_;rw[HE.out]
   by_cases h255:255<2*q
   ·have HR:Hid (jS q=2*q ^^^ 369):=if_pos h255;rw[HR.out]at hlt2;generalize 2*q ^^^ 369=q2 at *;go_wp2
    go_round
    case rel=>exact⟨i+1,q2,by omega,by go_num,rfl,hlt2,by rw[HC.out,HR.out];rfl⟩
    case measure=>simp[intOf];omega
   ·have HR:Hid (jS q=2*q):=if_neg h255;go_wp2
    go_round
    case rel=>exact⟨i+1,2*q,by omega,by go_num,by go_num,by omega,by rw[HC.out,HR.out];rfl⟩
    case measure=>simp[intOf];omega
  ·have a1:=FX q hq;have hit:i=t:=by omega
   subst hit;go_wp2;go_ret;unfold J4;rw[HE.out];exact⟨rfl,rfl⟩
end SP
namespace SP
open Go.RowKit Go.Sort Go.Deep
attribute [local go_sem] cG cO cJ lW
theorem AW(j:Nat)(hj:j<7):min (Qs.wrap (Qs.wrap ((2:Int)^j)-1)).toNat 64=2^j-1:=by
 have H:∀j:Fin 7,min (Qs.wrap (Qs.wrap ((2:Int)^j.val)-1)).toNat 64=2^j.val-1:=by decide +kernel
 exact H ⟨j,hj⟩
theorem wS(r:Nat)(w:World)(hr:r<24):
 Calls prog 163 #[.int .i64 r] w fun e w'=>e=.returned (.int .u64 (u (BD r)))/\w'=w:=by
 go_enter Tryz.func163,Tryz.ntmps163;go_wp2
 go_loop [3,4] (fun s3 s4=>∃(j:Nat) (c:BitVec 64),j<=7/\s4=.int .i64 j/\s3=.int .u64 (u c)/\Hid (zO r j=c)) (fun _ s4=>7-(intOf s4).toNat)
 case atStart=>exact⟨0,0,by omega,rfl,rfl,rfl⟩
 case round =>
  obtain⟨j,c,hj,rfl,rfl,HE⟩:=hrel;by_cases hlt:j<7
  ·have hj6:(j:Int)<=6:=by omega
   go_wp2_with fail
   rw[show(j:Int)+7*(r:Int)=((j+7*r:Nat):Int) from by omega];refine(J3 (j+7*r) _ (by omega)).mono ?_;rintro e w' ⟨rfl,rfl⟩;go_wp2
   go_round
   case rel =>
    refine⟨j+1,zO r (j+1),by omega,by go_num,?_,rfl⟩;rw[AW j hlt,uB,cJ];show _=QT .u64 (u (zO r j ||| J4 (j+7*r) <<< (2^j-1)));rw[HE.out]
   case measure=>simp[intOf];omega
  ·have hj6:¬(j:Int)<=6:=by omega
   have hj7:j=7:=by omega
   subst hj7;go_wp2;go_ret;unfold BD;rw[HE.out];exact⟨rfl,rfl⟩
theorem IQ:prog.underlying 223=some (.slice 3):=by kernel_rfl
theorem info3:(prog.info? 3).map (fun i=>(i.zero,i.size,i.bytes))=some (some (.int .i64 0),1,8):=by kernel_rfl
theorem MH{w:World}{b off:Nat}{d:Array Nat}(h:Holds encI w b off d)(i:Nat)(hi:i<d.size){x:Nat}(hx:d[i]! = x):
 w.cell? ⟨b,off+i,none⟩=some (.int .i64 x)/\w.frozen? ⟨b,off+i,none⟩=false:=by
 rw[<-hx];exact h i hi
theorem offs_int'(t:Nat)(h:t<24):(wrap64 ((wrap64 (((t:Int)+1)*((t:Int)+2))).tdiv 2)).tmod 64=(rP t:Int):=by
 have H:∀j:Fin 24,(wrap64 ((wrap64 (((j.val:Int)+1)*((j.val:Int)+2))).tdiv 2)).tmod 64=(rP j.val:Int):=by decide +kernel
 exact H ⟨t,h⟩
theorem yT(w:World):
 Calls prog 161 #[] w fun e w'=>e=.returned (.slice (some ⟨w.heap.size,0,none⟩) 25 25)/\Below w.heap.size w w'/\Holds encI w' w.heap.size 0 cD:=by
 have hmk:∀w:World,(Rm 223 (.int .i64 25) (.int .i64 25)).run prog w=.ok (.slice (some ⟨w.heap.size,0,none⟩) 25 25) (w.alloc (.cells (madeCells #[.int .i64 0] 25) 3)):=
  run_make_row' (P:=prog) 223 3 (.int .i64 0) 8 IQ info3 rfl .i64 .i64 25 (by omega) (by omega)
 go_enter Tryz.func161,Tryz.ntmps161;go_wp2;generalize hW1:(w.alloc _)=W1;go_loopg [2,3,4] 24 (fun g sx sy st wr=>∃t T,t+g=24/\st=.int .i64 (t:Nat)/\sx=.int .i64 (T.x:Nat)/\sy=.int .i64 (T.y:Nat)/\Holds encI wr w.heap.size 0 T.o/\Only w.heap.size 0 25 W1 wr/\Hid (T=iH t))
 case atStart =>
  refine⟨0,iH 0,rfl,rfl,rfl,rfl,?_,Only.refl _ _ _ _,rfl⟩;rw[<-hW1];exact Holds.made (enc:=encI) w 3 25 0
 case round =>
  obtain⟨t,⟨x,y,o⟩,ht,rfl,rfl,rfl,hD,hO,HE⟩:=hrel;have hok:=JD t;rw[<-HE.out]at hok;obtain⟨hx,hy,hs⟩:=hok;dsimp only at hx hy hs hD;by_cases hlt:t<24
  ·obtain⟨i,hi⟩:∃i,x%5+5*(y%5)=i:=⟨_,rfl⟩
   have hib:i<25:=by omega
   obtain⟨c,f⟩:=hD i (by omega);rw[PU]at c f;have Hi:Hid (x%5+5*(y%5)=i):=hi;have l24:(t:Int)<24:=by omega
   clear hi;go_wp2_with fail
   refine(dO (x:Int) (y:Int) i _ (by omega) (by omega) (by have:=Hi.out;omega)).mono ?_;rintro e w' ⟨rfl,rfl⟩;have hoff:=offs_int' t hlt;have i25:(i:Int)<25:=by omega
   go_wp2;go_roundg (gk-1)
   case measure=>omega
   case rel =>
    refine⟨t+1,⟨y,(2*x+3*y)%5,o.setIfInBounds i (rP t)⟩,by omega,by go_num,rfl,by go_num,?_,?_,?_⟩
    ·have:=Holds.set hD (i:=i) (by omega) (rP t);rw[PU]at this;exact this
    ·exact hO.setCell (o:=i) (by omega) (by omega) _
    ·show _=(Of.mk (iH t).y ((2*(iH t).x+3*(iH t).y)%5) ((iH t).o.setIfInBounds ((iH t).x%5+5*((iH t).y%5)) (rP t)));rw[<-HE.out];dsimp only;rw[Hi.out]
  ·have ht24:t=24:=by omega
   subst ht24;go_wp2;go_ret;refine⟨rfl,?_,?_⟩
   ·rw[<-hW1]at hO;exact hO.fresh
   ·unfold cD;rw[<-HE.out];exact hD
end SP
namespace SP
open Go.RowKit Go.Sort Go.Deep
attribute [local go_sem] cG cO cJ mF lW
theorem vS:prog.underlying 222=some (.slice 39):=by kernel_rfl
theorem Bm:(prog.info? 39).map (fun i=>(i.zero,i.size,i.bytes))=some (some (.int .u64 0),1,8):=by kernel_rfl
theorem D6(ab tb:Nat)(a:St)(tn:Array Nat)(c:BitVec 64)(w:World)(ha:a.size=25)(ht:tn.size=25)(hA:Holds enc w ab 0 a)(hT:Holds encI w tb 0 tn)(h64:∀i,i<25->tn[i]! < 64):
 Calls prog 162 #[.slice (some ⟨ab,0,none⟩) 25 25,.slice (some ⟨tb,0,none⟩) 25 25,.int .u64 (u c)] w fun e w'=>∃r,e=.returned (.slice (some ⟨r,0,none⟩) 25 25)/\w.heap.size<=r/\Below w.heap.size w w'/\Holds enc w' r 0 (dG a tn c):=by
 have hab:=Holds.lt hA (by omega);have htb:=Holds.lt hT (by omega);have hmk5:∀w:World,(Rm 222 (.int .i64 5) (.int .i64 5)).run prog w=.ok (.slice (some ⟨w.heap.size,0,none⟩) 5 5) (w.alloc (.cells (madeCells #[.int .u64 0] 5) 39)):=
  run_make_row' (P:=prog) 222 39 (.int .u64 0) 8 vS Bm rfl .i64 .i64 5 (by omega) (by omega)
 have hmk25:∀w:World,(Rm 222 (.int .i64 25) (.int .i64 25)).run prog w=.ok (.slice (some ⟨w.heap.size,0,none⟩) 25 25) (w.alloc (.cells (madeCells #[.int .u64 0] 25) 39)):=
  run_make_row' (P:=prog) 222 39 (.int .u64 0) 8 vS Bm rfl .i64 .i64 25 (by omega) (by omega)
 have HM25:Hid _:=hmk25;clear hmk25;go_enter Tryz.func162,Tryz.ntmps162;go_wp2;clear hmk5;have hC1:Holds enc (w.alloc (.cells (madeCells #[.int .u64 0] 5) 39)) w.heap.size 0 (kU a 0):=Holds.made (enc:=enc) w 39 5 0;have hb1:Below w.heap.size w (w.alloc (.cells (madeCells #[.int .u64 0] 5) 39)):=(Qd _ _).alloc (PQ _) _;generalize hW1:(w.alloc _)=W1 at hC1 hb1⊢;have hs1:w.heap.size<W1.heap.size:=by rw[<-hW1];simp
 have hA1:=Holds.below hA hb1 hab;have hT1:=Holds.below hT hb1 htb;clear hW1;go_loopg [8] 5 (fun g s8 wr=>∃(x:Nat) (ck:St),x+g=5/\s8=.int .i64 x/\Holds enc wr w.heap.size 0 ck/\Only w.heap.size 0 5 W1 wr/\Hid (ck=kU a x))
 case atStart=>exact⟨0,_,rfl,rfl,hC1,Only.refl _ _ _ _,rfl⟩
 case round =>
  obtain⟨x,ck,hx,rfl,hC,hO,HE⟩:=hrel;have hcs:ck.size=5:=by rw[HE.out,BF]
  by_cases hlt:x<5
  ·have l5:(x:Int)<5:=by omega
   go_wp2;go_loopg [9] 5 (fun g s9 wq=>∃(y:Nat) (cy:St),y+g=5/\s9=.int .i64 y/\Holds enc wq w.heap.size 0 cy/\Only w.heap.size 0 5 W1 wq/\Hid (cy=sJ a x ck y))
   case atStart=>exact⟨0,ck,rfl,rfl,hC,hO,rfl⟩
   case round =>
    obtain⟨y,cy,hy,rfl,hCy,hOy,HEy⟩:=hrel;have hcys:cy.size=5:=by rw[HEy.out,sH,hcs]
    by_cases hlty:y<5
    ·have hAy:=Holds.other hA1 hOy (by omega) (by omega);obtain⟨z,hz⟩:∃z,a[x+5*y]! = z:=⟨_,rfl⟩
     obtain⟨v,hv⟩:∃z,cy[x]! = z:=⟨_,rfl⟩
     obtain⟨c0,f0⟩:=aR hAy (x+5*y) (by omega) hz;obtain⟨c1,f1⟩:=aR hCy x (by omega) hv;rw[PU]at c0 c1 f1;have HZ:Hid (a[x+5*y]! = z):=hz;have HV:Hid (cy[x]! = v):=hv;obtain⟨i,hi⟩:∃i,x+5*y=i:=⟨_,rfl⟩
     rw[hi]at c0;have Hi:Hid (x+5*y=i):=hi;have i25:i<25:=by omega
     have i25':(i:Int)<25:=by omega
     have y5:(y:Int)<5:=by omega
     clear hz hv hi f0;go_wp2_with fail
     refine wp_region_still_tail 14 mixed (by kernel_rfl) ?_;simp only[V8,UC,Wb,Xk];repeat still_step
     still_call (dO (x:Int) (y:Int) i _ (by omega) (by omega) (by have:=Hi.out;omega))
     repeat still_step
     refine wpStill_nil ?_;go_wp2;go_roundg (gk-1)
     case measure=>omega
     case rel =>
      refine⟨y+1,bC cy x z,by omega,by go_num,?_,?_,?_⟩
      ·have:=Holds.xor hCy (i:=x) (by omega) HV.out z;rw[PU]at this;exact Holds.drew this
      ·exact(hOy.setCell (o:=x) (by omega) (by omega) _).drew
      ·show _=bC (sJ a x ck y) x a[x+5*y]!;rw[HZ.out,HEy.out]
    ·have hy5:y=5:=by omega
     subst hy5;go_wp2;go_roundg (4-x)
     case measure=>omega
     case rel =>
      refine⟨x+1,cy,by omega,by go_num,hCy,hOy,?_⟩;show _=sJ a x (kU a x) 5;rw[HEy.out,HE.out]
  ·have hx5:x=5:=by omega
   subst hx5;have hb2:Below w.heap.size w wr:=hb1.trans (hO.below (by omega) (PQ _));have hs2:w.heap.size<wr.heap.size:=PS hs1 hO.size;clear hlt hx hC1 hb1 hs1 hA1 hT1 hO;have hmk:=HM25.out;go_wp2;clear hmk;have hM3:Holds enc (wr.alloc (.cells (madeCells #[.int .u64 0] 25) 39)) wr.heap.size 0 (kP a tn ck 0):=Holds.made (enc:=enc) wr 39 25 0;have hb3':Below wr.heap.size wr (wr.alloc (.cells (madeCells #[.int .u64 0] 25) 39)):=(Qd _ _).alloc (PQ _) _;generalize hW3:(wr.alloc _)=W3 at hM3 hb3'⊢;have hs3:wr.heap.size<W3.heap.size:=by rw[<-hW3];simp
   have hC3:=Holds.below hC hb3' hs2;have hb3:=hb2.trans (hb3'.mono (by omega));have hA3:=Holds.below hA hb3 hab;have hT3:=Holds.below hT hb3 htb;clear hW3 hb3' hb2 hC;generalize hMB:wr.heap.size=MB at *;go_loopg [11] 5 (fun g s11 wr=>∃(x:Nat) (mk:St),x+g=5/\s11=.int .i64 x/\Holds enc wr MB 0 mk/\Only MB 0 25 W3 wr/\Hid (mk=kP a tn ck x))
   case atStart=>exact⟨0,_,rfl,rfl,hM3,Only.refl _ _ _ _,rfl⟩
   case round =>
    obtain⟨x,mk,hx,rfl,hM,hO,HEx⟩:=hrel;have hms:mk.size=25:=by rw[HEx.out,Bh]
    by_cases hlt:x<5
    ·have hCw:=Holds.other hC3 hO (by omega) (by omega);obtain⟨y0,hy0⟩:∃z,ck[(x+4)%5]! = z:=⟨_,rfl⟩
     obtain⟨y1,hy1⟩:∃z,ck[(x+1)%5]! = z:=⟨_,rfl⟩
     obtain⟨c0,f0⟩:=aR hCw ((x+4)%5) (by omega) hy0;obtain⟨c1,f1⟩:=aR hCw ((x+1)%5) (by omega) hy1;rw[PU]at c0 c1;have HD:Hid (bG ck x=y0 ^^^ rol y1 1):=by rw[<-hy0,<-hy1];rfl
     clear hy0 hy1 f0 f1;have l5:(x:Int)<5:=by omega
     have q1:0<=((x:Int)+4)%5:=by omega
     have q2:((x:Int)+4)%5<5:=by omega
     have q3:(((x:Int)+4)%5).toNat=(x+4)%5:=by omega
     have q4:0<=((x:Int)+1)%5:=by omega
     have q5:((x:Int)+1)%5<5:=by omega
     have q6:(((x:Int)+1)%5).toNat=(x+1)%5:=by omega
     go_wp2_with fail
     go_quiet ((go_at_call 173;exact Calls.quiet_of (zA _ 1 _ (by decide))));clear c0 c1 q1 q2 q3 q4 q5 q6;go_wp2;have hM1:=Holds.drewN hM nq;have hO1:=hO.drewN nq;generalize y0 ^^^ rol y1 1=dv at *;go_loopg [13] 5 (fun g s13 wq=>∃(y:Nat) (my:St),y+g=5/\s13=.int .i64 y/\Holds enc wq MB 0 my/\Only MB 0 25 W3 wq/\Hid (my=rR a tn x dv mk y))
     case atStart=>exact⟨0,mk,rfl,rfl,hM1,hO1,rfl⟩
     case round =>
      obtain⟨y,my,hy,rfl,hMy,hOy,HEy⟩:=hrel;have hmys:my.size=25:=by rw[HEy.out,rQ,hms]
      by_cases hlty:y<5
      ·have hAy:=Holds.other hA3 hOy (by omega) (by omega);have hTy:=Holds.other hT3 hOy (by omega) (by omega);obtain⟨z,hz⟩:∃z,a[x+5*y]! = z:=⟨_,rfl⟩
       obtain⟨tv,htv⟩:∃z,tn[x+5*y]! = z:=⟨_,rfl⟩
       obtain⟨c0,f0⟩:=aR hAy (x+5*y) (by omega) hz;obtain⟨c1,f1⟩:=MH hTy (x+5*y) (by omega) htv;have t64:tv<64:=by rw[<-htv];exact h64 _ (by omega)
       obtain⟨i,hi⟩:∃i,x+5*y=i:=⟨_,rfl⟩
       obtain⟨j,hj⟩:∃j,y%5+5*((2*x+3*y)%5)=j:=⟨_,rfl⟩
       obtain⟨c2,f2⟩:=hMy j (by omega);rw[PU]at c0 c1 c2 f2;rw[hi]at c0 c1;have Hi:Hid (x+5*y=i):=hi;have Hj:Hid (y%5+5*((2*x+3*y)%5)=j):=hj;have HZ:Hid (a[x+5*y]! = z):=hz;have HT:Hid (tn[x+5*y]! = tv):=htv;have i25:i<25:=by omega
       have j25:j<25:=by omega
       have i25':(i:Int)<25:=by omega
       have j25':(j:Int)<25:=by omega
       have y5:(y:Int)<5:=by omega
       have s1:QA.wrap (2*(x:Int))=2*(x:Int):=QG _ (by omega);have s2:QA.wrap (3*(y:Int))=3*(y:Int):=QG _ (by omega);have s3:QA.wrap (2*(x:Int)+3*(y:Int))=2*(x:Int)+3*(y:Int):=QG _ (by omega);clear hz htv hi hj f0 f1;go_wp2_with fail
       have P1:∀w,Hid (Calls prog 172 #[.int .i64 y,.int .i64 (2*(x:Int)+3*(y:Int))] w fun e w'=>e=.returned (.int .i64 j)/\w'=w):=fun w=>dO _ _ j w (by omega) (by omega) (by have:=Hj.out;omega)
       have P2:∀w,Hid (Calls prog 172 #[.int .i64 x,.int .i64 y] w fun e w'=>e=.returned (.int .i64 i)/\w'=w):=fun w=>dO _ _ i w (by omega) (by omega) (by have:=Hi.out;omega)
       go_region_with (first|(go_at_call_of 172 (QT QA (x:Int));refine Wh (P2 _).out ?_;rintro e w2 ⟨rfl,rfl⟩)|(go_at_call 172;refine Wh (P1 _).out ?_;rintro e w2 ⟨rfl,rfl⟩)|(go_at_call 173;refine(zA (z ^^^ dv) tv _ t64).mono ?_;rintro e w2 ⟨rfl,n2,rfl⟩))
       all_goals
        go_wp2;go_roundg (gk-1)
        case measure=>omega
        case rel =>
         refine⟨y+1,my.setIfInBounds j (rol (z ^^^ dv) tv),by omega,by go_num,?_,?_,?_⟩
         ·have:=Holds.set (Holds.drewN hMy (1+n2)) (i:=j) (by omega) (rol (z ^^^ dv) tv);rw[PU]at this;exact this
         ·exact(hOy.drewN (1+n2)).setCell (o:=j) (by omega) (by omega) _
         ·show _=(rR a tn x dv mk y).setIfInBounds (y%5+5*((2*x+3*y)%5)) (rol (a[x+5*y]! ^^^ dv) tn[x+5*y]!);rw[HZ.out,HT.out,Hj.out,HEy.out]
      ·have hy5:y=5:=by omega
       subst hy5;go_wp2;go_roundg (4-x)
       case measure=>omega
       case rel =>
        refine⟨x+1,my,by omega,by go_num,hMy,hOy,?_⟩;show _=rR a tn x (bG ck x) (kP a tn ck x) 5;rw[HEy.out,HEx.out,HD.out]
    ·have hx5:x=5:=by omega
     subst hx5;have hb4:Below w.heap.size w wr:=hb3.trans (hO.below (by omega) (by omega));have hs4:MB<wr.heap.size:=PS hs3 hO.size;clear hlt hx hb3 hs3 hA3 hT3 hC3 hM3 hO;have hmk:=HM25.out;go_wp2;clear hmk;have hU5:Holds enc (wr.alloc (.cells (madeCells #[.int .u64 0] 25) 39)) wr.heap.size 0 (lU mk 0):=Holds.made (enc:=enc) wr 39 25 0;have hb5':Below wr.heap.size wr (wr.alloc (.cells (madeCells #[.int .u64 0] 25) 39)):=(Qd _ _).alloc (PQ _) _;generalize hW5:(wr.alloc _)=W5 at hU5 hb5'⊢;have hs5:wr.heap.size<W5.heap.size:=by rw[<-hW5];simp
     have hM5:=Holds.below hM hb5' hs4;have hb5:=hb4.trans (hb5'.mono (by omega));clear hW5 hb5' hb4 hM;generalize hOB:wr.heap.size=OB at *;go_loopg [15] 5 (fun g s15 wr=>∃(x:Nat) (ok:St),x+g=5/\s15=.int .i64 x/\Holds enc wr OB 0 ok/\Only OB 0 25 W5 wr/\Hid (ok=lU mk x))
     case atStart=>exact⟨0,_,rfl,rfl,hU5,Only.refl _ _ _ _,rfl⟩
     case round =>
      obtain⟨x,ok,hx,rfl,hU,hO,HEu⟩:=hrel;have hus:ok.size=25:=by rw[HEu.out,rK]
      by_cases hlt:x<5
      ·have l5:(x:Int)<5:=by omega
       go_wp2;go_loopg [16] 5 (fun g s16 wq=>∃(y:Nat) (oy:St),y+g=5/\s16=.int .i64 y/\Holds enc wq OB 0 oy/\Only OB 0 25 W5 wq/\Hid (oy=rM mk x ok y))
       case atStart=>exact⟨0,ok,rfl,rfl,hU,hO,rfl⟩
       case round =>
        obtain⟨y,oy,hy,rfl,hUy,hOy,HEy⟩:=hrel;have hoys:oy.size=25:=by rw[HEy.out,rL,hus]
        by_cases hlty:y<5
        ·have hMy:=Holds.other hM5 hOy (by omega) (by omega);obtain⟨i0,hi0⟩:∃i,x+5*y=i:=⟨_,rfl⟩
         obtain⟨i1,hi1⟩:∃i,(x+1)%5+5*y=i:=⟨_,rfl⟩
         obtain⟨i2,hi2⟩:∃i,(x+2)%5+5*y=i:=⟨_,rfl⟩
         obtain⟨z0,hz0⟩:∃z,mk[i0]! = z:=⟨_,rfl⟩
         obtain⟨z1,hz1⟩:∃z,mk[i1]! = z:=⟨_,rfl⟩
         obtain⟨z2,hz2⟩:∃z,mk[i2]! = z:=⟨_,rfl⟩
         obtain⟨c0,f0⟩:=aR hMy i0 (by omega) hz0;obtain⟨c1,f1⟩:=aR hMy i1 (by omega) hz1;obtain⟨c2,f2⟩:=aR hMy i2 (by omega) hz2;obtain⟨c3,f3⟩:=hUy i0 (by omega);rw[PU]at c0 c1 c2 c3 f3;have H0:Hid (x+5*y=i0):=hi0;have H1:Hid ((x+1)%5+5*y=i1):=hi1;have H2:Hid ((x+2)%5+5*y=i2):=hi2;have HV:Hid (mk[x+5*y]! ^^^ (~~~mk[(x+1)%5+5*y]! &&& mk[(x+2)%5+5*y]!)=z0 ^^^ (~~~z1 &&& z2)):=by
          show _=_;rw[hi0,hi1,hi2,hz0,hz1,hz2]
         have b0:i0<25:=by omega
         have b0':(i0:Int)<25:=by omega
         have b1':(i1:Int)<25:=by omega
         have b2':(i2:Int)<25:=by omega
         have y5:(y:Int)<5:=by omega
         have s1:QA.wrap ((x:Int)+1)=(x:Int)+1:=QG _ (by omega);have s2:QA.wrap ((x:Int)+2)=(x:Int)+2:=QG _ (by omega);clear hz0 hz1 hz2 hi0 hi1 hi2 f0 f1 f2;go_wp2_with fail
         refine wp_region_still_tail 28 mixed (by kernel_rfl) ?_;simp only[V8,UC,Wb,Xk];repeat still_step
         still_call (dO (x:Int) (y:Int) i0 _ (by omega) (by omega) (by have:=H0.out;omega))
         repeat still_step
         still_call (dO (x:Int) (y:Int) i0 _ (by omega) (by omega) (by have:=H0.out;omega))
         repeat still_step
         still_call (dO ((x:Int)+1) (y:Int) i1 _ (by omega) (by omega) (by have:=H1.out;omega))
         repeat still_step
         still_call (dO ((x:Int)+2) (y:Int) i2 _ (by omega) (by omega) (by have:=H2.out;omega))
         repeat still_step
         refine wpStill_nil ?_;go_wp2;go_roundg (gk-1)
         case measure=>omega
         case rel =>
          refine⟨y+1,oy.setIfInBounds i0 (z0 ^^^ (~~~z1 &&& z2)),by omega,by go_num,?_,?_,?_⟩
          ·have:=Holds.set hUy (i:=i0) (by omega) (z0 ^^^ (~~~z1 &&& z2));rw[PU]at this;exact Holds.drew this
          ·exact(hOy.setCell (o:=i0) (by omega) (by omega) _).drew
          ·show _=(rM mk x ok y).setIfInBounds (x+5*y) (mk[x+5*y]! ^^^ (~~~mk[(x+1)%5+5*y]! &&& mk[(x+2)%5+5*y]!));rw[HV.out,H0.out,HEy.out]
        ·have hy5:y=5:=by omega
         subst hy5;go_wp2;go_roundg (4-x)
         case measure=>omega
         case rel =>
          refine⟨x+1,oy,by omega,by go_num,hUy,hOy,?_⟩;show _=rM mk x (lU mk x) 5;rw[HEy.out,HEu.out]
      ·have hx5:x=5:=by omega
       subst hx5;obtain⟨z,hz⟩:∃z,ok[0]! = z:=⟨_,rfl⟩
       obtain⟨c0,f0⟩:=aR hU 0 (by omega) hz;rw[PU]at c0 f0;have HZ:Hid (ok[0]! = z):=hz;clear hz;go_wp2;go_ret;refine⟨OB,rfl,by omega,?_,?_⟩
       ·exact(hb5.trans (hO.below (by omega) (by omega))).setCell (p:=⟨OB,0,none⟩) (by show _<=OB;omega) _
       ·have e:dG a tn c=bC ok 0 c:=by unfold dG;rw[HEu.out,HEx.out,HE.out]
        rw[e];exact Holds.xor (i:=0) hU (by omega) HZ.out c
end SP
namespace SP
open Go.RowKit Go.Sort Go.Deep
attribute [local go_sem] cG cO cJ mF lW vE Ku
theorem kC(s:ByteArray)(w:World)(hs:s.size=200):
 Calls prog 147 #[.string s] w fun e w'=>e=.returned (.string ⟨eU s.data⟩)/\Below w.heap.size w w':=by
 have hmk25:∀w:World,(Rm 222 (.int .i64 25) (.int .i64 25)).run prog w=.ok (.slice (some ⟨w.heap.size,0,none⟩) 25 25) (w.alloc (.cells (madeCells #[.int .u64 0] 25) 39)):=
  run_make_row' (P:=prog) 222 39 (.int .u64 0) 8 vS Bm rfl .i64 .i64 25 (by omega) (by omega)
 have hmk200:∀w:World,(Rm 28 (.int .i64 200) (.int .i64 200)).run prog w=.ok (.slice (some ⟨w.heap.size,0,none⟩) 200 200) (w.alloc (.cells (madeCells #[.int .u8 0] 200) 5)):=
  run_make_row' (P:=prog) 28 5 (.int .u8 0) 1 slice22 info5 rfl .i64 .i64 200 (by omega) (by omega)
 have HM200:Hid _:=hmk200;clear hmk200;go_enter Tryz.func147,Tryz.ntmps147;go_wp2;clear hmk25;have hA1:Holds enc (w.alloc (.cells (madeCells #[.int .u64 0] 25) 39)) w.heap.size 0 (mD s.data 0):=Holds.made (enc:=enc) w 39 25 0;have hb1:Below w.heap.size w (w.alloc (.cells (madeCells #[.int .u64 0] 25) 39)):=(Qd _ _).alloc (PQ _) _;generalize hW1:(w.alloc _)=W1 at hA1 hb1⊢;have hs1:w.heap.size<W1.heap.size:=by rw[<-hW1];simp
 clear hW1;go_loopg [4] 200 (fun g s4 wr=>∃(i:Nat) (dk:St),i+g=200/\s4=.int .i64 i/\Holds enc wr w.heap.size 0 dk/\Only w.heap.size 0 25 W1 wr/\Hid (dk=mD s.data i))
 case atStart=>exact⟨0,_,rfl,rfl,hA1,Only.refl _ _ _ _,rfl⟩
 case round =>
  obtain⟨i,dk,hi,rfl,hD,hO,HE⟩:=hrel;have hds:dk.size=25:=by rw[HE.out,iQ]
  by_cases hlt:i<200
  ·obtain⟨x,hx⟩:∃x,dk[i/8]! = x:=⟨_,rfl⟩
   obtain⟨c0,f0⟩:=aR hD (i/8) (by omega) hx;rw[PU]at c0 f0;have HX:Hid (dk[i/8]! = x):=hx;clear hx;have l200:(i:Int)<200:=by omega
   have p0:0<=(i:Int)/8:=by omega
   have p1:(i:Int)/8<25:=by omega
   have p2:((i:Int)/8).toNat=i/8:=by omega
   have s1:QA.wrap ((i:Int)/8)=(i:Int)/8:=QG _ (by omega);have s2:QA.wrap (8*((i:Int)%8))=8*((i:Int)%8):=QG _ (by omega);have s3:0<=8*((i:Int)%8):=by omega
   have s4:8*((i:Int)%8)<=64:=by omega
   have s5:(8*((i:Int)%8)).toNat=8*(i%8):=by omega
   have his:(i:Int)<(s.size:Int):=by omega
   have his':i<s.size:=by omega
   have tm:(i:Int).tmod 8=(i:Int)%8:=Sy (by omega);obtain⟨y,hy⟩:∃y,wide s.data[i]! = y:=⟨_,rfl⟩
   have hsb:Qs.wrap (s[i].toNat:Int)=u y:=by
    have e:s.data[i]! = s[i]:=getElem!_pos s.data i his';rw[<-hy,e];exact vE s[i]
   have HY:Hid (wide s.data[i]! = y):=hy;clear hy;have sh:=uB y (8*(i%8));go_wp2_with fail
   go_still_tail 18,mixed;go_wp2;go_roundg (gk-1)
   case measure=>omega
   case rel =>
    refine⟨i+1,dk.setIfInBounds (i/8) (x ||| y <<< (8*(i%8))),by omega,by go_num,?_,?_,?_⟩
    ·have:=Holds.set hD (i:=i/8) (by omega) (x ||| y <<< (8*(i%8)));rw[PU]at this;exact Holds.drew this
    ·exact(hO.setCell (o:=i/8) (by omega) (by omega) _).drew
    ·show _=(mD s.data i).setIfInBounds (i/8) ((mD s.data i)[i/8]! ||| wide s.data[i]! <<< (8*(i%8)));rw[HY.out,<-HE.out,HX.out]
  ·have hi200:i=200:=by omega
   subst hi200;have hb2:Below w.heap.size w wr:=hb1.trans (hO.below (by omega) (PQ _));have hs2:w.heap.size<wr.heap.size:=PS hs1 hO.size;clear hlt hi hA1 hb1 hs1 hO;go_wp2_with fail
   refine(yT _).mono ?_;rintro e w3 ⟨rfl,hb3,hT⟩;have hD3:=Holds.below hD hb3 hs2;have hb4:=hb2.trans (hb3.mono (by omega));have hs3:wr.heap.size<w3.heap.size:=Holds.lt hT (by rw[jI];omega);generalize hTB:wr.heap.size=TB at *;clear hb2 hb3 hD;go_wp2;go_loopg [3,6] 24 (fun g s3 s6 wr=>∃(k ab:Nat) (dk:St),k+g=24/\s6=.int .i64 k/\s3=.slice (some ⟨ab,0,none⟩) 25 25/\Holds enc wr ab 0 dk/\w.heap.size<=ab/\Holds encI wr TB 0 cD/\Below w.heap.size w wr/\Hid (dk=yF (mD s.data 200) k))
   case atStart=>exact⟨0,w.heap.size,dk,rfl,rfl,rfl,hD3,PQ _,hT,hb4,HE⟩
   case round =>
    clear hT hb4 hD3 HE hds dk;obtain⟨k,ab,dk,hk,rfl,rfl,hD,hab,hT,hb,HE⟩:=hrel;have hds:dk.size=25:=by
     rw[HE.out];cases k with
     | zero=>exact iQ _ _
     | succ k=>exact tJ _ _ _
    by_cases hlt:k<24
    ·have l24:(k:Int)<24:=by omega
     go_wp2_with fail
     refine(wS k _ hlt).mono ?_;rintro e w4 ⟨rfl,rfl⟩;go_wp2_with fail
     refine(D6 ab TB dk cD (BD k) _ hds jI hD hT Bd).mono ?_;rintro e w5 ⟨r,rfl,hr,hb5,hR⟩;have hTl:=Holds.lt hT (by rw[jI];omega);have hsz:=hb.size;go_wp2;go_roundg (gk-1)
     case measure=>omega
     case rel =>
      refine⟨k+1,r,dG dk cD (BD k),by omega,by go_num,rfl,hR,by omega,Holds.below hT hb5 hTl,hb.trans (hb5.mono (by omega)),?_⟩;rw[HE.out];rfl
    ·have hk24:k=24:=by omega
     subst hk24;have hmk:=HM200.out;go_wp2;clear hmk;have hsz:=hb.size;have hal:=Holds.lt hD (by omega);have hF1:Holds encB (wr.alloc (.cells (madeCells #[.int .u8 0] 200) 5)) wr.heap.size 0 (dB dk 200 0):=Holds.made (enc:=encB) wr 5 200 0;have hb6:Below wr.heap.size wr (wr.alloc (.cells (madeCells #[.int .u8 0] 200) 5)):=(Qd _ _).alloc (PQ _) _;generalize hW6:(wr.alloc _)=W6 at hF1 hb6⊢;have hs6:wr.heap.size<W6.heap.size:=by rw[<-hW6];simp
     have hD6:=Holds.below hD hb6 hal;have hb7:=hb.trans (hb6.mono hsz);clear hW6 hb6 hb hD hT;generalize hFB:wr.heap.size=FB at *;go_loopg [8] 200 (fun g s8 wr=>∃(i:Nat) (bs:Bs),i+g=200/\s8=.int .i64 i/\Holds encB wr FB 0 bs/\Only FB 0 200 W6 wr/\Hid (bs=dB dk 200 i))
     case atStart=>exact⟨0,_,rfl,rfl,hF1,Only.refl _ _ _ _,rfl⟩
     case round =>
      obtain⟨i,bs,hi,rfl,hB,hO,HEb⟩:=hrel;have hbs:bs.size=200:=by rw[HEb.out,fJ]
      by_cases hlt:i<200
      ·have hDw:=Holds.other hD6 hO (by omega) (by omega);obtain⟨x,hx⟩:∃x,dk[i/8]! = x:=⟨_,rfl⟩
       obtain⟨c0,f0⟩:=aR hDw (i/8) (by omega) hx;obtain⟨c1,f1⟩:=hB i (by omega);rw[PU]at c0 c1 f1;have HX:Hid (byteOf dk i=low (x >>> (8*(i%8)))):=by show low _=_;rw[hx]
       clear hx f0;have p1:(i:Int)/8<25:=by omega
       have l200:(i:Int)<200:=by omega
       have hsr:=Cu x (8*(i%8));go_wp2;go_roundg (gk-1)
       case measure=>omega
       case rel =>
        refine⟨i+1,bs.setIfInBounds i (low (x >>> (8*(i%8)))),by omega,by go_num,?_,?_,?_⟩
        ·have:=Holds.set hB (i:=i) (by omega) (low (x >>> (8*(i%8))));rw[PU]at this;exact this
        ·exact hO.setCell (o:=i) (by omega) (by omega) _
        ·show _=(dB dk 200 i).setIfInBounds i (byteOf dk i);rw[HX.out,HEb.out]
      ·have hi200:i=200:=by omega
       subst hi200;have kc:=conv_str prog 28 9 5 slice22 int5 str9 wr FB 0 200 200 bs hB hbs;go_wp2;go_ret;have e1:bs=eU s.data:=by rw[HEb.out,HE.out];exact D7 s.data
       rw[e1];exact⟨rfl,hb7.trans (hO.below (by omega) (by omega))⟩
end SP
namespace SP
open Go.RowKit Go.Sort Go.Deep
attribute [local go_sem] uW
theorem holds_one(w:World)(x:UInt8):Holds encB (w.alloc (.cells #[.int .u8 (ub x)] 5)) w.heap.size 0 #[x]:=by
 have h:=Holds.new (enc:=encB) w 5 #[x];have e:XO encB #[x]=#[.int .u8 (ub x)]:=by simp[encB]
 rw[e]at h;exact h
def oS(l:List UInt8)(e:UInt8)(k:Nat):List UInt8:=l++e :: List.replicate k 0
theorem pG(l:List UInt8)(e:UInt8)(k:Nat):(oS l e k).length=l.length+1+k:=by
 unfold oS;rw[PY,Qw,Rt];omega
theorem Er(l:List UInt8)(e:UInt8)(k:Nat):oS l e k++[0]=oS l e (k+1):=by
 unfold oS;rw[UX,Vj,List.replicate_succ']
theorem AZ(l:List UInt8)(e:UInt8):(oS l e (135-l.length%136)).set (l.length+(135-l.length%136)) ((oS l e (135-l.length%136))[l.length+(135-l.length%136)]! ^^^ 128)=total l e:=by
 unfold oS total dW;rw[List.set_append_right _ _ (by omega),Tt,lV _ _ _ (by omega) (by rw[Qw,Rt];omega),Tt]
theorem yZ(l:List UInt8)(i j:Nat)(x:UInt8)(hj:j<l.length):(l.set i x)[j]! = if i=j then x else l[j]!:=by
 rw[getElem!_pos (l.set i x) j (by rw[List.length_set];exact hj),List.getElem_set,getElem!_pos l j hj]
theorem Fp(l:List UInt8)(e:UInt8)(cur:Bs)(L k:Nat)(hk:k=135-l.length%136)(hL:L=l.length+1+k)(hc:L<=cur.size)(hT:∀j,j<L->cur[j]! = (oS l e k)[j]!):
 ∀j,j<L->(cur.setIfInBounds (L-1) (cur[L-1]! ^^^ 128))[j]! = (total l e)[j]!:=by
 intro j hj;have hpl:=pG l e k;rw[<-AZ,<-hk,yZ _ _ _ _ (by omega),show l.length+k=L-1 by omega];by_cases h:j=L-1
 ·rw[if_pos h.symm,h,getElem!_set_same _ _ _ (by omega),hT _ (by omega)]
 ·rw[if_neg (by omega),getElem!_set_other _ _ _ _ h,hT _ hj]
theorem vQ(o:ByteArray)(d:St)(n m:Nat)(ho:o.size=136*m)(hnm:n<=136*m)(h:∀j,j<136*m->o.data[j]! = cA d j):o.extract 0 n=⟨dY d n⟩:=by
 apply XN;have hd:(o.extract 0 n).data=o.data.extract 0 n:=UL;have hs:o.data.size=136*m:=ho;rw[hd];refine wZ _ _ n (by rw[QQ,hs];omega) (dX _ _) (fun j hj=>?_);have h1:j<(o.data.extract 0 n).size:=by rw[QQ,hs];omega
 have h2:j<o.data.size:=by omega
 have h3:=h j (by omega);rw[getElem!_pos o.data j h2]at h3;rw[l8 _ _ _ hj,<-h3,getElem!_pos (o.data.extract 0 n) j h1,Tu];simp only[PU]
theorem Gm(o:ByteArray)(d:St)(m:Nat)(p:Bs)(hp:p.size=136)(hpa:∀j,j<136->p[j]! = byteOf (bX d m) j)(ho:o.size=136*m)(h:∀j,j<136*m->o.data[j]! = cA d j):
 (o++⟨p⟩).size=136*(m+1)/\∀j,j<136*(m+1)->(o++(⟨p⟩:ByteArray)).data[j]! = cA d j:=by
 have hd:(o++(⟨p⟩:ByteArray)).data=o.data++p:=Ue;have hs:o.data.size=136*m:=ho;refine⟨?_,fun j hj=>?_⟩
 ·show(o++(⟨p⟩:ByteArray)).data.size=_;rw[hd,QF,hp,hs];omega
 ·rw[hd];by_cases h1:j<136*m
  ·have h2:j<o.data.size:=by omega
   have h3:=h j h1;rw[getElem!_pos o.data j h2]at h3;rw[app_front _ _ j h2,h3]
  ·rw[app_back _ _ j (by omega) (by omega),hs,hpa _ (by omega)];unfold cA;rw[show j/136=m by omega,show j%136=j-136*m by omega]
theorem Di(w:World)(p:Bs)(h:p.size=200):
 ∃sc w',(convert 9 28 (.string ⟨p⟩)).run prog w=.ok (.slice (some ⟨w.heap.size,0,none⟩) 200 sc) w'/\200<=sc/\Holds encB w' w.heap.size 0 p/\Below w.heap.size w w':=by
 obtain⟨v,w',hcv,own,hb,hv⟩:=jP (w:=w) (B:=0) ⟨p⟩ (SJ _);have hps:(RX p).size=200:=h;have hpl:(RX p).data.toList.length=200:=by rw[P8];exact h
 rw[hv]at hcv own;rw[hps]at hcv own;obtain⟨_,_,hle,hH⟩:=own.holds;exact⟨_,_,hcv,by omega,by simpa using hH,hb⟩
theorem zH(d:St):Vr (front d 136)<=Vr (front d 200)/\∀j,j<(front d 136).size->(front d 136)[j]! = (front d 200)[j]!:=by
 refine⟨by rw[aP,aP];omega,fun j hj=>?_⟩;rw[aP]at hj;rw[f8 _ _ _ hj,f8 _ _ _ (by omega)]
theorem lT(s:ByteArray)(e:UInt8)(n:Nat)(w:World)(hs:s.size<=1048576)(hn:n<=16384):
 Calls prog 112 #[.string s,.int .u8 (ub e),.int .i64 n] w fun r w'=>r=.returned (.string ⟨dY (eJ s.data.toList e) n⟩)/\Below w.heap.size w w':=by
 obtain⟨v0,w0,hcv,own0,hb0,hv0⟩:=jP (w:=w) (B:=w.heap.size) s (PQ _);rw[hv0]at hcv own0;have hsz0:w.heap.size<=w0.heap.size:=hb0.size;have hX:=holds_one w0 e;have hbx:Below w0.heap.size w0 (w0.alloc (.cells #[.int .u8 (ub e)] 5)):=(Qd _ _).alloc (PQ _) _;have hl:s.data.toList.length=s.size:=P8;obtain⟨v1,w1,hap,own1,hb1⟩:=tA (c:=1) (own0.below hbx) hX (by rw[Qa];omega) (by rw[hl];simp;omega) 1 rfl;have hbb1:Below w.heap.size w w1:=(hb0.trans (hbx.mono hsz0)).trans hb1;have own1':Own w.heap.size w1 v1 (oS s.data.toList e 0):=own1;clear hv0 own0 hX own1 hb1 hbx;have hmk200:∀w:World,(Rm 28 (.int .i64 200) (.int .i64 200)).run prog w=.ok (.slice (some ⟨w.heap.size,0,none⟩) 200 200) (w.alloc (.cells (madeCells #[.int .u8 0] 200) 5)):=
  run_make_row' (P:=prog) 28 5 (.int .u8 0) 1 slice22 info5 rfl .i64 .i64 200 (by omega) (by omega)
 have HM200:Hid _:=hmk200;clear hmk200;go_enter Tryz.func112,Tryz.ntmps112;go_wp2_with (at_builtin;refine QC _ rfl _ _ 28 28 rfl _ _ rfl rfl _ _ hap ?_)
 clear hap hcv hb0;obtain⟨h,hh⟩:∃h,s.data.toList.length%136=h:=⟨_,rfl⟩
 have h136:h<136:=by rw[<-hh];exact RN _ (by decide)
 have Hh:Hid (s.data.toList.length%136=h):=hh;clear hh;go_loopg [7] (135-h) (fun g s7 wr=>∃k,k+g=135-h/\Own w.heap.size wr s7 (oS s.data.toList e k)/\Below w.heap.size w wr)
 case atStart=>exact⟨0,by omega,own1',hbb1⟩
 case round =>
  clear own1' hbb1;obtain⟨k,hk,own,hb⟩:=hrel;have own':=own;obtain⟨g,cap,cur,rfl,hg,hgl,hcs,hlc,hH,hT⟩:=own';have hL:=pG s.data.toList e k;generalize hLL:(oS s.data.toList e k).length=L at *;have hL':L=s.size+1+k:=by rw[hL,hl]
  have HL':Hid (L=s.size+1+k):=hL';have hLb:L<=1048900:=by omega
  have hL0:1<=L:=by omega
  have tm:(L:Int).tmod 136=(L:Int)%136:=Sy (by omega);by_cases hlt:k<135-h
  ·have hb2:((L:Int)%136 != 0)=true:=by rw[bne_iff_ne];have:=Hh.out;rw[hl]at this;omega
   have hX:=holds_one wr 0;have hbx:Below wr.heap.size wr (wr.alloc (.cells #[.int .u8 (ub 0)] 5)):=(Qd _ _).alloc (PQ _) _;obtain⟨v2,w2,hap,own2,hbb⟩:=tA (c:=1) (own.below hbx) hX (by rw[Qa];have:=hb.size;omega) (by rw[hLL];simp;omega) 1 rfl;have own3:Own w.heap.size w2 v2 (oS s.data.toList e (k+1)):=by rw[<-Er];exact own2
   have hb3:Below w.heap.size w w2:=(hb.trans (hbx.mono hb.size)).trans hbb;clear hL hL' hLL own own2 hX hbb hbx hH hT;go_wp2_with (at_builtin;refine QC _ rfl _ _ 28 28 rfl _ _ rfl rfl _ _ hap ?_)
   go_roundg (gk-1)
   case measure=>omega
   case rel=>exact⟨k+1,by omega,own3,hb3⟩
  ·have hb2:((L:Int)%136 != 0)=false:=by
    rw[bne_eq_false_iff_eq];have:=Hh.out;rw[hl]at this;omega
   have hk0:k=135-s.data.toList.length%136:=by have:=Hh.out;omega
   obtain⟨x,hx⟩:∃x,cur[L-1]! = x:=⟨_,rfl⟩
   obtain⟨c0,f0⟩:=nS hH (L-1) (by omega) hx;rw[PU]at c0 f0;have hx80:=Kh x;have hTot:=Fp s.data.toList e cur L k hk0 hL (by omega) hT;rw[hx]at hTot;have hH2:=Holds.set hH (i:=L-1) (by omega) (x ^^^ 128);rw[PU]at hH2;have htl:(total s.data.toList e).length=L:=by rw[mN];omega
   have hTA:Holds encB (wr.setCell ⟨g,L-1,none⟩ (.int .u8 (ub (x ^^^ 128)))) g 0 (total s.data.toList e).toArray:=
    Holds.front hH2 (by rw[Array.size_setIfInBounds,QB,htl];omega) (fun j hj=>by rw[kQ];exact(hTot j (by simpa[htl]using hj)).symm)
   have hb4:Below w.heap.size w (wr.setCell ⟨g,L-1,none⟩ (.int .u8 (ub (x ^^^ 128)))):=hb.setCell (p:=⟨g,L-1,none⟩) hg _;have hg4:g<(wr.setCell ⟨g,L-1,none⟩ (.int .u8 (ub (x ^^^ 128)))).heap.size:=by rw[Tg];exact hgl
   obtain⟨M,hM⟩:∃M,s.data.toList.length/136+1=M:=⟨_,rfl⟩
   have hLM:L=136*M:=by have:=Hh.out;omega
   have HLM:Hid (L=136*M):=hLM;have HM:Hid (s.data.toList.length/136+1=M):=hM;have z1:(0:Int)<=(L:Int)-1:=by omega
   have z2:(L:Int)-1<(L:Int):=by omega
   have z3:((L:Int)-1).toNat=L-1:=by omega
   have hmk:=HM200.out;clear hM hLM hTot hH2 hH hT hx hL hL' hLL own hk0;go_wp2;clear hmk c0 f0 hb2 tm hx80;have hW2:(wr.setCell ⟨g,L-1,none⟩ (.int .u8 (ub (x ^^^ 128)))).heap.size=wr.heap.size:=by rw[Tg]
   generalize wr.setCell ⟨g,L-1,none⟩ (.int .u8 (ub (x ^^^ 128)))=W2 at hTA hb4 hg4 hW2⊢;have hS0:Holds encB (W2.alloc (.cells (madeCells #[.int .u8 0] 200) 5)) W2.heap.size 0 (g8 (total s.data.toList e) 0):=Holds.made (enc:=encB) W2 5 200 0;have hb5':Below W2.heap.size W2 (W2.alloc (.cells (madeCells #[.int .u8 0] 200) 5)):=(Qd _ _).alloc (PQ _) _;have hs5:W2.heap.size<(W2.alloc (.cells (madeCells #[.int .u8 0] 200) 5)).heap.size:=by simp
   have hTA5:=Holds.below hTA hb5' hg4;have hb5:=hb4.trans (hb5'.mono hb4.size);have hz4:=hb4.size;rw[hW2]at hS0 hs5 hg4 hz4;generalize hSG:wr.heap.size=SG at *;generalize (W2.alloc _)=W3 at hS0 hb5 hs5 hTA5⊢;clear hTA hb4 hb5' hSG hW2;go_loopg [8,9] M (fun g2 s8 s9 wr=>∃(i sg sc:Nat),i+g2=M/\s9=.int .i64 ((136*i:Nat):Int)/\s8=.slice (some ⟨sg,0,none⟩) 200 sc/\200<=sc/\w.heap.size<=sg/\sg≠g/\Holds encB wr sg 0 (g8 (total s.data.toList e) i)/\Holds encB wr g 0 (total s.data.toList e).toArray/\Below w.heap.size w wr)
   case atStart=>exact⟨0,SG,200,by omega,rfl,rfl,PQ _,by omega,by omega,hS0,hTA5,hb5⟩
   case round =>
    clear hS0 hTA5 hb5 hs5;obtain⟨i,sg,sc,hi,rfl,rfl,hsc,hsg,hne,hS,hTA,hb⟩:=hrel;have hrs:(g8 (total s.data.toList e) i).size=200:=by
     cases i with
     | zero=>rw[g8,P7]
     | succ i=>rw[g8,eU,aP]
    have hgz:g<wr.heap.size:=Holds.lt hTA (by rw[QB,htl];omega);by_cases hlt:i<M
    ·have hlt':((136*i:Nat):Int)<(L:Int):=by have:=HLM.out;omega
     have hii:136*i+136<=L:=by have:=HLM.out;omega
     generalize hI:136*i=I at *;have HI:Hid (136*i=I):=hI;clear hI;go_wp2;have hD0:Holds encB wr sg 0 (mL (g8 (total s.data.toList e) i) (total s.data.toList e) I 0):=hS;generalize hR:g8 (total s.data.toList e) i=R at *;have HR:Hid (R=g8 (total s.data.toList e) i):=hR.symm;clear hR;go_loopg [10] 136 (fun g3 s10 wq=>∃(k:Nat) (st:Bs),k+g3=136/\s10=.int .i64 k/\Holds encB wq sg 0 st/\Only sg 0 200 wr wq/\Hid (st=mL R (total s.data.toList e) I k))
     case atStart=>exact⟨0,_,rfl,rfl,hD0,Only.refl _ _ _ _,rfl⟩
     case round =>
      clear hD0;obtain⟨k,st,hk,rfl,hSt,hO,HE⟩:=hrel;have hsts:st.size=200:=by rw[HE.out,tQ];exact hrs
      have hTq:=Holds.other hTA hO (Ne.symm hne) (by rw[QB,htl];omega);by_cases hltk:k<136
      ·obtain⟨y,hy⟩:∃y,(total s.data.toList e)[I+k]! = y:=⟨_,rfl⟩
       obtain⟨c0,f0⟩:=nS (x:=y) hTq (I+k) (by rw[QB,htl];omega) (by rw[kQ];exact hy);obtain⟨z,hz⟩:∃z,st[k]! = z:=⟨_,rfl⟩
       obtain⟨c1,f1⟩:=nS hSt k (by omega) hz;rw[PU]at c0 c1 f1;have HY:Hid ((total s.data.toList e)[I+k]! = y):=hy;have HZ:Hid (st[k]! = z):=hz;have k136:(k:Int)<136:=by omega
       have k200:(k:Int)<200:=by omega
       have ik0:(0:Int)<=(I:Int)+(k:Int):=by omega
       have ik1:(I:Int)+(k:Int)<(L:Int):=by omega
       have ik2:((I:Int)+(k:Int)).toNat=I+k:=by omega
       have ik3:QA.wrap ((I:Int)+(k:Int))=(I:Int)+(k:Int):=QG _ (by omega);clear hy hz f0 hTq;go_wp2_with fail
       go_still_tail 14,mixed;go_wp2;go_roundg (gk-1)
       case measure=>omega
       case rel =>
        refine⟨k+1,st.setIfInBounds k (z ^^^ y),by omega,by go_num,?_,?_,?_⟩
        ·have:=Holds.set hSt (i:=k) (by omega) (z ^^^ y);rw[PU]at this;exact Holds.drew this
        ·exact(hO.setCell (o:=k) (by omega) (by omega) _).drew
        ·show _=(mL R (total s.data.toList e) I k).setIfInBounds k ((mL R (total s.data.toList e) I k)[k]! ^^^ (total s.data.toList e)[I+k]!);rw[<-HE.out,HZ.out,HY.out]
      ·have hk136:k=136:=by omega
       subst hk136;have hgz2:=Holds.lt hSt (by omega);have kc:=conv_str prog 28 9 5 slice22 int5 str9 _ sg 0 200 sc st hSt hsts;have hbq:=hb.trans (hO.below hb.size hsg);obtain⟨PB,hPB⟩:∃x,eU st=x:=⟨_,rfl⟩
       have hps:PB.size=200:=by rw[<-hPB,eU,aP]
       have HE2:Hid (PB=g8 (total s.data.toList e) (i+1)):=by
        show PB=eU (mL (g8 (total s.data.toList e) i) (total s.data.toList e) (136*i) 136);rw[<-HR.out,HI.out,<-HE.out,hPB]
       have HPB:Hid (PB=eU st):=hPB.symm;clear hPB HE;go_wp2_with fail
       refine(kC ⟨st⟩ _ hsts).mono ?_;rintro r w5 ⟨rfl,hb5⟩;have e5:(RX (eU (RX st).data))=RX PB:=congrArg RX HPB.out.symm;rw[e5];clear e5;obtain⟨sc6,w6,hcv6,hle6,hH6,hb6⟩:=Di w5 PB hps;have hgq:=Holds.lt hTq (by rw[QB,htl];omega);have hg5:g<w5.heap.size:=PS hgq hb5.size;have hT6:=Holds.below (Holds.below hTq hb5 hgq) hb6 hg5;have hb8:Below w.heap.size w w6:=(hbq.trans (hb5.mono hbq.size)).trans (hb6.mono (by have:=hb5.size;have:=hbq.size;omega));rw[HE2.out]at hH6;have hz5:w.heap.size<=w5.heap.size:=by have:=hb5.size;have:=hbq.size;omega
       go_wp2;go_roundg (M-(i+1))
       case measure=>omega
       case rel=>exact⟨i+1,w5.heap.size,sc6,by omega,by rw[<-HI.out];go_num,rfl,hle6,hz5,by omega,hH6,hT6,hb8⟩
    ·have hiM:i=M:=by omega
     have hge:(L:Int)<=((136*i:Nat):Int):=by have:=HLM.out;omega
     obtain⟨d,hd⟩:∃d,eJ s.data.toList e=d:=⟨_,rfl⟩
     obtain⟨F,hF⟩:∃F,front (bX d 0) 200=F:=⟨_,rfl⟩
     have hSf:Holds encB wr sg 0 F:=by
      have:=yG s.data.toList e;rw[HM.out,<-hiM,hd]at this;rw[this]at hS;rw[<-hF,bX];exact hS
     have hab:d.size=25:=by rw[<-hd];exact kY s.data.toList e
     have HDD:Hid (d=eJ s.data.toList e):=hd.symm;have HFF:Hid (F=front (bX d 0) 200):=hF.symm;clear hS hrs hTA hgz hiM hlt hi hd hF;generalize hI:136*i=I at *;clear hI;have hdec:decide ((I:Int)<(L:Int))=false:=decide_eq_false (by omega);have hdec2:decide (I<L)=false:=decide_eq_false (by omega);go_wp2;go_loopg [8,11] (n+136) (fun g4 s8 s11 wq=>∃(m sg sc:Nat) (o:ByteArray) (Fm:Bs),136*m+g4=n+136/\1<=g4/\s11=.string o/\o.size=136*m/\s8=.slice (some ⟨sg,0,none⟩) 200 sc/\200<=sc/\Holds encB wq sg 0 Fm/\Fm.size=200/\Below w.heap.size w wq/\Hid (Fm=front (bX d m) 200)/\Hid (∀j,j<136*m->o.data[j]! = cA d j))
     case atStart=>exact⟨0,sg,sc,UK,F,by omega,by omega,rfl,rfl,rfl,hsc,hSf,by rw[HFF.out,aP],hb,HFF,fun j hj=>by omega⟩
     case round =>
      clear hSf HFF hsc;obtain⟨m,sg,sc,o,Fm,hg4,hg41,rfl,ho,rfl,hsc,hF,hFs,hb,HF,HO⟩:=hrel;have Ho:Hid (o.size=136*m):=ho;have hob:o.size<=n+136:=by omega
      by_cases hlt:o.size<n
      ·have hlt':(o.size:Int)<(n:Int):=by omega
       obtain⟨Q,hQ⟩:∃Q,front (bX d m) 136=Q:=⟨_,rfl⟩
       have hQs:Q.size=136:=by rw[<-hQ,aP]
       have hQa:∀j,j<136->Q[j]! = byteOf (bX d m) j:=fun j hj=>by rw[<-hQ,f8 _ _ _ hj]
       have hHQ:Holds encB wr sg 0 Q:=by
        have h1:=zH (bX d m);rw[<-HF.out,hQ]at h1;exact Holds.front hF h1.1 h1.2
       have hnx:=Gm o d m Q hQs hQa ho HO;have HNX:Hid ((o++⟨Q⟩).size=136*(m+1)/\∀j,j<136*(m+1)->(o++(⟨Q⟩:ByteArray)).data[j]! = cA d j):=hnx;obtain⟨PB,hPB⟩:∃x,eU Fm=x:=⟨_,rfl⟩
       have hps:PB.size=200:=by rw[<-hPB,eU,aP]
       have HN:Hid (PB=front (bX d (m+1)) 200):=by
        show PB=front (perm (bX d m)) 200;rw[<-hPB,HF.out,yO _ (cF d hab m)]
       have HPB:Hid (PB=eU Fm):=hPB.symm;have kc1:=conv_str prog 28 9 5 slice22 int5 str9 wr sg 0 136 sc Q hHQ hQs;have kc2:=conv_str prog 28 9 5 slice22 int5 str9 wr sg 0 200 sc Fm hF hFs;have hsc0:(sc=0)=False:=eq_false (by omega);have hsc1:(136:Int)<=(sc:Int):=by omega
       clear hQ hQa hHQ hnx hPB HO ho;go_wp2_with fail
       refine(kC ⟨Fm⟩ _ hFs).mono ?_;rintro r w5 ⟨rfl,hb5⟩;have e5:(RX (eU (RX Fm).data))=RX PB:=congrArg RX HPB.out.symm;rw[e5];clear e5;obtain⟨sc6,w6,hcv6,hle6,hH6,hb6⟩:=Di w5 PB hps;have hb8:Below w.heap.size w w6:=(hb.trans (hb5.mono hb.size)).trans (hb6.mono (by have:=hb5.size;have:=hb.size;omega));go_wp2;go_roundg (gk-136)
       case measure=>have:=Ho.out;omega
       case rel=>exact⟨m+1,w5.heap.size,sc6,o++(RX Q),PB,by have:=Ho.out;omega,by have:=Ho.out;omega,rfl,HNX.out.1,rfl,hle6,hH6,hps,hb8,HN,HNX.out.2⟩
      ·have hge:(n:Int)<=(o.size:Int):=by omega
       have hex:=vQ o d n m ho (by omega) HO;have HEX:Hid (o.extract 0 n=⟨dY d n⟩):=hex;clear hex ho HO;go_wp2;go_ret;rw[<-HDD.out,<-HEX.out];exact⟨rfl,hb⟩
end SP
namespace SP
open Go.RowKit Go.Sort Go.Deep
end SP
namespace SP
open Go.RowKit Go.Sort Go.Deep
theorem yH(s:ByteArray)(w:World)(hs:s.size<=1048576):
 Calls prog 104 #[.string s] w fun r w'=>r=.returned (.string ⟨uP s.data.toList⟩)/\Below w.heap.size w w':=by
 go_enter Tryz.func104,Tryz.ntmps104;go_wp2_with fail
 refine(lT s 6 32 _ hs (by decide)).mono ?_;rintro r w1 ⟨rfl,hb⟩;rw[<-zF];go_wp2;go_ret;exact⟨rfl,hb⟩
theorem tI(s:ByteArray)(n:Nat)(w:World)(hs:s.size<=1048576)(hn:n<=16384):
 Calls prog 68 #[.string s,.int .i64 n] w fun r w'=>r=.returned (.string ⟨jR s.data.toList n⟩)/\Below w.heap.size w w':=by
 go_enter Tryz.func68,Tryz.ntmps68;go_wp2_with fail
 refine(lT s 31 n _ hs hn).mono ?_;rintro r w1 ⟨rfl,hb⟩;go_wp2;go_ret;exact⟨rfl,hb⟩
end SP
namespace SP
open Go.RowKit Go.Sort Go.Deep
theorem AL(label:ByteArray)(pa:Option Addr)(pcap:Nat)(ps:List ByteArray)(w:World)(hlab:label.size<=1048576)(hpl:ps.length<=1048576)
 (hP:ps.length=0\/∃pb po,pa=some ⟨pb,po,none⟩/\∀j,j<ps.length->w.cell? ⟨pb,po+j,none⟩=some (.string ps[j]!)) (hsz:∀j,j<ps.length->(ps[j]!).size<=1048576)
 (htot:(bQ label.data.toList (ps.map fun s=>s.data.toList)).length<=1048576) :
 Calls prog 59 #[.string label,.slice pa ps.length pcap] w fun e w'=>e=.returned (.string ⟨iF label.data.toList (ps.map fun s=>s.data.toList)⟩)/\Below w.heap.size w w':=by
 obtain⟨n,hn⟩:∃n,ps.length=n:=⟨_,rfl⟩
 rw[hn];have Hn:Hid (ps.length=n):=hn;have hn20:n<=1048576:=by omega
 clear hn;go_enter Tryz.func59,Tryz.ntmps59;go_wp2_with fail
 refine(uJ9 label _ hlab).mono ?_;rintro e w1 ⟨o1,rfl,ho1,hb1⟩;go_wp2;go_loopg [5,6] n (fun g s5 s6 wr=>∃(k:Nat) (o:ByteArray),k+g=n/\s6=.int .i64 k/\s5=.string o/\Below w.heap.size w wr/\Hid (o.data.toList=bQ label.data.toList ((ps.map fun s=>s.data.toList).take k)))
 case atStart =>
  refine⟨0,o1,by omega,rfl,rfl,hb1,?_⟩;rw[UC];unfold bQ;rw[WL,SB];exact ho1
 case round =>
  clear ho1 hb1;obtain⟨k,o,hk,rfl,rfl,hb,HE⟩:=hrel;by_cases hlt:k<n
  ·obtain⟨pb,po,rfl,hPj⟩:∃pb po,pa=some ⟨pb,po,none⟩/\∀j,j<ps.length->w.cell? ⟨pb,po+j,none⟩=some (.string ps[j]!):=by
    rcases hP with h|h
    ·have:=Hn.out;omega
    ·exact h
   have hvc:=hPj k (by have:=Hn.out;omega);have hszk:=hsz k (by have:=Hn.out;omega);obtain⟨s,hs⟩:∃s,ps[k]! = s:=⟨_,rfl⟩
   rw[hs]at hvc hszk;have HS:Hid (s=ps[k]!):=hs.symm;have hvc':wr.cell? ⟨pb,po+k,none⟩=some (.string s):=by rw[hb.cell (p:=⟨pb,po+k,none⟩) (Rx _ _ hvc)];exact hvc
   have l1:(k:Int)<(n:Int):=by omega
   clear hs hvc hPj;go_wp2_with fail
   refine(uJ9 s _ hszk).mono ?_;rintro e w2 ⟨o2,rfl,ho2,hb2⟩;have HO2:Hid (o2.data.toList=d6 s.data.toList):=ho2;have hos:o.size<=1048576:=by
    have h1:o.data.toList.length=o.size:=P8;rw[HE.out]at h1;have:=wO label.data.toList (ps.map fun s=>s.data.toList) k;omega
   have ho2s:o2.size<=1048580:=by
    have h1:o2.data.toList.length=o2.size:=P8;have h2:s.data.toList.length=s.size:=P8;rw[ho2,iJ]at h1;omega
   clear ho2;go_wp2;go_roundg (gk-1)
   case measure=>omega
   case rel =>
    refine⟨k+1,o++o2,by omega,by go_num,rfl,hb.trans (hb2.mono hb.size),?_⟩;have hkl:k<(ps.map fun s=>s.data.toList).length:=by rw[Qb];have:=Hn.out;omega
    have hkl2:k<ps.length:=by have:=Hn.out;omega
    rw[jV _ k hkl,nF,Ue,TI,HE.out,HO2.out,getElem!_pos (ps.map fun s=>s.data.toList) k hkl,Sj,HS.out,getElem!_pos ps k hkl2];rfl
  ·have l1:(n:Int)<=(k:Int):=by omega
   have HE2:Hid (o.data.toList=bQ label.data.toList (ps.map fun s=>s.data.toList)):=by
    have e1:(ps.map fun s=>s.data.toList).take k=ps.map fun s=>s.data.toList:=Uv (by rw[Qb];have:=Hn.out;omega)
    rw[e1]at HE;exact HE
   have hos:o.size<=1048576:=by
    have h1:o.data.toList.length=o.size:=P8;rw[HE2.out]at h1;omega
   clear HE;go_wp2_with fail
   refine(yH o _ hos).mono ?_;rintro e w3 ⟨rfl,hb3⟩;rw[HE2.out];go_wp2;go_ret;exact⟨rfl,hb.trans (hb3.mono hb.size)⟩
end SP
end Go.Proofs.YtfcnimopdjjhcaaGreat
