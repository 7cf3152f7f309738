import Derived.Deep.AppendSrc
import Derived.Lib.ConvBytes
import Derived.Deep.LoopGhost
import Derived.OwnWalk
import Derived.Test.YtbceebahamkmdaaGreatBs7
set_option linter.unusedVariables false
set_option linter.unusedSimpArgs false
set_option maxRecDepth 1000000
set_option maxHeartbeats 4000000
namespace Go.Proofs.YtbceebahamkmdaaGreat
open _root_.Array renaming all_eq_true'->RQ,ext->UN,getD_eq_getD_getElem?->P7,getElem?_eq_getElem->Qp,getElem?_eq_some_iff->Ql,getElem_append_left->TJ,getElem_append_right->U0,getElem_extract->Tl,length_toList->P5,replicate->P3,replicate_succ->Vs,replicate_zero->Vr,size_append->Qg,size_extract->Rb,size_replicate->P8,toArray_toList->SO
open _root_.Bool renaming and_eq_true->Qa
open _root_.Fin renaming ext->TW,ofNat->Su,val->VQ
open _root_.Go.Act renaming put->QQ
open _root_.Go.Fence renaming wide->VI
open _root_.Go.Instr renaming box->SQ,indexAt->Rc,makeSlice->Rf,sliceAt->Rk
open _root_.Go.KeepsOthers renaming setCell->U6
open _root_.Go.Lib renaming bytesCells->SR,bytesWorld->TU,bytesWorld_size->Uy
open _root_.Go.Next renaming value->Te
open _root_.Go.Oper renaming semAt_some->U5
open _root_.Go.Question renaming cut->VO
open _root_.Go.RowKit.Below renaming heap_alloc->VY,refl->Qd
open _root_.Go.Sem renaming run_bind->Qm
open _root_.Go.Value renaming agg->QA,ownBlock->Sf,slice->SC
open _root_.Go.World renaming cell?->Rs,cell?_alloc_new->Qq,cell?_of_block->QD,freeze->Ub,frozen?->S6,rangeAt_setCells_apart->RX,rangeAt_setCells_same->UT,size_alloc->P4,there_setCells->Tq
open _root_.Int renaming natCast_mul->RJ,toNat_natCast->Tn
open _root_.List renaming append_toArray->VE,cons_append->UR,drop->Wg,getElem?_append_left->QU,getElem?_append_right->Si,getElem?_eq_none->Sv,getElem?_eq_some_iff->Qf,getElem_mem->QG,length_append->P9,length_cons->QB,length_map->Qi,length_nil->S8,length_range->SL,mem_cons->QT,mem_map->QN,mem_toArray->SY,nil_append->U2,not_mem_nil->Qk,push_toArray->VU,range->QJ,setIfInBounds_toArray->Qs,set_cons_succ->QM,set_cons_zero->QP,size_toArray->Qr,take->Wb
open _root_.Nat renaming add_mul->SD,add_zero->RI,div_eq_of_lt->TA,div_one->U8,le_of_ble_eq_true->Ss,le_refl->PX,le_trans->Qj,lt_of_lt_of_le->PY,lt_of_succ_le->Ts,mod_eq_of_lt->Qe,mod_le->Xh,mod_lt->Rz,mul_add->Sq,mul_add_div->Wu,mul_assoc->RN,mul_comm->Qy,mul_le_mul->RA,mul_one->Se,ne_of_lt->QX,pow_succ->Rr,pow_zero->Sa,reduceAdd->Tb,reduceSub->WL,sub_self->Tv,two_mul->WZ,zero_add->P0,zero_le->Rh
open _root_.Option renaming isSome_iff_exists->Qz,map_eq_some_iff->PZ,map_some->TY,some->Qn
open _root_.Or renaming inl->Qh,inr->Qc
open _root_.Prod renaming mk->Ro
open _root_.UInt8 renaming toNat_inj->UL
open Go.Proofs.Tryz (prog)
section
open Go.RowKit Go.Sort Go.Deep
variable {P:Nat}[NeZero P]{N:Nat}
section
variable (w:World) (k6 k8 k9 k10 x kk c z B0:Nat) (X A B F G:Bs)
def RP8:Nat->Value->World->Prop
 | 0,v,_=>v=pvl X
 | 1,v,_=>v=nv x
 | 2,v,_=>v=pvl X
 | 3,v,_=>v=prv A B
 | 4,v,_=>v=nv kk
 | 5,v,_=>v=pvl X
 | 6,v,_=>v=prv F G
 | 7,v,_=>v=nv c
 | 8,v,W=>Nw B0 [.int .u64 0,.int .u64 0,.int .u64 0,.int .u64 0] v W
 | _,_,_=>True
def GP8:RG.Gw:=⟨RP8 x kk c B0 X A B F G,fun W=>Kp w W [(k9,wn kk),(k8,aC X),(k6,wn x)]/\B0<=W.heap.size,fun i v W W' hb h=>by
 match i,h with
 | 0,h=>exact h
 | 1,h=>exact h
 | 2,h=>exact h
 | 3,h=>exact h
 | 4,h=>exact h
 | 5,h=>exact h
 | 6,h=>exact h
 | 7,h=>exact h
 | 8,h=>exact Nw.grow h hb
 | _+9,_=>trivial,fun W W' hb h=>⟨h.1.grow hb,Qj h.2 hb.size⟩⟩
def Twn(v:Value)(W:World):Prop:=∃k y0 y1,v=.slice (some ⟨k,0,none⟩) 2 2/\k<W.heap.size/\W.cell? ⟨k,0,none⟩=some y0/\W.cell? ⟨k,1,none⟩=some y1/\El 32 W y0 (bx c)/\El 32 W y1 (bx z)
def Anp(v:Value)(W:World):Prop:=W.ownsRow B0 5 1 v 64 (((bx c).toList++(bx z).toList).map encB)
def RP9:Nat->Value->World->Prop
 | 0,v,_=>v=nv c
 | 1,v,W=>El 32 W v (bx c)
 | 2,v,_=>v=nv c
 | 3,v,_=>v=nv kk
 | 4,v,_=>v=nv x
 | 5,v,_=>v=nv z
 | 6,v,W=>El 32 W v (bx z)
 | 7,v,W=>Twn c z v W
 | 8,v,W=>Anp c z B0 v W
 | 9,v,W=>Anp c z B0 v W
 | 10,v,_=>v=.int .i64 0
 | _,_,_=>True
theorem Anp.grow{v:Value}{W W':World}(h:Anp c z B0 v W)(hb:Below W.heap.size W W'):Anp c z B0 v W':=
 h.kept (row:=none) ⟨hb.os,hb.tape,hb.output,hb.size,fun k hk _=>hb.block k hk⟩ (by cases hv:v.ownBlock<;>simp)
theorem Twn.grow{v:Value}{W W':World}(h:Twn c z v W)(hb:Below W.heap.size W W'):Twn c z v W':=by
 obtain⟨k,y,y',h1,h2,h3,h4,h5,h6⟩:=h;exact⟨k,y,y',h1,PY h2 hb.size,by rw[hb.cell (p:=⟨k,0,none⟩) h2];exact h3,by rw[hb.cell (p:=⟨k,1,none⟩) h2];exact h4,h5.below hb (PX _),h6.below hb (PX _)⟩
def GP9:RG.Gw:=⟨RP9 x kk c z B0,fun W=>Kp w W [(k10,wn c),(k9,wn kk),(k8,aC X),(k6,wn x)]/\B0<=W.heap.size,fun i v W W' hb h=>by
 match i,h with
 | 0,h=>exact h
 | 1,h=>exact El.below h hb (PX _)
 | 2,h=>exact h
 | 3,h=>exact h
 | 4,h=>exact h
 | 5,h=>exact h
 | 6,h=>exact El.below h hb (PX _)
 | 7,h=>exact Twn.grow c z h hb
 | 8,h=>exact Anp.grow c z B0 h hb
 | 9,h=>exact Anp.grow c z B0 h hb
 | 10,h=>exact h
 | _+11,_=>trivial,fun W W' hb h=>⟨h.1.grow hb,Qj h.2 hb.size⟩⟩
end
theorem Mh(a b:Bs):g9 (fun j=>if j=0 then a else b) 2=a.toList++b.toList:=by
 rw[fZ,fZ];rfl
theorem el2{W:World}{y0 y1:Value}{a b:Bs}{k':Nat}(ha:a.size=32)(hb:b.size=32)(h2:W.cell? ⟨k',0,none⟩=some y0)(h3:W.cell? ⟨k',1,none⟩=some y1)(h4:El 32 W y0 a)(h5:El 32 W y1 b)(j:Nat)(hj:j<2):∃x,W.cell? ⟨k',j,none⟩=some x/\El ((fun j=>if j=0 then a else b) j).size W x ((fun j=>if j=0 then a else b) j):=by
 have hj2:j=0\/j=1:=by omega
 rcases hj2 with rfl|rfl
 ·refine⟨_,h2,?_⟩;show El a.size W y0 a;rw[ha];exact h4
 ·refine⟨_,h3,?_⟩;show El b.size W y1 b;rw[hb];exact h5
def Bw:ByteArray:=⟨#[110,111,110,99,101,32,115,97,109,101]⟩
theorem I0(C:Fld P)(O:Ord N)(p0 p1:Option Addr)(n0 c0 n1 c1:Nat)(sk:Bs)(w:World)(hA:Arg w (.slice p0 n0 c0) sk)(h0:SP.PartOk w (.slice p0 n0 c0) sk.toList)(X:EC.Pt P)(hX:EC.On X)(hA1:Arg33 w (.slice p1 n1 c1) (wr X))(h1:SP.PartOk w (.slice p1 n1 c1) (wr X).toList)(hre:real P (wr X)=true)
 (x:Nat) (hx:rq N sk=some x) (hx0:x≠0) (kk c z:Nat) (hkk:chL N Bw.data.toList [sk.toList,(wr X).toList]=kk)
 (hc:asm N (wr X).toList (wr (EC.mul x (gG P))).toList (wr (EC.mul x X)).toList (wr (EC.mul kk (gG P))).toList (wr (EC.mul kk X)).toList=c) (hz:sPl N kk (sTi N c x)=z) :
 Calls prog 12 #[.slice p0 n0 c0,.slice p1 n1 c1] w (Ret fun e w'=>Below w.heap.size w w'/\∃v,e=.tuple #[v,.int .i64 0]/\Anp c z w.heap.size v w'):=by
 have hxN:x<N:=by
  unfold rq at hx;split at hx
  ·rename_i h
   rw[<-Qn.inj hx];exact h.2
  ·cases hx
 have hkN:kk<N:=by rw[<-hkk];exact wF O _
 have hcN:c<N:=by rw[<-hc];exact tN O _ _ _ _ _
 have hR:=jG O (.slice p0 n0 c0) sk w hA;rw[hx]at hR;have e1:(!decide (x=0))=true:=by simp[hx0]
 rw[show(some x).getD 0=x from rfl,show((some x).isSome && !decide (x=0))=true by rw[e1];rfl]at hR;have HR:=Hid.mk' hR;have hrB:rdB P (wr X)=wr X:=by
  unfold rdB;unfold real at hre;rw[if_pos ((Qa _ _).mp hre).1]
 have HS:Hid (∀W,Below w.heap.size w W->Calls prog 11 #[.slice p1 n1 c1] W (Ret fun e w'=>Below W.heap.size W w'/\e=.tuple #[pvl (wr X),.bool true])):=fun W hb=>by
  have:=lP C (.slice p1 n1 c1) (wr X) W (hA1.below hb);rw[hrB,hre]at this;exact this
 have HC:Hid (Ord N/\x<N/\kk<N/\c<N/\sPl N kk (sTi N c x)=z):=⟨O,hxN,hkN,hcN,hz⟩
 have HP:Hid (SP.PartOk w (.slice p0 n0 c0) sk.toList/\SP.PartOk w (.slice p1 n1 c1) (wr X).toList):=⟨h0,h1⟩
 have HK:=Hid.mk' hkk;have HP1:=Hid.mk' (yY C O hxN hX);have HP2:=Hid.mk' (yY C O hkN hX);have HQ:=Hid.mk' (CB O (wr X) (wr (EC.mul x (gG P))) (wr (EC.mul x X)) (wr (EC.mul kk (gG P))) (wr (EC.mul kk X)) (aN _) (aN _) (aN _) (aN _) (aN _));rw[hc]at HQ;have HF:Hid ((wr X).size=33):=aN _;clear hc hkk hre hrB h1 hA1;generalize wr X=Y at HS HP HK HP1 HP2 HQ HF;generalize wr (EC.mul x (gG P))=A at HP1 HQ;generalize wr (EC.mul x X)=B at HP1 HQ;generalize wr (EC.mul kk (gG P))=F at HP2 HQ;generalize wr (EC.mul kk X)=G at HP2 HQ;clear C O hA h0 hx hx0 hz hxN hkN hcN hR e1 hX;obtain⟨vx,hvx⟩:∃v,Hid (nv x=v):=⟨_,rfl⟩
 rw[hvx.out]at HR;obtain⟨vY,hvY⟩:∃v,Hid (pvl Y=v):=⟨_,rfl⟩
 rw[hvY.out]at HS;obtain⟨d',hd3,hd4⟩:=PZ.1 u40;have HD:Hid (prog.underlying 66=some d'/\d'.isRow=true):=⟨hd3,hd4⟩
 clear hd3 hd4;go_enter Tryz.func12,Tryz.ntmps12;go_wp2_with fail
 refine HR.out.mono ?_;rintro e w1 ⟨vv,rfl,hb1,rfl⟩;obtain⟨w2,hw2⟩:∃w2,Hid (w1.alloc (.cells #[.int .u64 0,.int .u64 0,.int .u64 0,.int .u64 0] 66)=w2):=⟨_,rfl⟩
 obtain⟨w3,hw3⟩:∃w3,Hid (w2.setCells w1.heap.size 0 (wn x)=w3):=⟨_,rfl⟩
 obtain⟨k6,hk6⟩:∃k6,Hid (w1.heap.size=k6):=⟨_,rfl⟩
 rw[hk6.out]at hw3;have F2:Hid (Row w2 k6 [.int .u64 0,.int .u64 0,.int .u64 0,.int .u64 0]/\Below w.heap.size w w2/\w.heap.size<=k6):=by
  rw[<-hw2.out,<-hk6.out];exact⟨aJ w1 _ _,hb1.alloc hb1.size _,hb1.size⟩
 have K3:Hid (Kp w w3 [(k6,wn x)]):=by
  rw[<-hw3.out];exact⟨RG.below_setCells F2.out.2.2 _ _ _ F2.out.2.1,fun y hy=>by rw[show y=(k6,wn x) by simpa using hy];exact F2.out.1.put rfl⟩
 clear hb1 HR;go_wp2_with (first|(refine aP (v:=.pointer (some ⟨k6,0,none⟩)) (w':=w2) rfl (.alloc 66) rfl ?_ ?_;(rw[<-hw2.out,<-hk6.out];kernel_rfl))|(refine wpList_store_mid rfl 66 _ _ rfl k6 0 (wn x).toArray ?_ ?_ ?_ ?_ ?_ ?_;rfl;exact hvx.out.symm;exact F2.out.1.2.2;exact i40;exact dO x;rw[show(wn x).toArray.toList=wn x from rfl,hw3.out])|fail)
 clear hw2 hw3 hk6 F2;refine(HS.out w3 K3.out.bl).mono ?_;rintro e v1 ⟨vv,rfl,hb1,rfl⟩;have K3b:Hid (Kp w v1 [(k6,wn x)]):=K3.out.grow hb1;clear hb1 HS;obtain⟨v2,hv2⟩:∃v2,Hid (v1.alloc (.cells z33.toArray 38)=v2):=⟨_,rfl⟩
 obtain⟨k8,hk8⟩:∃k8,Hid (v1.heap.size=k8):=⟨_,rfl⟩
 obtain⟨v3,hv3⟩:∃v3,Hid (v2.setCells k8 0 (aC Y)=v3):=⟨_,rfl⟩
 have hlen:(aC Y).length=33:=aG HF.out;have F3:Hid (Row v2 k8 z33/\Kp w v2 [(k6,wn x)]):=by
  rw[<-hv2.out,<-hk8.out];exact⟨aJ v1 _ _,K3b.out.grow (aH _ _)⟩
 have K3c:Hid (Kp w v3 [(k8,aC Y),(k6,wn x)]):=by
  rw[<-hv3.out];refine F3.out.2.put F3.out.1 (by rw[hlen];rfl) (by rw[<-hk8.out];exact K3b.out.bl.size) fun y hy=>?_
  rw[show y=(k6,wn x) by simpa using hy,<-hk8.out];exact QX (K3b.out.at 0 rfl).1
 have HI:Hid (v2.there k8 0 (aC Y).toArray.size/\(prog.info? 38).map (·.size)=some (aC Y).toArray.size/\(prog.info? 38).map (·.size)=some (aC Y).length):=by
  have e:(aC Y).toArray.size=33:=by rw[Qr];exact hlen
  rw[e,hlen];exact⟨F3.out.1.2.2,aQ,aQ⟩
 clear hlen F3 K3;go_wp2_with (first|(refine aP (v:=.pointer (some ⟨k8,0,none⟩)) (w':=v2) rfl (.alloc 38) rfl ?_ ?_;(rw[<-hv2.out,<-hk8.out];kernel_rfl))|(refine wpList_store_mid rfl 38 _ _ rfl k8 0 (aC Y).toArray ?_ ?_ ?_ ?_ ?_ ?_;rfl;exact hvY.out.symm;exact HI.out.1;exact HI.out.2.1;exact cV Y;rw[show(aC Y).toArray.toList=aC Y from rfl,hv3.out])|fail)
 clear hv2 hv3 hk8 K3b;obtain⟨w4,hw4⟩:∃w4,Hid (v3.alloc (.cells #[.slice p0 n0 c0,.slice p1 n1 c1] 22)=w4):=⟨_,rfl⟩
 have hb4:Below v3.heap.size v3 w4:=by rw[<-hw4.out];exact aH _ _
 have K4:Hid (Kp w w4 [(k8,aC Y),(k6,wn x)]):=K3c.out.grow hb4;have HPs:Hid (SP.PartsOk w4 (some ⟨v3.heap.size,0,none⟩) [sk.toList,Y.toList]):=by
  refine Qc ⟨v3.heap.size,0,rfl,fun j hj=>?_⟩;have hM:w4.rangeAt v3.heap.size 0 [.slice p0 n0 c0,.slice p1 n1 c1]:=by rw[<-hw4.out];exact(RG.Made.alloc v3 [.slice p0 n0 c0,.slice p1 n1 c1] 22).range
  have hj2:j=0\/j=1:=by simp at hj;omega
  rcases hj2 with rfl|rfl
  ·exact⟨_,hM 0 _ rfl,HP.out.1.below K4.out.bl⟩
  ·exact⟨_,hM 1 _ rfl,HP.out.2.below K4.out.bl⟩
 rw[hw4.out];refine(GM HC.out.1 Bw (some ⟨v3.heap.size,0,none⟩) 2 2 [sk.toList,Y.toList] w4 (by decide) rfl (by decide) HPs.out).mono ?_;rintro e w5 ⟨vv,rfl,hb5,rfl⟩;rw[HK.out];have K5:Hid (Kp w w5 [(k8,aC Y),(k6,wn x)]):=K4.out.grow hb5;clear hb4 hb5 K3c K4 HPs hw4;obtain⟨vk,hvk⟩:∃v,Hid (nv kk=v):=⟨_,rfl⟩
 rw[hvk.out];obtain⟨w6,hw6⟩:∃w6,Hid (w5.alloc (.cells #[.int .u64 0,.int .u64 0,.int .u64 0,.int .u64 0] 66)=w6):=⟨_,rfl⟩
 obtain⟨k9,hk9⟩:∃k9,Hid (w5.heap.size=k9):=⟨_,rfl⟩
 obtain⟨w7,hw7⟩:∃w7,Hid (w6.setCells k9 0 (wn kk)=w7):=⟨_,rfl⟩
 have F6:Hid (Row w6 k9 [.int .u64 0,.int .u64 0,.int .u64 0,.int .u64 0]/\Kp w w6 [(k8,aC Y),(k6,wn x)]):=by
  rw[<-hw6.out,<-hk9.out];exact⟨aJ w5 _ _,K5.out.grow (aH _ _)⟩
 have K7:Hid (Kp w w7 [(k9,wn kk),(k8,aC Y),(k6,wn x)]):=by
  rw[<-hw7.out];refine F6.out.2.put F6.out.1 rfl (by rw[<-hk9.out];exact K5.out.bl.size) fun y hy=>?_
  rw[<-hk9.out];exact QX (K5.out.rw y hy).1
 go_wp2_with (first|(refine aP (v:=.pointer (some ⟨k9,0,none⟩)) (w':=w6) rfl (.alloc 66) rfl ?_ ?_;(rw[<-hw6.out,<-hk9.out];kernel_rfl))|(refine wpList_store_mid rfl 66 _ _ rfl k9 0 (wn kk).toArray ?_ ?_ ?_ ?_ ?_ ?_;rfl;exact hvk.out.symm;exact F6.out.1.2.2;exact i40;exact dO kk;rw[show(wn kk).toArray.toList=wn kk from rfl,hw7.out])|fail)
 clear hw6 hw7 hk9 F6 K5;refine(GP8 w k6 k8 k9 x kk c w7.heap.size Y A B F G).last 9 (by kernel_rfl) (by kernel_rfl) (by kernel_rfl) ⟨
  RG.b8 38 8 rfl uCP fun a W hp=>⟨k8,0,aC Y,hp.o 8 (by kernel_rfl),(hp.b.1.at 1 rfl).2.1,HI.out.2.2,rfl⟩,
  RG.b8 66 6 rfl u40 fun a W hp=>⟨k6,0,wn x,hp.o 6 (by kernel_rfl),(hp.b.1.at 2 rfl).2.1,i40,rfl⟩,
  RG.b8 38 8 rfl uCP fun a W hp=>⟨k8,0,aC Y,hp.o 8 (by kernel_rfl),(hp.b.1.at 1 rfl).2.1,HI.out.2.2,rfl⟩,
  RG.dA fun a W hp=>⟨[(30,nv x),(31,pvl Y)],34,#[nv x,pvl Y],⟨hp.n 1 30 (by kernel_rfl) (by kernel_rfl),hp.n 2 31 (by kernel_rfl) (by kernel_rfl),trivial⟩,by kernel_rfl,by
   refine(HP1.out W).mono ?_;rintro e W' ⟨u,rfl,hb,rfl⟩;exact⟨_,rfl,hb,rfl⟩⟩,
  RG.b8 66 9 rfl u40 fun a W hp=>⟨k9,0,wn kk,hp.o 9 (by kernel_rfl),(hp.b.1.at 0 rfl).2.1,i40,rfl⟩,
  RG.b8 38 8 rfl uCP fun a W hp=>⟨k8,0,aC Y,hp.o 8 (by kernel_rfl),(hp.b.1.at 1 rfl).2.1,HI.out.2.2,rfl⟩,
  RG.dA fun a W hp=>⟨[(33,nv kk),(34,pvl Y)],34,#[nv kk,pvl Y],⟨hp.n 4 33 (by kernel_rfl) (by kernel_rfl),hp.n 5 34 (by kernel_rfl) (by kernel_rfl),trivial⟩,by kernel_rfl,by
   refine(HP2.out W).mono ?_;rintro e W' ⟨u,rfl,hb,rfl⟩;exact⟨_,rfl,hb,rfl⟩⟩,
  RG.dA fun a W hp=>⟨[(29,pvl Y),(32,prv A B),(35,prv F G)],33,#[pvl Y,prv A B,prv F G],⟨hp.n 0 29 (by kernel_rfl) (by kernel_rfl),hp.n 3 32 (by kernel_rfl) (by kernel_rfl),hp.n 6 35 (by kernel_rfl) (by kernel_rfl),trivial⟩,by kernel_rfl,by
   refine(HQ.out W).mono ?_;rintro e W' ⟨u,rfl,hb,rfl⟩;exact⟨_,rfl,hb,rfl⟩⟩,
  RG.bN fun a W hp=>⟨[],.pointer (some ⟨W.heap.size,0,none⟩),W.alloc (.cells #[.int .u64 0,.int .u64 0,.int .u64 0,.int .u64 0] 66),trivial,by kernel_rfl,aH _ _,W.heap.size,rfl,hp.b.2,aJ W _ _⟩,trivial⟩ ⟨K7.out.drew,PX _⟩ ?_
 intro V wa hRa hBa;obtain⟨k10,hk10,hk10b,hk10r⟩:=show Nw w7.heap.size [.int .u64 0,.int .u64 0,.int .u64 0,.int .u64 0] (V 8) wa from hRa 8 (by decide)
 have hV7:V 7=nv c:=hRa 7 (by decide);dsimp only[RG.iC,Tb,Wb,Wg];obtain⟨vc,hvc⟩:∃v,Hid (nv c=v):=⟨_,rfl⟩
 rw[hk10,hV7,hvc.out];generalize V 0=s0;generalize V 1=s1;generalize V 2=s2;generalize V 3=s3;generalize V 4=s4;generalize V 5=s5;generalize V 6=s6;obtain⟨wb,hwb⟩:∃wb,Hid (wa.setCells k10 0 (wn c)=wb):=⟨_,rfl⟩
 have HBa:Hid (Kp w wa [(k9,wn kk),(k8,aC Y),(k6,wn x)]/\w7.heap.size<=wa.heap.size):=hBa;have Kb:Hid (Kp w wb [(k10,wn c),(k9,wn kk),(k8,aC Y),(k6,wn x)]):=by
  rw[<-hwb.out];refine HBa.out.1.put hk10r rfl (Qj K7.out.bl.size hk10b) fun y hy=>?_
  have h8:=(K7.out.rw y hy).1;omega
 have HJ:Hid (wa.there k10 0 [Value.int .u64 0,.int .u64 0,.int .u64 0,.int .u64 0].length):=hk10r.2.2;clear hRa hBa hk10 hk10b hk10r hV7 HBa K7 V;simp only[QQ,Qs,QM,QP];go_wp2_with (first|(refine wpList_store_mid rfl 66 _ _ rfl k10 0 (wn c).toArray ?_ ?_ ?_ ?_ ?_ ?_;rfl;exact hvc.out.symm;exact HJ.out;exact i40;exact dO c;rw[show(wn c).toArray.toList=wn c from rfl,hwb.out])|fail)
 clear hwb HJ;refine(GP9 w k6 k8 k9 k10 x kk c z w.heap.size Y).draws (by kernel_rfl) (by kernel_rfl) ⟨
  RG.b8 66 10 rfl u40 fun a W hp=>⟨k10,0,wn c,hp.o 10 (by kernel_rfl),(hp.b.1.at 0 rfl).2.1,i40,rfl⟩,
  RG.dA fun a W hp=>⟨[(37,nv c)],36,#[nv c],⟨hp.n 0 37 (by kernel_rfl) (by kernel_rfl),trivial⟩,by kernel_rfl,by
   refine(rM HC.out.1 HC.out.2.2.2.1 W).mono ?_;rintro e W' ⟨u,rfl,k',hm,rfl⟩;exact⟨_,rfl,hm.bel,El.of_made hm (aY c)⟩⟩,
  RG.b8 66 10 rfl u40 fun a W hp=>⟨k10,0,wn c,hp.o 10 (by kernel_rfl),(hp.b.1.at 0 rfl).2.1,i40,rfl⟩,
  RG.b8 66 9 rfl u40 fun a W hp=>⟨k9,0,wn kk,hp.o 9 (by kernel_rfl),(hp.b.1.at 1 rfl).2.1,i40,rfl⟩,
  RG.b8 66 6 rfl u40 fun a W hp=>⟨k6,0,wn x,hp.o 6 (by kernel_rfl),(hp.b.1.at 3 rfl).2.1,i40,rfl⟩,
  RG.dA fun a W hp=>⟨[(39,nv c),(40,nv kk),(41,nv x)],37,#[nv c,nv kk,nv x],⟨hp.n 2 39 (by kernel_rfl) (by kernel_rfl),hp.n 3 40 (by kernel_rfl) (by kernel_rfl),hp.n 4 41 (by kernel_rfl) (by kernel_rfl),trivial⟩,by kernel_rfl,by
   refine(G6 HC.out.1 HC.out.2.2.2.1 HC.out.2.2.1 HC.out.2.1 W).mono ?_;rintro e W' ⟨u,rfl,hb,rfl⟩;exact⟨_,rfl,hb,by rw[HC.out.2.2.2.2];rfl⟩⟩,
  RG.dA fun a W hp=>⟨[(42,nv z)],36,#[nv z],⟨hp.n 5 42 (by kernel_rfl) (by kernel_rfl),trivial⟩,by kernel_rfl,by
   refine(rM HC.out.1 (by rw[<-HC.out.2.2.2.2];exact Rz _ HC.out.1.pos) W).mono ?_;rintro e W' ⟨u,rfl,k',hm,rfl⟩;exact⟨_,rfl,hm.bel,El.of_made hm (aY z)⟩⟩,
  RG.bN fun a W hp=>⟨[(38,a.eval (.tmp 38)),(43,a.eval (.tmp 43))],.slice (some ⟨W.heap.size,0,none⟩) 2 2,W.alloc (.cells #[a.eval (.tmp 38),a.eval (.tmp 43)] 22),⟨rfl,rfl,trivial⟩,by
   obtain⟨k',c',he,-⟩:=show El 32 W (a.eval (.tmp 38)) (bx c) from hp.n 1 38 (by kernel_rfl) (by kernel_rfl)
   obtain⟨k2,c2,he2,-⟩:=show El 32 W (a.eval (.tmp 43)) (bx z) from hp.n 6 43 (by kernel_rfl) (by kernel_rfl)
   rw[he,he2];kernel_rfl,aH _ _,by
   have hE:=show El 32 W (a.eval (.tmp 38)) (bx c) from hp.n 1 38 (by kernel_rfl) (by kernel_rfl)
   have hE2:=show El 32 W (a.eval (.tmp 43)) (bx z) from hp.n 6 43 (by kernel_rfl) (by kernel_rfl)
   refine⟨W.heap.size,a.eval (.tmp 38),a.eval (.tmp 43),rfl,by rw[P4];omega,by rw[Qq];rfl,by rw[Qq];rfl,hE.below (aH _ _) (PX _),hE2.below (aH _ _) (PX _)⟩⟩,
  RG.dA fun a W hp=>⟨[(44,a.eval (.tmp 44))],35,#[a.eval (.tmp 44)],⟨rfl,trivial⟩,by kernel_rfl,by
   obtain⟨k',y0,y1,he,h1,h2,h3,h4,h5⟩:=show Twn c z (a.eval (.tmp 44)) W from hp.n 7 44 (by kernel_rfl) (by kernel_rfl)
   rw[he];refine(GL k' 2 2 (fun j=>if j=0 then bx c else bx z) (by decide) (fun j hj=>?_) W h1 (fun j hj=>?_)).mono ?_
   ·show(if j=0 then bx c else bx z).size<=_;rw[apply_ite Array.size,aY,aY,ite_self];decide
   ·exact el2 (aY c) (aY z) h2 h3 h4 h5 j hj
   ·rintro e W' ⟨u,rfl,hb,ho⟩;refine⟨_,rfl,hb,?_⟩;have e1:=Mh (bx c) (bx z);rw[e1]at ho;have e2:((bx c).toList++(bx z).toList).length=64:=by
     rw[P9,show(bx c).toList.length=32 from aY c,show(bx z).toList.length=32 from aY z]
    rw[e2]at ho;exact⟨ho.1,ho.2.imp id fun⟨g,cap,cur,q1,q2,q3⟩=>⟨g,cap,cur,q1,Qj hp.b.2 q2,q3⟩⟩⟩,
  RG.bN fun a W hp=>⟨[(45,a.eval (.tmp 45))],a.eval (.tmp 45),W,⟨rfl,trivial⟩,by kernel_rfl,Qd _ _,hp.n 8 45 (by kernel_rfl) (by kernel_rfl)⟩,
  RG.bN fun a W hp=>⟨[],.int .i64 0,W,trivial,by kernel_rfl,Qd _ _,rfl⟩,trivial⟩ ⟨Kb.out.drew,Kb.out.bl.size⟩ ?_
 intro V wc hRc hBc;have hV10:V 10=.int .i64 0:=hRc 10 (Ts (Ss (by kernel_rfl)));have HA9:Hid (Anp c z w.heap.size (V 9) wc):=hRc 9 (Ts (Ss (by kernel_rfl)));have HBc:Hid (Below w.heap.size w wc):=hBc.1.bl;dsimp only[RG.iC,Tb];simp only[QQ,Qs,QM,QP];rw[hV10];generalize V 9=s9 at HA9⊢;clear hRc hBc Kb;go_wp2
 go_ret2
 exact⟨_,rfl,HBc.out,s9,rfl,HA9.out⟩
end
section
open Go.RowKit Go.Sort Go.Deep
variable {P:Nat}[NeZero P]{N:Nat}
theorem CQ(O:Ord N)(a b c d f:ByteArray)(ha:a.size<=16384)(hb:b.size<=16384)(hc:c.size<=16384)(hd:d.size<=16384)(hf:f.size<=16384):Gives 26 #[.string a,.string b,.string c,.string d,.string f] (nv (asm N a.data.toList b.data.toList c.data.toList d.data.toList f.data.toList)):=by
 intro w;obtain⟨L0,h0⟩:∃L,Hid (SP.newL [115,97,109,101]=L):=⟨_,rfl⟩
 obtain⟨L1,h1⟩:∃L,Hid (SP.eG L0 [98,97,115,101] a.data.toList=L):=⟨_,rfl⟩
 obtain⟨L2,h2⟩:∃L,Hid (SP.eG L1 [97] b.data.toList=L):=⟨_,rfl⟩
 obtain⟨L3,h3⟩:∃L,Hid (SP.eG L2 [98] c.data.toList=L):=⟨_,rfl⟩
 obtain⟨L4,h4⟩:∃L,Hid (SP.eG L3 [102,105,114,115,116] d.data.toList=L):=⟨_,rfl⟩
 obtain⟨L5,h5⟩:∃L,Hid (SP.eG L4 [115,101,99,111,110,100] f.data.toList=L):=⟨_,rfl⟩
 have s0:L0.size=32:=by rw[<-h0.out];exact SP.pG _
 have s1:L1.size=32:=by rw[<-h1.out];exact SP.cX _ _ _
 have s2:L2.size=32:=by rw[<-h2.out];exact SP.cX _ _ _
 have s3:L3.size=32:=by rw[<-h3.out];exact SP.cX _ _ _
 have s4:L4.size=32:=by rw[<-h4.out];exact SP.cX _ _ _
 have s5:L5.size=32:=by rw[<-h5.out];exact SP.cX _ _ _
 have hr:asm N a.data.toList b.data.toList c.data.toList d.data.toList f.data.toList=cha N L5:=by unfold asm LL;rw[h0.out,h1.out,h2.out,h3.out,h4.out,h5.out]
 rw[hr];clear hr;obtain⟨w1,hw1⟩:∃w1,Hid (w.alloc (.cells #[.int .u64 0,.int .u64 0,.int .u64 0,.int .u64 0] 49)=w1):=⟨_,rfl⟩
 have K1:Hid (Row w1 w.heap.size [.int .u64 0,.int .u64 0,.int .u64 0,.int .u64 0]/\Below w.heap.size w w1/\w.heap.size<w1.heap.size):=by rw[<-hw1.out];exact⟨aJ w _ _,aH w _,by rw[P4];omega⟩
 go_enter Tryz.func26,Tryz.ntmps26;go_wp2_with fail
 rw[hw1.out];clear hw1;refine(SP.A4 ⟨#[115,97,109,101]⟩ w1 (by decide)).mono ?_;rintro e w2 ⟨y,rfl,hy,hb2,hL2⟩;rw[show SP.newL (⟨#[115,97,109,101]⟩:ByteArray).data.toList=L0 from h0.out]at hL2;have hyw:w.heap.size<y:=by have:=K1.out.2.2;omega
 have K2:Hid (Row w2 w.heap.size [.int .u64 0,.int .u64 0,.int .u64 0,.int .u64 0]/\Below w.heap.size w w2/\SP.RLog w2 y L0):=⟨K1.out.1.below hb2,K1.out.2.1.trans (hb2.mono K1.out.2.1.size),hL2⟩
 clear hb2 hL2 K1 hy;go_wp2_with fail
 refine(SP.gC y L0 ⟨#[98,97,115,101]⟩ a w2 (by decide) ha s0 K2.out.2.2).mono ?_;rintro e w3 ⟨rfl,hO,hL⟩;rw[show SP.eG L0 (⟨#[98,97,115,101]⟩:ByteArray).data.toList a.data.toList=L1 from h1.out]at hL;have K3:Hid (Row w3 w.heap.size [.int .u64 0,.int .u64 0,.int .u64 0,.int .u64 0]/\Below w.heap.size w w3/\SP.RLog w3 y L1):=⟨K2.out.1.only hO (by omega),K2.out.2.1.trans (hO.below K2.out.2.1.size (by omega)),hL⟩
 clear hO hL K2;go_wp2_with fail
 refine(SP.gC y L1 ⟨#[97]⟩ b w3 (by decide) hb s1 K3.out.2.2).mono ?_;rintro e w4 ⟨rfl,hO,hL⟩;rw[show SP.eG L1 (⟨#[97]⟩:ByteArray).data.toList b.data.toList=L2 from h2.out]at hL;have K4:Hid (Row w4 w.heap.size [.int .u64 0,.int .u64 0,.int .u64 0,.int .u64 0]/\Below w.heap.size w w4/\SP.RLog w4 y L2):=⟨K3.out.1.only hO (by omega),K3.out.2.1.trans (hO.below K3.out.2.1.size (by omega)),hL⟩
 clear hO hL K3;go_wp2_with fail
 refine(SP.gC y L2 ⟨#[98]⟩ c w4 (by decide) hc s2 K4.out.2.2).mono ?_;rintro e w5 ⟨rfl,hO,hL⟩;rw[show SP.eG L2 (⟨#[98]⟩:ByteArray).data.toList c.data.toList=L3 from h3.out]at hL;have K5:Hid (Row w5 w.heap.size [.int .u64 0,.int .u64 0,.int .u64 0,.int .u64 0]/\Below w.heap.size w w5/\SP.RLog w5 y L3):=⟨K4.out.1.only hO (by omega),K4.out.2.1.trans (hO.below K4.out.2.1.size (by omega)),hL⟩
 clear hO hL K4;go_wp2_with fail
 refine(SP.gC y L3 ⟨#[102,105,114,115,116]⟩ d w5 (by decide) hd s3 K5.out.2.2).mono ?_;rintro e w6 ⟨rfl,hO,hL⟩;rw[show SP.eG L3 (⟨#[102,105,114,115,116]⟩:ByteArray).data.toList d.data.toList=L4 from h4.out]at hL;have K6:Hid (Row w6 w.heap.size [.int .u64 0,.int .u64 0,.int .u64 0,.int .u64 0]/\Below w.heap.size w w6/\SP.RLog w6 y L4):=⟨K5.out.1.only hO (by omega),K5.out.2.1.trans (hO.below K5.out.2.1.size (by omega)),hL⟩
 clear hO hL K5;go_wp2_with fail
 refine(SP.gC y L4 ⟨#[115,101,99,111,110,100]⟩ f w6 (by decide) hf s4 K6.out.2.2).mono ?_;rintro e w7 ⟨rfl,hO,hL⟩;rw[show SP.eG L4 (⟨#[115,101,99,111,110,100]⟩:ByteArray).data.toList f.data.toList=L5 from h5.out]at hL;have K7:Hid (Row w7 w.heap.size [.int .u64 0,.int .u64 0,.int .u64 0,.int .u64 0]/\Below w.heap.size w w7/\SP.RLog w7 y L5):=⟨K6.out.1.only hO (by omega),K6.out.2.1.trans (hO.below K6.out.2.1.size (by omega)),hL⟩
 clear hO hL K6;go_wp2_with fail
 refine(wK O y L5 w7 s5 K7.out.2.2).mono ?_;rintro e w8 ⟨v,rfl,hO,rfl⟩;have K8:Hid (Row w8 w.heap.size [.int .u64 0,.int .u64 0,.int .u64 0,.int .u64 0]/\Below w.heap.size w w8):=⟨K7.out.1.only hO (by omega),K7.out.2.1.trans (hO.below K7.out.2.1.size (by omega))⟩
 clear hO K7;obtain⟨m,hm⟩:∃m,Hid (cha N L5=m):=⟨_,rfl⟩
 rw[hm.out];obtain⟨w9,hw9⟩:∃w9,Hid (w8.setCells w.heap.size 0 (wn m)=w9):=⟨_,rfl⟩
 have K9:Hid (Row w9 w.heap.size (wn m)/\Below w.heap.size w w9):=by rw[<-hw9.out];exact⟨K8.out.1.put rfl,RG.below_setCells (PX _) _ _ _ K8.out.2⟩
 obtain⟨vm,hvm⟩:∃vm,Hid (nv m=vm):=⟨_,rfl⟩
 rw[hvm.out];go_wp2_with (refine wpList_store_mid rfl 49 _ _ rfl w.heap.size 0 (wn m).toArray ?_ ?_ ?_ ?_ ?_ ?_;rfl;exact hvm.out.symm;exact K8.out.1.2.2;exact i33;exact dO m;rw[show(wn m).toArray.toList=wn m from rfl,hw9.out])
 refine bodyPost_ret (bE 10 49 rfl K9.out.1 rfl u33 i33) rfl ?_;exact⟨_,rfl,K9.out.2,by rw[hm.out];rfl⟩
theorem FU(O:Ord N)(p0 p1:Option Addr)(n0 c0 n1 c1:Nat)(sk:Bs)(w:World)(hA:Arg w (.slice p0 n0 c0) sk)(hx:((rq N sk).isSome && !decide ((rq N sk).getD 0=0))=false):
 Calls prog 12 #[.slice p0 n0 c0,.slice p1 n1 c1] w (Ret fun e w'=>Below w.heap.size w w'/\e=.tuple #[.slice none 0 0,.int .i64 3]):=by
 have hR:=jG O (.slice p0 n0 c0) sk w hA;rw[hx]at hR;have HR:=Hid.mk' hR;obtain⟨x,hxe⟩:∃x,Hid ((rq N sk).getD 0=x):=⟨_,rfl⟩
 rw[hxe.out]at HR;obtain⟨vx,hvx⟩:∃v,Hid (nv x=v):=⟨_,rfl⟩
 rw[hvx.out]at HR;clear O hA hR hx hxe;go_enter Tryz.func12,Tryz.ntmps12;go_wp2_with fail
 refine HR.out.mono ?_;rintro e w1 ⟨vv,rfl,hb1,rfl⟩;obtain⟨w2,hw2⟩:∃w2,Hid (w1.alloc (.cells #[.int .u64 0,.int .u64 0,.int .u64 0,.int .u64 0] 66)=w2):=⟨_,rfl⟩
 obtain⟨k6,hk6⟩:∃k6,Hid (w1.heap.size=k6):=⟨_,rfl⟩
 obtain⟨w3,hw3⟩:∃w3,Hid (w2.setCells k6 0 (wn x)=w3):=⟨_,rfl⟩
 have F2:Hid (Row w2 k6 [.int .u64 0,.int .u64 0,.int .u64 0,.int .u64 0]/\Below w.heap.size w w2/\w.heap.size<=k6):=by
  rw[<-hw2.out,<-hk6.out];exact⟨aJ w1 _ _,hb1.alloc hb1.size _,hb1.size⟩
 have K3:Hid (Below w.heap.size w w3):=by
  rw[<-hw3.out];exact RG.below_setCells F2.out.2.2 _ _ _ F2.out.2.1
 clear hb1 HR;go_wp2_with (first|(refine aP (v:=.pointer (some ⟨k6,0,none⟩)) (w':=w2) rfl (.alloc 66) rfl ?_ ?_;(rw[<-hw2.out,<-hk6.out];kernel_rfl))|(refine wpList_store_mid rfl 66 _ _ rfl k6 0 (wn x).toArray ?_ ?_ ?_ ?_ ?_ ?_;rfl;exact hvx.out.symm;exact F2.out.1.2.2;exact i40;exact dO x;rw[show(wn x).toArray.toList=wn x from rfl,hw3.out])|fail)
 go_ret2
 exact⟨_,rfl,K3.out,rfl⟩
theorem FT(C:Fld P)(O:Ord N)(p0 p1:Option Addr)(n0 c0 n1 c1:Nat)(sk bb:Bs)(w:World)(hA:Arg w (.slice p0 n0 c0) sk)(hA1:Arg33 w (.slice p1 n1 c1) bb)(hx:((rq N sk).isSome && !decide ((rq N sk).getD 0=0))=true)(hre:real P bb=false):
 Calls prog 12 #[.slice p0 n0 c0,.slice p1 n1 c1] w (Ret fun e w'=>Below w.heap.size w w'/\e=.tuple #[.slice none 0 0,.int .i64 4]):=by
 have hR:=jG O (.slice p0 n0 c0) sk w hA;rw[hx]at hR;have HR:=Hid.mk' hR;have HS:Hid (∀W,Below w.heap.size w W->Calls prog 11 #[.slice p1 n1 c1] W (Ret fun e w'=>Below W.heap.size W w'/\e=.tuple #[pvl (rdB P bb),.bool false])):=fun W hb=>by
  have:=lP C (.slice p1 n1 c1) bb W (hA1.below hb);rw[hre]at this;exact this
 have HF:Hid ((rdB P bb).size=33):=nN bb;generalize rdB P bb=Y at HS HF;obtain⟨x,hxe⟩:∃x,Hid ((rq N sk).getD 0=x):=⟨_,rfl⟩
 rw[hxe.out]at HR;obtain⟨vx,hvx⟩:∃v,Hid (nv x=v):=⟨_,rfl⟩
 rw[hvx.out]at HR;obtain⟨vY,hvY⟩:∃v,Hid (pvl Y=v):=⟨_,rfl⟩
 rw[hvY.out]at HS;clear C O hA hA1 hR hx hxe hre;go_enter Tryz.func12,Tryz.ntmps12;go_wp2_with fail
 refine HR.out.mono ?_;rintro e w1 ⟨vv,rfl,hb1,rfl⟩;obtain⟨w2,hw2⟩:∃w2,Hid (w1.alloc (.cells #[.int .u64 0,.int .u64 0,.int .u64 0,.int .u64 0] 66)=w2):=⟨_,rfl⟩
 obtain⟨k6,hk6⟩:∃k6,Hid (w1.heap.size=k6):=⟨_,rfl⟩
 obtain⟨w3,hw3⟩:∃w3,Hid (w2.setCells k6 0 (wn x)=w3):=⟨_,rfl⟩
 have F2:Hid (Row w2 k6 [.int .u64 0,.int .u64 0,.int .u64 0,.int .u64 0]/\Below w.heap.size w w2/\w.heap.size<=k6):=by
  rw[<-hw2.out,<-hk6.out];exact⟨aJ w1 _ _,hb1.alloc hb1.size _,hb1.size⟩
 have K3:Hid (Below w.heap.size w w3):=by
  rw[<-hw3.out];exact RG.below_setCells F2.out.2.2 _ _ _ F2.out.2.1
 clear hb1 HR;go_wp2_with (first|(refine aP (v:=.pointer (some ⟨k6,0,none⟩)) (w':=w2) rfl (.alloc 66) rfl ?_ ?_;(rw[<-hw2.out,<-hk6.out];kernel_rfl))|(refine wpList_store_mid rfl 66 _ _ rfl k6 0 (wn x).toArray ?_ ?_ ?_ ?_ ?_ ?_;rfl;exact hvx.out.symm;exact F2.out.1.2.2;exact i40;exact dO x;rw[show(wn x).toArray.toList=wn x from rfl,hw3.out])|fail)
 clear hw2 hw3 hk6 F2;refine(HS.out w3 K3.out).mono ?_;rintro e v1 ⟨vv,rfl,hb1,rfl⟩;have K3b:Hid (Below w.heap.size w v1):=K3.out.trans (hb1.mono K3.out.size);clear hb1 HS;obtain⟨v2,hv2⟩:∃v2,Hid (v1.alloc (.cells z33.toArray 38)=v2):=⟨_,rfl⟩
 obtain⟨k8,hk8⟩:∃k8,Hid (v1.heap.size=k8):=⟨_,rfl⟩
 obtain⟨v3,hv3⟩:∃v3,Hid (v2.setCells k8 0 (aC Y)=v3):=⟨_,rfl⟩
 have hlen:(aC Y).length=33:=aG HF.out;have F3:Hid (Row v2 k8 z33/\Below w.heap.size w v2/\w.heap.size<=k8):=by
  rw[<-hv2.out,<-hk8.out];exact⟨aJ v1 _ _,K3b.out.alloc K3b.out.size _,K3b.out.size⟩
 have K3c:Hid (Below w.heap.size w v3):=by
  rw[<-hv3.out];exact RG.below_setCells F3.out.2.2 _ _ _ F3.out.2.1
 have HI:Hid (v2.there k8 0 (aC Y).toArray.size/\(prog.info? 38).map (·.size)=some (aC Y).toArray.size):=by
  have e:(aC Y).toArray.size=33:=by rw[Qr];exact hlen
  rw[e];exact⟨F3.out.1.2.2,aQ⟩
 clear hlen F3 K3;go_wp2_with (first|(refine aP (v:=.pointer (some ⟨k8,0,none⟩)) (w':=v2) rfl (.alloc 38) rfl ?_ ?_;(rw[<-hv2.out,<-hk8.out];kernel_rfl))|(refine wpList_store_mid rfl 38 _ _ rfl k8 0 (aC Y).toArray ?_ ?_ ?_ ?_ ?_ ?_;rfl;exact hvY.out.symm;exact HI.out.1;exact HI.out.2;exact cV Y;rw[show(aC Y).toArray.toList=aC Y from rfl,hv3.out])|fail)
 go_ret2
 exact⟨_,rfl,K3c.out,rfl⟩
theorem atP(k o n c i:Nat)(hi:i<n)(w:World):(Rc 81 (.slice (some ⟨k,o,none⟩) n c) (.int .i64 i)).run prog w=.ok (.pointer (some ⟨k,o+33*i,none⟩)) w:=by
 have h1:¬(i:Int)<0:=by omega
 have h2:(i:Int)<n:=by omega
 go_simp
theorem NJ(N:Nat)(hN:N<=512):∃C0:List Value,C0.length=33*N/\∀w:World,(Rf 81 (.int .i64 N) (.int .i64 N)).run prog w=.ok (.slice (some ⟨w.heap.size,0,none⟩) N N) (w.alloc (.cells C0.toArray 38)):=by
 have hu:prog.underlying 81=some (.slice 38):=by kernel_rfl
 have hi:(prog.info? 38).map (fun i=>(i.size,decide (i.bytes<=4000),i.zero.isSome))=some (33,true,true):=by kernel_rfl
 obtain⟨i,hi1,hi2⟩:=PZ.1 hi;simp only[Ro.injEq,decide_eq_true_eq]at hi2;obtain⟨h1,h2,h3⟩:=hi2;obtain⟨z,hz⟩:=Qz.1 h3;refine⟨(madeCells z.cells (N*33)).toList,by rw[P5,size_madeCells,Qy],fun w=>?_⟩;have hb:(i.bytes:Int)*(N:Int)<=281474976710656:=by
  have:i.bytes*N<=4000*512:=RA h2 hN;have h5:((i.bytes*N:Nat):Int)<=281474976710656:=by omega
  rwa[RJ]at h5
 have:=run_make (P:=prog) w 81 38 i z hu hi1 hz .i64 .i64 (N:Int) (N:Int) (by omega) (by omega) hb (by omega);rw[Tn,h1]at this;rw[SO];exact this
structure Az(w W:World)(K k i:Nat)(L:Nat->Bs):Prop where
 bl:Below w.heap.size w W
 lt:K<W.heap.size
 th:W.there K 0 (33*k)
 rw:∀j,j<i->W.rangeAt K (33*j) (aC (L j))
theorem Az.grow{w W W':World}{K k i:Nat}{L:Nat->Bs}(h:Az w W K k i L)(hb:Below W.heap.size W W'):Az w W' K k i L:=
 ⟨h.bl.trans (hb.mono h.bl.size),PY h.lt hb.size,RG.dB h.th hb h.lt,fun j hj=>RG.range_below (h.rw j hj) hb h.lt⟩
theorem Az.put{w W:World}{K k i:Nat}{L:Nat->Bs}(h:Az w W K k i L)(hK:w.heap.size<=K)(hi:i<k)(hL:∀j,j<=i->(L j).size=33):Az w (W.setCells K (33*i) (aC (L i))) K k (i+1) L:=by
 refine⟨RG.below_setCells hK _ _ _ h.bl,by rw[RG.setCells_size];exact h.lt,Tq h.th _ _ _,fun j hj=>?_⟩;by_cases hji:j=i
 ·subst hji;refine UT W K _ _ fun t ht=>?_
  rw[aG (hL j (PX _))]at ht;have:=h.th (33*j+t) (by omega);rwa[P0]at this
 ·exact RX (h.rw j (by omega)) K _ _ (Qc (Qh (by rw[aG (hL j (by omega))];omega)))
end
section
open Go.RowKit Go.Sort Go.Deep
variable {P:Nat}[NeZero P]{N:Nat}
theorem Lz(O:Ord N){a:Nat}(ha:a<N):Gives 119 #[nv a] (nv (sMi N 0 a)):=by
 intro w;have h:=KZ O 0 a O.pos ha;generalize sMi N 0 a=m at h⊢;go_enter Tryz.func119,Tryz.ntmps119;refine RG.M.enter [(0,.v (nv a))] 6 (by kernel_rfl) ?_;intro a0 M0;repeat refine wp_seq ?_
 refine M0.t [.m 1 [] 0,.m 2 [] 1] [(0,wn a),(1,RG.z 4)] [] [wn a,RG.z 4] [(1,.p 0 0),(2,.p 1 0)] ⟨RG.mk 0 66,RG.mk 1 66,trivial⟩ ?_;intro j1 j2 a1 w1 M1;repeat refine wp_seq ?_
 refine M1.t [.x 3 [] (nv 0),.x 4 [] (nv a),.c 5 [(3,0),(4,1)] (nv m),.u [(5,2)] 1] [] [(1,3,wn m)] [wn a,wn m] [(2,.p 1 0)] ⟨RG.st,RG.ld u40 i40,RG.cl h,RG.pt i40,trivial⟩ ?_;intro a2 w2 M2;refine wp_ret ?_;refine bodyPost_ret (v:=nv m) (RG.aE M2.st 2 66 rfl 1 _ rfl (M2.at (s:=(.p 1 0))) u40 i40) M2.sl.defers ?_;exact⟨_,rfl,M2.st.bel.below,rfl⟩
theorem Pj(N:Nat)(hN:N<=512):∃C0:List Value,C0.length=37*N/\∀w:World,(Rf 70 (.int .i64 N) (.int .i64 N)).run prog w=.ok (.slice (some ⟨w.heap.size,0,none⟩) N N) (w.alloc (.cells C0.toArray 101)):=by
 have hi:(prog.info? 101).map (fun i=>(i.size,decide (i.bytes<=4000),i.zero.isSome))=some (37,true,true):=by kernel_rfl
 obtain⟨i,hi1,hi2⟩:=PZ.1 hi;simp only[Ro.injEq,decide_eq_true_eq]at hi2;obtain⟨h1,h2,h3⟩:=hi2;obtain⟨z,hz⟩:=Qz.1 h3;refine⟨(madeCells z.cells (N*37)).toList,by rw[P5,size_madeCells,Qy],fun w=>?_⟩;have hb:(i.bytes:Int)*(N:Int)<=281474976710656:=by
  have:i.bytes*N<=4000*512:=RA h2 hN;have h5:((i.bytes*N:Nat):Int)<=281474976710656:=by omega
  rwa[RJ]at h5
 have:=run_make (P:=prog) w 70 101 i z DU hi1 hz .i64 .i64 (N:Int) (N:Int) (by omega) (by omega) hb (by omega);rw[Tn,h1]at this;rw[SO];exact this
theorem Ey{W:World}{g:Nat}{l:List (Nat × Bs)}(h33:∀x∈l.map (·.2),x.size=33)(hr:W.rangeAt g 0 (aW l))(j:Nat)(hj:j<l.length):W.rangeAt g (37*j) (wn (l[j]).1++aC (l[j]).2):=fun t u hu=>by
 have ht:t<37:=by
  have:=(Qf.1 hu).1;rw[fA (h33 _ (QN.2 ⟨_,QG hj,rfl⟩))]at this;exact this
 have:=hr (37*j+t) u (by rw[jN l h33 j hj t ht];exact hu);rw[P0]at this;exact this
theorem AZ{W:World}{g:Nat}{l:List (Nat × Bs)}(h33:∀x∈l.map (·.2),x.size=33)(hr:∀j (hj:j<l.length),W.rangeAt g (37*j) (wn (l[j]).1++aC (l[j]).2)):W.rangeAt g 0 (aW l):=fun t u hu=>by
 have hlen:t<l.length*37:=by
  have:=(Qf.1 hu).1;rwa[m5 fun x hx=>h33 _ (QN.2 ⟨x,hx,rfl⟩)]at this
 have hj:t/37<l.length:=Nat.div_lt_of_lt_mul (by omega);have ht:t%37<37:=Rz _ (by decide);have e:37*(t/37)+t%37=t:=Nat.div_add_mod _ _;have h2:=jN l h33 (t/37) hj (t%37) ht;rw[e,hu]at h2;have:=hr (t/37) hj (t%37) u h2.symm;rw[e]at this;rw[P0];exact this
def tmT(N n:Nat)(x:Nat × Bs):Nat × Bs:=(sTi N n x.1,x.2)
structure Tz(w W:World)(N n K k3 i:Nat)(l:List (Nat × Bs)):Prop where
 bl:Below w.heap.size w W
 lt:K<W.heap.size
 ne:k3≠K
 th:W.there K 0 (37*l.length)
 r3:Row W k3 (wn n)
 rw:∀j (hj:j<l.length),j<i->W.rangeAt K (37*j) (wn (tmT N n (l[j])).1++aC (tmT N n (l[j])).2)
theorem Tz.grow{w W W':World}{n K k3 i:Nat}{l:List (Nat × Bs)}(h:Tz w W N n K k3 i l)(hb:Below W.heap.size W W'):Tz w W' N n K k3 i l:=
 ⟨h.bl.trans (hb.mono h.bl.size),PY h.lt hb.size,h.ne,RG.dB h.th hb h.lt,h.r3.below hb,fun j hj hji=>RG.range_below (h.rw j hj hji) hb h.lt⟩
theorem Tz.drew{w W:World}{n K k3 i:Nat}{l:List (Nat × Bs)}(h:Tz w W N n K k3 i l):Tz w W.drew N n K k3 i l:=⟨h.bl.drew,h.lt,h.ne,h.th,h.r3,h.rw⟩
theorem Tz.put{w W:World}{n K k3 i:Nat}{l:List (Nat × Bs)}(h:Tz w W N n K k3 i l)(hK:w.heap.size<=K)(hi:i<l.length)(h33:∀x∈l.map (·.2),x.size=33):Tz w (W.setCells K (37*i) (wn (tmT N n (l[i])).1++aC (tmT N n (l[i])).2)) N n K k3 (i+1) l:=by
 have hsz:∀(j:Nat) (hj:j<l.length),(wn (tmT N n (l[j])).1++aC (tmT N n (l[j])).2).length=37:=fun j hj=>fA (h33 _ (QN.2 ⟨_,QG hj,rfl⟩))
 refine⟨RG.below_setCells hK _ _ _ h.bl,by rw[RG.setCells_size];exact h.lt,h.ne,Tq h.th _ _ _,⟨by rw[RG.setCells_size];exact h.r3.1,RX h.r3.2.1 K _ _ (Qh h.ne),Tq h.r3.2.2 _ _ _⟩,fun j hj hji=>?_⟩;by_cases e:j=i
 ·subst e;refine UT W K _ _ fun t ht=>?_
  rw[hsz j hj]at ht;have:=h.th (37*j+t) (by omega);rwa[P0]at this
 ·exact RX (h.rw j hj (by omega)) K _ _ (Qc (Qh (by rw[hsz j hj];omega)))
section
variable (w:World) (n K k3 k7 i s m:Nat) (p:Bs) (l:List (Nat × Bs))
def Rt:Nat->Value->World->Prop
 | 0,v,_=>v=.slice (some ⟨K,0,none⟩) l.length l.length
 | 1,v,_=>v=.int .i64 i
 | 2,v,_=>v=nv n
 | 3,v,_=>v=.pointer (some ⟨k7,0,none⟩)
 | 4,v,_=>v=nv s
 | 5,v,_=>v=nv m
 | 6,v,_=>v=.pointer (some ⟨k7,4,none⟩)
 | 7,v,_=>v=pvl p
 | 8,v,_=>v=tvl m p
 | 9,v,_=>v=.pointer (some ⟨K,0+37*i,none⟩)
 | _,_,_=>True
def Gt(N:Nat):RG.Gw:=⟨Rt n K k7 i s m p l,fun W=>Tz w W N n K k3 i l/\Row W k7 (wn s++aC p),fun j v W W' hb h=>by
 match j,h with
 | 0,h=>exact h
 | 1,h=>exact h
 | 2,h=>exact h
 | 3,h=>exact h
 | 4,h=>exact h
 | 5,h=>exact h
 | 6,h=>exact h
 | 7,h=>exact h
 | 8,h=>exact h
 | 9,h=>exact h
 | _+10,_=>trivial,fun W W' hb h=>⟨h.1.grow hb,h.2.below hb⟩⟩
end
theorem AP(O:Ord N){n:Nat}(hn:n<N)(B:Nat)(s:Value)(l:List (Nat × Bs))(hl:l.length<=512)(h33:∀x∈l.map (·.2),x.size=33)(hlN:∀x∈l,x.1<N)(w:World)(hS:Sm B w s l):
 Calls prog 117 #[s,nv n] w (Ret fun e w'=>Below w.heap.size w w'/\Sm w.heap.size w' e (l.map (tmT N n))):=by
 obtain⟨g,c,rfl,hc,-,hg,hr⟩:=hS;have HB:=Hid.mk' (boxS n w);obtain⟨w1,hw1⟩:∃w1,Hid (w.alloc (.cells (wn n).toArray 66)=w1):=⟨_,rfl⟩
 rw[hw1.out]at HB;obtain⟨k3,hk3⟩:∃k,Hid (w.heap.size=k):=⟨_,rfl⟩
 obtain⟨K,hK⟩:∃k,Hid (w1.heap.size=k):=⟨_,rfl⟩
 have e1:K=k3+1:=by rw[<-hK.out,<-hk3.out,<-hw1.out,P4]
 obtain⟨C0,hC0,hmk⟩:=Pj l.length hl;have hmk':=hmk w1;obtain⟨w2,hw2⟩:∃w2,Hid (w1.alloc (.cells C0.toArray 101)=w2):=⟨_,rfl⟩
 rw[hw2.out,hK.out]at hmk';rw[hk3.out]at HB;have K2:Hid (Tz w w2 N n K k3 0 l):=by
  have hR1:Row w1 k3 (wn n):=by rw[<-hw1.out,<-hk3.out];exact aJ w _ _
  have b1:Below w.heap.size w w1:=by rw[<-hw1.out];exact aH _ _
  have b2:Below w1.heap.size w1 w2:=by rw[<-hw2.out];exact aH _ _
  have hR2:Row w2 K C0:=by rw[<-hw2.out,<-hK.out];exact aJ w1 _ _
  exact⟨b1.trans (b2.mono b1.size),hR2.1,by omega,by rw[<-hC0];exact hR2.2.2,hR1.below b2,fun j hj hji=>by omega⟩
 have HF:Hid (Ord N/\n<N/\(∀x∈l.map (·.2),x.size=33)/\(∀x∈l,x.1<N)/\g<w.heap.size/\w.rangeAt g 0 (aW l)/\w.heap.size<=K):=⟨O,hn,h33,hlN,hg,hr,by rw[hk3.out];omega⟩
 obtain⟨d',hd3,hd4⟩:=PZ.1 uT;have HD:Hid (prog.underlying 101=some d'/\d'.isRow=true):=⟨hd3,hd4⟩
 obtain⟨vn,hvn⟩:∃v,Hid (nv n=v):=⟨_,rfl⟩
 rw[hvn.out]at HB⊢;clear hd3 hd4 O hn h33 hlN hg hr hmk hC0 hw1 hw2 hK hk3 e1;go_enter Tryz.func117,Tryz.ntmps117;go_wp2_with (first|(refine bH (u:=vn) (v:=.pointer (some ⟨k3,0,none⟩)) (w':=w1) rfl 66 (.tmp 1) rfl ?_ ?_ ?_;rfl;exact HB.out)|fail)
 clear hmk';go_loopg [13] l.length (fun m s13 W=>∃i:Nat,i+m=l.length/\s13=.int .i64 i/\Hid (Tz w W N n K k3 i l))
 case atStart=>exact⟨0,by omega,rfl,K2⟩
 case round =>
  clear K2 HB;obtain⟨i,hik,rfl,KM⟩:=hrel;by_cases hi:i<l.length
  ·have hi':(i:Int)<(l.length:Int):=by omega
   obtain⟨s,hse⟩:∃s,Hid ((l[i]'hi).1=s):=⟨(l[i]'hi).1,(rfl:(l[i]'hi).1=(l[i]'hi).1)⟩
   obtain⟨p,hpe⟩:∃p,Hid ((l[i]'hi).2=p):=⟨(l[i]'hi).2,(rfl:(l[i]'hi).2=(l[i]'hi).2)⟩
   have hps:Hid (p.size=33):=by rw[<-hpe.out];exact HF.out.2.2.1 _ (QN.2 ⟨_,QG hi,rfl⟩)
   have hsN:Hid (s<N):=by rw[<-hse.out];exact HF.out.2.2.2.1 _ (QG hi)
   have B0:Hid (wr.rangeAt g (37*i) (wn s++aC p)):=by
    have h:=RG.range_below (Ey HF.out.2.2.1 HF.out.2.2.2.2.2.1 i hi) KM.out.bl HF.out.2.2.2.2.1;rw[hse.out,hpe.out]at h;exact h
   obtain⟨k7,hk7⟩:∃k,Hid (wr.heap.size=k):=⟨_,rfl⟩
   obtain⟨W1,hW1⟩:∃W1,Hid (wr.alloc (.cells zT.toArray 101)=W1):=⟨_,rfl⟩
   obtain⟨W2,hW2⟩:∃W2,Hid (W1.setCells k7 0 (wn s++aC p)=W2):=⟨_,rfl⟩
   have hlen:(wn s++aC p).length=37:=fA hps.out;have F1:Hid (Row W1 k7 zT/\Below wr.heap.size wr W1):=by rw[<-hW1.out,<-hk7.out];exact⟨aJ wr _ _,aH wr _⟩
   have F2:Hid (Row W2 k7 (wn s++aC p)/\Tz w W2 N n K k3 i l):=by
    rw[<-hW2.out];exact⟨F1.out.1.put (by rw[hlen];rfl),KM.out.grow (RG.below_setCells (by rw[hk7.out];exact PX _) _ _ _ F1.out.2)⟩
   have HLT:Hid ((prog.info? 101).map (·.size)=some (wn s++aC p).length):=by show _=_;rw[hlen];exact iT
   have HLS:Hid ((prog.info? 101).map (·.size)=some (wn s++aC p).toArray.size/\W1.there k7 0 (wn s++aC p).toArray.size):=by
    have e:(wn s++aC p).toArray.size=37:=by rw[Qr];exact hlen
    rw[e];exact⟨iT,F1.out.1.2.2⟩
   have HAL:Hid ((wn s++aC p).toArray.all (·.oneCell')=true):=by
    show _=_;rw[RQ];intro u hu;exact cells_one s p u (SY.1 hu)
   have hix:=atT g 0 l.length c i hi;obtain⟨vt,hvt⟩:∃v,Hid (QA (wn s++aC p).toArray=v):=⟨_,rfl⟩
   have HL:Hid (i<l.length):=hi;clear hlen KM F1;go_wp2_with (first|(refine wpList_load_mid rfl 101 _ rfl g (37*i) ?_ (wn s++aC p) d' ?_ ?_ ?_ ?_ ?_;rfl;exact B0.out;exact HD.out.1;exact HD.out.2;exact HLT.out;rw[hvt.out])|(refine aP (v:=.pointer (some ⟨k7,0,none⟩)) (w':=W1) rfl (.alloc 101) rfl ?_ ?_;(rw[<-hW1.out,<-hk7.out];kernel_rfl))|(refine wpList_store_mid rfl 101 _ _ rfl k7 0 (wn s++aC p).toArray ?_ ?_ ?_ ?_ ?_ ?_;rfl;exact hvt.out.symm;exact HLS.out.2;exact HLS.out.1;exact HAL.out;rw[show(wn s++aC p).toArray.toList=wn s++aC p from rfl,hW2.out])|fail)
   clear hW1 hW2 hk7;refine(Gt w n K k3 k7 i s (sTi N n s) p l N).last 10 (by kernel_rfl) (by kernel_rfl) (by kernel_rfl) ⟨
    RG.bN fun a W hp=>⟨[(5,.slice (some ⟨K,0,none⟩) l.length l.length)],.slice (some ⟨K,0,none⟩) l.length l.length,W,⟨hp.o 5 (by kernel_rfl),trivial⟩,by kernel_rfl,Qd _ _,rfl⟩,
    RG.bN fun a W hp=>⟨[(6,.int .i64 i)],.int .i64 i,W,⟨hp.o 6 (by kernel_rfl),trivial⟩,by kernel_rfl,Qd _ _,rfl⟩,
    RG.b8 66 3 rfl Go.Proofs.YtbceebahamkmdaaGreat.u40 fun a W hp=>⟨k3,0,wn n,hp.o 3 (by kernel_rfl),hp.b.1.r3.2.1,i40,rfl⟩,
    RG.bN fun a W hp=>⟨[(7,.pointer (some ⟨k7,0,none⟩))],.pointer (some ⟨k7,0,none⟩),W,⟨hp.o 7 (by kernel_rfl),trivial⟩,by kernel_rfl,Qd _ _,rfl⟩,
    RG.b8 66 21 rfl Go.Proofs.YtbceebahamkmdaaGreat.u40 fun a W hp=>⟨k7,0,wn s,hp.n 3 21 (by kernel_rfl) (by kernel_rfl),iM hp.b.2.2.1,i40,rfl⟩,
    RG.dA fun a W hp=>⟨[(20,nv n),(22,nv s)],76,#[nv n,nv s],⟨hp.n 2 20 (by kernel_rfl) (by kernel_rfl),hp.n 4 22 (by kernel_rfl) (by kernel_rfl),trivial⟩,by kernel_rfl,(Fc HF.out.1 n s HF.out.2.1 hsN.out W).mono (by
     rintro e W' ⟨u,rfl,hb,rfl⟩;exact⟨_,rfl,hb,rfl⟩)⟩,
    RG.bN fun a W hp=>⟨[(7,.pointer (some ⟨k7,0,none⟩))],.pointer (some ⟨k7,4,none⟩),W,⟨hp.o 7 (by kernel_rfl),trivial⟩,by kernel_rfl,Qd _ _,rfl⟩,
    RG.b8 38 24 rfl uCP fun a W hp=>⟨k7,4,aC p,hp.n 6 24 (by kernel_rfl) (by kernel_rfl),gJ (xs:=wn s) hp.b.2.2.1,by rw[aG hps.out];exact aQ,rfl⟩,
    RG.bN fun a W hp=>⟨[(23,nv (sTi N n s)),(25,pvl p)],tvl (sTi N n s) p,W,⟨hp.n 5 23 (by kernel_rfl) (by kernel_rfl),hp.n 7 25 (by kernel_rfl) (by kernel_rfl),trivial⟩,by
     rw[Ro.injEq];refine⟨by kernel_rfl,?_⟩;refine Eq.trans (b:=((Instr.build 101 #[(0,nv (sTi N n s)),(1,pvl p)]) >>= fun v=>pure (Te v)).run prog W) (by kernel_rfl) ?_;rw[Qm,Ob hps.out];rfl,Qd _ _,rfl⟩,
    RG.bN fun a W hp=>⟨[(18,.slice (some ⟨K,0,none⟩) l.length l.length),(19,.int .i64 i)],.pointer (some ⟨K,0+37*i,none⟩),W,⟨hp.n 0 18 (by kernel_rfl) (by kernel_rfl),hp.n 1 19 (by kernel_rfl) (by kernel_rfl),trivial⟩,by
     rw[Ro.injEq];refine⟨by kernel_rfl,?_⟩;show((Rc 70 (.slice (some ⟨K,0,none⟩) l.length l.length) (.int .i64 i)) >>= fun v=>pure (Te v)).run prog W=_;rw[Qm,atT K 0 l.length l.length i HL.out];rfl,Qd _ _,rfl⟩,trivial⟩ ⟨F2.out.2.drew,F2.out.1⟩ ?_
   intro V W3 hR3 hB3;have hV8:V 8=tvl (sTi N n s) p:=hR3 8 (by decide);have hV9:V 9=.pointer (some ⟨K,0+37*i,none⟩):=hR3 9 (by decide);have hlen2:(wn (sTi N n s)++aC p).length=37:=fA hps.out;obtain⟨W4,hW4⟩:∃W4,Hid (W3.setCells K (37*i) (wn (sTi N n s)++aC p)=W4):=⟨_,rfl⟩
   have K4:Hid (Tz w W4 N n K k3 (i+1) l):=by
    have h:=hB3.1.put HF.out.2.2.2.2.2.2 HL.out HF.out.2.2.1;have e:tmT N n (l[i]'HL.out)=(sTi N n s,p):=by
     have h1:=hse.out;have h2:=hpe.out;unfold tmT;rw[h1,h2]
    rw[e]at h;rw[<-hW4.out];exact h
   have HT:Hid (W3.there K (37*i) (wn (sTi N n s)++aC p).toArray.size/\(prog.info? 101).map (·.size)=some (wn (sTi N n s)++aC p).toArray.size/\(wn (sTi N n s)++aC p).toArray.all (·.oneCell')=true):=by
    have e:(wn (sTi N n s)++aC p).toArray.size=37:=by rw[Qr];exact hlen2
    refine⟨fun t ht=>?_,by rw[e];exact iT,?_⟩
    ·rw[e]at ht;have:=hB3.1.th (37*i+t) (by have:=HL.out;omega);rwa[P0]at this
    ·rw[RQ];intro u hu;exact cells_one _ p u (SY.1 hu)
   dsimp only[RG.iC,Tb,Wb,Wg];simp only[QQ,Qs,QM,QP];obtain⟨vz,hvz⟩:∃v,Hid (tvl (sTi N n s) p=v):=⟨_,rfl⟩
   rw[hV8,hV9,hvz.out,P0];clear hR3 hB3 hV8 hV9 hlen2 F2;generalize V 0=s0;generalize V 1=s1;generalize V 2=s2;generalize V 3=s3;generalize V 4=s4;generalize V 5=s5;generalize V 6=s6;generalize V 7=s7;go_wp2_with (first|(refine wpList_store_mid rfl 101 _ _ rfl K (37*i) (wn (sTi N n s)++aC p).toArray ?_ ?_ ?_ ?_ ?_ ?_;rfl;exact hvz.out.symm;exact HT.out.1;exact HT.out.2.1;exact HT.out.2.2;rw[show(wn (sTi N n s)++aC p).toArray.toList=wn (sTi N n s)++aC p from rfl,hW4.out])|fail)
   go_roundg (gk-1)
   case measure=>omega
   case rel=>exact⟨i+1,by omega,rfl,K4⟩
  ·have hi':¬(i:Int)<(l.length:Int):=by omega
   obtain rfl:i=l.length:=by omega
   have KS:Hid (Below w.heap.size w wr/\Sm w.heap.size wr (.slice (some ⟨K,0,none⟩) l.length l.length) (l.map (tmT N n))):=by
    refine⟨KM.out.bl,K,l.length,by rw[Qi],by rw[Qi];exact PX _,HF.out.2.2.2.2.2.2,KM.out.lt,AZ (fun x hx=>?_) fun j hj=>?_⟩
    ·obtain⟨y,hy,rfl⟩:=QN.1 hx;obtain⟨z,hz,rfl⟩:=QN.1 hy;exact HF.out.2.2.1 _ (QN.2 ⟨z,hz,rfl⟩)
    ·rw[List.getElem_map];rw[Qi]at hj;exact KM.out.rw j hj hj
   clear KM;go_wp2;go_ret;exact⟨_,rfl,KS.out.1,KS.out.2⟩
end
section
open Go.RowKit Go.Sort Go.Deep
variable {P:Nat}[NeZero P]{N:Nat}
def Cw(W:World)(q:Option Addr)(n cap:Nat)(T:Bs):Prop:=(q=none/\n=0/\cap=0/\T=#[])\/∃g,q=some ⟨g,0,none⟩/\T.size=n/\g<W.heap.size/\Holds encB W g 0 T/\n<=cap
theorem Cw.grow{W W':World}{q:Option Addr}{n cap:Nat}{T:Bs}(h:Cw W q n cap T)(hb:Below W.heap.size W W'):Cw W' q n cap T:=by
 rcases h with h|⟨g,h1,h2,h3,h4,h5⟩
 ·exact Qh h
 ·exact Qc ⟨g,h1,h2,PY h3 hb.size,Holds.below h4 hb h3,h5⟩
theorem Cw.conv{W:World}{q:Option Addr}{n cap:Nat}{T:Bs}(h:Cw W q n cap T):(convert 22 9 (.slice q n cap)).run prog W=.ok (.string ⟨T⟩) W:=by
 rcases h with⟨rfl,rfl,rfl,rfl⟩|⟨g,rfl,h2,h3,h4,-⟩
 ·kernel_rfl
 ·exact conv_str prog 22 9 5 slice22 int5 str9 W g 0 n cap T h4 h2
theorem El.cw{n:Nat}{W:World}{x:Value}{b:Bs}(h:El n W x b):∃q m cap,x=.slice q m cap/\Cw W q m cap b:=by
 obtain⟨k,c,rfl,h1,h2,h3,h4⟩:=h;exact⟨_,_,_,rfl,Qc ⟨k,rfl,h2,h3,h4,h1⟩⟩
end
section
open Go.RowKit Go.Sort Go.Deep
variable {P:Nat}[NeZero P]{N:Nat}
theorem Sm.mono{B B':Nat}{W:World}{v:Value}{l:List (Nat × Bs)}(h:Sm B W v l)(hb:B'<=B):Sm B' W v l:=by
 obtain⟨g,c,h1,h2,h3,h4⟩:=h;exact⟨g,c,h1,h2,Qj hb h3,h4⟩
section
variable (w:World) (k6 k8 n:Nat) (Y A T:Bs)
end
end
section
open Go.RowKit Go.Sort Go.Deep
variable {P:Nat}[NeZero P]{N:Nat}
theorem Au(x:UInt8)(r:List UInt8):beV (x :: r)=x.toNat*256^r.length+beV r:=by
 have h:=dT [x] r;rw[show [x]++r=x :: r from rfl]at h;rw[h];simp[beV]
theorem Cx(a:Bs):((⟨a⟩:ByteArray).toList == (⟨a⟩:ByteArray).toList)=true:=by simp
end
section
open Go.RowKit Go.Sort Go.Deep
theorem Dy:∀(l r:List UInt8),l.length=r.length->beV l=beV r->l=r
 | [],[],_,_=>rfl
 | x :: l,y :: r,hl,h=>by
  have h1:l.length=r.length:=Nat.succ.inj hl;rw[Au,Au,h1]at h;have b1:=Cf l;have b2:=Cf r;rw[h1]at b1;have hp:0<256^r.length:=Nat.pow_pos (by decide);have e1:(x.toNat*256^r.length+beV l)/256^r.length=x.toNat:=by
   rw[Qy,Wu hp,TA b1,RI]
  have e2:(y.toNat*256^r.length+beV r)/256^r.length=y.toNat:=by
   rw[Qy,Wu hp,TA b2,RI]
  have e3:x.toNat=y.toNat:=by rw[<-e1,<-e2,h]
  have e4:x=y:=UL.1 e3;subst e4;rw[Dy l r h1 (by omega)]
theorem Oa{b:Bs}(hs:b.size=32){n:Nat}(hn:n<top)(h:beV b.toList=n):bx n=b:=by
 have:=Dy (bx n).toList b.toList (by rw[P5,P5,aY,hs]) (by rw[xI hn,h]);exact Array.toList_inj.1 this
variable {P:Nat}[NeZero P]
theorem Lb(C:Fld P){m y:Fin P}(h:rt m=some y):y.val%2=0:=by
 have h2:=Fj C (CC h);rw[h]at h2;have e:=Qn.inj h2;by_cases ho:y.val%2=1
 ·rw[if_pos ho]at e;have e3:=congrArg VQ e;have h0:(0-y:Fin P).val=(P-y.val)%P:=by rw[<-jU,EC.val_zero,P0]
  rw[h0]at e3;have h3:=C.p3;have hy:=y.isLt;rw[Qe (by omega)]at e3;omega
 ·omega
theorem Kl{b:Bs}(hs:b.size=33):b=#[b[0]!]++eA b:=by
 unfold eA;apply UN
 ·rw[Qg,Rb,hs];rfl
 ·intro i h1 h2;by_cases hi:i=0
  ·subst hi;rw[TJ (by simp),getElem!_pos b 0 (by omega)];rfl
  ·rw[U0 (by simp;omega),Tl]
   congr 1
   simp;omega
theorem KO{x:UInt8}(h:ub x=2):x=2:=by
 apply UL.1;have:(x.toNat:Int)=2:=h;show x.toNat=2;omega
theorem EW{x:UInt8}(h:ub x=3):x=3:=by
 apply UL.1;have:(x.toNat:Int)=3:=h;show x.toNat=3;omega
theorem J2(C:Fld P){b:Bs}{p:Fin P × Fin P}(h:rd P b=some p):wr (pt p)=b:=by
 have hon:=CL C h;unfold rd at h;split at h
 ·rename_i hs
  split at h
  ·rename_i hz
   obtain rfl:=Qn.inj h;unfold pt;rw[if_pos ⟨rfl,rfl⟩];exact((jR hs).1 hz).symm
  ·split at h
   ·rename_i hm
    split at h
    ·rename_i hx
     obtain⟨y,hr,rfl⟩:=PZ.1 h;have hsq:=CC hr;have hpar:=Lb C hr;have hy0:y≠0:=C.cur.y_ne (zA hsq);have hyv:y.val≠0:=fun e=>hy0 (TW (by rw[EC.val_zero];exact e))
     have hxv:(rdx P b).val=beV (eA b).toList:=Qe hx;have hbx:bx (rdx P b).val=eA b:=Oa (eM hs) (C.top _) hxv.symm;have h3:=C.p3;have hyl:=y.isLt;have h0:(0-y:Fin P).val=P-y.val:=by rw[<-jU,EC.val_zero,P0,Qe (by omega)]
     by_cases h3':ub b[0]! = 3
     ·rw[if_pos h3'];unfold pt;rw[if_neg (fun e=>by
       have:=congrArg VQ e.2;rw[EC.val_zero,h0]at this;omega)]
      show #[mark (0-y:Fin P).val]++bx (rdx P b).val=b;rw[hbx,h0];unfold mark;rw[if_pos (by omega),<-EW h3'];exact(Kl hs).symm
     ·rw[if_neg h3'];have h2':ub b[0]! = 2:=hm.resolve_right h3';unfold pt;rw[if_neg (fun e=>hy0 e.2)];show #[mark y.val]++bx (rdx P b).val=b;rw[hbx];unfold mark;rw[if_neg (by omega),<-KO h2'];exact(Kl hs).symm
    ·cases h
   ·cases h
 ·cases h
end
section
open Go.RowKit Go.Sort Go.Deep
variable {P:Nat}[NeZero P]{N:Nat}
theorem AU(O:Ord N)(B:Nat)(s t:Value)(l m:List (Nat × Bs))(hl0:0<l.length)(hl:l.length<=500)(hm:m.length<=500)(hl3:∀x∈l,x.2.size=33)(hm3:∀x∈m,x.2.size=33)(hmN:∀x∈m,x.1<N)(w:World)(hB:B<=w.heap.size)(h1:Sm B w s l)(h2:Sm B w t m):
 Calls prog 81 #[s,t] w (Ret fun e w'=>Below w.heap.size w w'/\Sm w.heap.size w' e (l++m.map (tmT N (sMi N 0 1)))):=by
 have h1N:1<N:=by have:2<=N:=Qj O.n2 (Xh _ _);omega
 have HOp:=Hid.mk' (Lz O h1N);have hoN:sMi N 0 1<N:=Rz _ O.pos;generalize sMi N 0 1=o at HOp hoN⊢;have HT:Hid (∀W,Below w.heap.size w W->Calls prog 117 #[t,nv o] W (Ret fun e w'=>Below W.heap.size W w'/\Sm W.heap.size w' e (m.map (tmT N o)))):=fun W hb=>by
  have h33:∀x∈m.map (·.2),x.size=33:=fun x hx=>by obtain⟨y,hy,rfl⟩:=QN.1 hx;exact hm3 y hy
  exact AP O hoN B t m (by omega) h33 hmN W (h2.grow hb)
 have HP:Hid (∀W v,Below w.heap.size w W->Sm w.heap.size W v (m.map (tmT N o))->Calls prog 116 #[s,v] W (Ret fun e w'=>Below W.heap.size W w'/\Sm W.heap.size w' e (l++m.map (tmT N o)))):=fun W v hb hv=>by
  refine DX B s v l (m.map (tmT N o)) hl0 hl (by rw[Qi];exact hm) hl3 (fun x hx=>?_) W (h1.grow hb) (hv.mono hB);obtain⟨y,hy,rfl⟩:=QN.1 hx;exact hm3 y hy
 obtain⟨gs,cs,es,-⟩:=id h1;obtain⟨gt,ct,et,-⟩:=id h2;subst es;subst et;obtain⟨v1,hv1⟩:∃v,Hid (nv 1=v):=⟨_,rfl⟩
 obtain⟨vo,hvo⟩:∃v,Hid (nv o=v):=⟨_,rfl⟩
 rw[hv1.out,hvo.out]at HOp;rw[hvo.out]at HT;have H1:=Hid.mk' (NC);rw[hv1.out]at H1;clear O h1N hoN hl3 hm3 hmN h1 h2;go_enter Tryz.func81,Tryz.ntmps81;go_wp2_with fail
 refine(H1.out w).mono ?_;rintro e w1 ⟨vv,rfl,hb1,rfl⟩;go_wp2_with fail
 refine(HOp.out w1).mono ?_;rintro e w2 ⟨vv,rfl,hb2,rfl⟩;have B2:Hid (Below w.heap.size w w2):=hb1.trans (hb2.mono hb1.size);clear hb1 hb2;go_wp2_with fail
 refine(HT.out w2 B2.out).mono ?_;rintro e w3 ⟨v3,rfl,hb3,hS3⟩;have B3:Hid (Below w.heap.size w w3/\Sm w.heap.size w3 v3 (m.map (tmT N o))):=⟨B2.out.trans (hb3.mono B2.out.size),hS3.mono B2.out.size⟩
 clear hb3 hS3 B2;go_wp2_with fail
 refine(HP.out w3 v3 B3.out.1 B3.out.2).mono ?_;rintro e w4 ⟨v4,rfl,hb4,hS4⟩;have B4:Hid (Below w.heap.size w w4/\Sm w.heap.size w4 v4 (l++m.map (tmT N o))):=⟨B3.out.1.trans (hb4.mono B3.out.1.size),hS4.mono B3.out.1.size⟩
 clear hb4 hS4 B3;go_wp2;go_ret;exact⟨_,rfl,B4.out.1,B4.out.2⟩
theorem eq_neg(C:Fld P){x y:EC.Pt P}(hx:EC.On x)(hy:EC.On y)(h:EC.add x y=none):x=EC.neg y:=by
 have h1:=C.cur.assoc hx hy (EC.bT hy);rw[h,EC.dK,EC.add_neg,EC.bF]at h1;exact h1.symm
theorem Jl(C:Fld P)(O:Ord N)(hord:∀r:EC.Pt P,EC.On r->EC.mul N r=none){X:EC.Pt P}(hX:EC.On X)(n:Nat):EC.mul (sTi N (sMi N 0 1) n) X=EC.neg (EC.mul n X):=by
 have h1N:1<N:=by have:2<=N:=Qj O.n2 (Xh _ _);omega
 have e:sMi N 0 1=N-1:=by unfold sMi;rw[P0,Qe (by omega)]
 unfold sTi;rw[e,mul_mod C hord hX];refine eq_neg C (EC.bU C.cur hX _) (EC.bU C.cur hX _) ?_;rw[<-EC.mul_add C.cur hX];have e2:(N-1)*n+n=N*n:=by
  have:(N-1+1)*n=(N-1)*n+n:=Nat.succ_mul _ _;rw[<-this]
  congr 1
  omega
 rw[e2,EC.iP C.cur hX N n,hord X hX,EC.jM]
section
variable (w:World) (K k8 n o:Nat) (S Q T:Bs)
end
end
section
open Go.RowKit Go.Sort Go.Deep
variable {P:Nat}[NeZero P]{N:Nat}
def encV(v:Value):Value:=v
theorem mA(s:ByteArray)(w:World):
 ∃cap w',(convert 9 22 (.string s)).run prog w=.ok (.slice (some ⟨w.heap.size,0,none⟩) s.size cap) w'/\s.size<=cap/\Below w.heap.size w w'/\Holds encB w' w.heap.size 0 s.data/\w.heap.size<w'.heap.size:=by
 have h:=Lib.run_convert_string_bytes (P:=prog) w 9 22 5 s str9 slice22 int5;have hcap:s.size<=grownCap w s.size 0 5:=by
  unfold grownCap VO;exact Nat.le_add_right _ _
 have hl:s.data.size=s.size:=rfl;refine⟨_,_,h,hcap,?_,?_,by rw[Uy];omega⟩
 ·refine⟨?_,?_,?_,?_,fun k hk=>Lib.bytesWorld_at_old w 5 s k hk⟩
  ·unfold TU Ub;rw[if_neg (by decide)];rfl
  ·unfold TU Ub;rw[if_neg (by decide)];rfl
  ·unfold TU Ub;rw[if_neg (by decide)];rfl
  ·rw[Uy];omega
 ·intro j hj;have hb:=Lib.bytesWorld_at_new w 5 s;have hsz:(SR w 5 s).size=grownCap w s.size 0 5:=by
   unfold SR;rw[Qg,Array.size_map,P8];omega
  have hc:(SR w 5 s)=(s.data++P3 (grownCap w s.size 0 5-s.size) 0).map encB:=by
   unfold SR;rw[Array.map_append,Array.map_replicate];rfl
  have hj2:j<(s.data++P3 (grownCap w s.size 0 5-s.size) 0).size:=by rw[Qg,P8];omega
  have hget:(s.data++P3 (grownCap w s.size 0 5-s.size) 0)[j]=s.data[j]!:=by
   rw[TJ hj,getElem!_pos s.data j hj]
  constructor
  ·unfold Rs;rw[hb];simp only[P0];rw[if_neg (by decide),hc,Array.getElem?_map,Qp hj2,TY,hget]
  ·unfold S6;rw[hb];simp only[P0,hsz];simp;omega
def rdT(P:Nat)[NeZero P](bs:Bs):T3 P:=
 if bs.size=33 then if kL bs then(0,1,0) else if ub bs[0]! = 2\/ub bs[0]! = 3 then if beV (eA bs).toList<P then
  (rdx P bs,if ub bs[0]! = 3 then 0-(rt (rdx P bs*rdx P bs*rdx P bs+7)).getD 0 else(rt (rdx P bs*rdx P bs*rdx P bs+7)).getD 0,1) else(0,0,0) else(0,0,0) else(0,0,0)
theorem IV(C:Fl3 P)(bs:Bs):Gives 47 #[.string ⟨bs⟩] (.tuple #[tv (rdT P bs),.bool (rd P bs).isSome]):=by
 intro w;unfold rdT rd;by_cases hs:bs.size=33
 ·rw[if_pos hs,if_pos hs];by_cases hz:kL bs
  ·rw[if_pos hz,if_pos hz];obtain rfl:=(jR hs).1 hz;exact ID C w
  ·rw[if_neg hz,if_neg hz];have hz':¬bs=mM:=fun h=>hz ((jR hs).2 h)
   by_cases hm:ub bs[0]! = 2\/ub bs[0]! = 3
   ·rw[if_pos hm,if_pos hm];by_cases hx:beV (eA bs).toList<P
    ·rw[if_pos hx,if_pos hx];have hx':beV (eA bs).toList=(rdx P bs).val:=(Qe hx).symm;cases hr:rt (rdx P bs*rdx P bs*rdx P bs+7) with
     | none=>exact CE C bs (rdx P bs) 0 false w hs hz' hm hx' (IL C _ hr)
     | some y =>
      rw[TY];exact CE C bs (rdx P bs) y true w hs hz' hm hx' (CM C _ _ hr)
    ·rw[if_neg hx,if_neg hx];exact Lc C _ bs w hs hz' hm (Eb C (eA bs) (eM hs) hx)
   ·rw[if_neg hm,if_neg hm];exact IE C bs hs hz' _ rfl (fun h=>hm (Qh h)) (fun h=>hm (Qc h)) w
 ·rw[if_neg hs,if_neg hs];exact Ld C bs hs w
def dQ(P:Nat)[NeZero P](bs:Bs):EC.Pt P:=match rd P bs with|some p=>pt p|none=>none
theorem wM{bs:Bs}{p:Fin P × Fin P}(h:rd P bs=some p):dQ P bs=pt p:=by unfold dQ;rw[h]
theorem gI(C:Fl3 P){bs:Bs}(h:(rd P bs).isSome=true):FracT (rdT P bs) (dQ P bs):=by
 obtain⟨p,hp⟩:=Qz.1 h;rw[wM hp];have hp0:=hp;unfold rdT;unfold rd at hp;split at hp
 ·rename_i hs
  rw[if_pos hs];split at hp
  ·rename_i hz
   rw[if_pos hz];obtain rfl:=Qn.inj hp;unfold pt;rw[if_pos ⟨rfl,rfl⟩];exact FracT.none
  ·rename_i hz
   rw[if_neg hz];split at hp
   ·rename_i hm
    rw[if_pos hm];split at hp
    ·rename_i hx
     rw[if_pos hx];obtain⟨y,hr,hpe⟩:=PZ.1 hp;have hsq:=CC hr;have hon:=CL C.toFld hp0;rw[hr];show FracT (rdx P bs,(if ub bs[0]! = 3 then 0-y else y),1) (pt p);have hb:p=(rdx P bs,if ub bs[0]! = 3 then 0-y else y):=hpe.symm;have hpt:pt p=some p:=by
      unfold pt;rw[if_neg];rintro⟨-,h2⟩;rw[hb]at h2;dsimp only at h2;split at h2
      ·exact C.toFld.cur.y_ne (Bu hsq) h2
      ·exact C.toFld.cur.y_ne (zA hsq) h2
     rw[hpt,hb];split
     ·exact⟨sQ C.toFld _ _,Bu hsq⟩
     ·exact⟨sQ C.toFld _ _,zA hsq⟩
    ·cases hp
   ·cases hp
 ·cases hp
theorem Lf(C:Fl3 P){bs:Bs}{p:Fin P × Fin P}(h:rd P bs=some p):FracT (rdT P bs) (pt p):=by
 have:=gI C (bs:=bs) (by rw[h];rfl);unfold dQ at this;rw[h]at this;exact this
theorem Nx(C:Fl3 P)(t:T3 P):Gives 48 #[tv t] (.bool (decide (t.2.2=0))):=by
 by_cases h:t.2.2=0
 ·rw[decide_eq_true h];exact xR C _ _ _ h
 ·rw[decide_eq_false h];exact tW C _ _ _ h
def OA(s:ByteArray)(v:Value)(ok:Bool):List RG.It:=[.x 8 [] (.string s),.c 9 [(8,0)] (.tuple #[v,.bool ok]),.x 7 [(9,1)] (.tuple #[v,.bool ok]),.x 10 [(7,2)] v,.x 11 [(7,2)] (.bool ok),.m 4 [] 1,.u [(4,5),(10,3)] 1,.x 5 [(11,4)] (.bool ok)]
def Oz(v:Value)(z:Bool):List RG.It:=[.x 12 [] v,.c 13 [(12,0)] (.bool z),.x 6 [(13,1)] (.bool z)]
def MK(v:Value)(z:Bool):List RG.It:=[.x 14 [] v,.x 15 [] (.bool true),.x 16 [(15,1)] (.bool true),.x 17 [] (.bool z),.x 18 [(17,3)] (.bool (!z)),.x 19 [(16,2),(18,4)] (.bool (!z)),.u [(14,0)] 0,.x 3 [(19,5)] (.bool (!z))]
def ML(v:Value):List RG.It:=[.x 14 [] v,.x 15 [] (.bool false),.x 16 [(15,1)] (.bool false),⟨some 17,[],(.v undef),.pass⟩,⟨some 18,[],(.v undef),.pass⟩,.x 19 [(16,2),(18,4)] (.bool false),.u [(14,0)] 0,.x 3 [(19,5)] (.bool false)]
omit [NeZero P] in
theorem IY(t:T3 P)(s:ByteArray)(ok z:Bool)(hR:Gives 47 #[.string s] (.tuple #[tv t,.bool ok]))(hI:Gives 48 #[tv t] (.bool z)):Gives 18 #[.string s] (.tuple #[tv t,.bool (ok && !z)]):=by
 intro w;go_enter Tryz.func18,Tryz.ntmps18;refine RG.M.enter [(0,.v (.string s))] 20 (by kernel_rfl) ?_;intro a0 M0;repeat refine wp_seq ?_
 refine M0.t [.m 2 [] 0,.x 3 [] (.bool false)] [(0,RG.z 12)] [] [RG.z 12] [(0,.v (.string s)),(2,.p 0 0),(3,.v (.bool false))] ⟨RG.mk 0 53,RG.st,trivial⟩ ?_;intro j1 a1 w1 M1;repeat refine wp_seq ?_
 refine M1.t (OA s (tv t) ok) [(5,RG.z 12)] [(1,6,tw t)] [RG.z 12,tw t] [(2,.p 0 0),(4,.p 1 0),(5,.v (.bool ok))] ⟨RG.st,RG.cl hR,RG.st,RG.st,RG.st,RG.mk 1 53,RG.pt i56,RG.st,trivial⟩ ?_;intro j2 a2 w2 M2;repeat refine wp_seq ?_
 refine M2.u (Oz (tv t) z) [(2,.p 0 0),(4,.p 1 0),(5,.v (.bool ok)),(6,.v (.bool z))] ⟨RG.ld u56 i56,RG.cl hI,RG.st,trivial⟩ ?_;intro a3 w3 M3;repeat refine wp_seq ?_
 cases ok with
 | true =>
  refine M3.t (MK (tv t) z) [] [(0,6,tw t)] [tw t,tw t] [(2,.p 0 0),(3,.v (.bool (!z)))] ⟨RG.ld u56 i56,RG.st,RG.st,RG.st,RG.st,RG.st,RG.pt i56,RG.st,trivial⟩ ?_;intro a4 w4 M4;refine wp_ret ?_;refine bodyPost_ret (v:=.tuple #[tv t,.bool (!z)]) (RG.aO M4.st 2 3 53 rfl 0 _ rfl (M4.at (s:=.p 0 0)) (.bool (!z)) M4.av u56 i56) M4.sl.defers ?_;exact⟨_,rfl,M4.st.bel.below,rfl⟩
 | false =>
  refine M3.t (ML (tv t)) [] [(0,6,tw t)] [tw t,tw t] [(2,.p 0 0),(3,.v (.bool false))] ⟨RG.ld u56 i56,RG.st,RG.st,RG.aI rfl rfl,RG.aI rfl rfl,RG.st,RG.pt i56,RG.st,trivial⟩ ?_;intro a4 w4 M4;refine wp_ret ?_;refine bodyPost_ret (v:=.tuple #[tv t,.bool false]) (RG.aO M4.st 2 3 53 rfl 0 _ rfl (M4.at (s:=.p 0 0)) (.bool false) M4.av u56 i56) M4.sl.defers ?_;exact⟨_,rfl,M4.st.bel.below,rfl⟩
omit [NeZero P] in
theorem vP:(wr (none:EC.Pt P))=o33:=by
 show mM=o33;decide +kernel
theorem II(C:Fl3 P)(b:Bs):((rd P b).isSome && !decide ((rdT P b).2.2=0))=real P b:=by
 unfold real;cases hr:rd P b with
 | none=>rfl
 | some p =>
  have hf:=Lf C hr;have hw:=J2 C.toFld hr;have hB:rdB P b=b:=by unfold rdB;rw[hr];rfl
  rw[hB]
  congr 2
  rw[decide_eq_decide];cases hp:pt p with
  | none =>
   rw[hp]at hf hw;rw[vP]at hw;exact⟨fun _=>hw.symm,fun _=>hf.1⟩
  | some q =>
   rw[hp]at hf hw;obtain⟨x,y⟩:=q;refine⟨fun h=>absurd h hf.1.1,fun h=>?_⟩;obtain⟨p1,h1,h2⟩:=yQ C.toFld (X:=some (x,y)) hf.2;obtain⟨p2,h3,h4⟩:=yQ C.toFld (X:=(none:EC.Pt P)) trivial;rw[hw,h,<-vP (P:=P),h3]at h1;rw[<-Qn.inj h1,h4]at h2;cases h2
theorem nP(C:Fl3 P)(s:ByteArray):Gives 18 #[.string s] (.tuple #[tv (rdT P s.data),.bool (real P s.data)]):=by
 rw[<-II C];exact IY _ s _ _ (IV C s.data) (Nx C _)
def OH(sk:ByteArray)(x:Nat)(ok:Bool):List RG.It:=[.x 14 [] (.string sk),.c 15 [(14,0)] (.tuple #[nv x,.bool ok]),.x 13 [(15,1)] (.tuple #[nv x,.bool ok]),.x 16 [(13,2)] (nv x),.x 17 [(13,2)] (.bool ok),.m 6 [] 0,.u [(6,5),(16,3)] 0,.x 7 [(17,4)] (.bool ok)]
def OG(ok:Bool):List RG.It:=[.x 18 [] (.bool ok),.x 19 [(18,0)] (.bool (!ok))]
def KE(e:Int):List RG.It:=[.x 4 [] (.string ⟨#[]⟩),.x 5 [] (.int .i64 e)]
def OE(b:ByteArray)(v:Value)(ok:Bool):List RG.It:=[.x 21 [] (.string b),.c 22 [(21,0)] (.tuple #[v,.bool ok]),.x 20 [(22,1)] (.tuple #[v,.bool ok]),.x 23 [(20,2)] v,.x 24 [(20,2)] (.bool ok),.m 8 [] 1,.u [(8,5),(23,3)] 1,.x 7 [(24,4)] (.bool ok)]
def OD(ok:Bool):List RG.It:=[.x 25 [] (.bool ok),.x 26 [(25,0)] (.bool (!ok))]
def OC(b:ByteArray)(x k c:Nat)(v va vb vc vd:Value)(A B F G:Bs):List RG.It:=[.x 32 [] (.string b),.x 33 [] (nv x),.c 34 [(33,1)] va,.c 35 [(34,2)] (.string ⟨A⟩),.x 36 [] (nv x),.x 37 [] v,.c 38 [(36,4),(37,5)] vb,.c 39 [(38,6)] (.string ⟨B⟩),.x 40 [] (nv k),.c 41 [(40,8)] vc,.c 42 [(41,9)] (.string ⟨F⟩),.x 43 [] (nv k),.x 44 [] v,.c 45 [(43,11),(44,12)] vd,.c 46 [(45,13)] (.string ⟨G⟩),.c 47 [(32,0),(35,3),(39,7),(42,10),(46,14)] (nv c),.m 11 [] 5,.u [(11,16),(47,15)] 5]
omit [NeZero P] in
theorem Nu(sk b:ByteArray)(x k c cx z:Nat)(o0 o1:Bool)(t ta tb tc td:T3 P)(A B F G U V:Bs)(hSec:Gives 17 #[.string sk] (.tuple #[nv x,.bool o0]))(hRe:Gives 18 #[.string b] (.tuple #[tv t,.bool o1]))
 (hgood:o0=true->o1=true->(∀(g:Nat) (w':World),w'.rangeAt g 0 [.string sk,.string b]/\g<w'.heap.size->Calls prog 49 #[.string ⟨#[110,111,110,99,101,32,115,97,109,101]⟩,.slice (some ⟨g,0,none⟩) 2 2] w' (Ret fun e w''=>Below w'.heap.size w' w''/\e=nv k)) /\
  Gives 24 #[nv x] (tv ta)/\Gives 21 #[tv ta] (.string ⟨A⟩)/\Gives 20 #[nv x,tv t] (tv tb)/\Gives 21 #[tv tb] (.string ⟨B⟩)/\Gives 24 #[nv k] (tv tc)/\Gives 21 #[tv tc] (.string ⟨F⟩)/\Gives 20 #[nv k,tv t] (tv td)/\Gives 21 #[tv td] (.string ⟨G⟩) /\
  Gives 26 #[.string b,.string ⟨A⟩,.string ⟨B⟩,.string ⟨F⟩,.string ⟨G⟩] (nv c)/\Gives 51 #[rv1,nv c,nv x] (nv cx)/\Gives 50 #[rv1,nv k,nv cx] (nv z)/\Gives 52 #[nv c] (.string ⟨U⟩)/\Gives 52 #[nv z] (.string ⟨V⟩)/\U.size=32/\V.size=32) :
 Gives 19 #[.string sk,.string b] (if o0 then if o1 then .tuple #[.string ⟨U++V⟩,.int .i64 0] else .tuple #[.string ⟨#[]⟩,.int .i64 4] else .tuple #[.string ⟨#[]⟩,.int .i64 3]):=by
 intro w;go_enter Tryz.func19,Tryz.ntmps19;refine RG.M.enter [(0,.v (.string sk)),(1,.v (.string b))] 60 (by kernel_rfl) ?_;intro a0 M0;repeat refine wp_seq ?_
 refine M0.u [.x 4 [] (.string ⟨#[]⟩),.x 5 [] (.int .i64 0)] [(0,.v (.string sk)),(1,.v (.string b))] ⟨RG.st,RG.st,trivial⟩ ?_;intro a1 w1 M1;repeat refine wp_seq ?_
 refine M1.t (OH sk x o0) [(5,RG.z 4)] [(0,6,wn x)] [wn x] [(0,.v (.string sk)),(1,.v (.string b)),(6,.p 0 0),(7,.v (.bool o0))] ⟨RG.st,RG.cl hSec,RG.st,RG.st,RG.st,RG.mk 0 49,RG.pt i33,RG.st,trivial⟩ ?_;intro j2 a2 w2 M2;repeat refine wp_seq ?_
 refine M2.u (OG o0) [(0,.v (.string sk)),(1,.v (.string b)),(6,.p 0 0),(19,.v (.bool (!o0)))] ⟨RG.st,RG.st,trivial⟩ ?_;intro a3 w3 M3;repeat refine wp_seq ?_
 cases o0 with
 | false =>
  refine wp_cond_true (M3.ev (v:=.bool true) (by kernel_rfl)) ?_;repeat refine wp_seq ?_
  refine M3.u (KE 3) [(4,.v (.string ⟨#[]⟩)),(5,.v (.int .i64 3))] ⟨RG.st,RG.st,trivial⟩ ?_;intro a4 w4 M4;refine wp_ret ?_;refine bodyPost_ret (v:=.tuple #[.string ⟨#[]⟩,.int .i64 3]) (RG.cP 4 5 rfl _ _ M4.av M4.av) M4.sl.defers ?_;exact⟨_,rfl,M4.st.bel.below,rfl⟩
 | true =>
  refine wp_cond_false (M3.ev (v:=.bool false) (by kernel_rfl)) ?_;refine wp_skip ?_;repeat refine wp_seq ?_
  refine M3.t (OE b (tv t) o1) [(5,RG.z 12)] [(1,6,tw t)] [wn x,tw t] [(0,.v (.string sk)),(1,.v (.string b)),(6,.p 0 0),(8,.p 1 0),(7,.v (.bool o1))] ⟨RG.st,RG.cl hRe,RG.st,RG.st,RG.st,RG.mk 1 53,RG.pt i56,RG.st,trivial⟩ ?_;intro j4 a4 w4 M4;repeat refine wp_seq ?_
  refine M4.u (OD o1) [(0,.v (.string sk)),(1,.v (.string b)),(6,.p 0 0),(8,.p 1 0),(26,.v (.bool (!o1)))] ⟨RG.st,RG.st,trivial⟩ ?_;intro a5 w5 M5;repeat refine wp_seq ?_
  cases o1 with
  | false =>
   refine wp_cond_true (M5.ev (v:=.bool true) (by kernel_rfl)) ?_;repeat refine wp_seq ?_
   refine M5.u (KE 4) [(4,.v (.string ⟨#[]⟩)),(5,.v (.int .i64 4))] ⟨RG.st,RG.st,trivial⟩ ?_;intro a6 w6 M6;refine wp_ret ?_;refine bodyPost_ret (v:=.tuple #[.string ⟨#[]⟩,.int .i64 4]) (RG.cP 4 5 rfl _ _ M6.av M6.av) M6.sl.defers ?_;exact⟨_,rfl,M6.st.bel.below,rfl⟩
  | true =>
   obtain⟨hCh,hBa,hWa,hTb,hWb,hBc,hWc,hTd,hWd,hAs,hM,hA,hU,hV,zU,zV⟩:=hgood rfl rfl;have hcat:=PK U V (by omega) (by omega);refine wp_cond_false (M5.ev (v:=.bool false) (by kernel_rfl)) ?_;refine wp_skip ?_;repeat refine wp_seq ?_
   refine M5.t [.c 27 [] rv1,.m 9 [] 2,.u [(9,1),(27,0)] 2] [(1,RG.z 8)] [(2,2,rl1)] [wn x,tw t,rl1] [(0,.v (.string sk)),(1,.v (.string b)),(6,.p 0 0),(8,.p 1 0),(9,.p 2 0)] ⟨RG.cl He,RG.mk 2 89,RG.pt i35,trivial⟩ ?_;intro j6 a6 w6 M6;repeat refine wp_seq ?_
   refine M6.t [.x 28 [] (.string sk),.x 29 [] (.string b),⟨some 30,[(28,0),(29,1)],.s 3 2 2,.make 3⟩,.c 31 [(30,2)] (nv k),.m 10 [] 4,.u [(10,4),(31,3)] 4] [(2,[.string sk,.string b]),(4,RG.z 4)] [(4,5,wn k)] [wn x,tw t,rl1,[.string sk,.string b],wn k] [(1,.v (.string b)),(6,.p 0 0),(8,.p 1 0),(9,.p 2 0),(10,.p 4 0)] ⟨RG.st,RG.st,RG.mk 3 9,RG.cr [3] (fun μ w' _ hs=>hCh (μ 3) w' (hs 3 (List.Mem.head _) _ rfl (List.cons_ne_nil _ _))) fun _ _=>by kernel_rfl,RG.mk 4 49,RG.pt i33,trivial⟩ ?_;intro j7 i7 a7 w7 M7;repeat refine wp_seq ?_
   refine M7.d (OC b x k c (tv t) (tv ta) (tv tb) (tv tc) (tv td) A B F G) [(16,RG.z 4)] [(5,17,wn c)] [wn x,tw t,rl1,[.string sk,.string b],wn k,wn c] [(6,.p 0 0),(9,.p 2 0),(10,.p 4 0),(11,.p 5 0)] ⟨RG.st,RG.ld u33 i33,RG.cl hBa,RG.cl hWa,RG.ld u33 i33,RG.ld u56 i56,RG.cl hTb,RG.cl hWb,RG.ld u33 i33,RG.cl hBc,RG.cl hWc,RG.ld u33 i33,RG.ld u56 i56,RG.cl hTd,RG.cl hWd,RG.cl hAs,RG.mk 5 49,RG.pt i33,trivial⟩ ?_;intro j8 a8 w8 M8;repeat refine wp_seq ?_
   refine M8.d [.x 48 [] rv1,.x 49 [] (nv k),.x 50 [] rv1,.x 51 [] (nv c),.x 52 [] (nv x),.c 53 [(50,2),(51,3),(52,4)] (nv cx),.c 54 [(48,0),(49,1),(53,5)] (nv z),.m 12 [] 6,.u [(12,7),(54,6)] 6] [(7,RG.z 4)] [(6,8,wn z)] [wn x,tw t,rl1,[.string sk,.string b],wn k,wn c,wn z] [(11,.p 5 0),(12,.p 6 0)] ⟨RG.ld u35 i35,RG.ld u33 i33,RG.ld u35 i35,RG.ld u33 i33,RG.ld u33 i33,RG.cl hM,RG.cl hA,RG.mk 6 49,RG.pt i33,trivial⟩ ?_;intro j9 a9 w9 M9;repeat refine wp_seq ?_
   refine M9.e [.x 55 [] (nv c),.c 56 [(55,0)] (.string ⟨U⟩),.x 57 [] (nv z),.c 58 [(57,2)] (.string ⟨V⟩),.x 59 [(56,1),(58,3)] (.string ⟨U++V⟩),.x 4 [(59,4)] (.string ⟨U++V⟩),.x 5 [] (.int .i64 0)] [(4,.v (.string ⟨U++V⟩)),(5,.v (.int .i64 0))] ⟨RG.ld u33 i33,RG.cl hU,RG.ld u33 i33,RG.cl hV,RG.aL rfl .add 9 9 56 58 (.string ⟨U⟩) (.string ⟨V⟩) (.string ⟨U++V⟩) rfl rfl RG.sx RG.sx (fun w=>by kernel_rfl) hcat,RG.st,RG.st,trivial⟩ ?_;intro a10 w10 M10;refine wp_ret ?_;refine bodyPost_ret (v:=.tuple #[.string ⟨U++V⟩,.int .i64 0]) (RG.cP 4 5 rfl _ _ M10.av M10.av) M10.sl.defers ?_;exact⟨_,rfl,M10.st.bel.below,rfl⟩
noncomputable def pmK (N:Nat) (sk b:Bs):Nat:=chL N Bw.data.toList [sk.toList,b.toList]
noncomputable def pmC (P:Nat) [NeZero P] (N:Nat) (sk b:Bs):Nat:=asm N b.toList (wr (EC.mul (nuV sk) (gG P))).toList (wr (EC.mul (nuV sk) (dQ P b))).toList (wr (EC.mul (pmK N sk b) (gG P))).toList (wr (EC.mul (pmK N sk b) (dQ P b))).toList
noncomputable def pmZ (P:Nat) [NeZero P] (N:Nat) (sk b:Bs):Nat:=sPl N (pmK N sk b) (sTi N (pmC P N sk b) (nuV sk))
noncomputable def pmT (P:Nat) [NeZero P] (N:Nat) (sk b:Bs):Bs × Int:=
 if sec N sk then if real P b then(bx (pmC P N sk b)++bx (pmZ P N sk b),0) else(#[],4) else(#[],3)
theorem Ls(O:Ord N)(sk b:Bs):pmK N sk b<N:=wF O _
theorem iL{b:Bs}(h:real P b=true):(rd P b).isSome=true:=by
 unfold real at h;exact((Qa _ _).mp h).1
theorem fS(C:Fl3 P){b:Bs}(h:real P b=true):wr (dQ P b)=b/\EC.On (dQ P b):=by
 obtain⟨p,hp⟩:=Qz.1 (iL h);rw[wM hp];exact⟨J2 C.toFld hp,(CL C.toFld hp).2⟩
theorem rL{sk:Bs}(h:sec N sk=true):rq N sk=some (nuV sk)/\nuV sk<N/\nuV sk≠0:=by
 unfold sec at h;rw[Qa]at h;obtain⟨h1,h2⟩:=h;obtain⟨n,hn⟩:=Qz.1 h1;have e:=rN hn;rw[<-e]at h2⊢;refine⟨hn,?_,by simpa using h2⟩;unfold rq at hn;split at hn
 ·rename_i h
  rw[<-Qn.inj hn];exact h.2
 ·cases hn
theorem Nv(C:Fl3 P)(O:Ord N)(sk b:ByteArray)(hsk:sk.size<=4096)(hb:b.size<=4096):Gives 19 #[.string sk,.string b] (.tuple #[.string ⟨(pmT P N sk.data b.data).1⟩,.int .i64 (pmT P N sk.data b.data).2]):=by
 have hCh:∀(g:Nat) (w':World),w'.rangeAt g 0 [.string sk,.string b]/\g<w'.heap.size->Calls prog 49 #[.string ⟨#[110,111,110,99,101,32,115,97,109,101]⟩,.slice (some ⟨g,0,none⟩) 2 2] w' (Ret fun e w''=>Below w'.heap.size w' w''/\e=nv (pmK N sk.data b.data)):=fun g w' h=>by
  refine Ec O ⟨#[110,111,110,99,101,32,115,97,109,101]⟩ (some ⟨g,0,none⟩) 2 [sk,b] w' (by decide) (Ss rfl) (Qc ⟨g,0,rfl,fun j hj=>?_⟩) (fun j hj=>?_) ?_
  ·have hj2:j=0\/j=1:=by simp at hj;omega
   rcases hj2 with rfl|rfl
   ·exact h.1 0 _ rfl
   ·exact h.1 1 _ rfl
  ·have hj2:j=0\/j=1:=by simp at hj;omega
   rcases hj2 with rfl|rfl
   ·show sk.size<=_;omega
   ·show b.size<=_;omega
  ·have h2:=SP.oG [110,111,110,99,101,32,115,97,109,101] ([sk,b].map fun s=>s.data.toList) 4096 (by decide) (fun p hp=>by
    simp only[List.map_cons,List.map_nil,QT,Qk,or_false]at hp;rcases hp with rfl|rfl
    ·rw[P5];exact hsk
    ·rw[P5];exact hb)
   refine Qj h2 ?_;show(2+1)*(4096+4)<=1048576;decide
 have hk:=Ls O sk.data b.data;have hkt:=PY hk O.le;have hz:pmZ P N sk.data b.data=sPl N (pmK N sk.data b.data) (sTi N (pmC P N sk.data b.data) (nuV sk.data)):=rfl;have hc:pmC P N sk.data b.data=asm N b.data.toList (wr (EC.mul (nuV sk.data) (gG P))).toList (wr (EC.mul (nuV sk.data) (dQ P b.data))).toList (wr (EC.mul (pmK N sk.data b.data) (gG P))).toList (wr (EC.mul (pmK N sk.data b.data) (dQ P b.data))).toList:=rfl;unfold pmT;generalize pmK N sk.data b.data=k at hCh hk hkt hz hc;have hcN:pmC P N sk.data b.data<N:=by rw[hc];exact tN O _ _ _ _ _
 generalize pmC P N sk.data b.data=c at hz hc hcN⊢;generalize pmZ P N sk.data b.data=z at hz⊢;have hmain:=fun ta tb tc td A B F G=>Nu (P:=P) sk b (nuV sk.data) k c (sTi N c (nuV sk.data)) z (sec N sk.data) (real P b.data) (rdT P b.data) ta tb tc td A B F G (bx c) (bx z) (uR O sk) (nP C b)
 cases hs:sec N sk.data with
 | false =>
  rw[hs]at hmain;exact hmain (rdT P b.data) (rdT P b.data) (rdT P b.data) (rdT P b.data) #[] #[] #[] #[] (fun h=>by cases h)
 | true =>
  cases hr:real P b.data with
  | false =>
   rw[hs,hr]at hmain;exact hmain (rdT P b.data) (rdT P b.data) (rdT P b.data) (rdT P b.data) #[] #[] #[] #[] (fun _ h=>by cases h)
  | true =>
   rw[hs,hr]at hmain;obtain⟨-,hxN,-⟩:=rL hs;have hxt:=PY hxN O.le;have hf:=gI C (iL hr);have hmul:∀n,n<top->FracT (tmF n (rdT P b.data) 256) (EC.mul n (dQ P b.data)):=fun n hn=>by
    have h:=uD C (n:=n) (by unfold top at hn;omega) hf 256 (PX _);rwa[Tv,Sa,U8]at h
   refine hmain _ _ _ _ _ _ _ _ (fun _ _=>⟨hCh,wL C _ hxt,dP C (vV C hxt),gK C _ hxt _ hf,dP C (hmul _ hxt),wL C _ hkt,dP C (vV C hkt),gK C _ hkt _ hf,dP C (hmul _ hkt),?_,Ln O hcN hxN,?_,yU O hcN,?_,aY _,aY _⟩)
   ·rw[hc];exact CQ O b ⟨_⟩ ⟨_⟩ ⟨_⟩ ⟨_⟩ (by omega) (by show(wr _).size<=_;rw[aN];decide) (by show(wr _).size<=_;rw[aN];decide) (by show(wr _).size<=_;rw[aN];decide) (by show(wr _).size<=_;rw[aN];decide)
   ·rw[hz];exact Lp O hk (O.ti _ _)
   ·have hzN:z<N:=by rw[hz];exact O.pl _ _
    exact yU O hzN
theorem dV{P:Program}{w:World}{fn:Func}{a:Act}(t u x:Tmp)(hr:fn.results=#[.tmp t,.tmp u,.tmp x])(v v' v'':Value)(ht:a.tmps[t]? = some v)(hu:a.tmps[u]? = some v')(hx:a.tmps[x]? = some v''):(results fn a.tmps).run P w=.ok (.tuple #[v,v',v'']) w:=by
 have h2:a.tmps.getD t undef=v:=by rw[P7,ht];rfl
 have h3:a.tmps.getD u undef=v':=by rw[P7,hu];rfl
 have h4:a.tmps.getD x undef=v'':=by rw[P7,hx];rfl
 unfold results;rw[hr];simp only[Array.mapM_eq_mapM_toList,List.mapM_cons,List.mapM_nil,h2,h3,h4];simp[Qm]
def Hr(e:Int):List RG.It:=[.x 4 [] (.string ⟨#[]⟩),.x 5 [] (.string ⟨#[]⟩),.x 6 [] (.int .i64 e)]
def OM(k:ByteArray)(x:Nat)(ok:Bool):List RG.It:=[.x 13 [] (.string k),.c 14 [(13,0)] (.tuple #[nv x,.bool ok]),.x 12 [(14,1)] (.tuple #[nv x,.bool ok]),.x 15 [(12,2)] (nv x),.x 16 [(12,2)] (.bool ok),.m 7 [] 0,.u [(7,5),(15,3)] 0,.x 8 [(16,4)] (.bool ok)]
def OL(ok:Bool):List RG.It:=[.x 17 [] (.bool ok),.x 18 [(17,0)] (.bool (!ok))]
def OK(b:ByteArray)(v:Value)(ok:Bool):List RG.It:=[.x 20 [] (.string b),.c 21 [(20,0)] (.tuple #[v,.bool ok]),.x 19 [(21,1)] (.tuple #[v,.bool ok]),.x 22 [(19,2)] v,.x 23 [(19,2)] (.bool ok),.m 9 [] 1,.u [(9,5),(22,3)] 1,.x 8 [(23,4)] (.bool ok)]
def OJ(ok:Bool):List RG.It:=[.x 24 [] (.bool ok),.x 25 [(24,0)] (.bool (!ok))]
def OI(x:Nat)(v vm:Value)(T U:Bs):List RG.It:=[.x 32 [] (nv x),.x 33 [] v,.c 34 [(32,0),(33,1)] vm,.c 35 [(34,2)] (.string ⟨T⟩),.x 36 [] (.string ⟨U⟩),.x 4 [(35,3)] (.string ⟨T⟩),.x 5 [(36,4)] (.string ⟨U⟩),.x 6 [] (.int .i64 0)]
omit [NeZero P] in
theorem Ns(k b:ByteArray)(x:Nat)(o0 o1:Bool)(t tm:T3 P)(T U:Bs)(e:Int)(hSec:Gives 17 #[.string k] (.tuple #[nv x,.bool o0]))(hRe:Gives 18 #[.string b] (.tuple #[tv t,.bool o1]))(hPm:Gives 19 #[.string k,.string b] (.tuple #[.string ⟨U⟩,.int .i64 e]))
 (hgood:o0=true->o1=true->Gives 20 #[nv x,tv t] (tv tm)/\Gives 21 #[tv tm] (.string ⟨T⟩)) :
 Gives 7 #[.string k,.string b] (if o0 then if o1 then .tuple #[.string ⟨T⟩,.string ⟨U⟩,.int .i64 0] else .tuple #[.string ⟨#[]⟩,.string ⟨#[]⟩,.int .i64 4] else .tuple #[.string ⟨#[]⟩,.string ⟨#[]⟩,.int .i64 3]):=by
 intro w;go_enter Tryz.func7,Tryz.ntmps7;refine RG.M.enter [(0,.v (.string k)),(1,.v (.string b))] 37 (by kernel_rfl) ?_;intro a0 M0;repeat refine wp_seq ?_
 refine M0.u (Hr 0) [(0,.v (.string k)),(1,.v (.string b))] ⟨RG.st,RG.st,RG.st,trivial⟩ ?_;intro a1 w1 M1;repeat refine wp_seq ?_
 refine M1.t (OM k x o0) [(5,RG.z 4)] [(0,6,wn x)] [wn x] [(0,.v (.string k)),(1,.v (.string b)),(7,.p 0 0),(8,.v (.bool o0))] ⟨RG.st,RG.cl hSec,RG.st,RG.st,RG.st,RG.mk 0 49,RG.pt i33,RG.st,trivial⟩ ?_;intro j2 a2 w2 M2;repeat refine wp_seq ?_
 refine M2.u (OL o0) [(0,.v (.string k)),(1,.v (.string b)),(7,.p 0 0),(18,.v (.bool (!o0)))] ⟨RG.st,RG.st,trivial⟩ ?_;intro a3 w3 M3;repeat refine wp_seq ?_
 cases o0 with
 | false =>
  refine wp_cond_true (M3.ev (v:=.bool true) (by kernel_rfl)) ?_;repeat refine wp_seq ?_
  refine M3.u (Hr 3) [(4,.v (.string ⟨#[]⟩)),(5,.v (.string ⟨#[]⟩)),(6,.v (.int .i64 3))] ⟨RG.st,RG.st,RG.st,trivial⟩ ?_;intro a4 w4 M4;refine wp_ret ?_;refine bodyPost_ret (v:=.tuple #[.string ⟨#[]⟩,.string ⟨#[]⟩,.int .i64 3]) (dV 4 5 6 rfl _ _ _ M4.av M4.av M4.av) M4.sl.defers ?_;exact⟨_,rfl,M4.st.bel.below,rfl⟩
 | true =>
  refine wp_cond_false (M3.ev (v:=.bool false) (by kernel_rfl)) ?_;refine wp_skip ?_;repeat refine wp_seq ?_
  refine M3.t (OK b (tv t) o1) [(5,RG.z 12)] [(1,6,tw t)] [wn x,tw t] [(0,.v (.string k)),(1,.v (.string b)),(7,.p 0 0),(9,.p 1 0),(8,.v (.bool o1))] ⟨RG.st,RG.cl hRe,RG.st,RG.st,RG.st,RG.mk 1 53,RG.pt i56,RG.st,trivial⟩ ?_;intro j4 a4 w4 M4;repeat refine wp_seq ?_
  refine M4.u (OJ o1) [(0,.v (.string k)),(1,.v (.string b)),(7,.p 0 0),(9,.p 1 0),(25,.v (.bool (!o1)))] ⟨RG.st,RG.st,trivial⟩ ?_;intro a5 w5 M5;repeat refine wp_seq ?_
  cases o1 with
  | false =>
   refine wp_cond_true (M5.ev (v:=.bool true) (by kernel_rfl)) ?_;repeat refine wp_seq ?_
   refine M5.u (Hr 4) [(4,.v (.string ⟨#[]⟩)),(5,.v (.string ⟨#[]⟩)),(6,.v (.int .i64 4))] ⟨RG.st,RG.st,RG.st,trivial⟩ ?_;intro a6 w6 M6;refine wp_ret ?_;refine bodyPost_ret (v:=.tuple #[.string ⟨#[]⟩,.string ⟨#[]⟩,.int .i64 4]) (dV 4 5 6 rfl _ _ _ M6.av M6.av M6.av) M6.sl.defers ?_;exact⟨_,rfl,M6.st.bel.below,rfl⟩
  | true =>
   obtain⟨hm,hw⟩:=hgood rfl rfl;refine wp_cond_false (M5.ev (v:=.bool false) (by kernel_rfl)) ?_;refine wp_skip ?_;repeat refine wp_seq ?_
   refine M5.u [.x 27 [] (.string k),.x 28 [] (.string b),.c 29 [(27,0),(28,1)] (.tuple #[.string ⟨U⟩,.int .i64 e]),.x 26 [(29,2)] (.tuple #[.string ⟨U⟩,.int .i64 e]),.x 30 [(26,3)] (.string ⟨U⟩),.x 31 [(26,3)] (.int .i64 e),.x 10 [(30,4)] (.string ⟨U⟩),.x 11 [(31,5)] (.int .i64 e)] [(7,.p 0 0),(9,.p 1 0),(10,.v (.string ⟨U⟩))] ⟨RG.st,RG.st,RG.cl hPm,RG.st,RG.st,RG.st,RG.st,RG.st,trivial⟩ ?_;intro a6 w6 M6;repeat refine wp_seq ?_
   refine M6.u (OI x (tv t) (tv tm) T U) [(4,.v (.string ⟨T⟩)),(5,.v (.string ⟨U⟩)),(6,.v (.int .i64 0))] ⟨RG.ld u33 i33,RG.ld u56 i56,RG.cl hm,RG.cl hw,RG.st,RG.st,RG.st,RG.st,trivial⟩ ?_;intro a7 w7 M7;refine wp_ret ?_;refine bodyPost_ret (v:=.tuple #[.string ⟨T⟩,.string ⟨U⟩,.int .i64 0]) (dV 4 5 6 rfl _ _ _ M7.av M7.av M7.av) M7.sl.defers ?_;exact⟨_,rfl,M7.st.bel.below,rfl⟩
noncomputable def bsT (P:Nat) [NeZero P] (N:Nat) (k b:Bs):Bs × Bs × Int:=
 if sec N k then if real P b then(wr (EC.mul (nuV k) (dQ P b)),(pmT P N k b).1,0) else(#[],#[],4) else(#[],#[],3)
theorem Nt(C:Fl3 P)(O:Ord N)(k b:ByteArray)(hk:k.size<=4096)(hb:b.size<=4096):Gives 7 #[.string k,.string b] (.tuple #[.string ⟨(bsT P N k.data b.data).1⟩,.string ⟨(bsT P N k.data b.data).2.1⟩,.int .i64 (bsT P N k.data b.data).2.2]):=by
 unfold bsT;have hmain:=fun tm T=>Ns (P:=P) k b (nuV k.data) (sec N k.data) (real P b.data) (rdT P b.data) tm T _ _ (uR O k) (nP C b) (Nv C O k b hk hb)
 cases hs:sec N k.data with
 | false =>
  rw[hs]at hmain;exact hmain (rdT P b.data) #[] (fun h=>by cases h)
 | true =>
  cases hr:real P b.data with
  | false =>
   rw[hs,hr]at hmain;exact hmain (rdT P b.data) #[] (fun _ h=>by cases h)
  | true =>
   rw[hs,hr]at hmain;obtain⟨-,hxN,-⟩:=rL hs;have hxt:=PY hxN O.le;have hf:=gI C (iL hr);have fm:FracT (tmF (nuV k.data) (rdT P b.data) 256) (EC.mul (nuV k.data) (dQ P b.data)):=by
    have h:=uD C (n:=nuV k.data) (by unfold top at hxt;omega) hf 256 (PX _);rwa[Tv,Sa,U8]at h
   exact hmain _ _ (fun _ _=>⟨gK C _ hxt _ hf,dP C fm⟩)
end
section
open Go.RowKit Go.Sort Go.Deep Go.Shelf
attribute [local go_sem] U5
def chv(sb so c i:Nat):Value:=.slice (some ⟨sb,so+c*i,none⟩) c c
theorem Gm{w w':World}(h:Below w.heap.size w w')(row:Option Nat):w.grownBy w' row:=⟨h.os,h.tape,h.output,h.size,fun k hk _=>h.block k hk⟩
theorem sl3(sb so n cap x y:Nat)(h1:x<y)(h2:y<=cap)(w:World):(Rk 22 (.slice (some ⟨sb,so,none⟩) n cap) (some (.int .i64 x)) (some (.int .i64 y)) (some (.int .i64 y))).run prog w=.ok (.slice (some ⟨sb,so+x,none⟩) (y-x) (y-x)) w:=by
 have h3:¬y=x:=by omega
 have h4:(x:Int)<=y:=by omega
 have h5:(y:Int)<=cap:=by omega
 have h6:x<=y:=by omega
 go_simp
theorem JC(sb so c m n cap k1 k2:Nat)(w:World)(hc:0<c)(hn:n=c*m)(hcap:n<=cap)(hbig:n<=1073741824)(h1:w.cell? ⟨k1,0,none⟩=some (.slice (some ⟨sb,so,none⟩) n cap))(h2:w.cell? ⟨k2,0,none⟩=some (.int .i64 c))(l1:k1<w.heap.size)(l2:k2<w.heap.size)(nn:Nat):
 SeqStopsK VI nn prog 115 #[.pointer (some ⟨k1,0,none⟩),.pointer (some ⟨k2,0,none⟩)] (fun i:Nat=>#[chv sb so c i]) (Below w.heap.size) (fun xs=>xs=QJ m) (fun _=>True) m w:=by
 intro l J Jx W hW hJ hJx hY h0;have HN:Hid (n=c*m):=hn;clear hn;refine callsIn_of_wp Tryz.func115 rfl trivial ?_ rfl;simp only[Tryz.ntmps115,Qr,QB,S8,Tb,WL,Vs,Vr,VU,VE,U2,UR]
 gi_wp2
 gi_loopw [4] (fun p wr=>∃i:Nat,i<=m/\p=.int .i64 ((c*i:Nat):Int)/\J (QJ i) wr/\Below w.heap.size w wr/\W.heap.size<=wr.heap.size) (fun p wr=>n-(intOf p).toNat)
 case atStart =>
  exact⟨0,Rh _,by rw[Nat.mul_zero];rfl,h0,hW,PX _⟩
 case round =>
  obtain⟨i,hi,rfl,hJi,hB,hsz⟩:=hrel;have c1:wr.cell? ⟨k1,0,none⟩=some (.slice (some ⟨sb,so,none⟩) n cap):=(QD (hB.block k1 l1)).trans h1;have c2:wr.cell? ⟨k2,0,none⟩=some (.int .i64 c):=(QD (hB.block k2 l2)).trans h2;by_cases he:i=m
  ·subst he;have hge:¬((c*i:Nat):Int)<(n:Int):=by rw[HN.out];omega
   gi_wp2
   go_end0
   exact⟨⟨_,rfl⟩,.inl hJi⟩
  ·obtain⟨x,hx⟩:∃x,Hid (c*i=x):=⟨_,rfl⟩
   have hxn:x+c<=n:=by
    have:=Nat.mul_le_mul_left c (show i+1<=m by omega);rw[Sq,hx.out,<-HN.out]at this;omega
   have hlt:(x:Int)<(n:Int):=by omega
   rw[hx.out]
   gi_wp2_with fail
   refine wpIn_wide.2 ?_;have hsl:(Rk 22 (.slice (some ⟨sb,so,none⟩) n cap) (some (.int .i64 x)) none none).run prog wr.drew=.ok (.slice (some ⟨sb,so+x,none⟩) (n-x) (cap-x)) wr.drew:=by
    have h1:¬(x:Int)<0:=by omega
    have h2:(x:Int)<=n:=by omega
    have h3:(n:Int)<=cap:=by omega
    have h4:¬cap=x:=by omega
    go_simp
   have c1':wr.drew.cell? ⟨k1,0,none⟩=some (.slice (some ⟨sb,so,none⟩) n cap):=c1;have c2':wr.drew.cell? ⟨k2,0,none⟩=some (.int .i64 c):=c2;go_region
   rename_i K ha
   refine ha _ _ ?_;clear ha hsl c1' c2' hlt;obtain⟨fn,tmps,assign,body,hy,hR⟩:=hY (QJ i) i wr.drew (hJ _ wr _ none hJi (Gm ((Qd _ wr).drew) none) (fun _ e=>by cases e)) (by rw[SL];omega);have c1':wr.drew.cell? ⟨k1,0,none⟩=some (.slice (some ⟨sb,so,none⟩) n cap):=c1;have c2':wr.drew.cell? ⟨k2,0,none⟩=some (.int .i64 c):=c2;have hsl:∀w:World,(Rk 22 (.slice (some ⟨sb,so,none⟩) n cap) (some (.int .i64 x)) (some (.int .i64 ((x+c:Nat):Int))) (some (.int .i64 ((x+c:Nat):Int)))).run prog w=.ok (.slice (some ⟨sb,so+x,none⟩) c c) w:=fun w=>by
    have:=sl3 sb so n cap x (x+c) (by omega) (by omega) w;rwa[show x+c-x=c by omega]at this
   unfold chv at hy;rw[hx.out]at hy
   gi_wp2_with fail
   clear hy;refine⟨fun h=>(by cases h),hR.mono ?_⟩;clear hR hsl c1' c2' c1;have hBd:Below w.heap.size w wr.drew:=hB.drew;rintro e W8 (⟨rfl,hJ8,hk8⟩|⟨rfl,hJx8⟩)
   ·have c3:W8.cell? ⟨k2,0,none⟩=some (.int .i64 c):=(QD ((hBd.trans hk8).block k2 l2)).trans h2
    gi_wp2_with fail
    refine⟨⟨i+1,by omega,?_,?_,hBd.trans hk8,Qj hsz hk8.size⟩,?_⟩
    ·rw[Sq,hx.out,Se];rfl
    ·rw[List.range_succ];exact hJ8
    ·simp[intOf];omega
   ·gi_wp2_with fail
    refine bodyPost_ret (results_none rfl _ _ _) rfl ?_;exact⟨⟨_,rfl⟩,.inr ⟨_,trivial,hJx8⟩⟩
end
section
open Go.RowKit Go.Sort Go.Deep Go.Shelf
attribute [local go_sem] U5
theorem yZ(base:Nat)(T:TypeId)(v:Value)(n:Nat)(xs:List Value):Own (fun(_:Unit) W=>W.ownsRow base T 1 v n xs):=fun s A B row hs hg hr=>by
 refine hs.kept hg ?_;rcases hs.2 with⟨rfl,_⟩|⟨g,cap,cur,rfl,_,hgb,_⟩
 ·exact .inl rfl
 ·refine .inr fun e'=>?_
  obtain⟨o,ho,hw⟩:=hr g (by simpa[Sf]using e'.symm);rw[hgb]at ho;cases ho;cases hw
theorem iV{W:World}{base:Nat}{T U:TypeId}{v:Value}{n k:Nat}{xs:List Value}(h:W.ownsRow base T 1 v n xs){o:Obj}(hk:W.heap[k]? = some o)(hT:∀cs,o≠.cells cs T (0,0)):v.ownBlock=none\/v.ownBlock≠some k:=by
 rcases h.2 with⟨rfl,_⟩|⟨g,cap,cur,rfl,_,hgb,_⟩
 ·exact .inl rfl
 ·refine .inr fun e'=>?_
  have:g=k:=by simpa[Sf]using e'
  subst this;rw[hgb]at hk;cases hk;exact hT cur rfl
theorem Gi{W W':World}{base:Nat}{T:TypeId}{v:Value}{n:Nat}{xs:List Value}(h:W.ownsRow base T 1 v n xs)(hg:W.grownBy W' v.ownBlock):KeepsOthers W W':=by
 refine⟨hg.size,fun k o hk ho=>?_⟩;rw[hg.block k (Ql.1 hk).1 ?_]
 ·exact hk
 ·rcases h.2 with⟨rfl,_⟩|⟨g,cap,cur,rfl,_,hgb,_⟩
  ·simp[Sf]
  ·intro e;have:k=g:=by simpa[Sf]using e
   subst this;rw[hgb]at hk;cases hk;cases ho
def Box(T U:TypeId)(base Bs:Nat)(xs:List Value)(W:World):Prop:=∃v,W.heap[Bs]? = some (.cells #[v] U (0,0))/\W.ownsRow base T 1 v xs.length xs/\(v=.slice none 0 0↔xs=[])
theorem JK(T U:TypeId)(base Bs:Nat)(xs:List Value):Own (fun(_:Unit) W=>Box T U base Bs xs W):=fun s A B row hs hg hr=>by
 obtain⟨v,h1,h2,h3⟩:=hs;refine⟨v,?_,yZ base T v _ xs () A B row h2 hg hr,h3⟩;rw[hg.block Bs (Ql.1 h1).1 ?_]
 ·exact h1
 ·intro e;obtain⟨o,ho,hw⟩:=hr Bs e.symm;rw[h1]at ho;cases ho;cases hw
theorem JJ{W:World}{B:Nat}{v:Value}{t:TypeId}(v':Value)(h:W.heap[B]? = some (.cells #[v] t (0,0))):(W.setCell ⟨B,0,none⟩ v').heap[B]? = some (.cells #[v'] t (0,0)):=by
 obtain⟨hlt,hk⟩:=Ql.1 h;show(W.heap.modify B _)[B]? = _;rw[Qp (by rw[Array.size_modify];exact hlt),Array.getElem_modify_self,hk];rfl
theorem EB(W:World)(b:Nat)(v:Value):W.grownBy (W.setCell ⟨b,0,none⟩ v) (some b):=
 ⟨rfl,rfl,rfl,(U6 W _ v).size,fun k _ hk=>Below.heap_setCell _ _ _ k (fun e=>hk (by rw[e]))⟩
theorem iBy:(prog.info? 22).map (fun i=>(i.zero,i.size,i.bytes))=some (some (.slice none 0 0),1,24):=by kernel_rfl
theorem uBB:prog.underlying 31=some (.slice 22):=by kernel_rfl
theorem Av(g:Nat->Addr)(c:Nat)(gf:Nat)(eg:∀args w,(callFunc gf args).run prog w=.ok (.enter gf args) w)(lb:Array Value)(N:Nat)(hN:N<=1048576)(w:World)
 (hseq:∀n,SeqStopsK VI n prog gf lb (fun i:Nat=>#[.slice (some (g i)) c c]) (Below w.heap.size) (fun xs=>xs=QJ N) (fun _=>True) N w) :
 Calls prog 114 #[.slice none 0 0,.func (.func gf) #[] lb] w (Ret fun e w'=>Below w.heap.size w w'/\w'.ownsRow w.heap.size 22 1 e N ((QJ N).map (fun i=>SC (some (g i)) c c))/\(e=.slice none 0 0↔N=0)):=by
 obtain⟨i0,hi,hz0,hz1,hz2⟩:=info_parts iBy;refine(callsIn_wide (n:=5)).1 ?_;refine callsIn_of_wp_marks Tryz.func114 rfl trivial ?_ rfl;simp only[Tryz.ntmps114,Qr,QB,S8,Tb,WL,Vs,Vr,VU,VE,U2,UR]
 gi_wp2
 obtain⟨W0,hW0⟩:∃W0,W0=w.alloc (.cells #[.slice none 0 0] 31):=⟨_,rfl⟩
 have hsz:W0.heap.size=w.heap.size+1:=by rw[hW0,P4]
 have hv0:W0.heap[w.heap.size]? = some (.cells #[.slice none 0 0] 31 (0,0)):=by rw[hW0];exact World.alloc_heap_new w _
 have hB0:Below w.heap.size w W0:=by rw[hW0];exact(Qd _ w).alloc (PX _) _
 rw[<-hW0];clear hW0;refine wpIn_rangeFunc_ownH (α:=Nat) rfl (by decide) (gf:=gf) (lb:=lb) rfl trivial eg (hseq 4) belowK_t (belowK_b (by omega)) hB0 (fun _=>rfl)
  (fun pre W=>Box 22 31 w.heap.size w.heap.size (pre.map (fun i=>SC (some (g i)) c c)) W/\Below w.heap.size w W)
  (fun c pre W=>False)
  (OwnFrom.and (Own.from (show Own (fun(pre:List Nat) W=>Box 22 31 w.heap.size w.heap.size (pre.map (fun i=>SC (some (g i)) c c)) W) from fun s A B row hs hg hr=>JK 22 31 w.heap.size w.heap.size (s.map (fun i=>SC (some (g i)) c c)) () A B row hs hg hr) _) (ownFrom_below (PX _) (by omega)))
  (fun c=>fun s A B row hs hg hr=>hs.elim)
  ⟨⟨_,hv0,⟨rfl,.inl ⟨rfl,rfl⟩⟩,by simp⟩,hB0⟩
  (fun x a' W=>a' = { tmps:=#[.slice none 0 0,.func (.func gf) #[] lb,.pointer (some ⟨w.heap.size,0,none⟩),undef,.slice none 0 0,(.slice (some (g x)) c c),.func (.func gf) #[] lb,(.slice (some (g x)) c c),undef,undef,undef,undef,undef],defers:=[] })
  (fun x a'=>fun s A B row hs hg hr=>hs) ?assign ?body ?done ?stop
 case assign =>
  intro l pre x W K hI hK
  gi_wp2
  exact hK _ _ (KeepsFrom.refl _ _) (Qd _ _) hI rfl
 case body =>
  rintro l pre x a' W hl ⟨r,hr⟩ ⟨⟨v,hv,hrow,hnil⟩,hB⟩ rfl hlt;have hc:W.cell? ⟨w.heap.size,0,none⟩=some v:=by simp[Rs,hv]
  have hfz:W.frozen? ⟨w.heap.size,0,none⟩=false:=by simp[S6,hv]
  have hBlt:w.heap.size<W.heap.size:=(Ql.1 hv).1;have hlen:(pre.map (fun i=>SC (some (g i)) c c)).length=pre.length:=Qi _;have hrow2:(W.alloc (.cells #[(.slice (some (g x)) c c)] 22)).ownsRow w.heap.size 22 1 v (pre.map (fun i=>SC (some (g i)) c c)).length (pre.map (fun i=>SC (some (g i)) c c)):=hrow.alloc _;have hv2:(W.alloc (.cells #[(.slice (some (g x)) c c)] 22)).heap[w.heap.size]? = some (.cells #[v] 31 (0,0)):=(VY _ _ _ hBlt).trans hv;have hap:=iV (U:=0) hrow2 hv2 (fun cs e=>by cases e)
  gi_wp2_with (gi_at_builtin;refine Hid.out ?_)
  show wpListIn _ _ _ _ _ _ _ _
  (refine wpListIn_append_own _ rfl _ _ 31 rfl w.heap.size 22 i0 (.slice none 0 0) 1 24 uBB hi hz0 hz1 hz2 rfl (by decide) v _ _ rfl hrow2 ⟨W.heap.size,0,none⟩ 1 1 [(.slice (some (g x)) c c)] rfl rfl (cell_one_new _ _ _) (fun u hu=>by rw[List.mem_singleton.1 hu];rfl) (by rw[hlen];exact Qj (show pre.length+1<=1048577 by omega) (by decide)) (by rw[hlen];omega) (by simp;omega) ?_;intro v' w3 hown' hg3 hnil3)
  have hne:(some w.heap.size:Option Nat)≠v.ownBlock:=by
   rcases hap with e|e
   ·rw[e];simp
   ·exact fun e'=>e e'.symm
  have hv3:w3.heap[w.heap.size]? = some (.cells #[v] 31 (0,0)):=(hg3.block _ (by rw[P4];omega) hne).trans hv2;have hc3:w3.cell? ⟨w.heap.size,0,none⟩=some v:=by simp[Rs,hv3]
  have hf3:w3.frozen? ⟨w.heap.size,0,none⟩=false:=by simp[S6,hv3]
  have hk3:KeepsOthers W w3:=(KeepsOthers.alloc W _).trans (Gi hrow2 hg3);have hb3:Below w.heap.size W w3:=((Qd _ W).alloc (Nat.le_of_lt hBlt) _).grown hg3 (by rw[P4];omega) (fun k e=>(hrow2.lt k e).1);obtain⟨g',cap',cur',rfl,hbase',hgb',hr⟩:∃g' cap' cur',v'=.slice (some ⟨g',0,none⟩) ((pre.map (fun i=>SC (some (g i)) c c)).length+1) cap'/\w.heap.size<=g'/\w3.heap[g']? = some (.cells cur' 22 (0,0))/\True:=by
   rcases hown'.2 with⟨_,h0⟩|⟨g',cap',cur',h1,h2,h3,_⟩
   ·exact absurd h0 (by omega)
   ·exact⟨g',cap',cur',h1,h2,h3,trivial⟩
  clear hg3 hc hfz hv hv2 hrow hrow2
  gi_wp2
  have hgB:=EB w3 w.heap.size (.slice (some ⟨g',0,none⟩) (pre.length+1) cap');have hBx:=JJ (.slice (some ⟨g',0,none⟩) (pre.length+1) cap') hv3;rw[hlen]at hown';have hown4:=hown'.kept hgB (iV (U:=0) hown' hv3 (fun cs e=>by cases e));have hb4:Below w.heap.size W (w3.setCell ⟨w.heap.size,0,none⟩ (.slice (some ⟨g',0,none⟩) (pre.length+1) cap')):=hb3.grown hgB (Qj hB.size hb3.size) (fun k e=>by cases e;exact PX _);refine⟨(hk3.trans (U6 w3 _ _)).from _,hb4,⟨_,hBx,?_,?_⟩,hB.trans hb4⟩
  ·rw[List.map_append,P9,hlen];exact hown4
  ·simp
 case done =>
  rintro D ys W hD rfl ⟨⟨v,hv,hrow,hnil⟩,hB⟩ hK;have hc:W.cell? ⟨w.heap.size,0,none⟩=some v:=by simp[Rs,hv]
  gi_wp2
  refine⟨by simp,.inl ⟨_,_,rfl,run_takeDeferred hK,?_⟩⟩;have hgD:=grownBy_putObj' W D (.deferred none);rw[Qi,SL]at hrow;refine⟨_,results_tmp rfl _ _ _,v,rfl,hB.grown hgD hB.size (fun k e=>by cases e;omega),hrow.kept hgD (iV (U:=0) hrow hK (fun cs e=>by cases e)),?_⟩;rw[hnil];simp
 case stop =>
  rintro D c pre W hD hpre hF hK;exact hF.elim
theorem Ev(g:Nat->Addr)(c:Nat)(gf:Nat)(eg:∀args w,(callFunc gf args).run prog w=.ok (.enter gf args) w)(lb:Array Value)(N:Nat)(hN:N<=1048576)(w:World)
 (hseq:∀n,SeqStopsK VI n prog gf lb (fun i:Nat=>#[.slice (some (g i)) c c]) (Below w.heap.size) (fun xs=>xs=QJ N) (fun _=>True) N w) :
 Calls prog 78 #[.func (.func gf) #[] lb] w (Ret fun e w'=>Below w.heap.size w w'/\w'.ownsRow w.heap.size 22 1 e N ((QJ N).map (fun i=>SC (some (g i)) c c))/\(e=.slice none 0 0↔N=0)):=by
 go_enter Tryz.func78,Tryz.ntmps78;go_wp2_with fail
 refine(Av g c gf eg lb N hN w hseq).mono ?_;rintro e w1 ⟨v,rfl,hb,hr,hn⟩;go_wp2_with fail
 go_ret;exact⟨_,rfl,hb,hr,hn⟩
theorem Af(sb so c m n cap:Nat)(w:World)(hc:0<c)(hn:n=c*m)(hm:m<=1024)(hcap:n<=cap)(hbig:n<=1073741824)(k:Nat)(hk:k+1<w.heap.size)(h1:w.cell? ⟨k,0,none⟩=some (.slice (some ⟨sb,so,none⟩) n cap))(h2:w.cell? ⟨k+1,0,none⟩=some (.int .i64 c)):
 Calls prog 78 #[.func (.func 115) #[] #[.pointer (some ⟨k,0,none⟩),.pointer (some ⟨k+1,0,none⟩)]] w (Ret fun e w'=>Below w.heap.size w w'/\w'.ownsRow w.heap.size 22 1 e m ((QJ m).map (chv sb so c))/\(e=.slice none 0 0↔m=0)):=
 Ev (fun i=>⟨sb,so+c*i,none⟩) c _ (enters_of Tryz.func115 (by kernel_rfl) rfl) _ m (by omega) w (JC sb so c m n cap k (k+1) w hc hn hcap hbig h1 h2 (by omega) hk)
theorem Ag(sb so n cap:Nat)(c:Nat)(hc:0<c)(w:World):Calls prog 79 #[.slice (some ⟨sb,so,none⟩) n cap,.int .i64 c] w (Ret fun e w'=>e=.func (.func 115) #[] #[.pointer (some ⟨w.heap.size,0,none⟩),.pointer (some ⟨w.heap.size+1,0,none⟩)]/\w'=(w.alloc (.cells #[.slice (some ⟨sb,so,none⟩) n cap] 22)).alloc (.cells #[.int .i64 c] 3)):=by
 have h1:¬(c:Int)<1:=by omega
 go_enter Tryz.func79,Tryz.ntmps79;go_wp2;go_ret;exact⟨_,rfl,rfl,rfl⟩
end
section
open Go.RowKit Go.Sort Go.Deep
variable {P:Nat}[NeZero P]{N:Nat}
theorem nK{b:Bs}(h:real P b=true):b.size=33:=by
 unfold real at h;obtain⟨p,hp⟩:=Qz.1 ((Qa _ _).mp h).1;exact FA hp
theorem IB(C:Fld P)(v:Value)(b:Bs)(w:World)(hv:Arg33 w v b)(hr:real P b=true):Calls prog 11 #[v] w (Ret fun e w'=>Below w.heap.size w w'/\e=.tuple #[pvl b,.bool true]):=by
 have:=lP C v b w hv;have hB:rdB P b=b:=by
  unfold rdB;unfold real at hr;rw[if_pos ((Qa _ _).mp hr).1]
 rw[hr,hB]at this;exact this
theorem IC(C:Fld P)(v:Value)(b:Bs)(w:World)(hv:Arg33 w v b)(hr:real P b=false):Calls prog 11 #[v] w (Ret fun e w'=>Below w.heap.size w w'/\e=.tuple #[.agg z33.toArray,.bool false]):=by
 have:=lP C v b w hv;have hB:rdB P b=o33:=by
  unfold real at hr;cases h:(rd P b).isSome with
  | false=>unfold rdB;rw[h];rfl
  | true =>
   rw[h]at hr;simpa using hr
 rw[hr,hB,<-wQ]at this;exact this
def PU(P:Nat)[NeZero P](w:World)(k:Nat)(L:Nat->Bs)(e:Value)(w':World):Prop:=
 Below w.heap.size w w'/\(((∀j,j<k->real P (L j)=true)/\∃K,e=.tuple #[.slice (some ⟨K,0,none⟩) k k,.bool true]/\w.heap.size<=K/\K<w'.heap.size/\w'.there K 0 (33*k)/\∀j,j<k->w'.rangeAt K (33*j) (aC (L j)))\/((∃j,j<k/\real P (L j)=false)/\e=.tuple #[.slice none 0 0,.bool false]))
theorem Ms(C:Fld P)(gg k c:Nat)(hk:k<=512)(L:Nat->Bs)(w:World)(hg:gg<w.heap.size)(hL:∀j,j<k->∃v,w.cell? ⟨gg,j,none⟩=some v/\Arg33 w v (L j)):
 Calls prog 40 #[.func (.func 11) #[] #[],.slice (some ⟨gg,0,none⟩) k c] w (Ret (PU P w k L)):=by
 obtain⟨C0,hC0,hmk⟩:=NJ k hk;have hmk':=hmk w;obtain⟨w1,hw1⟩:∃w1,Hid (w.alloc (.cells C0.toArray 38)=w1):=⟨_,rfl⟩
 rw[hw1.out]at hmk';have HM:=Hid.mk' hmk';have K1:Hid (Az w w1 w.heap.size k 0 L):=by
  have hR:Row w1 w.heap.size C0:=by rw[<-hw1.out];exact aJ w _ _
  refine⟨by rw[<-hw1.out];exact aH _ _,hR.1,by rw[<-hC0];exact hR.2.2,fun j hj=>by omega⟩
 have HC:Hid (Fld P/\(∀j,j<k->∃v,w.cell? ⟨gg,j,none⟩=some v/\Arg33 w v (L j))/\gg<w.heap.size):=⟨C,hL,hg⟩
 obtain⟨d,hd1,hd2⟩:=PZ.1 uCP;have HD:Hid (prog.underlying 38=some d/\d.isRow=true):=⟨hd1,hd2⟩
 have HO:Hid (z33.toArray.all (·.oneCell')=true):=by show _=_;decide +kernel
 clear hd1 hd2 C hL hg hmk hC0 hw1;go_enter Tryz.func40,Tryz.ntmps40;go_wp2;clear hmk';go_loopg [16] k (fun m s16 W=>∃i:Nat,i+m=k/\s16=.int .i64 i/\Hid (Az w W w.heap.size k i L/\∀j,j<i->real P (L j)=true))
 case atStart=>exact⟨0,by omega,rfl,K1.out,fun j hj=>by omega⟩
 case round =>
  clear K1 HM;obtain⟨i,hik,rfl,KM⟩:=hrel;by_cases hi:i<k
  ·have hi':(i:Int)<(k:Int):=by omega
   obtain⟨v,hc0,hA0⟩:=HC.out.2.1 i hi;have hc:wr.cell? ⟨gg,i,none⟩=some v:=by rw[KM.out.1.bl.cell (p:=⟨gg,i,none⟩) HC.out.2.2];exact hc0
   have HA:Hid (Arg33 wr v (L i)):=hA0.below KM.out.1.bl;have hix:=atB gg 0 k c i hi;rw[show 0+1*i=i by omega]at hix;clear hc0 hA0;obtain⟨b,hbe⟩:∃b,Hid (L i=b):=⟨_,rfl⟩
   rw[hbe.out]at HA;obtain⟨k9,hk9⟩:∃k9:Nat,True:=⟨0,trivial⟩
   clear hk9 k9;cases hr:real P b with
   | false =>
    go_wp2_with fail
    refine(IC HC.out.1 v b wr HA.out hr).mono ?_;rintro e W1 ⟨vv,rfl,hb1,rfl⟩;obtain⟨vz,hvz⟩:∃vz,Hid (QA z33.toArray=vz):=⟨_,rfl⟩
    rw[hvz.out];obtain⟨k9,hk9⟩:∃k9,Hid (W1.heap.size=k9):=⟨_,rfl⟩
    obtain⟨W2,hW2⟩:∃W2,Hid (W1.alloc (.cells z33.toArray 38)=W2):=⟨_,rfl⟩
    obtain⟨W3,hW3⟩:∃W3,Hid (W2.setCells k9 0 z33=W3):=⟨_,rfl⟩
    have F2:Hid (Row W2 k9 z33/\Below w.heap.size w W2/\w.heap.size<=k9):=by
     have hbb:Below w.heap.size w W1:=KM.out.1.bl.trans (hb1.mono KM.out.1.bl.size);rw[<-hW2.out,<-hk9.out];exact⟨aJ W1 _ _,hbb.alloc hbb.size _,hbb.size⟩
    have K3:Hid (Below w.heap.size w W3):=by rw[<-hW3.out];exact RG.below_setCells F2.out.2.2 _ _ _ F2.out.2.1
    have HN:Hid (i<k/\real P (L i)=false):=⟨hi,by rw[hbe.out];exact hr⟩
    clear hb1 KM hr;go_wp2_with (first|(refine aP (v:=.pointer (some ⟨k9,0,none⟩)) (w':=W2) rfl (.alloc 38) rfl ?_ ?_;(rw[<-hW2.out,<-hk9.out];kernel_rfl))|(refine wpList_store_mid rfl 38 _ _ rfl k9 0 z33.toArray ?_ ?_ ?_ ?_ ?_ ?_;rfl;exact hvz.out.symm;exact F2.out.1.2.2;exact aQ;exact HO.out;rw[show z33.toArray.toList=z33 from rfl,hW3.out])|fail)
    go_ret2
    exact⟨_,rfl,K3.out,Qc ⟨⟨i,HN.out⟩,rfl⟩⟩
   | true =>
    have hs:=nK hr;go_wp2_with fail
    refine(IB HC.out.1 v b wr HA.out hr).mono ?_;rintro e W1 ⟨vv,rfl,hb1,rfl⟩;obtain⟨vz,hvz⟩:∃vz,Hid (pvl b=vz):=⟨_,rfl⟩
    rw[hvz.out];have hlen:(aC b).length=33:=aG hs;have hsz:(aC b).toArray.size=33:=by rw[Qr];exact hlen
    obtain⟨k9,hk9⟩:∃k9,Hid (W1.heap.size=k9):=⟨_,rfl⟩
    obtain⟨W2,hW2⟩:∃W2,Hid (W1.alloc (.cells z33.toArray 38)=W2):=⟨_,rfl⟩
    obtain⟨W3,hW3⟩:∃W3,Hid (W2.setCells k9 0 (aC b)=W3):=⟨_,rfl⟩
    obtain⟨W4,hW4⟩:∃W4,Hid (W3.setCells w.heap.size (33*i) (aC b)=W4):=⟨_,rfl⟩
    have A1:Az w W1 w.heap.size k i L:=KM.out.1.grow hb1;have F2:Hid (Row W2 k9 z33/\Below W1.heap.size W1 W2):=by
     rw[<-hW2.out,<-hk9.out];exact⟨aJ W1 _ _,aH _ _⟩
    have F3:Hid (Row W3 k9 (aC b)/\Az w W3 w.heap.size k i L):=by
     rw[<-hW3.out];exact⟨F2.out.1.put (by rw[hlen];rfl),A1.grow (RG.below_setCells (by rw[hk9.out];exact PX _) _ _ _ F2.out.2)⟩
    have K4:Hid (Az w W4 w.heap.size k (i+1) L/\∀j,j<i+1->real P (L j)=true):=by
     have hall:∀j,j<i+1->real P (L j)=true:=fun j hj=>by
      by_cases hji:j=i
      ·subst hji;(rw[hbe.out];exact hr)
      ·exact KM.out.2 j (by omega)
     have h:=F3.out.2.put (PX _) hi (fun j hj=>by exact nK (hall j (by omega)));rw[hbe.out,hW4.out]at h;exact⟨h,hall⟩
    have HI:Hid ((prog.info? 38).map (·.size)=some (aC b).length/\(prog.info? 38).map (·.size)=some (aC b).toArray.size/\W2.there k9 0 (aC b).toArray.size/\W3.there w.heap.size (33*i) (aC b).toArray.size):=by
     rw[hlen,hsz];refine⟨aQ,aQ,F2.out.1.2.2,fun t ht=>?_⟩;have:=F3.out.2.th (33*i+t) (by omega);rwa[P0]at this
    have hix2:=atP w.heap.size 0 k k i hi;clear hb1 KM hr hlen hsz A1 hs;go_wp2_with (first|(refine aP (v:=.pointer (some ⟨k9,0,none⟩)) (w':=W2) rfl (.alloc 38) rfl ?_ ?_;(rw[<-hW2.out,<-hk9.out];kernel_rfl))|(refine wpList_store_mid rfl 38 _ _ rfl k9 0 (aC b).toArray ?_ ?_ ?_ ?_ ?_ ?_;rfl;exact hvz.out.symm;exact HI.out.2.2.1;exact HI.out.2.1;exact cV b;rw[show(aC b).toArray.toList=aC b from rfl,hW3.out])|(refine wpList_load_mid rfl 38 _ rfl k9 0 ?_ (aC b) d ?_ ?_ ?_ ?_ ?_;rfl;exact F3.out.1.2.1;exact HD.out.1;exact HD.out.2;exact HI.out.1;rw[show QA (aC b).toArray=vz from hvz.out])|(refine wpList_store_mid rfl 38 _ _ rfl w.heap.size (33*i) (aC b).toArray ?_ ?_ ?_ ?_ ?_ ?_;rfl;exact hvz.out.symm;exact HI.out.2.2.2;exact HI.out.2.1;exact cV b;rw[show(aC b).toArray.toList=aC b from rfl,hW4.out])|fail)
    go_roundg (gk-1)
    case measure=>omega
    case rel=>exact⟨i+1,by omega,rfl,K4⟩
  ·have hi':¬(i:Int)<(k:Int):=by omega
   obtain rfl:i=k:=by omega
   go_wp2
   go_ret2
   exact⟨_,rfl,KM.out.1.bl,Qh ⟨KM.out.2,w.heap.size,rfl,PX _,KM.out.1.lt,KM.out.1.th,KM.out.1.rw⟩⟩
theorem u22:(prog.underlying 22).map (·.isRow)=some false:=by kernel_rfl
theorem Oe(k o n c i:Nat)(hi:i<n)(w:World):(Rc 31 (.slice (some ⟨k,o,none⟩) n c) (.int .i64 i)).run prog w=.ok (.pointer (some ⟨k,o+i,none⟩)) w:=by
 have h1:¬(i:Int)<0:=by omega
 have h2:(i:Int)<n:=by omega
 go_simp
theorem PN(k o n c i:Nat)(hi:i<n)(w:World):(Rc 84 (.slice (some ⟨k,o,none⟩) n c) (.int .i64 i)).run prog w=.ok (.pointer (some ⟨k,o+4*i,none⟩)) w:=by
 have h1:¬(i:Int)<0:=by omega
 have h2:(i:Int)<n:=by omega
 go_simp
theorem Pk(N:Nat)(hN:N<=512):∃C0:List Value,C0.length=4*N/\∀w:World,(Rf 84 (.int .i64 N) (.int .i64 N)).run prog w=.ok (.slice (some ⟨w.heap.size,0,none⟩) N N) (w.alloc (.cells C0.toArray 66)):=by
 have hu:prog.underlying 84=some (.slice 66):=by kernel_rfl
 have hi:(prog.info? 66).map (fun i=>(i.size,decide (i.bytes<=4000),i.zero.isSome))=some (4,true,true):=by kernel_rfl
 obtain⟨i,hi1,hi2⟩:=PZ.1 hi;simp only[Ro.injEq,decide_eq_true_eq]at hi2;obtain⟨h1,h2,h3⟩:=hi2;obtain⟨z,hz⟩:=Qz.1 h3;refine⟨(madeCells z.cells (N*4)).toList,by rw[P5,size_madeCells,Qy],fun w=>?_⟩;have hb:(i.bytes:Int)*(N:Int)<=281474976710656:=by
  have:i.bytes*N<=4000*512:=RA h2 hN;have h5:((i.bytes*N:Nat):Int)<=281474976710656:=by omega
  rwa[RJ]at h5
 have:=run_make (P:=prog) w 84 66 i z hu hi1 hz .i64 .i64 (N:Int) (N:Int) (by omega) (by omega) hb (by omega);rw[Tn,h1]at this;rw[SO];exact this
def PV(N:Nat)(w:World)(n:Nat)(L:Nat->Bs)(e:Value)(w':World):Prop:=
 ((∃j,j<n/\rq N (L j)=none)/\Below w.heap.size w w'/\e=.tuple #[.slice none 0 0,.bool false]) \/
 ((∀j,j<n->(rq N (L j)).isSome=true)/\∃k C,RG.Made w k C w'/\Rows 4 n (fun j=>wn ((rq N (L j)).getD 0)) n C/\e=.tuple #[.slice (some ⟨k,0,none⟩) n n,.bool true])
theorem JV(O:Ord N)(n cap:Nat)(hn:n<=512)(q:Option Addr)(L:Nat->Bs)(w:World)(hA:Args w q n L):Calls prog 80 #[(.func (.func 64) #[] #[]),.slice q n cap] w (Ret fun e w'=>PV N w n L e w'):=by
 obtain⟨C,hCl,hmk⟩:=Pk n hn;go_enter Tryz.func80,Tryz.ntmps80;refine RG.M.enter [(0,.v (.func (.func 64) #[] #[])),(1,.v (.slice q n cap))] 35 (by kernel_rfl) ?_;intro a0 M0;repeat refine wp_seq ?_
 refine M0.u [.x 4 [] (.slice none 0 0),.x 5 [] (.bool false)] [(0,(.v (.func (.func 64) #[] #[]))),(1,(.v (.slice q n cap)))] ⟨RG.st,RG.st,trivial⟩ ?_;intro a1 w1 M1;repeat refine wp_seq ?_
 refine M1.t [.x 11 [] (.slice q n cap),.x 12 [(11,0)] (.int .i64 n),⟨some 13,[(12,1)],(.s 0 n n),.make 0⟩,.s 6 [(13,2)] (.s 0 n n)] [(2,C)] [] [C] [(0,(.v (.func (.func 64) #[] #[]))),(1,(.v (.slice q n cap))),(6,(.s 0 n n))] ⟨RG.st,RG.st,RG.kJ 0 rfl _ rfl 84 66 12 12 n rfl rfl RG.sx RG.sx (hmk),RG.st,trivial⟩ ?_;intro j2 a2 w2 M2;repeat refine wp_seq ?_
 refine M2.u [.x 14 [] (.slice q n cap),.x 15 [(14,0)] (.int .i64 n),.x 16 [] (.int .i64 0)] [(0,(.v (.func (.func 64) #[] #[]))),(6,(.s 0 n n)),(14,(.v (.slice q n cap))),(15,(.v (.int .i64 n))),(16,(.v (.int .i64 0)))] ⟨RG.st,RG.st,RG.st,trivial⟩ ?_;intro a3 w3 M3;repeat refine wp_seq ?_
 refine wp_block ?_;refine wp_loop_ghost (fun m a wr=>∃(i:Nat) (C:List Value) (kt:Nat),i+m=n/\(∀j,j<i->(rq N (L j)).isSome=true)/\Rows 4 n (fun j=>wn ((rq N (L j)).getD 0)) i C/\RG.M w w.heap.size [] 35 [C] [kt] [(0,.v (.func (.func 64) #[] #[])),(6,.s 0 n n),(14,.v (.slice q n cap)),(15,.v (.int .i64 n)),(16,.v (.int .i64 i))] a wr) n ⟨0,C,_,by omega,fun j hj=>by omega,⟨hCl,fun j r hj=>by omega⟩,M3⟩ ?_;clear hmk;intro m' a wr;rintro⟨i,C,kt,him,hall,hR,M20⟩;by_cases hi:i<n
 ·obtain⟨gg,hqe,hgg,hc⟩:=hA (by omega);subst hqe;obtain⟨v,hv,harg⟩:=hc i hi;have hcell:w.cell? ⟨gg,0+i,none⟩=some v:=by rw[P0];exact hv
  have hrd0:=fun w' (hb:RG.BelX w.heap.size [] w w')=>Cy O v (L i) w' (harg.below hb.below)
  obtain⟨m,hm⟩:∃m,m=(rq N (L i)).getD 0:=⟨_,rfl⟩
  cases hok:(rq N (L i)).isSome with
  | true =>
   have hrd:∀w',RG.BelX w.heap.size [] w w'->Calls prog 64 #[v] w' (Ret fun e w''=>Below w'.heap.size w' w''/\e=.tuple #[nv m,.bool true]):=fun w' hb=>by
    have h:=hrd0 w' hb;rw[hok,<-hm]at h;exact h
   have hlen:=hR.len;have hoff:0+4*i+(wn m).length<=C.length:=by rw[hlen];show 0+4*i+4<=4*n;omega
   obtain⟨C2,hC2e⟩:∃c,RG.rep C (0+4*i) (wn m)=c:=⟨_,rfl⟩
   have hC2:=hC2e ▸ RG.rep_at hoff;have hcl:C2.length=C.length:=hC2e ▸ RG.cG hoff;have hR2:Rows 4 n (fun j=>wn ((rq N (L j)).getD 0)) (i+1) C2:=by
    have:=hR.next hi rfl;rw[<-hC2e,hm];exact this
   repeat refine wp_seq ?_
   refine M20.u [.x 17 [] (.bool true)] [(0,(.v (.func (.func 64) #[] #[]))),(6,(.s 0 n n)),(14,(.v (.slice (some ⟨gg,0,none⟩) n cap))),(15,(.v (.int .i64 n))),(16,(.v (.int .i64 i))),(17,(.v (.bool true)))] ⟨RG.aL rfl .lss 3 3 16 15 (.int .i64 i) (.int .i64 n) (.bool true) rfl rfl RG.sx RG.sx (fun w=>by kernel_rfl) (eR hi),trivial⟩ ?_;intro a21 w21 M21;repeat refine wp_seq ?_
   refine wp_cond_true M21.ev ?_;refine wp_skip ?_;refine wp_seq ?_;refine wp_block ?_;repeat refine wp_seq ?_
   refine M21.u [.x 18 [] (.int .i64 i),.x 19 [] (.pointer (some ⟨gg,(0+i),none⟩)),.x 20 [(19,1)] v,.x 7 [(18,0)] (.int .i64 i),.x 8 [(20,2)] v] [(0,(.v (.func (.func 64) #[] #[]))),(6,(.s 0 n n)),(7,(.v (.int .i64 i))),(8,(.v v)),(14,(.v (.slice (some ⟨gg,0,none⟩) n cap))),(15,(.v (.int .i64 n))),(16,(.v (.int .i64 i)))] ⟨RG.st,RG.aZ rfl 31 14 16 rfl (.v (.slice (some ⟨gg,0,none⟩) n cap)) (.int .i64 i) RG.sx RG.sx (fun μ w=>Oe _ 0 _ _ i hi w),RG.bK rfl gg (0+i) hgg Qk 22 19 rfl v rfl RG.sx hcell u22,RG.st,RG.st,trivial⟩ ?_;intro a22 w22 M22;repeat refine wp_seq ?_
   refine M22.t [.x 22 [] (.func (.func 64) #[] #[]),.x 23 [] v,.c 24 [(22,0),(23,1)] (.tuple #[(nv m),(.bool true)]),.x 21 [(24,2)] (.tuple #[(nv m),(.bool true)]),.x 25 [(21,3)] (nv m),.x 26 [(21,3)] (.bool true),.m 9 [] 1,.u [(9,6),(25,4)] 1,.x 10 [(26,5)] (.bool true)] [(6,(RG.z 4))] [(1,7,(wn m))] [C,(wn m)] [(0,(.v (.func (.func 64) #[] #[]))),(6,(.s 0 n n)),(7,(.v (.int .i64 i))),(9,(.p 1 0)),(10,(.v (.bool true))),(14,(.v (.slice (some ⟨gg,0,none⟩) n cap))),(15,(.v (.int .i64 n))),(16,(.v (.int .i64 i)))] ⟨RG.st,RG.st,RG.clB (fun _ _=>by kernel_rfl) hrd,RG.st,RG.st,RG.st,RG.mk 1 66,RG.pt i40,RG.st,trivial⟩ ?_;intro j23 a23 w23 M23;repeat refine wp_seq ?_
   refine M23.u [.x 27 [] (.bool true),.x 28 [(27,0)] (.bool false)] [(0,(.v (.func (.func 64) #[] #[]))),(6,(.s 0 n n)),(7,(.v (.int .i64 i))),(9,(.p 1 0)),(14,(.v (.slice (some ⟨gg,0,none⟩) n cap))),(15,(.v (.int .i64 n))),(16,(.v (.int .i64 i))),(28,(.v (.bool false)))] ⟨RG.st,RG.st,trivial⟩ ?_;intro a24 w24 M24;repeat refine wp_seq ?_
   refine wp_cond_false M24.ev ?_;refine wp_skip ?_;repeat refine wp_seq ?_
   refine M24.tx [.s 29 [] (.s 0 n n),.x 30 [] (.int .i64 i),.x 31 [] (nv m),.s 32 [(29,0),(30,1)] (.p 0 (0+4*i)),.u [(32,3),(31,2)] 0] [] [(0,4,C2)] [C2,(wn m)] [(0,(.v (.func (.func 64) #[] #[]))),(6,(.s 0 n n)),(14,(.v (.slice (some ⟨gg,0,none⟩) n cap))),(15,(.v (.int .i64 n))),(16,(.v (.int .i64 i)))] (by kernel_rfl) (congrArg (fun n=>[n]) hcl) ⟨RG.st,RG.st,RG.ld u40 i40,RG.aZ rfl 84 29 30 rfl (.s 0 n n) (.int .i64 i) RG.sx RG.sx (fun μ w=>PN _ 0 _ _ i hi w),RG.dS 0 (0+4*i) rfl _ rfl 66 (.tmp 32) (.tmp 31) (wn m) rfl rfl RG.sx RG.sx hoff hC2 i40 rfl,trivial⟩ ?_;intro a25 w25 M25;repeat refine wp_seq ?_
   refine M25.u [.x 33 [] (.int .i64 ((i+1:Nat):Int)),.x 16 [(33,0)] (.int .i64 ((i+1:Nat):Int))] [(0,(.v (.func (.func 64) #[] #[]))),(6,(.s 0 n n)),(14,(.v (.slice (some ⟨gg,0,none⟩) n cap))),(15,(.v (.int .i64 n))),(16,(.v (.int .i64 ((i+1:Nat):Int))))] ⟨RG.aK rfl .add 3 3 16 (.int .i64 i) (.int .i64 1) (.int .i64 ((i+1:Nat):Int)) rfl rfl RG.sx (fun w=>by kernel_rfl) (qN i 1 (by omega) (by omega)),RG.st,trivial⟩ ?_;intro a26 w26 M26;show ∃n',_;exact⟨m'-1,by omega,i+1,C2,kt,by omega,fun j hj=>(by
    by_cases hji:j=i
    ·rw[hji];exact hok
    ·exact hall j (by omega)),hR2,RG.M.drop (cs:=[C2]) (cs2:=[_]) (ks:=[kt]) (ks2:=[_]) M26 rfl rfl⟩
  | false =>
   have hrd:∀w',RG.BelX w.heap.size [] w w'->Calls prog 64 #[v] w' (Ret fun e w''=>Below w'.heap.size w' w''/\e=.tuple #[nv m,.bool false]):=fun w' hb=>by
    have h:=hrd0 w' hb;rw[hok,<-hm]at h;exact h
   repeat refine wp_seq ?_
   refine M20.u [.x 17 [] (.bool true)] [(0,(.v (.func (.func 64) #[] #[]))),(14,(.v (.slice (some ⟨gg,0,none⟩) n cap))),(16,(.v (.int .i64 i))),(17,(.v (.bool true)))] ⟨RG.aL rfl .lss 3 3 16 15 (.int .i64 i) (.int .i64 n) (.bool true) rfl rfl RG.sx RG.sx (fun w=>by kernel_rfl) (eR hi),trivial⟩ ?_;intro a21 w21 M21;repeat refine wp_seq ?_
   refine wp_cond_true M21.ev ?_;refine wp_skip ?_;refine wp_seq ?_;refine wp_block ?_;repeat refine wp_seq ?_
   refine M21.u [.x 18 [] (.int .i64 i),.x 19 [] (.pointer (some ⟨gg,(0+i),none⟩)),.x 20 [(19,1)] v,.x 7 [(18,0)] (.int .i64 i),.x 8 [(20,2)] v] [(0,(.v (.func (.func 64) #[] #[]))),(8,(.v v))] ⟨RG.st,RG.aZ rfl 31 14 16 rfl (.v (.slice (some ⟨gg,0,none⟩) n cap)) (.int .i64 i) RG.sx RG.sx (fun μ w=>Oe _ 0 _ _ i hi w),RG.bK rfl gg (0+i) hgg Qk 22 19 rfl v rfl RG.sx hcell u22,RG.st,RG.st,trivial⟩ ?_;intro a22 w22 M22;repeat refine wp_seq ?_
   refine M22.t [.x 22 [] (.func (.func 64) #[] #[]),.x 23 [] v,.c 24 [(22,0),(23,1)] (.tuple #[(nv m),(.bool false)]),.x 21 [(24,2)] (.tuple #[(nv m),(.bool false)]),.x 25 [(21,3)] (nv m),.x 26 [(21,3)] (.bool false),.m 9 [] 1,.u [(9,6),(25,4)] 1,.x 10 [(26,5)] (.bool false)] [(6,(RG.z 4))] [(1,7,(wn m))] [C,(wn m)] [(10,(.v (.bool false)))] ⟨RG.st,RG.st,RG.clB (fun _ _=>by kernel_rfl) hrd,RG.st,RG.st,RG.st,RG.mk 1 66,RG.pt i40,RG.st,trivial⟩ ?_;intro j23 a23 w23 M23;repeat refine wp_seq ?_
   refine M23.u [.x 27 [] (.bool false),.x 28 [(27,0)] (.bool true)] [(28,(.v (.bool true)))] ⟨RG.st,RG.st,trivial⟩ ?_;intro a24 w24 M24;repeat refine wp_seq ?_
   refine wp_cond_true M24.ev ?_;repeat refine wp_seq ?_
   refine M24.u [.x 4 [] (.slice none 0 0),.x 5 [] (.bool false)] [(4,(.v (.slice none 0 0))),(5,(.v (.bool false)))] ⟨RG.st,RG.st,trivial⟩ ?_;intro a25 w25 M25;refine wp_ret ?_;refine bodyPost_ret (v:=.tuple #[.slice none 0 0,.bool false]) (RG.cP 4 5 rfl (.slice none 0 0) (.bool false) M25.av M25.av) M25.sl.defers ?_;exact⟨_,rfl,Qh ⟨⟨i,hi,by simpa using hok⟩,M25.st.bel.below,rfl⟩⟩
 ·have hiN:i=n:=by omega
  rw[hiN]at hall hR;repeat refine wp_seq ?_
  refine M20.u [.x 17 [] (.bool false)] [(6,(.s 0 n n)),(17,(.v (.bool false)))] ⟨RG.aL rfl .lss 3 3 16 15 (.int .i64 i) (.int .i64 n) (.bool false) rfl rfl RG.sx RG.sx (fun w=>by kernel_rfl) (lE hi),trivial⟩ ?_;intro a21 w21 M21;repeat refine wp_seq ?_
  refine wp_cond_false M21.ev ?_;refine wp_exit ?_;dsimp only[Exit.then,Exit.inBlock];rw[if_pos rfl];repeat refine wp_seq ?_
  refine M21.u [.s 34 [] (.s 0 n n),.s 4 [(34,0)] (.s 0 n n),.x 5 [] (.bool true)] [(4,(.s 0 n n)),(5,(.v (.bool true)))] ⟨RG.st,RG.st,RG.st,trivial⟩ ?_;intro a22 w22 M22;refine wp_ret ?_;refine bodyPost_ret (v:=_) (RG.cP 4 5 rfl _ (.bool true) (M22.at (s:=.s 0 n n)) M22.av) M22.sl.defers ?_;exact⟨_,rfl,Qc ⟨hall,_,C,M22.st.made (b:=0) rfl,hR,rfl⟩⟩
end
section
open Go.RowKit Go.Sort Go.Deep
namespace RG
section
variable {P:Program}{ops:Array Oper}{Q:Exit->Act->World->Prop}{w0 w:World}{k0:Nat}{X:List Nat}{its:List It}{bl:List Bl}{olds:List (Tmp × SV)}{a:Act}{i:Nat}{o:Oper}{it:It}
theorem Aj(hk:it.kind=.stay)(T:TypeId)(t:Tmp)(hi v v':Value)(ho:o.op=.slice T (.tmp t) none (some (.const hi)) none)(hout:it.out=.v v')(hx:∀(μ:Nat->Nat) (a:Act),Known ops i its olds it.need μ a->a.eval (.tmp t)=v)
 (hf:∀w:World,(Rk T v none (some hi) none).run P w=.ok v' w):Cert P Q w0 k0 X ops i its bl olds o it:=by
 refine bW hk fun μ a w hK _=>?_
 unfold execOp;rw[ho,hout];dsimp only;rw[hx μ a hK];show((Rk T v none (some hi) none) >>= fun v=>pure (Te v)).run P w=_;rw[Qm,hf];rfl
end
end RG
variable {P:Nat}[NeZero P]{N:Nat}
def Ov(s:ByteArray)(v:Value)(ok:Bool):List RG.It:=[.x 22 [] (.string s),.c 23 [(22,0)] (.tuple #[v,.bool ok]),.x 21 [(23,1)] (.tuple #[v,.bool ok]),.x 24 [(21,2)] v,.x 25 [(21,2)] (.bool ok),.m 9 [] 0,.u [(9,5),(24,3)] 0,.x 10 [(25,4)] (.bool ok)]
def Ou(s:ByteArray)(v:Value)(ok:Bool):List RG.It:=[.x 27 [] (.string s),.c 28 [(27,0)] (.tuple #[v,.bool ok]),.x 26 [(28,1)] (.tuple #[v,.bool ok]),.x 29 [(26,2)] v,.x 30 [(26,2)] (.bool ok),.m 11 [] 1,.u [(11,5),(29,3)] 1,.x 12 [(30,4)] (.bool ok)]
def Ot(s:ByteArray)(v:Value)(ok:Bool):List RG.It:=[.x 32 [] (.string s),.c 33 [(32,0)] (.tuple #[v,.bool ok]),.x 31 [(33,1)] (.tuple #[v,.bool ok]),.x 34 [(31,2)] v,.x 35 [(31,2)] (.bool ok),.m 13 [] 2,.u [(13,5),(34,3)] 2,.x 14 [(35,4)] (.bool ok)]
def Oq(pr u:ByteArray)(n:Nat)(ok:Bool):List RG.It:=[.x 52 [] (.string pr),.x 53 [(52,0)] (.string u),.c 54 [(53,1)] (.tuple #[nv n,.bool ok]),.x 51 [(54,2)] (.tuple #[nv n,.bool ok]),.x 55 [(51,3)] (nv n),.x 56 [(51,3)] (.bool ok),.m 15 [] 3,.u [(15,6),(55,4)] 3,.x 16 [(56,5)] (.bool ok)]
def Oo(pr u:ByteArray)(n:Nat)(ok:Bool):List RG.It:=[.x 58 [] (.string pr),.x 59 [(58,0)] (.string u),.c 60 [(59,1)] (.tuple #[nv n,.bool ok]),.x 57 [(60,2)] (.tuple #[nv n,.bool ok]),.x 61 [(57,3)] (nv n),.x 62 [(57,3)] (.bool ok),.m 17 [] 4,.u [(17,6),(61,4)] 4,.x 18 [(62,5)] (.bool ok)]
def MF(ok:Bool):List RG.It:=[.x 63 [] (.bool true),.x 64 [(63,0)] (.bool false),.x 65 [(64,1)] (.bool false),.x 66 [] (.bool ok),.x 67 [(66,3)] (.bool (!ok)),.x 68 [(65,2),(67,4)] (.bool (!ok))]
def MI(c s:Nat)(v0 vb vt vn vf:Value):List RG.It:=[.x 69 [] (nv s),.c 70 [(69,0)] vb,.x 71 [] (nv c),.x 72 [] v0,.c 73 [(71,2),(72,3)] vt,.c 74 [(73,4)] vn,.c 75 [(70,1),(74,5)] vf,.m 19 [] 5,.u [(19,7),(75,6)] 5]
def MH(c s:Nat)(v1 v2 vb vt vn vf:Value):List RG.It:=[.x 76 [] (nv s),.x 77 [] v1,.c 78 [(76,0),(77,1)] vb,.x 79 [] (nv c),.x 80 [] v2,.c 81 [(79,3),(80,4)] vt,.c 82 [(81,5)] vn,.c 83 [(78,2),(82,6)] vf,.m 20 [] 6,.u [(20,8),(83,7)] 6]
def MG(a g b:ByteArray)(c m:Nat)(vf vh:Value)(F G:Bs):List RG.It:=[.x 84 [] (.string g),.x 85 [] (.string a),.x 86 [] (.string b),.x 87 [] vf,.c 88 [(87,3)] (.string ⟨F⟩),.x 89 [] vh,.c 90 [(89,5)] (.string ⟨G⟩),.c 91 [(84,0),(85,1),(86,2),(88,4),(90,6)] (nv m),.x 92 [] (nv c),.x 93 [(91,7),(92,8)] (.bool (decide (m=c))),.x 8 [(93,9)] (.bool (decide (m=c)))]
def vsR(o0 o1 o2 lb o3 o4 e:Bool):Bool:=o0 && o1 && o2 && !lb && o3 && o4 && e
omit [NeZero P] in
theorem Nq(a g b pr u0 u1:ByteArray)(t0 t1 t2:T3 P)(o0 o1 o2 lb o3 o4:Bool)(c s m:Nat)(tb tt tn tf sb st sn sf:T3 P)(F G:Bs)(hlb:(!((pr.size:Int) == 64))=lb)
 (h0:Gives 18 #[.string a] (.tuple #[tv t0,.bool o0])) (h1:Gives 18 #[.string g] (.tuple #[tv t1,.bool o1])) (h2:Gives 18 #[.string b] (.tuple #[tv t2,.bool o2]))
 (hs0:lb=false->∀w,(Rk 9 (.string pr) none (some (.int .i64 32)) none).run prog w=.ok (.string u0) w) (hs1:lb=false->∀w,(Rk 9 (.string pr) (some (.int .i64 32)) none none).run prog w=.ok (.string u1) w)
 (h3:Gives 22 #[.string u0] (.tuple #[nv c,.bool o3])) (h4:Gives 22 #[.string u1] (.tuple #[nv s,.bool o4]))
 (hgood:o0=true->o1=true->o2=true->o3=true->o4=true->Gives 24 #[nv s] (tv tb)/\Gives 20 #[nv c,tv t0] (tv tt)/\Gives 25 #[tv tt] (tv tn)/\Gives 23 #[tv tb,tv tn] (tv tf)/\Gives 20 #[nv s,tv t1] (tv sb)/\Gives 20 #[nv c,tv t2] (tv st)/\Gives 25 #[tv st] (tv sn)/\Gives 23 #[tv sb,tv sn] (tv sf)/\Gives 21 #[tv tf] (.string ⟨F⟩)/\Gives 21 #[tv sf] (.string ⟨G⟩)/\Gives 26 #[.string g,.string a,.string b,.string ⟨F⟩,.string ⟨G⟩] (nv m)/\m<top/\c<top) :
 Gives 9 #[.string a,.string g,.string b,.string pr] (.bool (vsR o0 o1 o2 lb o3 o4 (decide (m=c)))):=by
 intro w;go_enter Tryz.func9,Tryz.ntmps9;refine RG.M.enter [(0,.v (.string a)),(1,.v (.string g)),(2,.v (.string b)),(3,.v (.string pr))] 94 (by kernel_rfl) ?_;intro a0 M0;repeat refine wp_seq ?_
 refine M0.u [.x 8 [] (.bool false)] [(0,.v (.string a)),(1,.v (.string g)),(2,.v (.string b)),(3,.v (.string pr))] ⟨RG.st,trivial⟩ ?_;intro a1 w1 M1;repeat refine wp_seq ?_
 refine M1.t (Ov a (tv t0) o0) [(5,RG.z 12)] [(0,6,tw t0)] [tw t0] [(0,.v (.string a)),(1,.v (.string g)),(2,.v (.string b)),(3,.v (.string pr)),(9,.p 0 0),(10,.v (.bool o0))] ⟨RG.st,RG.cl h0,RG.st,RG.st,RG.st,RG.mk 0 53,RG.pt i56,RG.st,trivial⟩ ?_;intro j2 a2 w2 M2;repeat refine wp_seq ?_
 refine M2.t (Ou g (tv t1) o1) [(5,RG.z 12)] [(1,6,tw t1)] [tw t0,tw t1] [(0,.v (.string a)),(1,.v (.string g)),(2,.v (.string b)),(3,.v (.string pr)),(9,.p 0 0),(11,.p 1 0),(10,.v (.bool o0)),(12,.v (.bool o1))] ⟨RG.st,RG.cl h1,RG.st,RG.st,RG.st,RG.mk 1 53,RG.pt i56,RG.st,trivial⟩ ?_;intro j3 a3 w3 M3;repeat refine wp_seq ?_
 refine M3.t (Ot b (tv t2) o2) [(5,RG.z 12)] [(2,6,tw t2)] [tw t0,tw t1,tw t2] [(0,.v (.string a)),(1,.v (.string g)),(2,.v (.string b)),(3,.v (.string pr)),(9,.p 0 0),(11,.p 1 0),(13,.p 2 0),(10,.v (.bool o0)),(12,.v (.bool o1)),(14,.v (.bool o2))] ⟨RG.st,RG.cl h2,RG.st,RG.st,RG.st,RG.mk 2 53,RG.pt i56,RG.st,trivial⟩ ?_;intro j4 a4 w4 M4;repeat refine wp_seq ?_
 cases o0 with
 | false =>
  refine M4.u [.x 36 [] (.bool false),.x 37 [(36,0)] (.bool true),.x 38 [(37,1)] (.bool true),⟨some 39,[],(.v undef),.pass⟩,⟨some 40,[],(.v undef),.pass⟩,.x 41 [(38,2),(40,4)] (.bool true),.x 42 [(41,5)] (.bool true),⟨some 43,[],(.v undef),.pass⟩,⟨some 44,[],(.v undef),.pass⟩,.x 45 [(42,6),(44,8)] (.bool true),.x 46 [(45,9)] (.bool true),⟨some 47,[],(.v undef),.pass⟩,⟨some 48,[],(.v undef),.pass⟩,⟨some 49,[],(.v undef),.pass⟩,.x 50 [(46,10),(49,13)] (.bool true)] [(50,.v (.bool true))] ⟨RG.st,RG.st,RG.st,RG.aI rfl rfl,RG.aI rfl rfl,RG.st,RG.st,RG.aI rfl rfl,RG.aI rfl rfl,RG.st,RG.st,RG.aI rfl rfl,RG.aI rfl rfl,RG.aI rfl rfl,RG.st,trivial⟩ ?_;intro a5 w5 M5;repeat refine wp_seq ?_
  refine wp_cond_true (M5.ev (v:=.bool true) (by kernel_rfl)) ?_;repeat refine wp_seq ?_
  refine M5.u [.x 8 [] (.bool false)] [(8,.v (.bool false))] ⟨RG.st,trivial⟩ ?_;intro az wz Mz;refine wp_ret ?_;refine bodyPost_ret (v:=.bool false) (RG.bG 8 rfl _ Mz.av) Mz.sl.defers ?_;exact⟨_,rfl,Mz.st.bel.below,rfl⟩
 | true =>
 cases o1 with
 | false =>
  refine M4.u [.x 36 [] (.bool true),.x 37 [(36,0)] (.bool false),.x 38 [(37,1)] (.bool false),.x 39 [] (.bool false),.x 40 [(39,3)] (.bool true),.x 41 [(38,2),(40,4)] (.bool true),.x 42 [(41,5)] (.bool true),⟨some 43,[],(.v undef),.pass⟩,⟨some 44,[],(.v undef),.pass⟩,.x 45 [(42,6),(44,8)] (.bool true),.x 46 [(45,9)] (.bool true),⟨some 47,[],(.v undef),.pass⟩,⟨some 48,[],(.v undef),.pass⟩,⟨some 49,[],(.v undef),.pass⟩,.x 50 [(46,10),(49,13)] (.bool true)] [(50,.v (.bool true))] ⟨RG.st,RG.st,RG.st,RG.st,RG.st,RG.st,RG.st,RG.aI rfl rfl,RG.aI rfl rfl,RG.st,RG.st,RG.aI rfl rfl,RG.aI rfl rfl,RG.aI rfl rfl,RG.st,trivial⟩ ?_;intro a5 w5 M5;repeat refine wp_seq ?_
  refine wp_cond_true (M5.ev (v:=.bool true) (by kernel_rfl)) ?_;repeat refine wp_seq ?_
  refine M5.u [.x 8 [] (.bool false)] [(8,.v (.bool false))] ⟨RG.st,trivial⟩ ?_;intro az wz Mz;refine wp_ret ?_;refine bodyPost_ret (v:=.bool false) (RG.bG 8 rfl _ Mz.av) Mz.sl.defers ?_;exact⟨_,rfl,Mz.st.bel.below,rfl⟩
 | true =>
 cases o2 with
 | false =>
  refine M4.u [.x 36 [] (.bool true),.x 37 [(36,0)] (.bool false),.x 38 [(37,1)] (.bool false),.x 39 [] (.bool true),.x 40 [(39,3)] (.bool false),.x 41 [(38,2),(40,4)] (.bool false),.x 42 [(41,5)] (.bool false),.x 43 [] (.bool false),.x 44 [(43,7)] (.bool true),.x 45 [(42,6),(44,8)] (.bool true),.x 46 [(45,9)] (.bool true),⟨some 47,[],(.v undef),.pass⟩,⟨some 48,[],(.v undef),.pass⟩,⟨some 49,[],(.v undef),.pass⟩,.x 50 [(46,10),(49,13)] (.bool true)] [(50,.v (.bool true))] ⟨RG.st,RG.st,RG.st,RG.st,RG.st,RG.st,RG.st,RG.st,RG.st,RG.st,RG.st,RG.aI rfl rfl,RG.aI rfl rfl,RG.aI rfl rfl,RG.st,trivial⟩ ?_;intro a5 w5 M5;repeat refine wp_seq ?_
  refine wp_cond_true (M5.ev (v:=.bool true) (by kernel_rfl)) ?_;repeat refine wp_seq ?_
  refine M5.u [.x 8 [] (.bool false)] [(8,.v (.bool false))] ⟨RG.st,trivial⟩ ?_;intro az wz Mz;refine wp_ret ?_;refine bodyPost_ret (v:=.bool false) (RG.bG 8 rfl _ Mz.av) Mz.sl.defers ?_;exact⟨_,rfl,Mz.st.bel.below,rfl⟩
 | true =>
 refine M4.u [.x 36 [] (.bool true),.x 37 [(36,0)] (.bool false),.x 38 [(37,1)] (.bool false),.x 39 [] (.bool true),.x 40 [(39,3)] (.bool false),.x 41 [(38,2),(40,4)] (.bool false),.x 42 [(41,5)] (.bool false),.x 43 [] (.bool true),.x 44 [(43,7)] (.bool false),.x 45 [(42,6),(44,8)] (.bool false),.x 46 [(45,9)] (.bool false),.x 47 [] (.string pr),.x 48 [(47,11)] (.int .i64 (pr.size:Int)),.x 49 [(48,12)] (.bool lb),.x 50 [(46,10),(49,13)] (.bool lb)] [(0,.v (.string a)),(1,.v (.string g)),(2,.v (.string b)),(3,.v (.string pr)),(9,.p 0 0),(11,.p 1 0),(13,.p 2 0),(50,.v (.bool lb))] ⟨RG.st,RG.st,RG.st,RG.st,RG.st,RG.st,RG.st,RG.st,RG.st,RG.st,RG.st,RG.st,RG.st,RG.se (show Value.bool (!((pr.size:Int) == 64))=.bool lb by rw[hlb]),RG.st,trivial⟩ ?_;intro a5 w5 M5;cases lb with
 | true =>
  repeat refine wp_seq ?_
  refine wp_cond_true (M5.ev (v:=.bool true) (by kernel_rfl)) ?_;repeat refine wp_seq ?_
  refine M5.u [.x 8 [] (.bool false)] [(8,.v (.bool false))] ⟨RG.st,trivial⟩ ?_;intro az wz Mz;refine wp_ret ?_;refine bodyPost_ret (v:=.bool false) (RG.bG 8 rfl _ Mz.av) Mz.sl.defers ?_;exact⟨_,rfl,Mz.st.bel.below,rfl⟩
 | false =>
 have hq0:=hs0 rfl;have hq1:=hs1 rfl;repeat refine wp_seq ?_
 refine wp_cond_false (M5.ev (v:=.bool false) (by kernel_rfl)) ?_;refine wp_skip ?_;repeat refine wp_seq ?_
 refine M5.t (Oq pr u0 c o3) [(6,RG.z 4)] [(3,7,wn c)] [tw t0,tw t1,tw t2,wn c] [(0,.v (.string a)),(1,.v (.string g)),(2,.v (.string b)),(3,.v (.string pr)),(9,.p 0 0),(11,.p 1 0),(13,.p 2 0),(15,.p 3 0),(16,.v (.bool o3))] ⟨RG.st,RG.Aj rfl 9 52 (.int .i64 32) (.string pr) (.string u0) rfl rfl RG.sx hq0,RG.cl h3,RG.st,RG.st,RG.st,RG.mk 3 49,RG.pt i33,RG.st,trivial⟩ ?_;intro j6 a6 w6 M6;repeat refine wp_seq ?_
 refine M6.t (Oo pr u1 s o4) [(6,RG.z 4)] [(4,7,wn s)] [tw t0,tw t1,tw t2,wn c,wn s] [(0,.v (.string a)),(1,.v (.string g)),(2,.v (.string b)),(3,.v (.string pr)),(9,.p 0 0),(11,.p 1 0),(13,.p 2 0),(15,.p 3 0),(17,.p 4 0),(16,.v (.bool o3)),(18,.v (.bool o4))] ⟨RG.st,RG.fK rfl 9 58 (.int .i64 32) (.string pr) (.string u1) rfl rfl RG.sx hq1,RG.cl h4,RG.st,RG.st,RG.st,RG.mk 4 49,RG.pt i33,RG.st,trivial⟩ ?_;intro j7 a7 w7 M7;repeat refine wp_seq ?_
 cases o3 with
 | false =>
  refine M7.u [.x 63 [] (.bool false),.x 64 [(63,0)] (.bool true),.x 65 [(64,1)] (.bool true),⟨some 66,[],(.v undef),.pass⟩,⟨some 67,[],(.v undef),.pass⟩,.x 68 [(65,2),(67,4)] (.bool true)] [(68,.v (.bool true))] ⟨RG.st,RG.st,RG.st,RG.aI rfl rfl,RG.aI rfl rfl,RG.st,trivial⟩ ?_;intro a8 w8 M8;repeat refine wp_seq ?_
  refine wp_cond_true (M8.ev (v:=.bool true) (by kernel_rfl)) ?_;repeat refine wp_seq ?_
  refine M8.u [.x 8 [] (.bool false)] [(8,.v (.bool false))] ⟨RG.st,trivial⟩ ?_;intro az wz Mz;refine wp_ret ?_;refine bodyPost_ret (v:=.bool false) (RG.bG 8 rfl _ Mz.av) Mz.sl.defers ?_;exact⟨_,rfl,Mz.st.bel.below,rfl⟩
 | true =>
 refine M7.u (MF o4) [(0,.v (.string a)),(1,.v (.string g)),(2,.v (.string b)),(3,.v (.string pr)),(9,.p 0 0),(11,.p 1 0),(13,.p 2 0),(15,.p 3 0),(17,.p 4 0),(68,.v (.bool (!o4)))] ⟨RG.st,RG.st,RG.st,RG.st,RG.st,RG.st,trivial⟩ ?_;intro a8 w8 M8;cases o4 with
 | false =>
  repeat refine wp_seq ?_
  refine wp_cond_true (M8.ev (v:=.bool true) (by kernel_rfl)) ?_;repeat refine wp_seq ?_
  refine M8.u [.x 8 [] (.bool false)] [(8,.v (.bool false))] ⟨RG.st,trivial⟩ ?_;intro az wz Mz;refine wp_ret ?_;refine bodyPost_ret (v:=.bool false) (RG.bG 8 rfl _ Mz.av) Mz.sl.defers ?_;exact⟨_,rfl,Mz.st.bel.below,rfl⟩
 | true =>
 obtain⟨hb,ht,hn,hf,kb,kt,kn,kf,hF,hG,hm,lm,lc⟩:=hgood rfl rfl rfl rfl rfl;have heq:=eqN lm lc;repeat refine wp_seq ?_
 refine wp_cond_false (M8.ev (v:=.bool false) (by kernel_rfl)) ?_;refine wp_skip ?_;repeat refine wp_seq ?_
 refine M8.d (MI c s (tv t0) (tv tb) (tv tt) (tv tn) (tv tf)) [(7,RG.z 12)] [(5,8,tw tf)] [tw t0,tw t1,tw t2,wn c,wn s,tw tf] [(0,.v (.string a)),(1,.v (.string g)),(2,.v (.string b)),(3,.v (.string pr)),(9,.p 0 0),(11,.p 1 0),(13,.p 2 0),(15,.p 3 0),(17,.p 4 0),(19,.p 5 0)] ⟨RG.ld u33 i33,RG.cl hb,RG.ld u33 i33,RG.ld u56 i56,RG.cl ht,RG.cl hn,RG.cl hf,RG.mk 5 53,RG.pt i56,trivial⟩ ?_;intro j9 a9 w9 M9;repeat refine wp_seq ?_
 refine M9.d (MH c s (tv t1) (tv t2) (tv sb) (tv st) (tv sn) (tv sf)) [(8,RG.z 12)] [(6,9,tw sf)] [tw t0,tw t1,tw t2,wn c,wn s,tw tf,tw sf] [(0,.v (.string a)),(1,.v (.string g)),(2,.v (.string b)),(3,.v (.string pr)),(15,.p 3 0),(19,.p 5 0),(20,.p 6 0)] ⟨RG.ld u33 i33,RG.ld u56 i56,RG.cl kb,RG.ld u33 i33,RG.ld u56 i56,RG.cl kt,RG.cl kn,RG.cl kf,RG.mk 6 53,RG.pt i56,trivial⟩ ?_;intro jA aA wA MA;repeat refine wp_seq ?_
 refine MA.e (MG a g b c m (tv tf) (tv sf) F G) [(8,.v (.bool (decide (m=c))))] ⟨RG.st,RG.st,RG.st,RG.ld u56 i56,RG.cl hF,RG.ld u56 i56,RG.cl hG,RG.cl hm,RG.ld u33 i33,RG.aL rfl .eql 49 49 91 92 (nv m) (nv c) (.bool (decide (m=c))) rfl rfl RG.sx RG.sx (fun w=>by kernel_rfl) heq,RG.st,trivial⟩ ?_;intro aB wB MB;refine wp_ret ?_;refine bodyPost_ret (v:=.bool (decide (m=c))) (RG.bG 8 rfl _ MB.av) MB.sl.defers ?_;exact⟨_,rfl,MB.st.bel.below,by unfold vsR;rw[show(true && true && true && !false && true && true && decide (m=c))=decide (m=c) from rfl]⟩
end
section
open Go.RowKit Go.Sort Go.Deep
variable {P:Nat}[NeZero P]{N:Nat}
theorem OW(pr:ByteArray)(h:pr.size=64)(w:World):(Rk 9 (.string pr) none (some (.int .i64 32)) none).run prog w=.ok (.string (pr.extract 0 32)) w:=by
 go_simp
theorem OV(pr:ByteArray)(h:pr.size=64)(w:World):(Rk 9 (.string pr) (some (.int .i64 32)) none none).run prog w=.ok (.string (pr.extract 32 64)) w:=by
 go_simp
noncomputable def vsF (P:Nat) [NeZero P] (a:Bs) (c s:Nat):Bs:=wr (EC.add (EC.mul s (gG P)) (EC.neg (EC.mul c (dQ P a))))
noncomputable def vsG (P:Nat) [NeZero P] (g b:Bs) (c s:Nat):Bs:=wr (EC.add (EC.mul s (dQ P g)) (EC.neg (EC.mul c (dQ P b))))
noncomputable def vsM (P:Nat) [NeZero P] (N:Nat) (a g b:Bs) (c s:Nat):Nat:=asm N g.toList a.toList b.toList (vsF P a c s).toList (vsG P g b c s).toList
noncomputable def vsT (P:Nat) [NeZero P] (N:Nat) (a g b:Bs) (pr:ByteArray):Bool:=
 vsR (real P a) (real P g) (real P b) (!((pr.size:Int) == 64)) (rq N (pr.extract 0 32).data).isSome (rq N (pr.extract 32 64).data).isSome (decide (vsM P N a g b (nuV (pr.extract 0 32).data) (nuV (pr.extract 32 64).data)=nuV (pr.extract 0 32).data))
def ngT(t:T3 P):T3 P:=(t.1,0-t.2.1,t.2.2)
theorem CG{bs:Bs}(h:(rq N bs).isSome=true):nuV bs<N:=by
 obtain⟨n,hn⟩:=Qz.1 h;rw[<-rN hn];unfold rq at hn;split at hn
 ·rename_i h
  rw[<-Qn.inj hn];exact h.2
 ·cases hn
theorem Nr(C:Fl3 P)(O:Ord N)(a g b pr:ByteArray)(ha:a.size<=4096)(hg:g.size<=4096)(hb:b.size<=4096):Gives 9 #[.string a,.string g,.string b,.string pr] (.bool (vsT P N a.data g.data b.data pr)):=by
 unfold vsT;have hl:(!((pr.size:Int) == 64))=false->pr.size=64:=fun h=>by
  have:((pr.size:Int) == 64)=true:=by simpa using h
  have h2:(pr.size:Int)=64:=by simpa using this
  omega
 have h3:=CP O (pr.extract 0 32);have h4:=CP O (pr.extract 32 64);have l3:=wR (pr.extract 0 32).data;have l4:=wR (pr.extract 32 64).data;have q3:=fun h=>CG (N:=N) (bs:=(pr.extract 0 32).data) h
 have q4:=fun h=>CG (N:=N) (bs:=(pr.extract 32 64).data) h
 generalize nuV (pr.extract 0 32).data=c at h3 l3 q3⊢;generalize nuV (pr.extract 32 64).data=s at h4 l4 q4⊢;have hm:vsM P N a.data g.data b.data c s<N:=tN O _ _ _ _ _;have hmul:∀n,n<top->∀d:Bs,real P d=true->FracT (tmF n (rdT P d) 256) (EC.mul n (dQ P d)):=fun n hn d hd=>by
  have h:=uD C (n:=n) (by unfold top at hn;omega) (gI C (iL hd)) 256 (PX _);rwa[Tv,Sa,U8]at h
 refine Nq (P:=P) a g b pr (pr.extract 0 32) (pr.extract 32 64) (rdT P a.data) (rdT P g.data) (rdT P b.data) _ _ _ _ _ _ c s (vsM P N a.data g.data b.data c s) (tmF s (gT P) 256) (tmF c (rdT P a.data) 256) (ngT (tmF c (rdT P a.data) 256)) (plF (tmF s (gT P) 256) (ngT (tmF c (rdT P a.data) 256))) (tmF s (rdT P g.data) 256) (tmF c (rdT P b.data) 256) (ngT (tmF c (rdT P b.data) 256)) (plF (tmF s (rdT P g.data) 256) (ngT (tmF c (rdT P b.data) 256))) (vsF P a.data c s) (vsG P g.data b.data c s) rfl (nP C a) (nP C g) (nP C b) (fun h w=>OW pr (hl h) w) (fun h w=>OV pr (hl h) w) h3 h4 ?_;intro r0 r1 r2 _ _;obtain⟨p1,f1⟩:=FracT.plus C (vV C l4) (hmul c l3 a.data r0).neg;obtain⟨p2,f2⟩:=FracT.plus C (hmul s l4 g.data r1) (hmul c l3 b.data r2).neg;refine⟨wL C s l4,gK C _ l3 _ (gI C (iL r0)),wJ C _ _ _,p1,gK C _ l4 _ (gI C (iL r1)),gK C _ l3 _ (gI C (iL r2)),wJ C _ _ _,p2,dP C f1,dP C f2,?_,PY hm O.le,l3⟩;exact CQ O g a b ⟨_⟩ ⟨_⟩ (by omega) (by omega) (by omega) (by show(wr _).size<=_;rw[aN];decide) (by show(wr _).size<=_;rw[aN];decide)
theorem Ei{W:World}{base m:Nat}{T:TypeId}{e:Value}{xs:List Value}(h:W.ownsRow base T 1 e m xs)(hm:0<m):∃g cap,e=.slice (some ⟨g,0,none⟩) m cap/\base<=g/\g<W.heap.size/\∀j,j<m->W.cell? ⟨g,j,none⟩=xs[j]?:=by
 rcases h.2 with⟨_,h0⟩|⟨g,cap,cur,rfl,hb,hg,h1,h2,h3,h4⟩
 ·omega
 ·refine⟨g,cap,rfl,hb,(Ql.1 hg).1,fun j hj=>?_⟩;rw[<-h4,List.getElem?_take_of_lt (by omega)];simp[Rs,hg]
theorem uC(w:World)(u v:Value)(T U:TypeId):Below w.heap.size w ((w.alloc (.cells #[u] T)).alloc (.cells #[v] U))/\((w.alloc (.cells #[u] T)).alloc (.cells #[v] U)).heap.size=w.heap.size+2/\((w.alloc (.cells #[u] T)).alloc (.cells #[v] U)).cell? ⟨w.heap.size,0,none⟩=some u/\((w.alloc (.cells #[u] T)).alloc (.cells #[v] U)).cell? ⟨w.heap.size+1,0,none⟩=some v:=by
 have h1:=RG.Made.alloc w [u] T;have h2:=RG.Made.alloc (w.alloc (.cells #[u] T)) [v] U;rw[P4]at h2;refine⟨h1.bel.trans (h2.bel.mono (by rw[P4];omega)),by rw[P4,P4],?_,h2.range 0 _ rfl⟩;have hlt:=h1.lt;rw[QD (a:=⟨w.heap.size,0,none⟩) (VY _ _ _ hlt)];exact h1.range 0 _ rfl
theorem Nj{f:Nat->List Value}{C:List Value}(h:Rows 4 2 f 2 C)(h0:∀j,(f j).length=4):C=f 0++f 1:=by
 apply List.ext_getElem?;intro j;have hl:=h.len;by_cases hj:j<8
 ·have e:j=4*(j/4)+j%4:=by omega
  have hr:=h.row (j/4) (j%4) (by omega) (by omega);rw[<-e]at hr;rw[hr];have h3:j/4=0\/j/4=1:=by omega
  rcases h3 with h3|h3
  ·rw[h3,QU (by rw[h0];omega)];congr 1;omega
  ·rw[h3,Si (by rw[h0];omega),h0];congr 1;omega
 ·rw[Sv (by omega),Sv (by simp only[P9,h0];omega)]
theorem G7(q:Option Addr)(c:Nat)(w:World):Calls prog 40 #[.func (.func 31) #[] #[],.slice q 0 c] w (Ret fun e w'=>Below w.heap.size w w'/\∃K,e=.tuple #[.slice (some ⟨K,0,none⟩) 0 0,.bool true]):=by
 obtain⟨C0,hC0,hmk⟩:=NJ 0 (by decide);have hmk':(Rf 81 (.int .i64 0) (.int .i64 0)).run prog w=.ok (.slice (some ⟨w.heap.size,0,none⟩) 0 0) (w.alloc (.cells C0.toArray 38)):=hmk w;obtain⟨w1,hw1⟩:∃w1,Hid (w.alloc (.cells C0.toArray 38)=w1):=⟨_,rfl⟩
 rw[hw1.out]at hmk';have K1:Hid (Below w.heap.size w w1):=by rw[<-hw1.out];exact aH _ _
 clear hmk hC0 hw1;go_enter Tryz.func40,Tryz.ntmps40;go_wp2;clear hmk';go_loopg [16] 0 (fun m s16 W=>s16=.int .i64 0/\Hid (Below w.heap.size w W))
 case atStart=>exact⟨rfl,K1.out⟩
 case round =>
  clear K1;obtain⟨rfl,KM⟩:=hrel;go_wp2
  go_ret2
  exact⟨_,rfl,KM.out,_,rfl⟩
def RpT(N:Nat)(b:Bs):Bool:=decide (b.size=64) && ((rq N (b.extract 0 32)).isSome && (rq N (b.extract 32 64)).isSome)
def RpR(N:Nat)(w:World)(b:Bs)(e:Value)(w':World):Prop:=
 Below w.heap.size w w'/\((RpT N b=true/\∃q k,e=.tuple #[q,.slice (some ⟨k,0,none⟩) 2 2,.bool true]/\w.heap.size<=k/\k<w'.heap.size/\w'.rangeAt k 0 (wn (nuV (b.extract 0 32))++wn (nuV (b.extract 32 64)))/\w'.there k 0 8)\/(RpT N b=false/\∃q1 q2,e=.tuple #[q1,q2,.bool false]))
theorem Fo{b:Bs}(h:(rq N b).isSome=true):(rq N b).getD 0=nuV b:=by
 obtain⟨n,hn⟩:=Qz.1 h;rw[hn,Option.getD_some,rN hn]
theorem nM(O:Ord N)(v:Value)(b:Bs)(w:World)(hv:SP.PartOk w v b.toList):Calls prog 41 #[v,.int .i64 0,.int .i64 2] w (Ret (RpR N w b)):=by
 obtain⟨a0,sb,so,cap,bs,rfl,hbe,hcap,-,hor⟩:=hv;obtain rfl:bs=b:=Array.ext' hbe;clear hbe;by_cases h64:bs.size=64
 ·obtain⟨rfl,hH⟩:a0=some ⟨sb,so,none⟩/\Holds encB w sb so bs:=by
   rcases hor with h|h
   ·omega
   ·exact h
  clear hor;have hlt:sb<w.heap.size:=Gk hH (by omega);rw[h64]at hcap⊢;have hs1:∀w:World,(Rk 22 (.slice (some ⟨sb,so,none⟩) 64 cap) none (some (.int .i64 0)) none).run prog w=.ok (.slice (some ⟨sb,so,none⟩) 0 cap) w:=fun w=>by
   go_simp
  have hs2:∀w:World,(Rk 22 (.slice (some ⟨sb,so,none⟩) 64 cap) (some (.int .i64 0)) none none).run prog w=.ok (.slice (some ⟨sb,so,none⟩) 64 cap) w:=fun w=>by
   go_simp
  have HH:Hid (Holds encB w sb so bs/\bs.size=64):=⟨hH,h64⟩
  clear hH h64;go_enter Tryz.func41,Tryz.ntmps41;go_wp2_with fail
  refine(Ag sb so 0 cap 33 (by decide) w).mono ?_;rintro e w1 ⟨v1,rfl,rfl,hw1⟩;obtain⟨h1,h2,h3,h4⟩:=uC w (.slice (some ⟨sb,so,none⟩) 0 cap) (.int .i64 33) 22 3;have hw1':w1=(w.alloc (.cells #[.slice (some ⟨sb,so,none⟩) 0 cap] 22)).alloc (.cells #[.int .i64 33] 3):=hw1;rw[<-hw1']at h1 h2 h3 h4;clear hw1 hw1';have hcl:=Af sb so 33 0 0 cap w1 (by decide) rfl (by decide) (Rh _) (by decide) w.heap.size (by omega) h3 h4;clear h3 h4;go_wp2_with fail
  refine hcl.mono ?_;rintro e w2 ⟨v2,rfl,hb2,-,hn2⟩;obtain rfl:=hn2.2 trivial;have H2:Hid (Below w.heap.size w w2):=h1.trans (hb2.mono h1.size);clear h1 h2 hcl hb2 hn2;go_wp2_with fail
  refine(G7 none 0 w2).mono ?_;rintro e w3 ⟨v3,rfl,hb3,K3,rfl⟩;have H3:Hid (Below w.heap.size w w3):=H2.out.trans (hb3.mono H2.out.size);clear hb3 H2;go_wp2_with fail
  refine(Ag sb so 64 cap 32 (by decide) w3).mono ?_;rintro e w4 ⟨v4,rfl,rfl,hw4⟩;obtain⟨h1,h2,h3,h4⟩:=uC w3 (.slice (some ⟨sb,so,none⟩) 64 cap) (.int .i64 32) 22 3;have hw4':w4=(w3.alloc (.cells #[.slice (some ⟨sb,so,none⟩) 64 cap] 22)).alloc (.cells #[.int .i64 32] 3):=hw4;rw[<-hw4']at h1 h2 h3 h4;clear hw4 hw4';have hcl:=Af sb so 32 2 64 cap w4 (by decide) rfl (by decide) hcap (by decide) w3.heap.size (by omega) h3 h4;clear h3 h4;go_wp2_with fail
  refine hcl.mono ?_;rintro e w5 ⟨v5,rfl,hb5,hr5,-⟩;obtain⟨g5,c5,rfl,hg5,hl5,hc5⟩:=Ei hr5 (by decide);have H5:Hid (Below w.heap.size w w5):=(H3.out.trans (h1.mono H3.out.size)).trans (hb5.mono (Qj H3.out.size h1.size));clear h1 h2 hcl hb5 hg5 hr5 H3;have HA:Hid (Args w5 (some ⟨g5,0,none⟩) 2 (fun j=>bs.extract (32*j) (32*j+32))):=fun _=>by
   refine⟨g5,rfl,hl5,fun j hj=>⟨chv sb so 32 j,?_,?_⟩⟩
   ·rw[hc5 j hj];simp[hj]
   ·have hsz:=HH.out.2;refine⟨_,32,32,rfl,by rw[Rb];omega,fun _=>⟨sb,so+32*j,rfl,PX _,PY hlt H5.out.size,?_⟩⟩;have hH5:Holds encB w5 sb so bs:=Holds.below HH.out.1 H5.out hlt;exact mZ (32*j) 32 hH5 (by omega)
  clear hl5 hc5;go_wp2_with fail
  refine(JV O 2 c5 (by decide) (some ⟨g5,0,none⟩) _ w5 HA.out).mono ?_;have HN:Hid (w.heap.size<=w5.heap.size):=H5.out.size;rintro e w6 ⟨v6,rfl,⟨hno,hb6,rfl⟩|⟨hall,k6,C6,hM6,hRo,rfl⟩⟩
  ·have H6:Hid (Below w.heap.size w w6/\RpT N bs=false):=by
    refine⟨H5.out.trans (hb6.mono HN.out),?_⟩;obtain⟨j,hj,hq⟩:=hno;unfold RpT;have hj2:j=0\/j=1:=by omega
    rcases hj2 with rfl|rfl
    ·have hq':rq N (bs.extract 0 32)=none:=hq;rw[hq'];simp
    ·have hq':rq N (bs.extract 32 64)=none:=hq;rw[hq'];simp
   clear hno hb6 H5 HA HH;go_wp2;refine bodyPost_ret (v:=.tuple #[.slice (some ⟨K3,0,none⟩) 0 0,.slice none 0 0,.bool false]) (dV (a:=⟨_,_⟩) 6 7 8 rfl _ _ _ rfl rfl rfl) rfl ?_;exact⟨_,rfl,H6.out.1,Qc ⟨H6.out.2,_,_,rfl⟩⟩
  ·have H6:Hid (RpR N w bs (.tuple #[.slice (some ⟨K3,0,none⟩) 0 0,.slice (some ⟨k6,0,none⟩) 2 2,.bool true]) w6):=by
    have q0:(rq N (bs.extract 0 32)).isSome=true:=hall 0 (by decide);have q1:(rq N (bs.extract 32 64)).isSome=true:=hall 1 (by decide);refine⟨H5.out.trans (hM6.bel.mono HN.out),Qh ⟨?_,_,k6,rfl,Qj HN.out hM6.le,hM6.lt,?_,?_⟩⟩
    ·unfold RpT;rw[q0,q1,HH.out.2];rfl
    ·have hC:=Nj hRo (fun _=>rfl);rw[<-Fo q0,<-Fo q1];have:=hM6.range;rw[hC]at this;exact this
    ·have hC:=hRo.len;have:=hM6.there;rw[hC]at this;exact this
   clear hall hM6 hRo H5 HA HH;go_wp2;refine bodyPost_ret (v:=.tuple #[.slice (some ⟨K3,0,none⟩) 0 0,.slice (some ⟨k6,0,none⟩) 2 2,.bool true]) (dV (a:=⟨_,_⟩) 6 7 8 rfl _ _ _ rfl rfl rfl) rfl ?_;exact⟨_,rfl,H6.out⟩
 ·have hne:((bs.size:Int) == 64)=false:=by simpa using(by omega:¬(bs.size:Int)=64)
  have HT:Hid (RpT N bs=false):=by show _=_;unfold RpT;rw[decide_eq_false h64];rfl
  have h64':¬(bs.size:Int)=64:=by omega
  go_enter Tryz.func41,Tryz.ntmps41;go_wp2;refine bodyPost_ret (v:=.tuple #[.slice none 0 0,.slice none 0 0,.bool false]) (dV (a:=⟨_,_⟩) 6 7 8 rfl _ _ _ rfl rfl rfl) rfl ?_;exact⟨_,rfl,Qd _ _,Qc ⟨HT.out,_,_,rfl⟩⟩
end
section
open Go.RowKit Go.Sort Go.Deep
variable {P:Nat}[NeZero P]{N:Nat}
theorem Ko(n:Nat)(w:World):(SQ 66 (nv n)).run prog w=.ok (.pointer (some ⟨w.heap.size,0,none⟩)) (w.alloc (.cells (wn n).toArray 66)):=by kernel_rfl
section
variable (w:World) (k4 k5 k6 k7 k8 c s m B0:Nat) (a b T:Bs)
def RFo:Nat->Value->World->Prop
 | 0,v,_=>v=pvl a
 | 1,v,_=>v=nv s
 | 2,v,W=>Sm B0 W v [(s,a)]
 | 3,v,_=>v=pvl b
 | 4,v,_=>v=nv c
 | 5,v,W=>Sm B0 W v [(c,b)]
 | 6,v,W=>Sm B0 W v [(s,a),(m,b)]
 | 7,v,_=>v=pvl T
 | _,_,_=>True
def GFo:RG.Gw:=⟨RFo c s m B0 a b T,fun W=>Kp w W [(k8,z33),(k7,wn s),(k6,wn c),(k5,aC b),(k4,aC a)]/\B0<=W.heap.size,fun i v W W' hb h=>by
 match i,h with
 | 0,h=>exact h
 | 1,h=>exact h
 | 2,h=>exact Sm.grow h hb
 | 3,h=>exact h
 | 4,h=>exact h
 | 5,h=>exact Sm.grow h hb
 | 6,h=>exact Sm.grow h hb
 | 7,h=>exact h
 | _+8,_=>trivial,fun W W' hb h=>⟨h.1.grow hb,Qj h.2 hb.size⟩⟩
end
theorem zZ(C:Fld P)(O:Ord N)(hord:∀r:EC.Pt P,EC.On r->EC.mul N r=none){X Y:EC.Pt P}(hX:EC.On X)(hY:EC.On Y){c s:Nat}(hc:c<N)(hs:s<N):Gives 42 #[pvl (wr X),pvl (wr Y),nv c,nv s] (pvl (wr (EC.add (EC.mul s X) (EC.neg (EC.mul c Y))))):=by
 intro w;have hpts:PtsL P [(s,wr X),(sTi N (sMi N 0 1) c,wr Y)]:=fun y hy=>by
  rcases QT.1 hy with rfl|hy
  ·exact⟨X,hX,rfl⟩
  ·rw[show y=(sTi N (sMi N 0 1) c,wr Y) by simpa using hy];exact⟨Y,hY,rfl⟩
 have hsum:fR P [(s,wr X),(sTi N (sMi N 0 1) c,wr Y)]=EC.add (EC.mul s X) (EC.neg (EC.mul c Y)):=by
  show EC.add (EC.mul s (fE P (wr X))) (EC.add (EC.mul (sTi N (sMi N 0 1) c) (fE P (wr Y))) none)=_;rw[fQ C hX,fQ C hY,EC.bF,Jl C O hord hY]
 rw[<-hsum];have HE:Hid (PtsL P [(s,wr X),(sTi N (sMi N 0 1) c,wr Y)]/\sTi N (sMi N 0 1) c<N/\(wr X).size=33/\(wr Y).size=33/\(wr (fR P [(s,wr X),(sTi N (sMi N 0 1) c,wr Y)])).size=33):=⟨hpts,Rz _ O.pos,aN _,aN _,aN _⟩
 have HC:Hid (Fld P/\Ord N/\(∀r:EC.Pt P,EC.On r->EC.mul N r=none)/\c<N/\s<N):=⟨C,O,hord,hc,hs⟩
 clear hsum hpts hX hY C O hord hc hs;generalize wr X=a at HE⊢;generalize wr Y=b at HE⊢;obtain⟨T,hT⟩:∃T,Hid (wr (fR P [(s,a),(sTi N (sMi N 0 1) c,b)])=T):=⟨_,rfl⟩
 rw[hT.out]at HE⊢;obtain⟨va,hva⟩:∃v,Hid (pvl a=v):=⟨_,rfl⟩
 obtain⟨vb,hvb⟩:∃v,Hid (pvl b=v):=⟨_,rfl⟩
 obtain⟨vc,hvc⟩:∃v,Hid (nv c=v):=⟨_,rfl⟩
 obtain⟨vs,hvs⟩:∃v,Hid (nv s=v):=⟨_,rfl⟩
 have bA:(SQ 38 (pvl a)).run prog w=.ok (.pointer (some ⟨w.heap.size,0,none⟩)) (w.alloc (.cells (aC a).toArray 38)):=tJ HE.out.2.2.1 w;obtain⟨w1,hw1⟩:∃w1,Hid (w.alloc (.cells (aC a).toArray 38)=w1):=⟨_,rfl⟩
 have bB:(SQ 38 (pvl b)).run prog w1=.ok (.pointer (some ⟨w1.heap.size,0,none⟩)) (w1.alloc (.cells (aC b).toArray 38)):=tJ HE.out.2.2.2.1 w1;obtain⟨w2,hw2⟩:∃w2,Hid (w1.alloc (.cells (aC b).toArray 38)=w2):=⟨_,rfl⟩
 have bC:=Ko c w2;obtain⟨w3,hw3⟩:∃w3,Hid (w2.alloc (.cells (wn c).toArray 66)=w3):=⟨_,rfl⟩
 have bS:=Ko s w3;obtain⟨w4,hw4⟩:∃w4,Hid (w3.alloc (.cells (wn s).toArray 66)=w4):=⟨_,rfl⟩
 obtain⟨w5,hw5⟩:∃w5,Hid (w4.alloc (.cells z33.toArray 38)=w5):=⟨_,rfl⟩
 rw[hva.out,hw1.out]at bA;rw[hvb.out,hw2.out]at bB;rw[hvc.out,hw3.out]at bC;rw[hvs.out,hw4.out]at bS;rw[hva.out,hvb.out,hvc.out,hvs.out];have e1:w1.heap.size=w.heap.size+1:=by rw[<-hw1.out,P4]
 have e2:w2.heap.size=w.heap.size+2:=by rw[<-hw2.out,P4,e1]
 have e3:w3.heap.size=w.heap.size+3:=by rw[<-hw3.out,P4,e2]
 have e4:w4.heap.size=w.heap.size+4:=by rw[<-hw4.out,P4,e3]
 rw[e1]at bB;rw[e2]at bC;rw[e3]at bS;have K5:Hid (Kp w w5 [(w.heap.size+4,z33),(w.heap.size+3,wn s),(w.heap.size+2,wn c),(w.heap.size+1,aC b),(w.heap.size,aC a)]):=by
  have q1:Row w1 w.heap.size (aC a):=by rw[<-hw1.out];exact aJ w _ _
  have q2:Row w2 (w.heap.size+1) (aC b):=by rw[<-hw2.out,<-e1];exact aJ w1 _ _
  have q3:Row w3 (w.heap.size+2) (wn c):=by rw[<-hw3.out,<-e2];exact aJ w2 _ _
  have q4:Row w4 (w.heap.size+3) (wn s):=by rw[<-hw4.out,<-e3];exact aJ w3 _ _
  have q5:Row w5 (w.heap.size+4) z33:=by rw[<-hw5.out,<-e4];exact aJ w4 _ _
  have b1:Below w.heap.size w w1:=by rw[<-hw1.out];exact aH w _
  have b2:Below w1.heap.size w1 w2:=by rw[<-hw2.out];exact aH w1 _
  have b3:Below w2.heap.size w2 w3:=by rw[<-hw3.out];exact aH w2 _
  have b4:Below w3.heap.size w3 w4:=by rw[<-hw4.out];exact aH w3 _
  have b5:Below w4.heap.size w4 w5:=by rw[<-hw5.out];exact aH w4 _
  have t0:Kp w w1 [(w.heap.size,aC a)]:=⟨b1,fun x hx=>by rw[show x=(w.heap.size,aC a) by simpa using hx];exact q1⟩
  exact(((((((t0.grow b2).cons q2).grow b3).cons q3).grow b4).cons q4).grow b5).cons q5
 have BA:=Hid.mk' bA;have BB:=Hid.mk' bB;have BC:=Hid.mk' bC;have BS:=Hid.mk' bS;have HW5:Hid (w4.alloc (.cells z33.toArray 38)=w5/\w4.heap.size=w.heap.size+4):=⟨hw5.out,e4⟩
 clear bA bB bC bS hw1 hw2 hw3 hw4 hw5 e1 e2 e3 e4;go_enter Tryz.func42,Tryz.ntmps42;go_wp2_with (first|(refine bH (u:=va) (v:=.pointer (some ⟨w.heap.size,0,none⟩)) (w':=w1) rfl 38 (.tmp 0) rfl ?_ ?_ ?_;rfl;exact BA.out)|(refine bH (u:=vb) (v:=.pointer (some ⟨w.heap.size+1,0,none⟩)) (w':=w2) rfl 38 (.tmp 1) rfl ?_ ?_ ?_;rfl;exact BB.out)|(refine bH (u:=vc) (v:=.pointer (some ⟨w.heap.size+2,0,none⟩)) (w':=w3) rfl 66 (.tmp 2) rfl ?_ ?_ ?_;rfl;exact BC.out)|(refine bH (u:=vs) (v:=.pointer (some ⟨w.heap.size+3,0,none⟩)) (w':=w4) rfl 66 (.tmp 3) rfl ?_ ?_ ?_;rfl;exact BS.out)|(refine aP (v:=.pointer (some ⟨w.heap.size+4,0,none⟩)) (w':=w5) rfl (.alloc 38) rfl ?_ ?_;(rw[<-HW5.out.1,<-HW5.out.2];kernel_rfl))|fail)
 clear BA BB BC BS HW5;refine(GFo w w.heap.size (w.heap.size+1) (w.heap.size+2) (w.heap.size+3) (w.heap.size+4) c s (sTi N (sMi N 0 1) c) w.heap.size a b T).last 8 (by kernel_rfl) (by kernel_rfl) (by kernel_rfl) ⟨
  RG.b8 38 4 rfl uCP fun a' W hp=>⟨w.heap.size,0,aC a,hp.o 4 (by kernel_rfl),(hp.b.1.at 4 rfl).2.1,by rw[aG HE.out.2.2.1];exact aQ,rfl⟩,
  RG.b8 66 7 rfl u40 fun a' W hp=>⟨w.heap.size+3,0,wn s,hp.o 7 (by kernel_rfl),(hp.b.1.at 1 rfl).2.1,i40,rfl⟩,
  RG.dA fun a' W hp=>⟨[(9,pvl a),(10,nv s)],29,#[pvl a,nv s],⟨hp.n 0 9 (by kernel_rfl) (by kernel_rfl),hp.n 1 10 (by kernel_rfl) (by kernel_rfl),trivial⟩,by kernel_rfl,(lW a HE.out.2.2.1 s W).mono (by
   rintro e W' ⟨u,rfl,hb,k,rfl,hk,hR⟩;exact⟨_,rfl,hb,Sm.one hR (Qj hp.b.1.bl.size hk) rfl⟩)⟩,
  RG.b8 38 5 rfl uCP fun a' W hp=>⟨w.heap.size+1,0,aC b,hp.o 5 (by kernel_rfl),(hp.b.1.at 3 rfl).2.1,by rw[aG HE.out.2.2.2.1];exact aQ,rfl⟩,
  RG.b8 66 6 rfl u40 fun a' W hp=>⟨w.heap.size+2,0,wn c,hp.o 6 (by kernel_rfl),(hp.b.1.at 2 rfl).2.1,i40,rfl⟩,
  RG.dA fun a' W hp=>⟨[(12,pvl b),(13,nv c)],29,#[pvl b,nv c],⟨hp.n 3 12 (by kernel_rfl) (by kernel_rfl),hp.n 4 13 (by kernel_rfl) (by kernel_rfl),trivial⟩,by kernel_rfl,(lW b HE.out.2.2.2.1 c W).mono (by
   rintro e W' ⟨u,rfl,hb,k,rfl,hk,hR⟩;exact⟨_,rfl,hb,Sm.one hR (Qj hp.b.1.bl.size hk) rfl⟩)⟩,
  RG.dA fun a' W hp=>⟨[(11,a'.eval (.tmp 11)),(14,a'.eval (.tmp 14))],81,#[a'.eval (.tmp 11),a'.eval (.tmp 14)],⟨rfl,rfl,trivial⟩,by kernel_rfl,(AU HC.out.2.1 w.heap.size (a'.eval (.tmp 11)) (a'.eval (.tmp 14)) [(s,a)] [(c,b)] (by simp) (by simp) (by simp) (fun x hx=>by rw[show x=(s,a) by simpa using hx];exact HE.out.2.2.1) (fun x hx=>by rw[show x=(c,b) by simpa using hx];exact HE.out.2.2.2.1) (fun x hx=>by rw[show x=(c,b) by simpa using hx];exact HC.out.2.2.2.1) W hp.b.1.bl.size (hp.n 2 11 (by kernel_rfl) (by kernel_rfl)) (hp.n 5 14 (by kernel_rfl) (by kernel_rfl))).mono (by
   rintro e W' ⟨u,rfl,hb,hS⟩;exact⟨_,rfl,hb,hS.mono hp.b.1.bl.size⟩)⟩,
  RG.dA fun a' W hp=>⟨[(15,a'.eval (.tmp 15))],30,#[a'.eval (.tmp 15)],⟨rfl,trivial⟩,by kernel_rfl,by
   have hS:Sm w.heap.size W (a'.eval (.tmp 15)) [(s,a),(sTi N (sMi N 0 1) c,b)]:=hp.n 6 15 (by kernel_rfl) (by kernel_rfl);refine(hS.point HC.out.1 HC.out.2.1 HC.out.2.2.1 (by simp) (by simp) (fun x hx=>?_) HE.out.1).mono ?_
   ·rcases QT.1 hx with rfl|hx
    ·exact HC.out.2.2.2.2
    ·rw[show x=(sTi N (sMi N 0 1) c,b) by simpa using hx];exact HE.out.2.1
   ·rintro e W' ⟨u,rfl,hb,rfl⟩;exact⟨_,rfl,hb,by rw[hT.out];rfl⟩⟩,trivial⟩ ⟨K5.out.drew,K5.out.bl.size⟩ ?_
 intro V wa hRa hBa;have hV7:V 7=pvl T:=hRa 7 (by decide);dsimp only[RG.iC,Tb,Wb,Wg];obtain⟨vT,hvT⟩:∃v,Hid (pvl T=v):=⟨_,rfl⟩
 rw[hV7,hvT.out];generalize V 0=s0;generalize V 1=s1;generalize V 2=s2;generalize V 3=s3;generalize V 4=s4;generalize V 5=s5;generalize V 6=s6;obtain⟨wb,hwb⟩:∃wb,Hid (wa.setCells (w.heap.size+4) 0 (aC T)=wb):=⟨_,rfl⟩
 have hlen:(aC T).length=33:=aG HE.out.2.2.2.2;have hR8:Row wa (w.heap.size+4) z33:=hBa.1.at 0 rfl;have KB:Hid (Row wb (w.heap.size+4) (aC T)/\Below w.heap.size w wb):=by
  rw[<-hwb.out];exact⟨hR8.put (by rw[hlen];rfl),RG.below_setCells (by omega) _ _ _ hBa.1.bl⟩
 have HI:Hid (wa.there (w.heap.size+4) 0 (aC T).toArray.size/\(prog.info? 38).map (·.size)=some (aC T).toArray.size/\(prog.info? 38).map (·.size)=some (aC T).length):=by
  have e:(aC T).toArray.size=33:=by rw[Qr];exact hlen
  rw[e,hlen];exact⟨hR8.2.2,aQ,aQ⟩
 clear hlen hR8 hRa hBa hV7 K5 V;simp only[QQ,Qs,QM,QP];go_wp2_with (first|(refine wpList_store_mid rfl 38 _ _ rfl (w.heap.size+4) 0 (aC T).toArray ?_ ?_ ?_ ?_ ?_ ?_;rfl;exact hvT.out.symm;exact HI.out.1;exact HI.out.2.1;exact cV T;rw[show(aC T).toArray.toList=aC T from rfl,hwb.out])|fail)
 refine bodyPost_ret (bE 8 38 rfl KB.out.1 rfl uCP HI.out.2.2) rfl ?_;exact⟨_,rfl,KB.out.2,rfl⟩
end
section
open Go.RowKit Go.Sort Go.Deep
variable {P:Nat}[NeZero P]{N:Nat}
theorem I7{W:World}{B0 n:Nat}{v:Value}{T:Bs}(h:W.ownsRow B0 5 1 v n (cb T))(hn:0<n)(hT:T.size=n):El n W v T:=by
 have h0:=fun {g:Nat}=>h.cells (g:=g)
 rcases h.2 with⟨-,h2⟩|⟨g,cap,cur,rfl,-,hc,hq⟩
 ·omega
 ·have hr:W.rangeAt g 0 (cb T):=fun j u hu=>by
   have:=h0 (g:=g) rfl j u hu;rw[add0]at this;rw[P0];exact this
  refine⟨g,cap,rfl,?_,hT,(Ql.1 hc).1,cb_holds hr fun j hj=>⟨?_,?_⟩⟩
  ·exact hq.1
  ·rw[hr j _ (List.getElem?_eq_getElem hj)];rfl
  ·simp[S6,hc]
def Eo(W:World)(v:Value)(T:Bs):Prop:=(v=.slice none 0 0/\T=#[])\/El 64 W v T
theorem Anp.el{c z B0:Nat}{v:Value}{W:World}(h:Anp c z B0 v W):El 64 W v (bx c++bx z):=by
 have h0:W.ownsRow B0 5 1 v 64 (((bx c).toList++(bx z).toList).map encB):=h;rw[<-Array.toList_append]at h0;exact I7 (T:=bx c++bx z) h0 (by decide) (by rw[Qg,aY,aY])
theorem Ed(C:Fl3 P)(O:Ord N)(p0 p1:Option Addr)(n0 c0 n1 c1:Nat)(sk b:Bs)(w:World)(hA:Arg w (.slice p0 n0 c0) sk)(h0:SP.PartOk w (.slice p0 n0 c0) sk.toList)(hA1:Arg33 w (.slice p1 n1 c1) b)(h1:SP.PartOk w (.slice p1 n1 c1) b.toList):
 Calls prog 12 #[.slice p0 n0 c0,.slice p1 n1 c1] w (Ret fun e w'=>Below w.heap.size w w'/\∃v,e=.tuple #[v,.int .i64 (pmT P N sk b).2]/\Eo w' v (pmT P N sk b).1):=by
 have hk:((rq N sk).isSome && !decide ((rq N sk).getD 0=0))=sec N sk:=by
  unfold sec;cases hr:rq N sk with
  | none=>rfl
  | some n=>rw[<-rN hr];rfl
 unfold pmT;cases hs:sec N sk with
 | false =>
  rw[hs]at hk;refine(FU O p0 p1 n0 c0 n1 c1 sk w hA hk).mono ?_;rintro e w' ⟨v,rfl,hb,rfl⟩;exact⟨_,rfl,hb,_,rfl,Qh ⟨rfl,rfl⟩⟩
 | true =>
  rw[hs]at hk;cases hr:real P b with
  | false =>
   refine(FT C.toFld O p0 p1 n0 c0 n1 c1 sk b w hA hA1 hk hr).mono ?_;rintro e w' ⟨v,rfl,hb,rfl⟩;exact⟨_,rfl,hb,_,rfl,Qh ⟨rfl,rfl⟩⟩
  | true =>
   obtain⟨hwr,hon⟩:=fS C hr;obtain⟨hq,-,hx0⟩:=rL hs;have hm:=I0 C.toFld O p0 p1 n0 c0 n1 c1 sk w hA h0 (dQ P b) hon (by rw[hwr];exact hA1) (by rw[hwr];exact h1) (by rw[hwr];exact hr) (nuV sk) hq hx0 (pmK N sk b) (pmC P N sk b) (pmZ P N sk b) (by rw[hwr];rfl) (by rw[hwr];rfl) rfl;refine hm.mono ?_;rintro e w' ⟨v,rfl,hb,u,rfl,hu⟩;exact⟨_,rfl,hb,u,rfl,Qc hu.el⟩
def Oy(f g h:Nat->UInt8)(c z:Nat):List RG.It:=[.s 39 [] (.s 0 3 3),.s 40 [(39,0)] (.p 0 0),.x 41 [(40,1)] (fpv f),.s 42 [] (.s 0 3 3),.s 43 [(42,3)] (.p 0 66),.x 44 [(43,4)] (fpv h),.x 45 [(41,2),(44,5)] (fpr f h),.s 46 [] (.s 0 3 3),.s 47 [(46,7)] (.p 0 33),.x 48 [(47,8)] (fpv g),.s 49 [] (.s 1 2 2),.s 50 [(49,10)] (.p 1 0),.x 51 [(50,11)] (nv c),.s 52 [] (.s 1 2 2),.s 53 [(52,13)] (.p 1 4),.x 54 [(53,14)] (nv z),.m 14 [] 2,.m 15 [] 3,.m 16 [] 4,.m 17 [] 5,.u [(14,16),(45,6)] 2,.u [(15,17),(48,9)] 3,.u [(16,18),(51,12)] 4,.u [(17,19),(54,15)] 5]
def Ox(e f g h r t:Nat->UInt8)(c z:Nat):List RG.It:=[.c 55 [] (fpv e),.s 56 [] (.p 2 0),.x 57 [(56,1)] (fpv f),.x 58 [] (nv c),.x 59 [] (nv z),.c 60 [(55,0),(57,2),(58,3),(59,4)] (fpv r),.x 61 [] (fpv g),.s 62 [] (.p 2 33),.x 63 [(62,7)] (fpv h),.x 64 [] (nv c),.x 65 [] (nv z),.c 66 [(61,6),(63,8),(64,9),(65,10)] (fpv t),.x 67 [(60,5),(66,11)] (fpr r t),.m 18 [] 6,.u [(18,13),(67,12)] 6]
def Ow(f g h r t:Nat->UInt8)(c q:Nat):List RG.It:=[.x 68 [] (fpv g),.x 69 [] (fpr f h),.x 70 [] (fpr r t),.c 71 [(68,0),(69,1),(70,2)] (nv q),.x 72 [] (nv c),.x 73 [(71,3),(72,4)] (.bool (decide (q=c))),.x 8 [(73,5)] (.bool (decide (q=c)))]
theorem uO{w:World}{k o:Nat}{xs ys:List Value}(h1:w.rangeAt k o xs)(h2:w.rangeAt k (o+xs.length) ys):w.rangeAt k o (xs++ys):=fun j v hj=>by
 by_cases hl:j<xs.length
 ·rw[QU hl]at hj;exact h1 j v hj
 ·rw[Si (by omega)]at hj;have:=h2 (j-xs.length) v hj;rwa[show o+xs.length+(j-xs.length)=o+j by omega]at this
theorem Om{P:Program}{Q:Exit->Act->World->Prop}{w0 w:World}{a:Act}{c:Code}{k1 k2 n:Nat}{c1 c2:List Value}(os:List (Tmp × RG.SV))(hb:Below w0.heap.size w0 w)(h1:w.rangeAt k1 0 c1)(h2:w.rangeAt k2 0 c2)(t1:w.there k1 0 c1.length)(t2:w.there k2 0 c2.length)(l1:k1<w.heap.size)(l2:k2<w.heap.size)(b1:w0.heap.size<=k1)(b2:w0.heap.size<=k2)(hne:k1≠k2)
 (h:(os.map fun x=>a.tmps[x.1]?,a.tmps.size,a.defers)=(os.map fun x=>some (x.2.at (RG.ad [k1,k2])),n,[])) (hp:∀a,RG.M w0 w0.heap.size [] n [c1,c2] [k1,k2] os a w->c.wp P Q a w):c.wp P Q a w:=by
 simp only[Ro.injEq]at h;refine hp a ⟨⟨⟨hb.os,hb.tape,hb.output,hb.size,fun j hj _=>hb.block j hj⟩,hb.size,rfl,?_,?_⟩,⟨h.2.1,h.2.2⟩,RG.Olds.mk' fun x hx=>List.map_inj_left.1 h.1 x hx⟩
 ·intro b c hb';match b,hb' with
  | 0,hb'=>cases hb';exact⟨h1,t1,l1,Qh b1⟩
  | 1,hb'=>cases hb';exact⟨h2,t2,l2,Qh b2⟩
  | n+2,hb'=>simp at hb'
 ·intro b c hb' hc' hbc;have hb2:b<2:=hb';have hc2:c<2:=hc';have hbs:(b=0/\c=1)\/(b=1/\c=0):=by omega
  rcases hbs with⟨rfl,rfl⟩|⟨rfl,rfl⟩
  ·exact hne
  ·exact fun e=>hne e.symm
noncomputable def vsP (P:Nat) [NeZero P] (N:Nat) (a g b pr:Bs):Bool:=((real P a && (real P g && real P b)) && RpT N pr) && decide (vsM P N a g b (nuV (pr.extract 0 32)) (nuV (pr.extract 32 64))=nuV (pr.extract 0 32))
theorem H9(C:Fl3 P)(O:Ord N)(hord:∀r:EC.Pt P,EC.On r->EC.mul N r=none)(p0 p1 p2 p3:Option Addr)(n0 n1 n2 n3 c0 c1 c2 c3:Nat)(a g b pr:Bs)(w:World)(h0:Arg33 w (.slice p0 n0 c0) a)(h1:Arg33 w (.slice p1 n1 c1) g)(h2:Arg33 w (.slice p2 n2 c2) b)(h3:SP.PartOk w (.slice p3 n3 c3) pr.toList):
 Calls prog 16 #[.slice p0 n0 c0,.slice p1 n1 c1,.slice p2 n2 c2,.slice p3 n3 c3] w (Ret fun e w'=>Below w.heap.size w w'/\e=.bool (vsP P N a g b pr)):=by
 obtain⟨w1,hw1⟩:∃w1,Hid (w.alloc (.cells #[.slice p0 n0 c0,.slice p1 n1 c1,.slice p2 n2 c2] 22)=w1):=⟨_,rfl⟩
 have hM:=RG.Made.alloc w [.slice p0 n0 c0,.slice p1 n1 c1,.slice p2 n2 c2] 22;obtain⟨L,hL⟩:∃L:Nat->Bs,Hid (L=fun j=>if j=0 then a else if j=1 then g else b):=⟨_,rfl⟩
 have HL:Hid (L 0=a/\L 1=g/\L 2=b):=by rw[hL.out];exact⟨rfl,rfl,rfl⟩
 have hM':RG.Made w w.heap.size [.slice p0 n0 c0,.slice p1 n1 c1,.slice p2 n2 c2] w1:=by rw[<-hw1.out];exact hM
 have hall:=Ms C.toFld w.heap.size 3 3 (by decide) L w1 hM'.lt (fun j hj=>by
  have hj3:j=0\/j=1\/j=2:=by omega
  rcases hj3 with rfl|rfl|rfl
  ·rw[HL.out.1];exact⟨_,hM'.range 0 _ rfl,h0.below hM'.bel⟩
  ·rw[HL.out.2.1];exact⟨_,hM'.range 1 _ rfl,h1.below hM'.bel⟩
  ·rw[HL.out.2.2];exact⟨_,hM'.range 2 _ rfl,h2.below hM'.bel⟩)
 have H1:Hid (Below w.heap.size w w1):=hM'.bel;have H3:Hid (SP.PartOk w (.slice p3 n3 c3) pr.toList):=h3;clear hM hM' h0 h1 h2 h3 hL;go_enter Tryz.func16,Tryz.ntmps16;go_wp2_with fail
 rw[hw1.out];refine hall.mono ?_;clear hall hw1;rintro e w2 ⟨v2,rfl,hb2,⟨hre,K,rfl,hK1,hK2,hKt,hKr⟩|⟨⟨j,hj,hrj⟩,rfl⟩⟩
 ·have H2:Hid (Below w.heap.size w w2):=H1.out.trans (hb2.mono H1.out.size);have hrp:=nM O (.slice p3 n3 c3) pr w2 (H3.out.below H2.out);clear hb2;have HK:Hid (w.heap.size<=K/\K<w2.heap.size/\w2.there K 0 (33*3)/\(∀j,j<3->w2.rangeAt K (33*j) (aC (L j)))/\(∀j,j<3->real P (L j)=true)):=⟨Qj H1.out.size hK1,hK2,hKt,hKr,hre⟩
  clear hre hK1 hK2 hKt hKr H1;go_wp2_with fail
  refine hrp.mono ?_;clear hrp;rintro e w3 ⟨v3,rfl,hb3,⟨hT,q,k,rfl,hk1,hk2,hk3,hk4⟩|⟨hT,q1,q2,rfl⟩⟩
  ·obtain⟨c,hc⟩:∃c,Hid (nuV (pr.extract 0 32)=c):=⟨_,rfl⟩
   obtain⟨z,hz⟩:∃z,Hid (nuV (pr.extract 32 64)=z):=⟨_,rfl⟩
   have hT':=hT;unfold RpT at hT';simp only[Qa,decide_eq_true_eq]at hT';have hcN:c<N:=by rw[<-hc.out];exact CG hT'.2.1
   have hzN:z<N:=by rw[<-hz.out];exact CG hT'.2.2
   rw[hc.out,hz.out]at hk3;have ra:real P a=true:=by have:=HK.out.2.2.2.2 0 (by decide);rwa[HL.out.1]at this
   have rg:real P g=true:=by have:=HK.out.2.2.2.2 1 (by decide);rwa[HL.out.2.1]at this
   have rb:real P b=true:=by have:=HK.out.2.2.2.2 2 (by decide);rwa[HL.out.2.2]at this
   have sa:=nK ra;have sg:=nK rg;have sb:=nK rb;have hG:=Kk C.toFld;have hF:=zZ C.toFld O hord (qB C.toFld) (fS C ra).2 hcN hzN;have hH:=zZ C.toFld O hord (fS C rg).2 (fS C rb).2 hcN hzN;rw[(fS C ra).1]at hF;rw[(fS C rg).1,(fS C rb).1]at hH;have hF':Gives 42 #[pvl (wr (gG P)),pvl a,nv c,nv z] (pvl (vsF P a c z)):=by unfold vsF;exact hF
   have hH':Gives 42 #[pvl g,pvl b,nv c,nv z] (pvl (vsG P g b c z)):=by unfold vsG;exact hH
   clear hF hH;have hS:Gives 33 #[pvl g,prv a b,prv (vsF P a c z) (vsG P g b c z)] (nv (vsM P N a g b c z)):=by unfold vsM;exact CB O g a b (vsF P a c z) (vsG P g b c z) sg sa sb (aN _) (aN _)
   have hQ:Hid (vsP P N a g b pr=decide (vsM P N a g b c z=c)):=by
    show _=_;unfold vsP;rw[ra,rg,rb,hT,hc.out,hz.out];simp only[Bool.and_self,Bool.true_and]
   have hmN:vsM P N a g b c z<N:=by unfold vsM;exact tN O _ _ _ _ _
   have hcont:w3.rangeAt K 0 (cF (fun i=>a[i]!)++(cF (fun i=>g[i]!)++cF (fun i=>b[i]!))):=by
    have k0:=RG.range_below (HK.out.2.2.2.1 0 (by decide)) hb3 HK.out.2.1;have k1:=RG.range_below (HK.out.2.2.2.1 1 (by decide)) hb3 HK.out.2.1;have k2:=RG.range_below (HK.out.2.2.2.1 2 (by decide)) hb3 HK.out.2.1;rw[HL.out.1,iS sa]at k0;rw[HL.out.2.1,iS sg]at k1;rw[HL.out.2.2,iS sb]at k2;exact uO k0 (uO k1 k2)
   have hth:w3.there K 0 99:=RG.dB HK.out.2.2.1 hb3 HK.out.2.1;have hKl:K<w3.heap.size:=PY HK.out.2.1 hb3.size;have hKb:w.heap.size<=K:=HK.out.1;have hkb:w.heap.size<=k:=Qj H2.out.size hk1;have hKk:K≠k:=QX (PY HK.out.2.1 hk1);have hb4:Below w.heap.size w w3:=H2.out.trans (hb3.mono H2.out.size);rw[gP (aN _)]at hG;rw[gP (aN _),gP sa,gP (show(vsF P a c z).size=33 from aN _)]at hF';rw[gP sg,gP sb,gP (show(vsG P g b c z).size=33 from aN _)]at hH';rw[gP sg,Bh sa sb,Bh (show(vsF P a c z).size=33 from aN _) (show(vsG P g b c z).size=33 from aN _)]at hS;clear ra rg rb hT hT' HK H2 H3 hb3 hc hz hk1 sa sg sb;generalize vsM P N a g b c z=mq at hS hmN hQ;generalize (fun i:Nat=>(wr (gG P))[i]!)=e0 at hG hF';generalize (fun i:Nat=>(vsF P a c z)[i]!)=r0 at hF' hS;generalize (fun i:Nat=>(vsG P g b c z)[i]!)=t0 at hH' hS;generalize (fun i:Nat=>a[i]!)=f0 at hF' hS hcont;generalize (fun i:Nat=>g[i]!)=g0 at hH' hS hcont;generalize (fun i:Nat=>b[i]!)=h0 at hH' hS hcont;have HALL:Hid (Gives 43 #[] (fpv e0)/\Gives 42 #[fpv e0,fpv f0,nv c,nv z] (fpv r0)/\Gives 42 #[fpv g0,fpv h0,nv c,nv z] (fpv t0)/\Gives 33 #[fpv g0,fpr f0 h0,fpr r0 t0] (nv mq)/\mq<N/\c<N/\w3.rangeAt K 0 (cF f0++(cF g0++cF h0))/\w3.there K 0 99/\K<w3.heap.size/\w.heap.size<=K/\w.heap.size<=k/\K≠k/\Below w.heap.size w w3/\k<w3.heap.size/\w3.rangeAt k 0 (wn c++wn z)/\w3.there k 0 8):=⟨hG,hF',hH',hS,hmN,hcN,hcont,hth,hKl,hKb,hkb,hKk,hb4,hk2,hk3,hk4⟩
   clear hG hF' hH' hS hmN hcN hcont hth hKl hKb hkb hKk hb4 hk2 hk3 hk4 hzN;go_wp2_with fail
   rename_i KK ha
   obtain⟨hG,hF,hH,hS,hmN,hcN,hcont,hth,hKl,hKb,hkb,hKk,hb4,hk2,hk3,hk4⟩:=HALL.out;refine Om (n:=74) [(9,.s 0 3 3),(12,.s 1 2 2)] hb4 hcont hk3 hth hk4 hKl hk2 hKb hkb hKk (by kernel_rfl) ?_;intro a0 M0;refine M0.d (Oy f0 g0 h0 c z) [(16,zz 66),(17,zz 33),(18,RG.z 4),(19,RG.z 4)] [(2,20,cF f0++cF h0),(3,21,cF g0),(4,22,wn c),(5,23,wn z)] [cF f0++(cF g0++cF h0),wn c++wn z,cF f0++cF h0,cF g0,wn c,wn z] [(14,.p 2 0),(15,.p 3 0),(16,.p 4 0),(17,.p 5 0)] ⟨RG.st,RG.st,RG.ld uCP aQ,RG.st,RG.st,RG.ld uCP aQ,RG.st,RG.st,RG.st,RG.ld uCP aQ,RG.st,RG.st,RG.ld u40 i40,RG.st,RG.st,RG.ld u40 i40,RG.mk 2 76,RG.mk 3 38,RG.mk 4 66,RG.mk 5 66,RG.pt iPr,RG.pt aQ,RG.pt i40,RG.pt i40,trivial⟩ ?_;intro j1 j2 j3 j4 a1 w5 M1;refine ha _ _ ?_;clear ha;repeat refine wp_seq ?_
   refine M1.d (Ox e0 f0 g0 h0 r0 t0 c z) [(13,zz 66)] [(6,14,cF r0++cF t0)] [cF f0++(cF g0++cF h0),wn c++wn z,cF f0++cF h0,cF g0,wn c,wn z,cF r0++cF t0] [(14,.p 2 0),(15,.p 3 0),(16,.p 4 0),(18,.p 6 0)] ⟨RG.cl hG,RG.st,RG.ld uCP aQ,RG.ld u40 i40,RG.ld u40 i40,RG.cl hF,RG.ld uCP aQ,RG.st,RG.ld uCP aQ,RG.ld u40 i40,RG.ld u40 i40,RG.cl hH,RG.st,RG.mk 6 76,RG.pt iPr,trivial⟩ ?_;intro j5 a2 w6 M2;repeat refine wp_seq ?_
   refine M2.e (Ow f0 g0 h0 r0 t0 c mq) [(8,.v (.bool (decide (mq=c))))] ⟨RG.ld uCP aQ,RG.ld uPr iPr,RG.ld uPr iPr,RG.cl hS,RG.ld u40 i40,RG.aL rfl .eql 66 66 71 72 (nv mq) (nv c) (.bool (decide (mq=c))) rfl rfl RG.sx RG.sx (fun w=>by kernel_rfl) (fun w=>by rw[eqS (PY hmN O.le) (PY hcN O.le)]),RG.st,trivial⟩ ?_;intro a3 w7 M3;refine wp_ret ?_;refine bodyPost_ret (v:=.bool (decide (mq=c))) (RG.bG 8 rfl _ M3.av) M3.sl.defers ?_;exact⟨_,rfl,M3.st.bel.below,by rw[hQ.out]⟩
  ·have H4:Hid (Below w.heap.size w w3):=H2.out.trans (hb3.mono H2.out.size);have HF:Hid (vsP P N a g b pr=false):=by
    show _=_;unfold vsP;rw[hT];simp
   clear hT hb3;go_wp2;go_ret;exact⟨_,rfl,H4.out,by rw[HF.out];rfl⟩
 ·have H2:Hid (Below w.heap.size w w2):=H1.out.trans (hb2.mono H1.out.size);have hrp:=nM O (.slice p3 n3 c3) pr w2 (H3.out.below H2.out);clear hb2;have HF:Hid (vsP P N a g b pr=false):=by
   show _=_;unfold vsP;have hj3:j=0\/j=1\/j=2:=by omega
   rcases hj3 with rfl|rfl|rfl
   ·rw[HL.out.1]at hrj;rw[hrj];rfl
   ·rw[HL.out.2.1]at hrj;rw[hrj];simp
   ·rw[HL.out.2.2]at hrj;rw[hrj];simp
  clear hrj hj H1;go_wp2_with fail
  refine hrp.mono ?_;clear hrp;rintro e w3 ⟨v3,rfl,hb3,⟨hT,q,k,rfl,hk1,hk2,hk3,hk4⟩|⟨hT,q1,q2,rfl⟩⟩
  ·have H4:Hid (Below w.heap.size w w3):=H2.out.trans (hb3.mono H2.out.size);clear hT hk1 hk2 hk3 hk4 hb3;go_wp2;go_ret;exact⟨_,rfl,H4.out,by rw[HF.out];rfl⟩
  ·have H4:Hid (Below w.heap.size w w3):=H2.out.trans (hb3.mono H2.out.size);clear hT hb3;go_wp2;go_ret;exact⟨_,rfl,H4.out,by rw[HF.out];rfl⟩
def sgF(k:Nat):Value:=.func (.func 28) #[] #[.pointer (some ⟨k,0,none⟩)]
theorem yD(O:Ord N)(v:Value)(kb:Bs)(x:Nat)(w:World)(hA:Arg w v kb)(hx:rq N kb=some x)(hx0:x≠0):
 Calls prog 10 #[v] w (Ret fun e w'=>Below w.heap.size w w'/\∃k,e=.tuple #[sgF k,.bool true]/\w.heap.size<=k/\Row w' k (wn x)):=by
 have hR:=jG O v kb w hA;rw[hx]at hR;have e1:(!decide (x=0))=true:=by simp[hx0]
 rw[show(some x).getD 0=x from rfl,show((some x).isSome && !decide (x=0))=true by rw[e1];rfl]at hR;have HR:=Hid.mk' hR;obtain⟨vx,hvx⟩:∃v,Hid (nv x=v):=⟨_,rfl⟩
 rw[hvx.out]at HR;clear O hA hx hx0 hR e1;go_enter Tryz.func10,Tryz.ntmps10;go_wp2_with fail
 refine HR.out.mono ?_;rintro e w1 ⟨vv,rfl,hb1,rfl⟩;obtain⟨k6,hk6⟩:∃k6,Hid (w1.heap.size=k6):=⟨_,rfl⟩
 obtain⟨w2,hw2⟩:∃w2,Hid (w1.alloc (.cells #[.int .u64 0,.int .u64 0,.int .u64 0,.int .u64 0] 66)=w2):=⟨_,rfl⟩
 obtain⟨w3,hw3⟩:∃w3,Hid (w2.setCells k6 0 (wn x)=w3):=⟨_,rfl⟩
 have F2:Hid (Row w2 k6 [.int .u64 0,.int .u64 0,.int .u64 0,.int .u64 0]/\Below w.heap.size w w2/\w.heap.size<=k6):=by
  rw[<-hw2.out,<-hk6.out];exact⟨aJ w1 _ _,hb1.alloc hb1.size _,hb1.size⟩
 have K3:Hid (Below w.heap.size w w3/\Row w3 k6 (wn x)):=by
  rw[<-hw3.out];exact⟨RG.below_setCells F2.out.2.2 _ _ _ F2.out.2.1,F2.out.1.put rfl⟩
 clear hb1 HR;go_wp2_with (first|(refine aP (v:=.pointer (some ⟨k6,0,none⟩)) (w':=w2) rfl (.alloc 66) rfl ?_ ?_;(rw[<-hw2.out,<-hk6.out];kernel_rfl))|(refine wpList_store_mid rfl 66 _ _ rfl k6 0 (wn x).toArray ?_ ?_ ?_ ?_ ?_ ?_;rfl;exact hvx.out.symm;exact F2.out.1.2.2;exact i40;exact dO x;rw[show(wn x).toArray.toList=wn x from rfl,hw3.out])|fail)
 go_ret2
 exact⟨_,rfl,K3.out.1,k6,rfl,F2.out.2.2,K3.out.2⟩
theorem Fa(O:Ord N)(v:Value)(kb:Bs)(w:World)(hA:Arg w v kb)(hx:((rq N kb).isSome && !decide ((rq N kb).getD 0=0))=false):
 Calls prog 10 #[v] w (Ret fun e w'=>Below w.heap.size w w'/\e=.tuple #[.nilFunc,.bool false]):=by
 have hR:=jG O v kb w hA;rw[hx]at hR;have HR:=Hid.mk' hR;obtain⟨x,hxe⟩:∃x,Hid ((rq N kb).getD 0=x):=⟨_,rfl⟩
 rw[hxe.out]at HR;obtain⟨vx,hvx⟩:∃v,Hid (nv x=v):=⟨_,rfl⟩
 rw[hvx.out]at HR;clear O hA hR hx hxe;go_enter Tryz.func10,Tryz.ntmps10;go_wp2_with fail
 refine HR.out.mono ?_;rintro e w1 ⟨vv,rfl,hb1,rfl⟩;obtain⟨k6,hk6⟩:∃k6,Hid (w1.heap.size=k6):=⟨_,rfl⟩
 obtain⟨w2,hw2⟩:∃w2,Hid (w1.alloc (.cells #[.int .u64 0,.int .u64 0,.int .u64 0,.int .u64 0] 66)=w2):=⟨_,rfl⟩
 obtain⟨w3,hw3⟩:∃w3,Hid (w2.setCells k6 0 (wn x)=w3):=⟨_,rfl⟩
 have F2:Hid (Row w2 k6 [.int .u64 0,.int .u64 0,.int .u64 0,.int .u64 0]/\Below w.heap.size w w2/\w.heap.size<=k6):=by
  rw[<-hw2.out,<-hk6.out];exact⟨aJ w1 _ _,hb1.alloc hb1.size _,hb1.size⟩
 have K3:Hid (Below w.heap.size w w3):=by
  rw[<-hw3.out];exact RG.below_setCells F2.out.2.2 _ _ _ F2.out.2.1
 clear hb1 HR;go_wp2_with (first|(refine aP (v:=.pointer (some ⟨k6,0,none⟩)) (w':=w2) rfl (.alloc 66) rfl ?_ ?_;(rw[<-hw2.out,<-hk6.out];kernel_rfl))|(refine wpList_store_mid rfl 66 _ _ rfl k6 0 (wn x).toArray ?_ ?_ ?_ ?_ ?_ ?_;rfl;exact hvx.out.symm;exact F2.out.1.2.2;exact i40;exact dO x;rw[show(wn x).toArray.toList=wn x from rfl,hw3.out])|fail)
 go_ret2
 exact⟨_,rfl,K3.out,rfl⟩
theorem Iw(C:Fld P)(O:Ord N){n:Nat}(hn:n<N){X:EC.Pt P}(hX:EC.On X)(k:Nat)(w:World)(hk:Row w k (wn n)):
 Calls prog 28 #[pvl (wr X),.pointer (some ⟨k,0,none⟩)] w (Ret fun e w'=>Below w.heap.size w w'/\e=pvl (wr (EC.mul n X))):=by
 have HC:Hid (Fld P/\Ord N/\n<N/\EC.On X):=⟨C,O,hn,hX⟩
 obtain⟨a,hae⟩:∃a,Hid (wr X=a):=⟨_,rfl⟩
 have ha:a.size=33:=by rw[<-hae.out];exact aN X
 rw[hae.out];clear C O hn hX;have B1:=Hid.mk' (tJ ha w);obtain⟨w1,hw1⟩:∃w1,Hid (w.alloc (.cells (aC a).toArray 38)=w1):=⟨_,rfl⟩
 rw[hw1.out]at B1;have e1:w1.heap.size=w.heap.size+1:=by rw[<-hw1.out,P4]
 obtain⟨w2,hw2⟩:∃w2,Hid (w1.alloc (.cells z33.toArray 38)=w2):=⟨_,rfl⟩
 have K:Hid (Row w2 w.heap.size (aC a)/\Row w2 (w.heap.size+1) z33/\Row w2 k (wn n)/\Below w.heap.size w w2):=by
  have q1:Row w1 w.heap.size (aC a):=by rw[<-hw1.out];exact aJ w _ _
  have q2:Row w2 (w.heap.size+1) z33:=by rw[<-hw2.out,<-e1];exact aJ w1 _ _
  have b1:Below w.heap.size w w1:=by rw[<-hw1.out];exact aH w _
  have b2:Below w1.heap.size w1 w2:=by rw[<-hw2.out];exact aH w1 _
  exact⟨q1.below b2,q2,(hk.below b1).below b2,b1.trans (b2.mono (by omega))⟩
 have HE:Hid (w1.heap.size=w.heap.size+1):=e1;have HL:Hid ((prog.info? 38).map (·.size)=some (aC a).length):=by show _=_;rw[aG ha];exact aQ
 obtain⟨d,hd1,hd2⟩:=PZ.1 uCP;obtain⟨d',hd3,hd4⟩:=PZ.1 u40;have HD:Hid ((prog.underlying 38=some d/\d.isRow=true)/\prog.underlying 66=some d'/\d'.isRow=true):=⟨⟨hd1,hd2⟩,hd3,hd4⟩
 clear hd1 hd2 hd3 hd4 hw1 e1 hk;obtain⟨va,hva⟩:∃v,Hid (pvl a=v):=⟨_,rfl⟩
 obtain⟨vn,hvn⟩:∃v,Hid (nv n=v):=⟨_,rfl⟩
 have B1':Hid ((SQ 38 va).run prog w=.ok (.pointer (some ⟨w.heap.size,0,none⟩)) w1):=by rw[<-hva.out];exact B1
 rw[hva.out];clear B1;go_enter Tryz.func28,Tryz.ntmps28;go_wp2_with (first|(refine bH (u:=va) (v:=.pointer (some ⟨w.heap.size,0,none⟩)) (w':=w1) rfl 38 (.tmp 0) rfl ?_ ?_ ?_;rfl;exact B1'.out)|(refine aP (v:=.pointer (some ⟨w.heap.size+1,0,none⟩)) (w':=w2) rfl (.alloc 38) rfl ?_ ?_;(rw[<-hw2.out,<-HE.out];kernel_rfl))|(refine wpList_load_mid rfl 66 _ rfl k 0 ?_ (wn n) d' ?_ ?_ ?_ ?_ ?_;rfl;exact K.out.2.2.1.2.1;exact HD.out.2.1;exact HD.out.2.2;exact i40;rw[show QA (wn n).toArray=vn from hvn.out])|(refine wpList_load_mid rfl 38 _ rfl w.heap.size 0 ?_ (aC a) d ?_ ?_ ?_ ?_ ?_;rfl;exact K.out.1.2.1;exact HD.out.1.1;exact HD.out.1.2;exact HL.out;rw[show QA (aC a).toArray=va from hva.out])|fail)
 have HT:=lW a ha n w2;rw[hva.out,hvn.out]at HT;refine HT.mono ?_;rintro e w4 ⟨vv,rfl,hb4,k4,rfl,-,hR4⟩;have K4:Hid (Row w4 (w.heap.size+1) z33/\Below w.heap.size w w4/\Row w4 k4 (wn n++aC a)):=⟨K.out.2.1.below hb4,K.out.2.2.2.trans (hb4.mono K.out.2.2.2.size),hR4⟩
 clear hb4 hR4 K HT B1' hw2 HE;go_wp2_with fail
 refine(u7 HC.out.1 HC.out.2.1 HC.out.2.2.1 HC.out.2.2.2 w4 (by rw[hae.out];exact K4.out.2.2)).mono ?_;rintro e w5 ⟨vv,rfl,hb5,rfl⟩;obtain⟨T,hT⟩:∃T,Hid (wr (EC.mul n X)=T):=⟨_,rfl⟩
 have hTs:T.size=33:=by rw[<-hT.out];exact aN _
 rw[hT.out];have K5:Hid (Row w5 (w.heap.size+1) z33/\Below w.heap.size w w5):=⟨K4.out.1.below hb5,K4.out.2.1.trans (hb5.mono K4.out.2.1.size)⟩
 clear hb5 K4;obtain⟨w6,hw6⟩:∃w6,Hid (w5.setCells (w.heap.size+1) 0 (aC T)=w6):=⟨_,rfl⟩
 have hlen:(aC T).length=33:=aG hTs;have K6:Hid (Row w6 (w.heap.size+1) (aC T)/\Below w.heap.size w w6):=by rw[<-hw6.out];exact⟨K5.out.1.put (by rw[hlen];rfl),RG.below_setCells (by omega) _ _ _ K5.out.2⟩
 obtain⟨vt,hvt⟩:∃vt,Hid (pvl T=vt):=⟨_,rfl⟩
 have HI:Hid ((prog.info? 38).map (·.size)=some (aC T).length/\w5.there (w.heap.size+1) 0 (aC T).toArray.size/\(prog.info? 38).map (·.size)=some (aC T).toArray.size):=by
  have e:(aC T).toArray.size=33:=by rw[Qr];exact hlen
  refine⟨by rw[hlen];exact aQ,by rw[e];exact K5.out.1.2.2,by rw[e];exact aQ⟩
 clear hlen;rw[hvt.out];go_wp2_with (first|(refine wpList_store_mid rfl 38 _ _ rfl (w.heap.size+1) 0 (aC T).toArray ?_ ?_ ?_ ?_ ?_ ?_;rfl;exact hvt.out.symm;exact HI.out.2.1;exact HI.out.2.2;exact cV T;rw[show(aC T).toArray.toList=aC T from rfl,hw6.out])|fail)
 refine bodyPost_ret (bE 3 38 rfl K6.out.1 rfl uCP HI.out.1) rfl ?_;exact⟨_,rfl,K6.out.2,by rw[hT.out];rfl⟩
end
section
open Go.RowKit Go.Sort Go.Deep
variable {P:Nat}[NeZero P]{N:Nat}
section
variable (w:World) (k9 k11 kk x:Nat) (k s g:Bool) (fv:Value) (c9 c11:List Value) (T:Bs) (eqb:Bool)
end
end
section
open Go.RowKit Go.Sort Go.Deep
variable {P:Nat}[NeZero P]{N:Nat}
theorem Dv(C:Fl3 P)(O:Ord N)(p0 p1:Option Addr)(n0 c0 n1 c1:Nat)(sk b:Bs)(w:World)(hA:Arg w (.slice p0 n0 c0) sk)(h0:SP.PartOk w (.slice p0 n0 c0) sk.toList)(hA1:Arg33 w (.slice p1 n1 c1) b)(h1:SP.PartOk w (.slice p1 n1 c1) b.toList)(hs:sec N sk=true)(hr:real P b=true):
 Calls prog 4 #[.slice p0 n0 c0,.slice p1 n1 c1] w (Ret fun e w'=>Below w.heap.size w w'/\∃a v,e=.tuple #[a,v,.int .i64 0]/\El 33 w' a (wr (EC.mul (nuV sk) (dQ P b)))/\El 64 w' v (pmT P N sk b).1):=by
 obtain⟨hq,hxN,hx0⟩:=rL hs;obtain⟨hwr,hon⟩:=fS C hr;have HS:=Hid.mk' (yD O (.slice p0 n0 c0) sk (nuV sk) w hA hq hx0);have hrB:rdB P b=b:=by unfold rdB;rw[if_pos (iL hr)]
 have HR:Hid (∀W,Below w.heap.size w W->Calls prog 11 #[.slice p1 n1 c1] W (Ret fun e w'=>Below W.heap.size W w'/\e=.tuple #[pvl b,.bool true])):=fun W hb=>by
  have:=lP C.toFld (.slice p1 n1 c1) b W (hA1.below hb);rw[hrB,hr]at this;exact this
 have hp2:(pmT P N sk b).2=0:=by unfold pmT;rw[hs,hr];rfl
 have hp1:¬(pmT P N sk b).1=#[]:=fun e=>by
  have:(pmT P N sk b).1.size=64:=by unfold pmT;rw[hs,hr];show(bx _++bx _).size=64;rw[Qg,aY,aY]
  rw[e]at this;cases this
 have HPm:Hid (∀W,Below w.heap.size w W->Calls prog 12 #[.slice p0 n0 c0,.slice p1 n1 c1] W (Ret fun e w'=>Below W.heap.size W w'/\∃v,e=.tuple #[v,.int .i64 0]/\El 64 w' v (pmT P N sk b).1)):=fun W hb=>by
  have:=Ed C O p0 p1 n0 c0 n1 c1 sk b W (hA.below hb) (h0.below hb) (hA1.below hb) (h1.below hb);rw[hp2]at this;refine this.mono ?_;rintro e w' ⟨v,rfl,hb,u,rfl,hu⟩;rcases hu with⟨-,h⟩|h
  ·exact absurd h hp1
  ·exact⟨_,rfl,hb,u,rfl,h⟩
 have HG:Hid (∀W k,Row W k (wn (nuV sk))->Calls prog 28 #[pvl b,.pointer (some ⟨k,0,none⟩)] W (Ret fun e w'=>Below W.heap.size W w'/\e=pvl (wr (EC.mul (nuV sk) (dQ P b))))):=fun W k hR=>by
  have:=Iw C.toFld O hxN hon k W hR;rw[hwr]at this;exact this
 have HT:Hid (b.size=33/\(wr (EC.mul (nuV sk) (dQ P b))).size=33):=⟨by rw[<-hwr];exact aN _,aN _⟩
 generalize wr (EC.mul (nuV sk) (dQ P b))=T at HG HT⊢;generalize (pmT P N sk b).1=U at HPm⊢;clear C O hA h0 hA1 h1 hs hr hq hxN hx0 hwr hon hrB hp2 hp1;generalize nuV sk=x at HS HG;obtain⟨vY,hvY⟩:∃v,Hid (pvl b=v):=⟨_,rfl⟩
 rw[hvY.out]at HR;obtain⟨d,hd1,hd2⟩:=PZ.1 uCP;have HD:Hid (prog.underlying 38=some d/\d.isRow=true):=⟨hd1,hd2⟩
 clear hd1 hd2;go_enter Tryz.func4,Tryz.ntmps4;go_wp2_with fail
 refine HS.out.mono ?_;rintro e w1 ⟨vv,rfl,hb1,k,rfl,-,hk⟩;have K1:Hid (Kp w w1 [(k,wn x)]):=⟨hb1,fun y hy=>by rw[show y=(k,wn x) by simpa using hy];exact hk⟩
 clear hb1 hk HS;obtain⟨fv,hfv⟩:∃v,Hid (sgF k=v):=⟨_,rfl⟩
 rw[hfv.out];go_wp2_with fail
 refine(HR.out w1 K1.out.bl).mono ?_;rintro e v1 ⟨vv,rfl,hb1,rfl⟩;have K3b:Hid (Kp w v1 [(k,wn x)]):=K1.out.grow hb1;clear hb1 HR K1;obtain⟨v2,hv2⟩:∃v2,Hid (v1.alloc (.cells z33.toArray 38)=v2):=⟨_,rfl⟩
 obtain⟨k9,hk9⟩:∃k9,Hid (v1.heap.size=k9):=⟨_,rfl⟩
 obtain⟨v3,hv3⟩:∃v3,Hid (v2.setCells k9 0 (aC b)=v3):=⟨_,rfl⟩
 have hlen:(aC b).length=33:=aG HT.out.1;have F3:Hid (Row v2 k9 z33/\Kp w v2 [(k,wn x)]):=by
  rw[<-hv2.out,<-hk9.out];exact⟨aJ v1 _ _,K3b.out.grow (aH _ _)⟩
 have K3c:Hid (Kp w v3 [(k9,aC b),(k,wn x)]):=by
  rw[<-hv3.out];refine F3.out.2.put F3.out.1 (by rw[hlen];rfl) (by rw[<-hk9.out];exact K3b.out.bl.size) fun y hy=>?_
  rw[show y=(k,wn x) by simpa using hy,<-hk9.out];exact QX (K3b.out.at 0 rfl).1
 have HI:Hid (v2.there k9 0 (aC b).toArray.size/\(prog.info? 38).map (·.size)=some (aC b).toArray.size/\(prog.info? 38).map (·.size)=some (aC b).length):=by
  have e:(aC b).toArray.size=33:=by rw[Qr];exact hlen
  rw[e,hlen];exact⟨F3.out.1.2.2,aQ,aQ⟩
 clear hlen F3;go_wp2_with (first|(refine aP (v:=.pointer (some ⟨k9,0,none⟩)) (w':=v2) rfl (.alloc 38) rfl ?_ ?_;(rw[<-hv2.out,<-hk9.out];kernel_rfl))|(refine wpList_store_mid rfl 38 _ _ rfl k9 0 (aC b).toArray ?_ ?_ ?_ ?_ ?_ ?_;rfl;exact hvY.out.symm;exact HI.out.1;exact HI.out.2.1;exact cV b;rw[show(aC b).toArray.toList=aC b from rfl,hv3.out])|fail)
 clear hv2 hv3 hk9 K3b;refine(HPm.out v3 K3c.out.bl).mono ?_;rintro e w4 ⟨vv,rfl,hb4,u,rfl,hu⟩;obtain⟨ku,cu,rfl,hu'⟩:=hu;have K4:Hid (Kp w w4 [(k9,aC b),(k,wn x)]/\El 64 w4 (.slice (some ⟨ku,0,none⟩) 64 cu) U):=⟨K3c.out.grow hb4,⟨ku,cu,rfl,hu'⟩⟩
 clear hb4 hu' HPm K3c;rw[<-hfv.out];unfold sgF;go_wp2_with (first|(refine wpList_load_mid rfl 38 _ rfl k9 0 ?_ (aC b) d ?_ ?_ ?_ ?_ ?_;rfl;exact(K4.out.1.at 0 rfl).2.1;exact HD.out.1;exact HD.out.2;exact HI.out.2.2;rw[show QA (aC b).toArray=vY from hvY.out])|fail)
 have hG:=HG.out w4 k (K4.out.1.at 1 rfl);rw[hvY.out]at hG;refine hG.mono ?_;rintro e w5 ⟨vv,rfl,hb5,rfl⟩;have K5:Hid (Kp w w5 []/\El 64 w5 (.slice (some ⟨ku,0,none⟩) 64 cu) U):=⟨⟨(K4.out.1.grow hb5).bl,fun y hy=>by cases hy⟩,K4.out.2.below hb5 (PX _)⟩
 have HB:=Hid.mk' (uU HT.out.2 w5);clear hb5 HG hG K4;obtain⟨vT,hvT⟩:∃v,Hid (pvl T=v):=⟨_,rfl⟩
 rw[hvT.out]at HB⊢;go_wp2_with fail
 refine HB.out.mono ?_;rintro e w6 ⟨vv,rfl,hb6,hE⟩;obtain⟨kt,ct,rfl,hE'⟩:=hE;have K6:Hid (Below w.heap.size w w6/\El 33 w6 (.slice (some ⟨kt,0,none⟩) 33 ct) T/\El 64 w6 (.slice (some ⟨ku,0,none⟩) 64 cu) U):=⟨(K5.out.1.grow hb6).bl,⟨kt,ct,rfl,hE'⟩,K5.out.2.below hb6 (PX _)⟩
 clear hb6 hE' K5 HB;go_wp2
 go_ret3
 exact⟨_,rfl,K6.out.1,_,_,rfl,K6.out.2.1,K6.out.2.2⟩
theorem GT(O:Ord N)(v0 v1:Value)(sk:Bs)(w:World)(hA:Arg w v0 sk)(hs:sec N sk=false):
 Calls prog 4 #[v0,v1] w (Ret fun e w'=>Below w.heap.size w w'/\e=.tuple #[.slice none 0 0,.slice none 0 0,.int .i64 3]):=by
 have hk:((rq N sk).isSome && !decide ((rq N sk).getD 0=0))=false:=by
  rw[<-hs];unfold sec;cases hr:rq N sk with
  | none=>rfl
  | some n=>rw[<-rN hr];rfl
 have HS:=Hid.mk' (Fa O v0 sk w hA hk);clear O hA hk hs;go_enter Tryz.func4,Tryz.ntmps4;go_wp2_with fail
 refine HS.out.mono ?_;rintro e w1 ⟨vv,rfl,hb1,rfl⟩;have K1:=Hid.mk' hb1;clear hb1 HS;go_wp2
 go_ret3
 exact⟨_,rfl,K1.out,rfl⟩
theorem GR(C:Fld P)(O:Ord N)(v0 v1:Value)(sk b:Bs)(w:World)(hA:Arg w v0 sk)(hA1:Arg33 w v1 b)(hs:sec N sk=true)(hr:real P b=false):
 Calls prog 4 #[v0,v1] w (Ret fun e w'=>Below w.heap.size w w'/\e=.tuple #[.slice none 0 0,.slice none 0 0,.int .i64 4]):=by
 obtain⟨hq,hxN,hx0⟩:=rL hs;have HS:=Hid.mk' (yD O v0 sk (nuV sk) w hA hq hx0);have HR:Hid (∀W,Below w.heap.size w W->Calls prog 11 #[v1] W (Ret fun e w'=>Below W.heap.size W w'/\e=.tuple #[pvl (rdB P b),.bool false])):=fun W hb=>by
  have:=lP C v1 b W (hA1.below hb);rw[hr]at this;exact this
 have HT:Hid ((rdB P b).size=33):=nN b;generalize rdB P b=Y at HR HT;clear C O hA hA1 hs hr hq hxN hx0;generalize nuV sk=x at HS;obtain⟨vY,hvY⟩:∃v,Hid (pvl Y=v):=⟨_,rfl⟩
 rw[hvY.out]at HR;go_enter Tryz.func4,Tryz.ntmps4;go_wp2_with fail
 refine HS.out.mono ?_;rintro e w1 ⟨vv,rfl,hb1,k,rfl,-,-⟩;have K1:Hid (Below w.heap.size w w1):=hb1;clear hb1 HS;obtain⟨fv,hfv⟩:∃v,Hid (sgF k=v):=⟨_,rfl⟩
 rw[hfv.out];go_wp2_with fail
 refine(HR.out w1 K1.out).mono ?_;rintro e v2 ⟨vv,rfl,hb1,rfl⟩;have K2:Hid (Below w.heap.size w v2):=K1.out.trans (hb1.mono K1.out.size);clear hb1 HR K1;obtain⟨v3,hv3⟩:∃v3,Hid (v2.alloc (.cells z33.toArray 38)=v3):=⟨_,rfl⟩
 obtain⟨k9,hk9⟩:∃k9,Hid (v2.heap.size=k9):=⟨_,rfl⟩
 obtain⟨v4,hv4⟩:∃v4,Hid (v3.setCells k9 0 (aC Y)=v4):=⟨_,rfl⟩
 have hlen:(aC Y).length=33:=aG HT.out;have F3:Hid (Row v3 k9 z33/\Below w.heap.size w v3/\w.heap.size<=k9):=by
  rw[<-hv3.out,<-hk9.out];exact⟨aJ v2 _ _,K2.out.alloc K2.out.size _,K2.out.size⟩
 have K4:Hid (Below w.heap.size w v4):=by
  rw[<-hv4.out];exact RG.below_setCells F3.out.2.2 _ _ _ F3.out.2.1
 have HI:Hid (v3.there k9 0 (aC Y).toArray.size/\(prog.info? 38).map (·.size)=some (aC Y).toArray.size):=by
  have e:(aC Y).toArray.size=33:=by rw[Qr];exact hlen
  rw[e];exact⟨F3.out.1.2.2,aQ⟩
 clear hlen F3;go_wp2_with (first|(refine aP (v:=.pointer (some ⟨k9,0,none⟩)) (w':=v3) rfl (.alloc 38) rfl ?_ ?_;(rw[<-hv3.out,<-hk9.out];kernel_rfl))|(refine wpList_store_mid rfl 38 _ _ rfl k9 0 (aC Y).toArray ?_ ?_ ?_ ?_ ?_ ?_;rfl;exact hvY.out.symm;exact HI.out.1;exact HI.out.2;exact cV Y;rw[show(aC Y).toArray.toList=aC Y from rfl,hv4.out])|fail)
 go_ret3
 exact⟨_,rfl,K4.out,rfl⟩
theorem Jy{A B:Bs}(hA:A.size=32)(hB:B.size=32):(A++B).extract 0 32=A/\(A++B).extract 32 64=B:=by
 have h64:(A++B).size=64:=by rw[Qg,hA,hB]
 constructor
 ·apply UN
  ·rw[Rb,h64,hA];rfl
  ·intro i h1 h2;rw[Tl,TJ (by omega)];simp
 ·apply UN
  ·rw[Rb,h64,hB];rfl
  ·intro i h1 h2;rw[Tl,U0 (by omega)];simp[hA]
theorem Fp(O:Ord N){n:Nat}(hn:n<N):rq N (bx n)=some n:=by
 have hv:beV (bx n).toList=n:=xI (PY hn O.le);unfold rq;rw[hv,if_pos ⟨aY n,hn⟩]
theorem Kc(O:Ord N){n:Nat}(hn:n<N):nuV (bx n)=n:=(rN (Fp O hn)).symm
theorem Jf(C:Fld P){A B:EC.Pt P}(hA:EC.On A)(hB:EC.On B):EC.add (EC.add A B) (EC.neg B)=A:=by
 have hn:EC.On (EC.neg B):=EC.bT hB;rw[C.cur.assoc hA hB hn,C.cur.comm hB hn,C.cur.neg_l hB,C.cur.comm hA EC.fB];rfl
theorem qH(C:Fld P)(hord:∀r:EC.Pt P,EC.On r->EC.mul N r=none){X:EC.Pt P}(hX:EC.On X)(x k c:Nat):EC.add (EC.mul (sPl N k (sTi N c x)) X) (EC.neg (EC.mul c (EC.mul x X)))=EC.mul k X:=by
 unfold sPl sTi;have e1:EC.mul ((k+c*x%N)%N) X=EC.add (EC.mul k X) (EC.mul c (EC.mul x X)):=by
  rw[mul_mod C hord hX,EC.mul_add C.cur hX,mul_mod C hord hX,Qy,EC.iP C.cur hX]
 rw[e1];exact Jf C (EC.bU C.cur hX k) (EC.bU C.cur (EC.bU C.cur hX x) c)
theorem wG(C:Fl3 P){X:EC.Pt P}(hX:EC.On X)(h0:X≠none):real P (wr X)=true/\dQ P (wr X)=X:=by
 obtain⟨p,hp,hpt⟩:=yQ C.toFld hX;have hB:rdB P (wr X)=wr X:=by unfold rdB;rw[hp];rfl
 refine⟨?_,by rw[wM hp];exact hpt⟩;have hne:¬wr X=o33:=fun e=>by
  rw[<-vP (P:=P)]at e;have:=congrArg (fE P) e;rw[fQ C.toFld hX,fQ C.toFld EC.fB]at this;exact h0 this
 unfold real;rw[hB,hp,decide_eq_false hne];rfl
theorem AX(C:Fl3 P)(O:Ord N)(hord:∀r:EC.Pt P,EC.On r->EC.mul N r=none)(sk b:Bs)(hs:sec N sk=true)(hr:real P b=true)(h1:EC.mul (nuV sk) (gG P)≠none)(h2:EC.mul (nuV sk) (dQ P b)≠none):
 vsP P N (wr (EC.mul (nuV sk) (gG P))) b (wr (EC.mul (nuV sk) (dQ P b))) (pmT P N sk b).1=true:=by
 have hon:=(fS C hr).2;have hg:=qB C.toFld;obtain⟨ra,pa⟩:=wG C (EC.bU C.toFld.cur hg (nuV sk)) h1;obtain⟨rd,pd⟩:=wG C (EC.bU C.toFld.cur hon (nuV sk)) h2;have hc:pmC P N sk b<N:=by unfold pmC;exact tN O _ _ _ _ _
 have hz:pmZ P N sk b<N:=by unfold pmZ sPl;exact Rz _ O.pos
 have ep:(pmT P N sk b).1=bx (pmC P N sk b)++bx (pmZ P N sk b):=by unfold pmT;rw[hs,hr];rfl
 obtain⟨e1,e2⟩:=Jy (aY (pmC P N sk b)) (aY (pmZ P N sk b));have hF:vsF P (wr (EC.mul (nuV sk) (gG P))) (pmC P N sk b) (pmZ P N sk b)=wr (EC.mul (pmK N sk b) (gG P)):=by
  unfold vsF;rw[pa];unfold pmZ;rw[qH C.toFld hord hg]
 have hG:vsG P b (wr (EC.mul (nuV sk) (dQ P b))) (pmC P N sk b) (pmZ P N sk b)=wr (EC.mul (pmK N sk b) (dQ P b)):=by
  unfold vsG;rw[pd];unfold pmZ;rw[qH C.toFld hord hon]
 have hM:vsM P N (wr (EC.mul (nuV sk) (gG P))) b (wr (EC.mul (nuV sk) (dQ P b))) (pmC P N sk b) (pmZ P N sk b)=pmC P N sk b:=by
  unfold vsM;rw[hF,hG];rfl
 unfold vsP RpT;rw[ep,e1,e2,Kc O hc,Kc O hz,hM,Fp O hc,Fp O hz,ra,hr,rd,Qg,aY,aY,decide_eq_true (Eq.refl (pmC P N sk b))];rfl
theorem fl3:∃(P:Nat) (_:NeZero P),Fl3 P:=by
 obtain⟨P,hz,hP,hc⟩:=EC.cur;have h0:P=Go.Proofs.YtbceebahamkmdaaGreat.p0:=by rw[hP];decide +kernel
 have hg:=Px;have hr:=Nl;have h2:2<=Go.Proofs.YtbceebahamkmdaaGreat.p0%18446744073709551616:=by decide +kernel
 have h4:Go.Proofs.YtbceebahamkmdaaGreat.p0/4%18446744073709551616<18446744073709551615:=by decide +kernel
 have h3:Go.Proofs.YtbceebahamkmdaaGreat.p0%4=3:=by decide +kernel
 have h7:7<Go.Proofs.YtbceebahamkmdaaGreat.p0:=by decide +kernel
 rw[<-h0]at hg hr h2 h4 h3 h7;exact⟨P,hz,⟨⟨hg,hc,h2,h4,h3,h7⟩,hr⟩⟩
end
namespace EC
variable {P:Nat}[NeZero P]
def fo{α:Type}(x:Fin P)(f:Fin P->α):α:=
 match x.val with
 | 0=>f (Su P 0)
 | n+1=>f (Su P (n+1))
theorem NX{α:Type}(x:Fin P)(f:Fin P->α):fo x f=f x:=by
 have hx:Su P x.val=x:=TW (Qe x.isLt);unfold fo;split
 ·next h=>rw[h]at hx;rw[hx]
 ·next n h=>rw[h]at hx;rw[hx]
def runs(u v:Fin P)(e:Nat):Nat->Fin P->Fin P->Fin P->Bool
 | 0,_,_,z=>decide (z=0)
 | k+1,x,y,z=>fo (twX x y) fun X=>fo (twY x y) fun Y=>fo (twZ y z) fun Z =>
  if e/2^k%2=1 then
   if Z=0 then false else
   fo (cD X 1) fun ax=>fo (dG Y 1) fun ay=>fo (cD u Z) fun bx=>fo (dG v Z) fun bY =>
   if ax=bx/\ay=bY then false else
   fo (plX ax ay bx bY) fun a=>fo (plY ax ay bx bY) fun b=>fo (plZ Z 1 ax bx) fun c=>runs u v e k a b c
  else runs u v e k X Y Z
theorem Bt(C:Cur P):(1:Fin P)≠0:=fun h=>C.two (by
 calc (2:Fin P)=2*1:=by grobner
  _=0:=by rw[h];grobner)
theorem wE(C:Cur P){u v:Fin P}(hg:On (some (u,v)))(e:Nat):∀(k m:Nat) (x y z:Fin P),Jac x y z (mul m (some (u,v)))->runs u v e k x y z=true->mul (m*2^k+e%2^k) (some (u,v))=none
 | 0,m,x,y,z,hj,h=>by
  have hz:z=0:=of_decide_eq_true h;rw[Sa,Nat.mod_one,Se,RI];exact hj.zero C hz
 | k+1,m,x,y,z,hj,h=>by
  have hm:=bU C hg m;have h1:=hj.twice C hm;rw[<-mul_add C hg]at h1;have hb:e%2^(k+1)=e/2^k%2*2^k+e%2^k:=by
   rw[Rr,Nat.mod_mul,Qy (2^k) (e/2^k%2),Nat.add_comm]
  have hp:2^(k+1)=2*2^k:=by rw[Rr,Qy]
  unfold runs at h;simp only[NX]at h;by_cases hbit:e/2^k%2=1
  ·rw[if_pos hbit]at h;by_cases hZ:twZ y z=0
   ·rw[if_pos hZ]at h;cases h
   ·rw[if_neg hZ]at h;have hj1:Jac u v 1 (some (u,v)):=⟨Bt C,by grobner,by grobner⟩
    rcases h1.plus C (bU C hg _) hj1 hg hZ (Bt C)with⟨e1,e2,-⟩|⟨e1,e2⟩
    ·rw[if_pos ⟨e1,e2⟩]at h;cases h
    ·rw[if_neg e1]at h;have h2:=wE C hg e k (m+m+1) _ _ _ e2 h;rw[hb,hbit,hp];rw[show m*(2*2^k)+(1*2^k+e%2^k)=(m+m+1)*2^k+e%2^k by
      rw[SD,SD,<-RN,Qy m 2,WZ,SD];omega]
     exact h2
  ·rw[if_neg hbit]at h;have h0:e/2^k%2=0:=by omega
   have h2:=wE C hg e k (m+m) _ _ _ h1 h;rw[hb,h0,hp];rw[show m*(2*2^k)+(0*2^k+e%2^k)=(m+m)*2^k+e%2^k by
    rw[<-RN,Qy m 2,WZ];omega]
   exact h2
def pL:Nat:=115792089237316195423570985008687907853269984665640564039457584007908834671663
def nL:Nat:=115792089237316195423570985008687907852837564279074904382605163141518161494337
instance:NeZero pL:=⟨by decide +kernel⟩
theorem La:runs (P:=pL) (Su pL 55066263022277343669578718895168534326250603453777594175500187360389116729240) (Su pL 32670510020758816978083085130507043184471273380659243275938904335757337482424) nL 255 (Su pL 55066263022277343669578718895168534326250603453777594175500187360389116729240) (Su pL 32670510020758816978083085130507043184471273380659243275938904335757337482424) 1=true:=by decide +kernel
theorem Iu:2*pL+1<3*nL:=by decide +kernel
theorem LU:1*2^255+nL%2^255=nL:=by decide +kernel
theorem order(C:Cur P)(hP:P=pL)(hg:On (some (Su P 55066263022277343669578718895168534326250603453777594175500187360389116729240,Su P 32670510020758816978083085130507043184471273380659243275938904335757337482424))){r:Pt P}(hr:On r):mul nL r=none:=by
 subst hP;refine FZ C (n:=nL) NT.pN Iu hg (fun h=>by cases h) ?_ hr;have h:=wE C hg nL 255 1 _ _ 1 (by
  show Jac _ _ 1 (add none _);rw[dK];exact⟨Bt C,by grobner,by grobner⟩) La
 rwa[LU]at h
end EC
end Go.Proofs.YtbceebahamkmdaaGreat
