import Derived.Deep.RegionWith
import Derived.LoopN
import Derived.Deep.CutRange
import Derived.Deep.DeepCutAuto
import Derived.Deep.RegionHeld3
import Derived.Deep.LoopGhost
import Derived.Laws.Tables
import Derived.Laws.MakeOwn
import Derived.ChangeKeysEq
import Derived.Deep.AppendSrc
import Derived.Lib.AppendZeros
import Derived.Test.YtndpeoebngkhmaaGreatsv2
set_option linter.unusedVariables false
set_option linter.defProp false
set_option linter.constructorNameAsVariable false
set_option linter.unusedSimpArgs false
set_option maxRecDepth 1000000
set_option maxHeartbeats 4000000
namespace Go.Proofs.YtndpeoebngkhmaaGreat
open _root_ renaming Array->R,Bool->Hc,ByteArray->Fd,Fin->B,Int->Y,List->G,Nat->I,Option->GJ,UInt8->Fk,rfl->Z
open Go.Proofs.YtndpeoebngkhmaaGreat renaming Four->GS,Kept->IS,oM->S,uZ->U,yGP->GD,yGQ->Id,yGR->Fs
open Go.RowKit renaming Hid->E
open Go.Sort renaming Holds->FE
open _root_.Bool renaming false->D,true->H
open _root_.Option renaming none->F,some->J
open EC RG
open _root_.Array renaming getElem?_append_left->yDo,getElem?_eq_getElem->ZS,getElem?_toList->qi,getElem_toList->Bk,length_toList->ZE,mk->zi,replicate->ZA,size_append->pq,size_extract->yq,size_replicate->ZL,toArray_toList->DE,toList->yGg
open _root_.Bool renaming noConfusion->zd
open _root_.Classical renaming byContradiction->xD
open _root_.Fin renaming ext_iff->yFO,ofNat->rz
open _root_.Go renaming Calls->ae,Value->Zm,World->Zl,bits_or_u64_nat->Bx,bodyPost_ret->Zx,rounds_succ->ZY,run_underlying->yw,size_madeCells->DH,undef->am,wp_block->ay,wp_cond_false->Z2,wp_cond_true->Z6,wp_exit->tT,wp_loop_ghost->DM,wp_loop_rounds->yi,wp_ret->ag,wp_seq->Zq,wp_skip->aw
open _root_.Go.Act renaming put->ah
open _root_.Go.Addr renaming add_mid->yGl
open _root_.Go.Builtin renaming copy_->zn
open _root_.Go.Calls renaming quiet_of_same->ut
open _root_.Go.Exit renaming inBlock->yr
open _root_.Go.Instr renaming alloc->yFe,indexAt->iB,makeSlice->ue
open _root_.Go.IntKind renaming u64->cW,wrap_u64->yx
open _root_.Go.IntWalk renaming i64_in->po,i8_in->yEy
open _root_.Go.Lib renaming wpList_append_run->uy
open _root_.Go.Op renaming eqItems->yFM,equalIn->yEN,unary->yGk
open _root_.Go.Result renaming andThen_ok->lp
open _root_.Go.Sem renaming run_bind->ZK
open _root_.Go.Value renaming agg->ZM,int->gM
open _root_.Go.World renaming alloc->pn,cell?_alloc_new->oX,cell?_of_block->ZP,setCell->zy,size_alloc->Zy
open _root_.Int renaming add_mul->yGA,add_zero->yEp,mul_assoc->yET,mul_comm->yEf,natCast_mul->sg,natCast_pow->xL,natCast_zero->px,neg_neg->yGz,ofNat_inj->By,pow_succ->yGr,toNat_natCast->DP,zero_mul->yEe
open _root_.List renaming cons->sw,ext_getElem?->yDB,foldl_cons->yEB,forIn_cons->yFS,forIn_nil->yF4,forall_mem_cons->yFc,getD_cons_succ->yCF,getD_cons_zero->yCE,getElem?_eq_none->zl,getElem?_eq_some_iff->Zz,getElem?_map->rm,getElem?_toArray->ZU,getElem_map->uq,length_map->ZI,mem_cons->fT,mem_cons_of_mem->ps,mem_cons_self->pw,mem_range->p9,not_mem_nil->ZJ,range->fo,range'->yGq,replicate->qz,setIfInBounds_toArray->Zr,set_cons_succ->Zt,set_cons_zero->Zu,size_toArray->kI
open _root_.Nat renaming add_mul->xc,add_zero->qg,div_div_eq_div_mul->yCo,div_eq_of_lt->qv,eq_zero_or_pos->yFu,le_of_lt->qx,le_refl->Zo,le_succ->yo,le_trans->Zw,left_le_or->yEG,lt_of_lt_of_le->Zn,lt_succ_self->BT,mod_eq_of_lt->ZC,mod_lt->gD,mul_add->te,mul_assoc->uj,mul_comm->ax,mul_le_mul->qm,mul_le_mul_right->z6,mul_one->ri,mul_zero->xe,ne_of_gt->pe,ne_of_lt->qh,or_comm->yGw,pos_of_neZero->BY,pow_add->rn,pow_le_pow_right->qp,pow_pos->rj,pow_succ->oB,pow_zero->rx,right_le_or->yEt,sub_self->ww,two_pow_add_eq_or_of_lt->yDq,zero_add->Zs,zero_mul->DB
open _root_.Option renaming isSome_iff_exists->Z8,map_eq_some_iff->Zp
open _root_.Or renaming inl->Z5,inr->ZW
open _root_.Prod renaming mk->an
open _root_.Std.Legacy.Range renaming forIn_eq_forIn_range'->yDk,size->yD3
open _root_.UInt8 renaming ofNat->ZG
open Go.Proofs.Tryz
open Go.RowKit Go.Sort Go.Deep
variable {P:Nat}[NeZero P]{N:Nat}
variable {C C0:List Zm}{W w:Zl}{a b c cap f g j k l m n o p q r:Nat}{d:Nat->Int}{s:ByteArray}{v x:Zm}
def kU{t:I}(b:I)(c:t<=56)(k:a<2^t)(g:b<256):bits .or .u64 (a:Y) ((b*2^t:I):Y)=((a+b*2^t:I):Y)/\a+b*2^t<2^(t+8):=by
 have h1:2^t<=2^56:=qp dC c;have d:b*2^t<=255*2^t:=z6 _ S;have f:2^(t+8)=256*2^t:=by rw[rn,ax]
 have e:(2:I)^56=72057594037927936:=dC;refine⟨?_,S⟩;rw[Bx _ _ S S,yGw,ax b,<-(yDq k b),I.add_comm]
def rU(b:Fk)(t:I)(k:t<=56):cW.wrap (cW.wrap (ub b)*((2^t:I):Y))=((b.toNat*2^t:I):Y):=by
 have e:=b.toNat_lt;have h1:2^t<=2^56:=qp dC k;have c:b.toNat*2^t<=255*2^t:=z6 _ S;have d:(2:I)^56=72057594037927936:=dC;rw[ub,wrapN S,mulN,wrapN S]
def w8(b0 b1 e f d b c k:Fk):I:=
 k.toNat+c.toNat*256+b.toNat*65536+d.toNat*16777216+f.toNat*4294967296+e.toNat*1099511627776+b1.toNat*281474976710656+b0.toNat*72057594037927936
def H8{b0 b1 e f d b c k:Fk}:w8 b0 b1 e f d b c k<2^64:=by
 have:=b0.toNat_lt;have:=b1.toNat_lt;have:=e.toNat_lt;have:=f.toNat_lt
 have:=d.toNat_lt;have:=b.toNat_lt;have:=c.toNat_lt;have:=k.toNat_lt
 unfold w8;omega
def O7(b0 b1 f d e b c k:Fk):
 bits .or .u64 (bits .or .u64 (bits .or .u64 (bits .or .u64 (bits .or .u64 (bits .or .u64 (bits .or .u64 (cW.wrap (ub k)) (cW.wrap (cW.wrap (ub c)*256)))
  (cW.wrap (cW.wrap (ub b)*65536))) (cW.wrap (cW.wrap (ub e)*16777216))) (cW.wrap (cW.wrap (ub d)*4294967296)))
  (cW.wrap (cW.wrap (ub f)*1099511627776))) (cW.wrap (cW.wrap (ub b1)*281474976710656))) (cW.wrap (cW.wrap (ub b0)*72057594037927936))=((w8 b0 b1 f d e b c k:I):Y):=by
 have z:=k.toNat_lt;have g:cW.wrap (ub k)=(k.toNat:Y):=wrapN S;have w:=rU c 8 dC;have r:=rU b 16 dC;have e3:=rU e 24 dC;have x:=rU d 32 dC;have i:=rU f 40 dC;have n:=rU b1 48 dC;have l:=rU b0 56 dC;let⟨s,l1⟩:=kU (a:=k.toNat) c.toNat (t:=8) dC S (oN c.toNat_lt)
 let⟨q,l2⟩:=kU b.toNat dC l1 (oN b.toNat_lt)
 let⟨u,l3⟩:=kU e.toNat dC l2 (oN e.toNat_lt)
 let⟨v,t⟩:=kU d.toNat dC l3 (oN d.toNat_lt)
 let⟨o,m⟩:=kU f.toNat dC t (oN f.toNat_lt)
 let⟨j,y⟩:=kU b1.toNat dC m (oN b1.toNat_lt)
 let⟨p,a⟩:=kU b0.toNat dC y (oN b0.toNat_lt)
 rw[show(256:Y)=((2^8:I):Y) from Z,show(65536:Y)=((2^16:I):Y) from Z,show(16777216:Y)=((2^24:I):Y) from Z,
  show(4294967296:Y)=((2^32:I):Y) from Z,show(1099511627776:Y)=((2^40:I):Y) from Z,show(281474976710656:Y)=((2^48:I):Y) from Z,show(72057594037927936:Y)=((2^56:I):Y) from Z,
  g,w,r,e3,x,i,n,l,s,q,u,v,o,j,p]
 rfl
theorem word_any(g o n cap:I)(bs:Bs)(w:Zl)(x:8<=n)(A:n<=cap)(b:cap<=1048576)(hs:8<=bs.size)(k:FE encB w g o bs):
 ae prog 199 #[.slice (J ⟨g,o,F⟩) n cap] w λe w'=>e=.returned (.int .u64 ((w8 bs[0]! bs[1]! bs[2]! bs[3]! bs[4]! bs[5]! bs[6]! bs[7]!:I):Y))/\∃n,w'=w.drewN n:=by
 let⟨p,i⟩:=k 0 S
 let⟨c1,f1⟩:=k 1 S
 let⟨c2,f2⟩:=k 2 S
 let⟨t,f3⟩:=k 3 S
 let⟨a,y⟩:=k 4 S
 let⟨u,s⟩:=k 5 S
 let⟨z,v⟩:=k 6 S
 let⟨r,q⟩:=k 7 S
 rw[qg]at p i;unfold encB at *;generalize bs[0]! = b0 at *;generalize bs[1]! = b1 at *;generalize bs[2]! = l at *;generalize bs[3]! = f at *;generalize bs[4]! = m at *;generalize bs[5]! = c at *;generalize bs[6]! = d at *;generalize bs[7]! = j at *;go_enter func199,ntmps199;go_wp2;go_quiet (fail);go_wp2;go_ret;exact⟨ret_int (mk1 (O7 b0 b1 l f m c d j)).out,_,Z⟩
def beV(l:G Fk):I:=l.foldl (λn b=>256*n+b.toNat) 0
def GT(l:G Fk):∀n,l.foldl (λn b=>256*n+b.toNat) n=n*256^l.length+beV l:=by
 induction l with
 | nil=>intro n;simp[beV]
 | cons x r ih =>
  intro n;simp only[yEB,G.length_cons,beV]at *;rw[ih (256*n+x.toNat),ih (256*0+x.toNat),oB,xc,xe,Zs,ax 256 n,uj,ax 256];omega
def gI(l r:G Fk):beV (l++r)=beV l*256^r.length+beV r:=by
 rw[beV,G.foldl_append,GT];rfl
def Lg(n:I)(l:G Fk):beV (qz n 0++l)=beV l:=by
 rw[gI];have:beV (qz n 0)=0:=by
  induction n with
  | zero=>rfl
  | succ k ih=>rw[G.replicate_succ',gI,ih];rfl
 rw[this,DB,Zs]
def OB(r x1 x2 t s w y u x v o b g m p c x16 x17 l k e x21 j x23 q i x26 x27 f n x30 d:Fk):
 beV [r,x1,x2,t,s,w,y,u,x,v,o,b,g,m,p,c,x16,x17,l,k,e,x21,j,x23,q,i,x26,x27,f,n,x30,d]
  = val (w8 q i x26 x27 f n x30 d) (w8 x16 x17 l k e x21 j x23) (w8 x v o b g m p c) (w8 r x1 x2 t s w y u):=by
 simp only[beV,yEB,G.foldl_nil,w8,val];omega
def Lh{bs:Bs}(h:bs.size=32):beV bs.toList=val (w8 bs[24]! bs[25]! bs[26]! bs[27]! bs[28]! bs[29]! bs[30]! bs[31]!) (w8 bs[16]! bs[17]! bs[18]! bs[19]! bs[20]! bs[21]! bs[22]! bs[23]!)
 (w8 bs[8]! bs[9]! bs[10]! bs[11]! bs[12]! bs[13]! bs[14]! bs[15]!) (w8 bs[0]! bs[1]! bs[2]! bs[3]! bs[4]! bs[5]! bs[6]! bs[7]!):=by
 let⟨l⟩:=bs
 match l,h with
 | [x0,x1,x2,x3,x4,x5,x6,x7,x8,x9,x10,x11,x12,x13,x14,x15,x16,x17,x18,x19,x20,x21,x22,x23,x24,x25,x26,x27,x28,x29,x30,x31],_=>exact OB x0 x1 x2 x3 x4 x5 x6 x7 x8 x9 x10 x11 x12 x13 x14 x15 x16 x17 x18 x19 x20 x21 x22 x23 x24 x25 x26 x27 x28 x29 x30 x31
def zero32:∀w:Zl,(zeroValue 256).run prog w=.ok (.agg (ZA 32 (.int .u8 0))) w:=λ_=>kR
def ints5:gZ 5 1:=gQ
def padded(n:I)(bs:Bs):Bs:=ZA (32-n) 0++bs
def xC{bs:Bs}(hs:bs.size=n)(k:n<=32):(padded n bs).size=32:=by
 rw[padded,pq,ZL];omega
def Gu{bs:Bs}:beV (padded n bs).toList=beV bs.toList:=by
 rw[padded,R.toList_append,R.toList_replicate,Lg]
def QN{bs:Bs}(e:hZ w b 0 (ZA 32 0))(l:n<=32)(p:hZ w g o bs)(hs:bs.size=n):
 (zn #[22,22] 3 #[qZ b (32-n) n n,qZ g o n cap]).run prog w=.ok (goInt n) (w.setCells b (32-n) (bs.toList.map encB))
  /\ hZ (w.setCells b (32-n) (bs.toList.map encB)) b 0 (padded n bs):=by
 have k:(bs.toList.map encB).length=n:=by rw[ZI,ZE,hs]
 refine⟨?_,?_⟩
 .have:=run_copy_cells (P:=prog) w 22 22 3 5 b (32-n) n n ⟨g,o,F⟩ n cap (bs.toList.map encB) slice22 ints5 (by rw[k];exact(I.min_self n).symm)
   (λj u c=>by
    let⟨h1,d⟩:=Zz.1 c
    rw[k]at h1;have i:=(p j S).1;rw[getElem!_pos bs j S]at i;rw[uq,Bk]at d;have m:(⟨g,o,F⟩:Addr).add j=⟨g,o+j,F⟩:=by
     unfold Addr.add;by_cases f:j=0
     .subst f;rw[GD Z];rfl
     rw[Id f]
    rw[m,i,d])
   (λj c=>by
    have:=(e (32-n+j) (by rw[ZL];omega)).1;rw[Zs]at this;rw[this];rfl)
   (λj c=>by
    have:=(e (32-n+j) (by rw[ZL];omega)).2;rwa[Zs]at this)
   (λu f=>by obtain⟨x,_,rfl⟩:=G.mem_map.1 f;rfl)
  rw[k]at this;exact this
 have:=Holds.setCells (r:=padded n bs) e (bs.toList.map encB) (32-n) (by rw[xC hs l,ZL]) (by rw[k,ZL];omega) (λj c=>?_) (λj h1 d=>?_)
 .rw[Zs]at this;exact this
 .rw[k]at c;rw[uq,Bk];rw[padded,app_back _ _ _ (by rw[ZL];omega) (by rw[ZL];omega),ZL,show 32-n+j-(32-n)=j by omega,getElem!_pos bs j S]
 rw[ZL]at h1;rw[k]at d;rw[padded,app_front _ _ j (by rw[ZL];omega),R.getElem_replicate,rep_at 32 j h1]
def IJ{T:Bs}(p:I)(h:hZ w g 0 T)(k:p+8<=T.size):hZ w g p #[T[p]!,T[p+1]!,T[p+2]!,T[p+3]!,T[p+4]!,T[p+5]!,T[p+6]!,T[p+7]!]:=by
 have:=Holds.part (p:=p) (e:=#[T[p]!,T[p+1]!,T[p+2]!,T[p+3]!,T[p+4]!,T[p+5]!,T[p+6]!,T[p+7]!]) h (by simpa using k) (λj b=>by
  have:j<8:=by simpa using b
  match j,this with
  | 0,_=>rfl
  | 1,_=>rfl
  | 2,_=>rfl
  | 3,_=>rfl
  | 4,_=>rfl
  | 5,_=>rfl
  | 6,_=>rfl
  | 7,_=>rfl)
 rwa[Zs]at this
def qM{b0 b1 i d j b c f:Fk}(l:8<=n)(p:n<=cap)(k:cap<=1048576)(m:hZ w g o #[b0,b1,i,d,j,b,c,f]):
 cZ 199 #[qZ g o n cap] w λe w'=>e=.returned (U ((w8 b0 b1 i d j b c f:I):Y))/\∃n,w'=w.drewN n:=
 word_any g o n cap #[b0,b1,i,d,j,b,c,f] w l p k (Zo 8) m
def Holds.far{i:I}{bs:Bs}(h:hZ w g o bs)(k:j≠g)(v:Zm):hZ (w.setCell ⟨j,i,F⟩ v) g o bs:=by
 intro l hl;rw[World.cell?_setCell_other _ _ _ _ (nI (Z5 k)),World.frozen?_setCell];exact h l hl
theorem lW(a:GJ Addr)(g o n cap:I)(bs:Bs)(w:Zl)(hn:n<=32)(hc:n<=cap)(hs:bs.size=n)(hB:n=0\/(a=J ⟨g,o,F⟩/\hZ w g o bs)):
 dZ 146 #[.slice a n cap] w λe w'=>GS e (beV bs.toList):=by
 have L:=xC (n:=n) (bs:=bs) hs hn;have K:=mk1 ((Gu (n:=n) (bs:=bs)).symm.trans (Lh L));have zv:=zero32;have h6:(n:Y)<=32:=S;have d0:(0:Y)<=32-(n:Y):=S;have d1:(32:Y)-(n:Y)<=32:=S;have d2:((32:Y)-(n:Y)).toNat=32-n:=S;go_enter func146,ntmps146
 go_upto_region 2 with fail
 have R:=(At4.made w 81 0 0 0 0 rfl).alloc (.cells (ZA 32 (.int .u8 0)) 256);have Z:hZ ((w.alloc (.cells #[U 0,U 0,U 0,U 0] 81)).alloc (.cells (ZA 32 (.int .u8 0)) 256)) (w.heap.size+1) 0 (ZA 32 0):=by
  have:=Holds.new (enc:=encB) (w.alloc (.cells #[U 0,U 0,U 0,U 0] 81)) 256 (ZA 32 0);rw[Array.map_replicate,Zy]at this;exact this
 have BL:=below2 w (.cells #[U 0,U 0,U 0,U 0] 81) (.cells (ZA 32 (.int .u8 0)) 256);simp only[px]at R;have h3:n=0\/(a=J ⟨g,o,F⟩/\hZ ((w.alloc (.cells #[U 0,U 0,U 0,U 0] 81)).alloc (.cells (ZA 32 (.int .u8 0)) 256)) g o bs):=by
  rcases hB with h|⟨h1,b⟩
  .exact Z5 h
  by_cases C:n=0
  .exact Z5 C
  exact ZW ⟨h1,Holds.below b BL (Holds.lt b S)⟩
 clear hB;generalize pn _ _=W0 at R Z BL h3⊢
 go_cut [] (λwx=>hZ wx (w.heap.size+1) 0 (padded n bs)/\At4 wx w.heap.size 0 0 0 0/\kZ w wx)
 case first =>
  by_cases C:n=0
  .subst C;have c:∀w d b dc,(zn #[22,22] 3 #[.slice d b dc,.slice a 0 cap]).run prog w=.ok (goInt 0) w:=λw d b dc=>run_copy_none w 22 22 3 5 d a b dc 0 cap slice22 ints5 (by simp)
   have f:padded 0 bs=ZA 32 0:=by
    have:bs=#[]:=Array.eq_empty_of_size_eq_zero hs;rw[this];rfl
   go_wp2
   go_meet
   exact⟨by rw[f];exact Z,R,BL⟩
  obtain⟨rfl,hB⟩:a=J ⟨g,o,F⟩/\hZ W0 g o bs:=h3.resolve_left C;obtain⟨c,f⟩:=QN (cap:=cap) Z hn hB hs;have j:32-(32-n)=n:=S;have l:At4 (W0.setCells (w.heap.size+1) (32-n) (bs.toList.map encB)) w.heap.size 0 0 0 0:=by
   have b:=heap_setCells (w.heap.size+1) (k:=w.heap.size) S (bs.toList.map encB) (32-n) W0;exact⟨by rw[<-R.c0];exact ZP b,by rw[<-R.c1];exact ZP b,by rw[<-R.c2];exact ZP b,by rw[<-R.c3];exact ZP b,λo=>by rw[<-R.f o];exact World.frozen?_of_block b⟩
  have v:kZ w (W0.setCells (w.heap.size+1) (32-n) (bs.toList.map encB)):=below_setCells (yo _) _ _ _ BL;go_wp2
  go_meet
  exact(mk3 f l v).out
 case rest =>
  obtain⟨y,l,v⟩:=hcut;generalize padded n bs=T at y L K⊢;have p3:=IJ 24 y S;have p2:=IJ 16 y S;have p1:=IJ 8 y S;have p0:=IJ 0 y S;have q:=Holds.lt y S;generalize V:w8 T[24]! T[25]! T[26]! T[27]! T[28]! T[29]! T[30]! T[31]! = u at K;generalize M:w8 T[16]! T[17]! T[18]! T[19]! T[20]! T[21]! T[22]! T[23]! = z at K;generalize O:w8 T[8]! T[9]! T[10]! T[11]! T[12]! T[13]! T[14]! T[15]! = W1 at K;generalize P:w8 T[0]! T[1]! T[2]! T[3]! T[4]! T[5]! T[6]! T[7]! = m at K;go_wp2;have N:=At4.made wc 81 0 0 0 0 rfl;simp only[px]at N;replace p3:=Holds.below p3 (aD (w:=wc) (.cells #[U 0,U 0,U 0,U 0] 81)) q;replace p2:=Holds.below p2 (aD (w:=wc) (.cells #[U 0,U 0,U 0,U 0] 81)) q;replace p1:=Holds.below p1 (aD (w:=wc) (.cells #[U 0,U 0,U 0,U 0] 81)) q;replace p0:=Holds.below p0 (aD (w:=wc) (.cells #[U 0,U 0,U 0,U 0] 81)) q;have BL:=mk1 (v.alloc (qx l.lt) (.cells #[U 0,U 0,U 0,U 0] 81));replace l:=l.alloc (.cells #[U 0,U 0,U 0,U 0] 81);have x:w.heap.size≠wc.heap.size:=S;have s:w.heap.size+1≠wc.heap.size:=S;have Q:E (w.heap.size<=wc.heap.size):=by unfold E;omega
  generalize wc.heap.size=k2 at N x s Q⊢;generalize h1:w.heap.size+1=k1 at p3 p2 p1 p0 s⊢;generalize C:w.heap.size=k0 at l x BL Q⊢;refine yi 5 ?_;obtain⟨j,c,b,f,r⟩:=id N;have t:=N.lt;rw[ZY];go_wp2_with fail
  apply(qM (g:=k1) (o:=24) (n:=8) (cap:=8) dC dC dC p3).mono;rintro e w1 ⟨rfl,A,rfl⟩;rw[V];replace N:=N.drewN A;obtain⟨j,c,b,f,r⟩:=id N;have t:=N.lt;go_wp2_with fail
  replace N:=N.set0 u;replace l:=(l.drewN A).other (o:=0) x.symm (U u);replace BL:E (Below k0 w _):=(lA BL (q:=A)).setCell (p:=⟨k2,0,F⟩) Q (U u);replace p2:=Holds.far (Holds.drewN p2 A) (i:=0) s.symm (U u);replace p1:=Holds.far (Holds.drewN p1 A) (i:=0) s.symm (U u);replace p0:=Holds.far (Holds.drewN p0 A) (i:=0) s.symm (U u);obtain⟨j,c,b,f,r⟩:=id N;have t:=N.lt;rw[ZY];go_wp2_with fail
  apply(qM (g:=k1) (o:=16) (n:=16) (cap:=16) dC dC dC p2).mono;rintro e w1 ⟨rfl,X,rfl⟩;rw[M];replace N:=N.drewN X;obtain⟨j,c,b,f,r⟩:=id N;have t:=N.lt;go_wp2_with fail
  replace N:=N.set1 z;replace l:=(l.drewN X).other (o:=1) x.symm (U z);replace BL:E (Below k0 w _):=(lA BL (q:=X)).setCell (p:=⟨k2,1,F⟩) Q (U z);replace p1:=Holds.far (Holds.drewN p1 X) (i:=1) s.symm (U z);replace p0:=Holds.far (Holds.drewN p0 X) (i:=1) s.symm (U z);obtain⟨j,c,b,f,r⟩:=id N;have t:=N.lt;rw[ZY];go_wp2_with fail
  apply(qM (g:=k1) (o:=8) (n:=24) (cap:=24) dC dC dC p1).mono;rintro e w1 ⟨rfl,q2,rfl⟩;rw[O];replace N:=N.drewN q2;obtain⟨j,c,b,f,r⟩:=id N;have t:=N.lt;go_wp2_with fail
  replace N:=N.set2 W1;replace l:=(l.drewN q2).other (o:=2) x.symm (U W1);replace BL:E (Below k0 w _):=(lA BL (q:=q2)).setCell (p:=⟨k2,2,F⟩) Q (U W1);replace p0:=Holds.far (Holds.drewN p0 q2) (i:=2) s.symm (U W1);obtain⟨j,c,b,f,r⟩:=id N;have t:=N.lt;rw[ZY];go_wp2_with fail
  apply(qM (g:=k1) (o:=0) (n:=32) (cap:=32) dC dC dC p0).mono;rintro e w1 ⟨rfl,q3,rfl⟩;rw[P];replace N:=N.drewN q3;obtain⟨j,c,b,f,r⟩:=id N;have t:=N.lt;go_wp2_with fail
  replace N:=N.set3 m;replace l:=(l.drewN q3).other (o:=3) x.symm (U m);replace BL:E (Below k0 w _):=(lA BL (q:=q3)).setCell (p:=⟨k2,3,F⟩) Q (U m);obtain⟨j,c,b,f,r⟩:=id N;have t:=N.lt;obtain⟨h4,h7,h5,h8,rf⟩:=id l;have zr:=l.lt;rw[ZY];go_wp2
  have W:=l.self4 u z W1 m;unfold set4 at W;refine Zx (by simp[results,Tryz.results146,go_sem,W.c0,W.c1,W.c2,W.c3];rfl) rfl ?_;refine⟨_,rfl,?_,Four.mk (V ▸ H8) (M ▸ H8) (O ▸ H8) (P ▸ H8) K⟩;rw[(mk1 C).out];exact aH BL (Zo _)
def uV(i j g P:I)(hG:Gap i j g P)(w:Zl):
 dZ 204 #[.agg #[U i,U j,U g,U 0]] w λe w'=>GS e P:=by
 have r:=hG.hg;go_enter func204,ntmps204;go_wp2_with fail
 have R:=At4.made (w.alloc (.cells #[U i,U j,U g,U 0] 153)) 81 0 0 0 0 (Zy _ _);have BL:=below2 w (.cells #[U i,U j,U g,U 0] 153) (.cells #[U 0,U 0,U 0,U 0] 81);simp only[px]at R;apply(wF _ _ 0 _ (Four.mk (a:=0) (b:=0) (c:=0) (d:=0) dC dC dC dC Z) (Four.mk hG.h0 hG.h1 hG.h2 dC Z) _).mono;rintro e C ⟨v,rfl,m,v2,t,k,rfl,n,N,q⟩;replace q:t+val i j g 0=0+top*k:=q;have p:t=P:=by
  have h1:=n.lt;have f:=hG.hP;have:k=0\/k=1:=S;rcases this with h|h<;>rw[h]at q<;>omega
 subst p;replace R:=R.call m;have o:=mk1 (BL.trans (m.mono BL.size));obtain⟨a,b,c,d,rfl,Q,M,T,hd,L⟩:=id n;have z:=R.lt;go_wp2_with fail
 apply(kV n).mono;rintro e y ⟨K,rfl,l,rfl⟩;replace o:E (kZ w y):=(o.alloc S _).trans (l.mono (by simp;omega));replace R:=(R.alloc _).call l;let⟨x,s,A,u,O⟩:=id R
 have z:=R.lt;go_wp2;have f:=R.self4 a b c d;unfold set4 at f;refine Zx (by simp[results,Tryz.results204,go_sem,f.c0,f.c1,f.c2,f.c3];rfl) Z ?_;exact⟨_,Z,aH o (yo _),n⟩
def RV(w:Zl)(t0 t1 t2:TypeId)(a b c d e f g h i j k l:I):
 IS w w.heap.size [⟨w.heap.size,0,a,b,c,d⟩,⟨w.heap.size+1,0,e,f,g,h⟩,⟨w.heap.size+1+1,0,i,j,k,l⟩]
  (((w.alloc (.cells #[U a,U b,U c,U d] t0)).alloc (.cells #[U e,U f,U g,U h] t1)).alloc (.cells #[U i,U j,U k,U l] t2)):=by
 refine(((Kept.mk1 (below3 (w:=w) _ _ _) (below3 _ _ _).size).cons ?_).cons ?_).cons ?_
 .exact(At4.made _ t2 i j k l (by simp)).blk
 .exact((At4.made _ t1 e f g h (by simp)).alloc _).blk
 exact(((At4.made _ t0 a b c d Z).alloc _).alloc _).blk
def xN(g i f P:I)(x:Zm)(m:I)(hG:Gap g i f P)(n:2<=P%18446744073709551616)(hx:GS x m)(w:Zl):
 dZ 157 #[.agg #[U g,U i,U f,U 0],x] w λe w'=>GS e (m^(P-2)%P):=by
 obtain⟨a,b,c,d,rfl,ha,K,W,hd,em⟩:=id hx;have HX:E (GS _ m):=hx;have z:E (Gap g i f P):=hG;clear em hx ha K W hd hG;go_enter func157,ntmps157;go_wp2_with fail
 have k:=RV w 153 81 81 g i f 0 a b c d 0 0 0 0;simp only[px]at k;generalize pn _ _=W0 at k⊢;generalize h2:w.heap.size+1+1=T at k⊢;generalize h1:w.heap.size+1=k1 at k⊢;have C:E (w.heap.size<=T):=by unfold E;omega
 generalize h0:w.heap.size=k0 at k C⊢;apply(uV g i f P z _).mono;rintro e w1 ⟨v,rfl,y,o⟩;obtain⟨u,pb,pc,pd,rfl,hk,q,t,s,A⟩:=id o;replace k:=k.call y;have hg:2<=u:=by rw[A]at n;unfold val at n;omega
 let⟨p,j⟩:∃p,u=p+2:=⟨u-2,S⟩
 have HE:E (GS (.agg #[U p,U pb,U pc,U pd]) (P-2)):=by
  refine Four.mk S q t s ?_;rw[A,j];unfold val;omega
 have hw:=wrapN (a:=p) S;let⟨hn,hm,hj,h3,xf⟩:=k.tail.head.at4
 have zx:=k.tail.head.lt;let⟨M,hi,he,h5,pf⟩:=k.head.at4
 have Q:=k.head.lt;have n1:=qh zx;have n0:=qh Q;go_wp2_with fail
 apply(BP g i f P _ _ _ _ z HX HE _).mono;rintro e w2 ⟨v,rfl,r,o⟩;replace k:=(k.alloc _).call r;obtain⟨V,qb,qc,L,rfl,O,h8,h4,h7,eQ⟩:=id o;let⟨N,h6,X,h9,rf⟩:=k.tail.tail.head.at4
 have zr:=k.tail.tail.head.lt;go_wp2;have l:=k.tail.tail.head.at4.self4 V qb qc L;unfold set4 at l;refine Zx (by simp[results,Tryz.results157,go_sem,l.c0,l.c1,l.c2,l.c3];rfl) Z ?_;refine⟨_,Z,?_,(mk1 o).out⟩;rw[(mk1 h0).out];exact aH k.bl C
def Ru:prog.underlying 37=J (.int .u64):=kR
def VI:∀w,(sizeOf 37).run prog w=.ok 1 w:=λ_=>kR
def X0:prog.underlying 81=J (.array 4 37):=kR
def Jf(D:I)(a b c d p q r s:I)(w:Zl):
 (yEN (D+1+1) 81 (.agg #[U a,U b,U c,U d]) (.agg #[U p,U q,U r,U s])).run prog w=.ok (decide (a=p/\b=q/\c=r/\d=s)) w:=by
 have k:=λ(x y:I)=>run_equalIn_int (P:=prog) w D 37 .u64 .u64 (x:Y) (y:Y) Ru
 rw[yEN];simp only[ZK,yw X0,lp,VI];simp only[yDk,yD3,yGq,yFS,yF4];by_cases e:a=p
 .by_cases h1:b=q
  .by_cases f:c=r
   .by_cases g:d=s
    .simp[e,h1,f,g,part,k]
    simp[e,h1,f,g,part,k];omega
   simp[e,h1,f,part,k];omega
  simp[e,h1,part,k];omega
 simp[e,part,k];omega
def Wj(a b c d p q r s:I)(w:Zl):
 (binOp .neq 81 (.agg #[U a,U b,U c,U d]) (.agg #[U p,U q,U r,U s])).run prog w=.ok (.bool (!decide (a=p/\b=q/\c=r/\d=s))) w:=by
 rw[run_neq_struct,Jf 9998];rfl
def XZ:prog.underlying 46=J (.array 4 37):=kR
def Sk(D:I)(a b c d p q r s:I)(w:Zl):
 (yEN (D+1+1) 46 (.agg #[U a,U b,U c,U d]) (.agg #[U p,U q,U r,U s])).run prog w=.ok (decide (a=p/\b=q/\c=r/\d=s)) w:=by
 have k:=λ(x y:I)=>run_equalIn_int (P:=prog) w D 37 .u64 .u64 (x:Y) (y:Y) Ru
 rw[yEN];simp only[ZK,yw XZ,lp,VI];simp only[yDk,yD3,yGq,yFS,yF4];by_cases e:a=p
 .by_cases h1:b=q
  .by_cases f:c=r
   .by_cases g:d=s
    .simp[e,h1,f,g,part,k]
    simp[e,h1,f,g,part,k];omega
   simp[e,h1,f,part,k];omega
  simp[e,h1,part,k];omega
 simp[e,part,k];omega
def Ui{d s:I}:
 (binOp .neq 46 (.agg #[U a,U b,U c,U d]) (.agg #[U p,U q,U r,U s])).run prog w=.ok (.bool (!decide (a=p/\b=q/\c=r/\d=s))) w:=by
 rw[run_neq_struct,Sk 9998];rfl
def Tt(a b c d:I)(w:Zl):(binOp .neq 81 (.agg #[U a,U b,U c,U d]) (.agg #[U a,U b,U c,U d])).run prog w=.ok fZ w:=by
 rw[Wj,decide_eq_true ⟨Z,Z,Z,Z⟩];rfl
def Qk{d s:I}(h:¬(a=p/\b=q/\c=r/\d=s))(w:Zl):(binOp .neq 81 (.agg #[U a,U b,U c,U d]) (.agg #[U p,U q,U r,U s])).run prog w=.ok tZ w:=by
 rw[Wj,decide_eq_false h];rfl
def Ts(a b c d:I)(w:Zl):(binOp .neq 46 (.agg #[U a,U b,U c,U d]) (.agg #[U a,U b,U c,U d])).run prog w=.ok fZ w:=by
 rw[Ui,decide_eq_true ⟨Z,Z,Z,Z⟩];rfl
def Qj{d s:I}(h:¬(a=p/\b=q/\c=r/\d=s))(w:Zl):(binOp .neq 46 (.agg #[U a,U b,U c,U d]) (.agg #[U p,U q,U r,U s])).run prog w=.ok tZ w:=by
 rw[Ui,decide_eq_false h];rfl
def Ud(b:I)(c:a<2^64):bits .or .u64 ((a/4:I):Y) ((b*4611686018427387904%18446744073709551616:I):Y)=((a/4+b*4611686018427387904%18446744073709551616:I):Y)/\a/4+b*4611686018427387904%18446744073709551616<2^64:=by
 have h1:b*4611686018427387904%18446744073709551616=2^62*(b%4):=S;have k:=yDq (i:=62) (b:=a/4) S (b%4);rw[Bx _ _ S S,h1,yGw,<-k];omega
def Ej(x:Zm)(m:I)(hx:GS x m)(w:Zl):
 dZ 209 #[x] w λe w'=>GS e (m/4):=by
 obtain⟨a,b,c,d,rfl,p,n,q,hd,j⟩:=id hx;let⟨i,l0⟩:=Ud b p
 let⟨g,l1⟩:=Ud c n
 let⟨f,l2⟩:=Ud d q
 have k:=Gi a b c d;rw[<-j]at k;have s0:(a:Y)/4=((a/4:I):Y):=S;have s1:(b:Y)/4=((b/4:I):Y):=S;have s2:(c:Y)/4=((c/4:I):Y):=S;have s3:(d:Y)/4=((d/4:I):Y):=S;have t1:cW.wrap ((b:Y)*4611686018427387904)=((b*4611686018427387904%18446744073709551616:I):Y):=by rw[yx];omega
 have t2:cW.wrap ((c:Y)*4611686018427387904)=((c*4611686018427387904%18446744073709551616:I):Y):=by rw[yx];omega
 have l:cW.wrap ((d:Y)*4611686018427387904)=((d*4611686018427387904%18446744073709551616:I):Y):=by rw[yx];omega
 have l3:d/4<2^64:=S;generalize a/4+b*4611686018427387904%18446744073709551616=y at i l0 k;generalize b/4+c*4611686018427387904%18446744073709551616=t at g l1 k;generalize c/4+d*4611686018427387904%18446744073709551616=z at f l2 k;generalize b*4611686018427387904%18446744073709551616=v1 at i t1;generalize c*4611686018427387904%18446744073709551616=v2 at g t2;generalize d*4611686018427387904%18446744073709551616=s at f l;generalize a/4=r at i s0;generalize b/4=u at g s1;generalize c/4=A at f s2;generalize d/4=v at s3 l3 k;have o:E _:=k;clear k j hx;go_enter func209,ntmps209;go_wp2;refine Zx (by simp[results,Tryz.results209,go_sem];rfl) Z ?_;exact⟨_,Z,below2 _ _ _,Four.mk l0 l1 l2 l3 o.symm⟩
def JF(hx:GS x m):
 eZ 95 #[x] w (.bool (decide (m%2=1))):=by
 obtain⟨a,b,c,d,rfl,i,j,l,hd,f⟩:=id hx;have ho:=and_one i;have g:m%2=a%2:=by rw[f];unfold val;omega
 rw[g];have k:a%2=0\/a%2=1:=S;rcases k with h|h
 .rw[h]at ho⊢;go_enter func95,ntmps95;go_wp2;go_ret;exact⟨_,Z,aD _,Z⟩
 rw[h]at ho⊢;go_enter func95,ntmps95;go_wp2;go_ret;exact⟨_,Z,aD _,Z⟩
def tO{e d rd i:I}(h:IS w k [⟨k,0,m,i,g,0⟩,⟨f,0,l,j,n,rd⟩,⟨e,0,a,b,c,d⟩,⟨o,0,0,0,0,0⟩] W):W.cell? ⟨k,0,F⟩=J (U m)/\W.cell? ⟨k,1,F⟩=J (U i)/\W.cell? ⟨k,2,F⟩=J (U g)/\W.cell? ⟨k,3,F⟩=J (U 0)/\W.cell? ⟨f,0,F⟩=J (U l)/\W.cell? ⟨f,1,F⟩=J (U j)/\W.cell? ⟨f,2,F⟩=J (U n)/\W.cell? ⟨f,3,F⟩=J (U rd)/\W.cell? ⟨e,0,F⟩=J (U a)/\W.cell? ⟨e,1,F⟩=J (U b)/\W.cell? ⟨e,2,F⟩=J (U c)/\W.cell? ⟨e,3,F⟩=J (U d)/\IS w k [⟨k,0,m,i,g,0⟩,⟨f,0,l,j,n,rd⟩,⟨e,0,a,b,c,d⟩,⟨o,0,0,0,0,0⟩] W:=
 ⟨h.head.c0,h.head.c1,h.head.c2,h.head.c3,h.tail.head.c0,h.tail.head.c1,h.tail.head.c2,h.tail.head.c3,h.tail.tail.head.c0,h.tail.tail.head.c1,h.tail.tail.head.c2,h.tail.tail.head.c3,h⟩
def four_ne{d:I}(h:GS v n)(e:GS (.agg #[U a,U b,U c,U d]) m)(k:¬n=m):
 ∃p q r s:I,v=.agg #[U p,U q,U r,U s]/\¬(p=a/\q=b/\r=c/\s=d):=by
 obtain⟨p,q,r,s,rfl,h1⟩:=id h;refine⟨p,q,r,s,Z,?_⟩;rintro⟨rfl,rfl,rfl,rfl⟩;exact k (h.num e)
def even(P r:I):I:=if r%2=1 then P-r else r
def RootR(P m R:I)(e:Zm):Prop:=∃(c k d b:I) (ok:Hc),e=.tuple #[.agg #[U c,U k,U d,U b],.bool ok] /\
 (ok=H->R*R%P=m/\GS (.agg #[U c,U k,U d,U b]) (even P R))/\(ok=D->¬R*R%P=m)/\(ok=D->c=0/\k=0/\d=0/\b=0)
def RootR.yes{R d:I}(h:R*R%P=m)(e:GS (.agg #[uZ c,uZ k,uZ d,uZ b]) (even P R)):RootR P m R (.tuple #[.agg #[uZ c,uZ k,uZ d,uZ b],tZ]):=
 ⟨c,k,d,b,H,Z,λ_=>⟨h,e⟩,λh=>zd h,λh=>zd h⟩
def RootR.no{R:I}(h:¬R*R%P=m):RootR P m R (.tuple #[.agg #[uZ 0,uZ 0,uZ 0,uZ 0],fZ]):=
 ⟨0,0,0,0,false,Z,λh=>zd h,λ_=>h,λ_=>⟨Z,Z,Z,Z⟩⟩
theorem Ff(o p n P:I)(x:Zm)(m:I)(hG:Gap o p n P)(h8:P/4%18446744073709551616<18446744073709551615)(hx:GS x m)(w:Zl):
 ae prog 165 #[.agg #[.int .u64 o,.int .u64 p,.int .u64 n,.int .u64 0],x] w (Ret λe w'=>Below w.heap.size w w'/\RootR P m (m^(P/4+1)%P) e):=by
 obtain⟨a,b,c,d,rfl,ha,hb,hc,hd,em⟩:=id hx;have HX:E (GS _ m):=hx;have HG:E (Gap o p n P):=hG;obtain⟨R,hR⟩:=vH (m^(P/4+1)%P);have hz:R<P:=by
  rw[<-hR];refine gD _ ?_;have:=hG.hP2;omega
 rw[hR];have kc:E (m^(P/4+1)%P=R):=hR;have h5:E (R<P):=hz;clear em hx ha hb hc hd hG hR hz;go_enter func165,ntmps165;go_wp2_with fail
 have k:=RV w 153 81 81 o p n 0 a b c d 0 0 0 0;simp only[px]at k;generalize pn _ _=W0 at k⊢;generalize h2:w.heap.size+1+1=T at k⊢;generalize h1:w.heap.size+1=s at k⊢;have Q2:E (w.heap.size<=T):=by unfold E;omega
 generalize h0:w.heap.size=i at k Q2⊢;have H0:E (w.heap.size=i):=h0;clear h0 h1 h2;refine(uV o p n P HG.out _).mono ?_;rintro e w1 ⟨v,rfl,f,O⟩;obtain⟨pa,pb,pc,pd,rfl,-⟩:=id O;replace k:=k.call f;clear f;go_wp2_with fail
 refine(Ej _ _ O _).mono ?_;rintro e w2 ⟨v,rfl,hn,k3⟩;obtain⟨qa,qb,qc,qd,rfl,k5,ht,hm,hr,eq⟩:=id k3;replace k:=k.call hn;clear hn O k3;have k8:qa<18446744073709551615:=by rw[eq]at h8;unfold val at h8;omega
 obtain⟨qe,N⟩:=vH (qa+1);have HE:E (GS (.agg #[.int .u64 qe,.int .u64 qb,.int .u64 qc,.int .u64 qd]) (P/4+1)):=by
  refine Four.mk S ht hm hr ?_;rw[eq,<-N];unfold val;omega
 have hu:(qa:Y)+1=(qe:Y):=S;have hw:=wrapN (a:=qe) S;clear k8 eq h8 k5 ht hm hr N;obtain⟨ke,kd,kb,k9,xf⟩:=k.tail.head.at4;have zx:=k.tail.head.lt;obtain⟨Q,hi,he,h7,pf⟩:=k.head.at4;have zp:=k.head.lt;have n1:s≠w2.heap.size:=qh zx;have n0:i≠w2.heap.size:=qh zp;go_wp2_with fail
 refine(BP o p n P _ _ _ _ HG.out HX.out HE.out _).mono ?_;rintro e V ⟨v,rfl,hp,O⟩;replace k:=(k.alloc _).call hp;clear hp ke kd kb k9 xf zx Q hi he h7 pf zp n0 n1 HE hu hw;obtain⟨A,K,z,rd,rfl,-⟩:=id O;rw[kc.out]at O;have X:E (GS _ R):=O;clear O
 go_upto_region 4 with fail
 have hy:IS w i [⟨i,0,o,p,n,0⟩,⟨V.heap.size,0,A,K,z,rd⟩,⟨s,0,a,b,c,d⟩,⟨T,0,0,0,0,0⟩] _:=((((Kept.mk1 (k.alloc (.cells #[.int .u64 A,.int .u64 K,.int .u64 z,.int .u64 rd] 81)).bl (k.alloc _).le).cons (k.alloc _).tail.tail.head).cons (k.alloc _).tail.head).cons (At4.made V 81 A K z rd Z).blk).cons (x:=⟨i,0,o,p,n,0⟩) (k.alloc _).head |> λh=>by exact h
 have ka:V.heap.size≠i:=pe k.head.lt;have hk:V.heap.size≠T:=pe k.tail.tail.head.lt;have k4:V.heap.size≠s:=pe k.tail.head.lt;have Q7:E (i<=V.heap.size):=k.le;clear k;have k:=hy;clear hy;generalize pn _ _=W4 at k⊢;generalize V.heap.size=t at k ka k4 hk Q7⊢;by_cases q:R*R%P=m
 .have k6:=Tt a b c d;go_region_held3 (λw'=>w'.cell? ⟨i,0,F⟩=J (.int .u64 o)/\w'.cell? ⟨i,1,F⟩=J (.int .u64 p)/\w'.cell? ⟨i,2,F⟩=J (.int .u64 n)/\w'.cell? ⟨i,3,F⟩=J (.int .u64 0)/\w'.cell? ⟨t,0,F⟩=J (.int .u64 A)/\w'.cell? ⟨t,1,F⟩=J (.int .u64 K)/\w'.cell? ⟨t,2,F⟩=J (.int .u64 z)/\w'.cell? ⟨t,3,F⟩=J (.int .u64 rd)/\w'.cell? ⟨s,0,F⟩=J (.int .u64 a)/\w'.cell? ⟨s,1,F⟩=J (.int .u64 b)/\w'.cell? ⟨s,2,F⟩=J (.int .u64 c)/\w'.cell? ⟨s,3,F⟩=J (.int .u64 d)/\IS w i [⟨i,0,o,p,n,0⟩,⟨t,0,A,K,z,rd⟩,⟨s,0,a,b,c,d⟩,⟨T,0,0,0,0,0⟩] w') (first|exact tO k|exact tO k.drew) (first|(go_at_call 164;refine(rE (c:=o) (b:=p) (k:=n) (P:=P) HG.out X.out X.out).mono ?_;rintro e w5 ⟨v,rfl,f,r⟩;rw[q]at r;obtain rfl:=r.inj HX.out;clear r;(first|have l:=k.drew.call f|have l:=k.call f);clear k f;have k:=l;clear l))
  have C:E (R*R%P=m):=q;clear q
  rename_i hHeld
  clear hHeld;obtain⟨L,y,M,u,tf⟩:=k.tail.head.at4;have zt:=k.tail.head.lt;go_wp2_with fail
  clear L y M u tf zt;refine(JF X.out).mono ?_;rintro e w6 ⟨v,rfl,hq,rfl⟩;replace k:=k.call hq;clear hq;obtain⟨L,y,M,u,tf⟩:=k.tail.head.at4;have zt:=k.tail.head.lt;obtain⟨hg,h9,h3,h4,uf⟩:=k.tail.tail.tail.head.at4;have zu:=k.tail.tail.tail.head.lt;by_cases g:R%2=1
  .have hd:decide (R%2=1)=H:=decide_eq_true g;rw[hd];have HO:E (R%2=1):=g;clear hd g;obtain⟨Q,hi,he,h7,pf⟩:=k.head.at4;have zp:=k.head.lt;go_wp2_with fail
   refine(wT (c:=o) (b:=p) (k:=n) (P:=P) (m:=0) HG.out (Four.mk (a:=0) (b:=0) (c:=0) (d:=0) dC dC dC dC Z) X.out (oN h5.out) h5.out).mono ?_;rintro e w8 ⟨v,rfl,hj,W⟩;obtain⟨sa,sb,sc,sd,rfl,-⟩:=id W;have h6:E (GS (.agg #[.int .u64 sa,.int .u64 sb,.int .u64 sc,.int .u64 sd]) (even P R)):=by
    have h1:(0+P-R)%P=even P R:=by
     rw[even,GD HO.out,Zs];exact ZC (by have:=h5.out;have:=HO.out;omega)
    rw[E,<-h1];exact W
   replace k:=k.call hj;clear hj W L y M u tf zt hg h9 h3 h4 uf zu Q hi he h7 pf zp;obtain⟨L,y,M,u,tf⟩:=k.tail.head.at4;have zt:=k.tail.head.lt;obtain⟨hg,h9,h3,h4,uf⟩:=k.tail.tail.tail.head.at4;have zu:=k.tail.tail.tail.head.lt;go_wp2;have j:=(k.tail.tail.tail.head.at4.other4 hk (.int .u64 sa) (.int .u64 sb) (.int .u64 sc) (.int .u64 sd)).self4 sa sb sc sd;unfold set4 at j;refine Zx (by simp[results,Tryz.results165,go_sem,j.c0,j.c1,j.c2,j.c3];rfl) Z ?_;refine⟨_,Z,?_,RootR.yes C.out h6.out⟩;rw[H0.out];exact aH (aH k.bl Q7.out) Q2.out
  have hd:decide (R%2=1)=D:=decide_eq_false g;rw[hd];have h6:E (GS (.agg #[.int .u64 A,.int .u64 K,.int .u64 z,.int .u64 rd]) (even P R)):=by
   have h1:even P R=R:=by unfold even;rw[Id g]
   rw[E,h1];exact X.out
  clear hd g;go_wp2;have j:=k.tail.tail.tail.head.at4.self4 A K z rd;unfold set4 at j;refine Zx (by simp[results,Tryz.results165,go_sem,j.c0,j.c1,j.c2,j.c3];rfl) Z ?_;refine⟨_,Z,?_,RootR.yes C.out h6.out⟩;rw[H0.out];exact aH k.bl Q2.out
 go_region_held3 (λw'=>w'.cell? ⟨i,0,F⟩=J (.int .u64 o)/\w'.cell? ⟨i,1,F⟩=J (.int .u64 p)/\w'.cell? ⟨i,2,F⟩=J (.int .u64 n)/\w'.cell? ⟨i,3,F⟩=J (.int .u64 0)/\w'.cell? ⟨t,0,F⟩=J (.int .u64 A)/\w'.cell? ⟨t,1,F⟩=J (.int .u64 K)/\w'.cell? ⟨t,2,F⟩=J (.int .u64 z)/\w'.cell? ⟨t,3,F⟩=J (.int .u64 rd)/\w'.cell? ⟨s,0,F⟩=J (.int .u64 a)/\w'.cell? ⟨s,1,F⟩=J (.int .u64 b)/\w'.cell? ⟨s,2,F⟩=J (.int .u64 c)/\w'.cell? ⟨s,3,F⟩=J (.int .u64 d)/\IS w i [⟨i,0,o,p,n,0⟩,⟨t,0,A,K,z,rd⟩,⟨s,0,a,b,c,d⟩,⟨T,0,0,0,0,0⟩] w') (first|exact tO k|exact tO k.drew) (first|(go_at_call 164;refine(rE (c:=o) (b:=p) (k:=n) (P:=P) HG.out X.out X.out).mono ?_;rintro e w5 ⟨v,rfl,f,r⟩;obtain⟨L,M,y,W,rfl,g⟩:=four_ne r HX.out q;have u:=Qk g;clear r;(first|have l:=k.drew.call f|have l:=k.call f);clear k f;have k:=l;clear l))
 have C:E (¬R*R%P=m):=q;clear q
 rename_i hHeld
 clear hHeld;obtain⟨hg,h9,h3,h4,uf⟩:=k.tail.tail.tail.head.at4;have zu:=k.tail.tail.tail.head.lt;go_wp2;have j:At4 (set4 w5 T (.int .u64 0) (.int .u64 0) (.int .u64 0) (.int .u64 0)) T 0 0 0 0:=k.tail.tail.tail.head.at4.self4 0 0 0 0;unfold set4 at j;refine Zx (by simp[results,Tryz.results165,go_sem,j.c0,j.c1,j.c2,j.c3];rfl) Z ?_;refine⟨_,Z,?_,RootR.no C.out⟩;rw[H0.out];exact aH k.bl Q2.out
abbrev ws(x:B P):G Zm:=wn x.val
abbrev fv(x:B P):Zm:=nv x.val
def pv(x y:B P):Zm:=.agg (ws x++ws y).toArray
def rv(x y z:B P):Zm:=.agg (ws x++(ws y++ws z)).toArray
def Gives(f:FuncId)(args:R Zm)(v:Zm):Prop:=∀w,eZ f args w v
structure Fld(P:I)[NeZero P]:Prop where
 gap:Gap 4294968273 0 0 P
 cur:Cur P
 p2:2<=P%18446744073709551616
 p4:P/4%18446744073709551616<18446744073709551615
 p3:P%4=3
 p7:7<P
def Fld.top(h:Fld P)(x:Fin P):x.val<top:=by have:=h.gap.hP;have:=x.isLt;omega
def Fld.four(h:Fld P)(x:Fin P):GS (fv x) x.val:=fN (h.top x)
def mN:(ZM #[U 0,U 0,U 0,U 0])=fv (0:B P):=by
 have h:GS (ZM #[U 0,U 0,U 0,U 0]) (0:B P).val:=by
  rw[val_zero];exact Four.mk (a:=0) (b:=0) (c:=0) (d:=0) dC dC dC dC Z
 exact h.nv
def CQ(h:Fld P):(ZM #[U 1,U 0,U 0,U 0])=fv (1:B P):=by
 have h:GS (ZM #[U 1,U 0,U 0,U 0]) (1:B P).val:=by
  rw[val_one h.cur.pr];exact Four.mk (a:=1) (b:=0) (c:=0) (d:=0) dC dC dC dC Z
 exact h.nv
def bM:Gives 93 #[] gv0:=λw=>(xT).mono (by rintro e w' ⟨rfl,rfl⟩;exact⟨_,Z,aD _,Z⟩)
def VM{x y:B P}(h:Fld P):Gives 202 #[gv0,fv x,fv y] (fv (x+y)):=λw =>
 (sum_any 4294968273 0 0 P _ _ x.val y.val h.gap (h.four x) (h.four y) x.isLt y.isLt w).mono (by
  rintro e w' ⟨v,rfl,k,b⟩;exact⟨_,Z,k,b.nv⟩)
omit [NeZero P] in
theorem mT(x y:B P):(x.val+P-y.val)%P=(x-y).val:=by
 rw[B.sub_def];show _=(P-y.val+x.val)%P
 congr 1
 have:=y.isLt;omega
def Db{x y:B P}(h:Fld P):Gives 203 #[gv0,fv x,fv y] (fv (x-y)):=λw =>
 (qC 4294968273 0 0 P _ _ x.val y.val h.gap (h.four x) (h.four y) x.isLt y.isLt w).mono (by
  rintro e w' ⟨v,rfl,b,k⟩;rw[mT]at k;exact⟨_,Z,b,k.nv⟩)
def JZ{x y:B P}(h:Fld P):Gives 201 #[gv0,fv x,fv y] (fv (x*y)):=λw =>
 (pC 4294968273 0 0 P _ _ x.val y.val h.gap (h.four x) (h.four y) w).mono (by
  rintro e w' ⟨v,rfl,k,b⟩;exact⟨_,Z,k,b.nv⟩)
def UJ{x:B P}(h:Fld P):Gives 148 #[fv x] (fv x):=λw=>(kY (h.four x)).mono (by rintro e w' ⟨v,rfl,k,rfl⟩;exact⟨_,Z,k,Z⟩)
def Nc{x:B P}(h:Fld P):Gives 206 #[fv x] (fv x):=λw=>(kV (h.four x)).mono (by rintro e w' ⟨v,rfl,k,rfl⟩;exact⟨_,Z,k,Z⟩)
def uU{x y:B P}(h:Fld P):Gives 164 #[gv0,fv x,fv y] (fv (x*y)):=λw =>
 (rE h.gap (h.four x) (h.four y)).mono (by
  rintro e w' ⟨v,rfl,k,b⟩;exact⟨_,Z,k,b.nv⟩)
def JE{x y:B P}(h:Fld P):Gives 163 #[gv0,fv x,fv y] (fv (x+y)):=λw =>
 (Fg h.gap (h.four x) (h.four y) x.isLt y.isLt).mono (by
  rintro e w' ⟨v,rfl,k,b⟩;exact⟨_,Z,k,b.nv⟩)
def OS{x y:B P}(h:Fld P):Gives 195 #[gv0,fv x,fv y] (fv (x-y)):=λw =>
 (wT h.gap (h.four x) (h.four y) x.isLt y.isLt).mono (by
  rintro e w' ⟨v,rfl,b,k⟩;rw[mT]at k;exact⟨_,Z,b,k.nv⟩)
def zF(h:Fld P):(ZM #[U 7,U 0,U 0,U 0])=fv (7:B P):=by
 have h:GS (ZM #[U 7,U 0,U 0,U 0]) (7:B P).val:=by
  have k:(7:B P).val=7%P:=rfl;rw[k,ZC h.p7];exact Four.mk (a:=7) (b:=0) (c:=0) (d:=0) dC dC dC dC Z
 exact h.nv
def xW:([U 0,U 0,U 0,U 0]:G Zm)=ws (0:B P):=by
 have h:=mN (P:=P);unfold nv at h;injection h with h
 exact congrArg yGg h
def jL:(ZM #[U 0,U 0,U 0,U 0,U 0,U 0,U 0,U 0])=pv (0:B P) 0:=by
 rw[pv,<-xW];rfl
def xU:(ZM #[U 0,U 0,U 0,U 0,U 0,U 0,U 0,U 0,U 0,U 0,U 0,U 0])=rv (0:B P) 0 0:=by
 rw[rv,<-xW];rfl
def Ll{x:B P}(h:Fld P):Gives 157 #[gv0,fv x] (fv (inv x)):=λw =>
 (xN 4294968273 0 0 P _ x.val h.gap h.p2 (h.four x) w).mono (by
  rintro e w' ⟨v,rfl,k,b⟩;exact⟨_,Z,k,b.nv⟩)
omit [NeZero P] in
theorem Gives.e{f:FuncId}{args:Array Zm}{x c:Fin P}(h:Gives f args (fv x))(e:c=x):Gives f args (fv c):=e ▸ h
omit [NeZero P] in
theorem Gives.e3{f:FuncId}{args:Array Zm}{x y z a b c:Fin P}(h:Gives f args (rv x y z))(e:a=x)(e':b=y)(k:c=z):Gives f args (rv a b c):=e ▸ e' ▸ k ▸ h
def eqW{a b c d p q r s:Y}:(binOp .eql 157 (.agg #[U a,U b,U c,U d]) (.agg #[U p,U q,U r,U s])).run prog w=.ok (.bool (decide (a=p/\b=q/\c=r/\d=s))) w:=by
 go_simp;by_cases e:a=p<;>by_cases h1:b=q<;>by_cases k:c=r<;>by_cases f:d=s<;>simp[e,h1,k,f]
def vF(k:m<top)(b:n<top):(m%2^64=n%2^64/\m/2^64%2^64=n/2^64%2^64/\m/2^128%2^64=n/2^128%2^64/\m/2^192%2^64=n/2^192%2^64)↔m=n:=by
 constructor
 .rintro⟨d,h1,c,e⟩;unfold top at k b;omega
 rintro rfl;exact⟨Z,Z,Z,Z⟩
def eqC(h:Fld P)(x y:B P)(w:Zl):(binOp .eql 157 (fv x) (fv y)).run prog w=.ok (.bool (decide (x=y))) w:=by
 refine(eqW).trans ?_;have k:=vF (h.top x) (h.top y);simp only[By,k,<-yFO]
def Jg(h:Fld P){x y:B P}(e:x=y)(w:Zl):(binOp .eql 157 (fv x) (fv y)).run prog w=.ok tZ w:=by rw[eqC h,decide_eq_true e]
def NU(h:Fld P){x y:B P}(e:¬x=y)(w:Zl):(binOp .eql 157 (fv x) (fv y)).run prog w=.ok fZ w:=by rw[eqC h,decide_eq_false e]
def WV{d s i c' e:I}:(binOp .eql 83 (.agg #[U a,U b,U c,U d,U i,U g,U c',U j]) (.agg #[U p,U q,U r,U s,U l,U m,U f,U e])).run prog w=.ok (.bool (decide (a=p/\b=q/\c=r/\d=s) && decide (i=l/\g=m/\c'=f/\j=e))) w:=by
 go_simp;rw[Jf 9997,lp];by_cases h1:a=p/\b=q/\c=r/\d=s
 .rw[decide_eq_true h1];simp only[Hc.true_eq_false,if_false];rw[Jf 9997,lp];by_cases k:i=l/\g=m/\c'=f/\j=e
  .rw[decide_eq_true k];simp[h1.1,h1.2.1,h1.2.2.1,h1.2.2.2,k.1,k.2.1,k.2.2.1,k.2.2.2]
  rw[decide_eq_false k];simp only[if_true,lp];have n:(decide (i=l) && (decide (g=m) && (decide (c'=f) && decide (j=e))))=D:=by simpa using k
  rw[n,Hc.and_false]
 rw[decide_eq_false h1];simp only[if_true,lp];have n:(decide (a=p) && (decide (b=q) && (decide (c=r) && decide (d=s))))=D:=by simpa using h1
 rw[n,Hc.false_and]
def eqPt(h:Fld P)(x y z t:B P)(w:Zl):(binOp .eql 83 (pv x y) (pv z t)).run prog w=.ok (.bool (decide (x=z/\y=t))) w:=by
 refine(WV).trans ?_;simp only[vF (h.top x) (h.top z),vF (h.top y) (h.top t),<-yFO,Hc.decide_and]
def NS(h:Fld P){x y z t:B P}(e:x=z/\y=t)(w:Zl):(binOp .eql 83 (pv x y) (pv z t)).run prog w=.ok tZ w:=by rw[eqPt h,decide_eq_true e]
def GV(h:Fld P){x y z t:B P}(e:¬(x=z/\y=t))(w:Zl):(binOp .eql 83 (pv x y) (pv z t)).run prog w=.ok fZ w:=by rw[eqPt h,decide_eq_false e]
def aQ:yZ 157:=yQ
def aL:gZ 157 4:=gQ
def u85:yZ 81:=yQ
def i85:gZ 81 4:=gQ
def jW:yZ 159:=yQ
def i117:gZ 159 12:=gQ
def jX:yZ 83:=yQ
def i109:gZ 83 8:=gQ
def u79:yZ 153:=yQ
def i79:gZ 153 4:=gQ
def aY(C:Fld P)(x y:B P):Gives 151 #[(fv x),(fv y)] (fv (x*y)):=by
 intro w;let⟨c1,k⟩:∃c,c=x*y:=⟨_,Z⟩
 go_enter func151,ntmps151;refine RG.M.enter [(0,.v (fv x)),(1,.v (fv y))] 9 kR λa0 b=>?_
 refine Zq <| b.T [.m 0,.m 1,.m 2] [(0,ws x),(1,ws y),(2,RG.z 4)] [] [2,3,4] ⟨mk 0 157,mk 1 157,mk 2 157,Fs⟩ λj f l i g e=>?_
 refine Zq <| e.D [.c gv0,.x (fv x),.x (fv y),.c (fv c1),.u 2] [] [(2,4,ws c1)] [4] ⟨cl bM,ld aQ aL,ld aQ aL,cl ((JZ C).e k),RG.pt aL,Fs⟩ λa2 m d=>?_
 exact ag (d.rr 2 Z aQ aL)
def JH(C:Fld P)(x y:B P):Gives 153 #[(fv x),(fv y)] (fv (x+y)):=by
 intro w;let⟨c1,k⟩:∃c,c=x+y:=⟨_,Z⟩
 go_enter func153,ntmps153;refine RG.M.enter [(0,.v (fv x)),(1,.v (fv y))] 9 kR λa0 b=>?_
 refine Zq <| b.T [.m 0,.m 1,.m 2] [(0,ws x),(1,ws y),(2,RG.z 4)] [] [2,3,4] ⟨mk 0 157,mk 1 157,mk 2 157,Fs⟩ λj f l i g e=>?_
 refine Zq <| e.D [.c gv0,.x (fv x),.x (fv y),.c (fv c1),.u 2] [] [(2,4,ws c1)] [4] ⟨cl bM,ld aQ aL,ld aQ aL,cl ((VM C).e k),RG.pt aL,Fs⟩ λa2 m d=>?_
 exact ag (d.rr 2 Z aQ aL)
def fJ(C:Fld P)(x y:B P):Gives 154 #[(fv x),(fv y)] (fv (x-y)):=by
 intro w;let⟨c1,k⟩:∃c,c=x-y:=⟨_,Z⟩
 go_enter func154,ntmps154;refine RG.M.enter [(0,.v (fv x)),(1,.v (fv y))] 9 kR λa0 b=>?_
 refine Zq <| b.T [.m 0,.m 1,.m 2] [(0,ws x),(1,ws y),(2,RG.z 4)] [] [2,3,4] ⟨mk 0 157,mk 1 157,mk 2 157,Fs⟩ λj f l i g e=>?_
 refine Zq <| e.D [.c gv0,.x (fv x),.x (fv y),.c (fv c1),.u 2] [] [(2,4,ws c1)] [4] ⟨cl bM,ld aQ aL,ld aQ aL,cl ((Db C).e k),RG.pt aL,Fs⟩ λa2 m d=>?_
 exact ag (d.rr 2 Z aQ aL)
def yO(C:Fld P)(x:B P):Gives 159 #[(fv x)] (fv x):=by
 intro w;go_enter func159,ntmps159;refine RG.M.enter [(0,.v (fv x))] 5 kR λa0 k=>?_
 refine Zq <| k.T [.m 0,.m 1] [(0,ws x),(1,RG.z 4)] [] [1,2] ⟨mk 0 81,mk 1 157,Fs⟩ λg d f e c=>?_
 refine Zq <| c.T [.x (fv x),.c (fv x),.u 1] [] [(1,2,ws x)] [2] ⟨ld u85 i85,cl (UJ C (x:=x)),RG.pt aL,Fs⟩ λa2 i b=>?_
 exact ag (b.rr 1 Z aQ aL)
def H5(C:Fld P)(x:B P):Gives 158 #[(fv x)] (fv x):=by
 intro w;go_enter func158,ntmps158;refine RG.M.enter [(0,.v (fv x))] 5 kR λa0 k=>?_
 refine Zq <| k.T [.m 0,.m 1] [(0,ws x),(1,RG.z 4)] [] [1,2] ⟨mk 0 157,mk 1 81,Fs⟩ λg d f e c=>?_
 refine Zq <| c.T [.x (fv x),.c (fv x),.u 1] [] [(1,2,ws x)] [2] ⟨ld aQ aL,cl (Nc C (x:=x)),RG.pt i85,Fs⟩ λa2 i b=>?_
 exact ag (b.rr 1 Z u85 i85)
def iQ(C:Fld P)(x:B P):Gives 152 #[(fv x)] (fv (dbl x)):=by
 intro w;let⟨c1,k⟩:∃c,c=x+x:=⟨_,Z⟩
 go_enter func152,ntmps152;refine RG.M.enter [(0,.v (fv x))] 6 kR λa0 b=>?_
 refine Zq <| b.T [.m 0,.m 1] [(0,ws x),(1,RG.z 4)] [] [1,2] ⟨mk 0 157,mk 1 157,Fs⟩ λj f i g e=>?_
 refine Zq <| e.T [.x (fv x),.x (fv x),.c (fv c1),.u 1] [] [(1,3,ws c1)] [2] ⟨ld aQ aL,ld aQ aL,cl ((JH C x x).e k),RG.pt aL,Fs⟩ λa2 l d=>?_
 exact ag (d.rr 1 Z aQ aL)
def Ia(C:Fld P)(x y z:B P):Gives 87 #[(rv x y z)] (rv (twX x y) (twY x y) (twZ y z)):=by
 intro w;let⟨c1,h4⟩:∃c,c=x*x:=⟨_,Z⟩
 let⟨c2,W⟩:∃c,c=y*y:=⟨_,Z⟩
 let⟨V,h3⟩:∃c,c=x*c2:=⟨_,Z⟩
 let⟨O,Q⟩:∃c,c=dbl V:=⟨_,Z⟩
 let⟨e,M⟩:∃c,c=dbl O:=⟨_,Z⟩
 let⟨c6,h2⟩:∃c,c=dbl c1:=⟨_,Z⟩
 let⟨d,X⟩:∃c,c=c6+c1:=⟨_,Z⟩
 let⟨L,h0⟩:∃c,c=d*d:=⟨_,Z⟩
 let⟨N,T⟩:∃c,c=dbl e:=⟨_,Z⟩
 let⟨k,A⟩:∃c,c=L-N:=⟨_,Z⟩
 let⟨j,v⟩:∃c,c=e-k:=⟨_,Z⟩
 let⟨f,K⟩:∃c,c=d*j:=⟨_,Z⟩
 let⟨o,u⟩:∃c,c=c2*c2:=⟨_,Z⟩
 let⟨g,r⟩:∃c,c=dbl o:=⟨_,Z⟩
 let⟨m,s⟩:∃c,c=dbl g:=⟨_,Z⟩
 let⟨l,a⟩:∃c,c=dbl m:=⟨_,Z⟩
 let⟨b,t⟩:∃c,c=f-l:=⟨_,Z⟩
 let⟨i,q⟩:∃c,c=y*z:=⟨_,Z⟩
 let⟨n,p⟩:∃c,c=dbl i:=⟨_,Z⟩
 go_enter func87,ntmps87;refine RG.M.enter [(0,.v (rv x y z))] 56 kR λa0 M0=>?_
 refine Zq <| M0.T [.m 0,.m 1] [(0,ws x++(ws y++(ws z))),(1,RG.z 12)] [] [1,2] ⟨mk 0 159,mk 1 159,Fs⟩ λj1 i1 a1 w1 M1=>?_
 refine Zq <| M1.D [.s (.p 0 0),.x (fv x),.s (.p 0 0),.x (fv x),.c (fv c1),.s (.p 0 4),.x (fv y),.s (.p 0 4),.x (fv y),.c (fv c2),.m 2,.m 3,.u 2,.u 3] [(10,RG.z 4),(11,RG.z 4)] [(2,12,ws c1),(3,13,ws c2)] [1,2,3,4] ⟨st,ld aQ aL,st,ld aQ aL,cl ((aY C x x).e h4),st,ld aQ aL,st,ld aQ aL,cl ((aY C y y).e W),mk 2 157,mk 3 157,RG.pt aL,RG.pt aL,Fs⟩ λj2 i2 a2 w2 M2=>?_
 refine Zq <| M2.T [.s (.p 0 0),.x (fv x),.x (fv c2),.c (fv V),.c (fv O),.c (fv e),.m 4,.u 4] [(6,RG.z 4)] [(4,7,ws e)] [1,2,3,4,5] ⟨st,ld aQ aL,ld aQ aL,cl ((aY C x c2).e h3),cl ((iQ C V).e Q),cl ((iQ C O).e M),mk 4 157,RG.pt aL,Fs⟩ λj3 a3 w3 M3=>?_
 refine Zq <| M3.D [.x (fv c1),.c (fv c6),.x (fv c1),.c (fv d),.m 5,.u 5] [(4,RG.z 4)] [(5,5,ws d)] [1,2,4,5,6] ⟨ld aQ aL,cl ((iQ C c1).e h2),ld aQ aL,cl ((JH C c6 c1).e X),mk 5 157,RG.pt aL,Fs⟩ λj4 a4 w4 M4=>?_
 refine Zq <| M4.D [.x (fv d),.x (fv d),.c (fv L),.x (fv e),.c (fv N),.c (fv k),.m 6,.u 6] [(6,RG.z 4)] [(6,7,ws k)] [1,2,4,5,6,7] ⟨ld aQ aL,ld aQ aL,cl ((aY C d d).e h0),ld aQ aL,cl ((iQ C e).e T),cl ((fJ C L N).e A),mk 6 157,RG.pt aL,Fs⟩ λj5 a5 w5 M5=>?_
 refine Zq <| M5.D [.x (fv d),.x (fv e),.x (fv k),.c (fv j),.c (fv f),.x (fv c2),.x (fv c2),.c (fv o),.c (fv g),.c (fv m),.c (fv l),.c (fv b),.m 7,.u 7] [(12,RG.z 4)] [(7,13,ws b)] [1,2,7,8] ⟨ld aQ aL,ld aQ aL,ld aQ aL,cl ((fJ C e k).e v),cl ((aY C d j).e K),ld aQ aL,ld aQ aL,cl ((aY C c2 c2).e u),cl ((iQ C o).e r),cl ((iQ C g).e s),cl ((iQ C m).e a),cl ((fJ C f l).e t),mk 7 157,RG.pt aL,Fs⟩ λj6 a6 w6 M6=>?_
 refine Zq <| M6.D [.x (fv k),.x (fv b),.s (.p 0 4),.x (fv y),.s (.p 0 8),.x (fv z),.c (fv i),.c (fv n),.x (rv k b n),.u 1] [] [(1,9,ws k++(ws b++(ws n)))] [2] ⟨ld aQ aL,ld aQ aL,st,ld aQ aL,st,ld aQ aL,cl ((aY C y z).e q),cl ((iQ C i).e p),st,RG.pt i117,Fs⟩ λa7 w7 M7=>?_
 exact ag (M7.rr 1 Z jW i117)
def Gy(C:Fld P)(x y z:B P):Gives 156 #[(rv x y z)] (rv x (0-y) z):=by
 intro w;let⟨c1,k⟩:∃c,c=(0:B P)-y:=⟨_,Z⟩
 go_enter func156,ntmps156;refine RG.M.enter [(0,.v (rv x y z))] 12 kR λa0 b=>?_
 refine Zq <| b.T [.m 0,.m 1] [(0,ws x++(ws y++(ws z))),(1,RG.z 12)] [] [1,2] ⟨mk 0 159,mk 1 159,Fs⟩ λj f i g e=>?_
 refine Zq <| e.D [.s (.p 0 0),.x (fv x),.x (fv (0:B P)),.s (.p 0 4),.x (fv y),.c (fv c1),.s (.p 0 8),.x (fv z),.x (rv x c1 z),.u 1] [] [(1,9,ws x++(ws c1++(ws z)))] [2] ⟨st,ld aQ aL,se (mN (P:=P)),st,ld aQ aL,cl ((fJ C (0:B P) y).e k),st,ld aQ aL,st,RG.pt i117,Fs⟩ λa2 l d=>?_
 exact ag (d.rr 1 Z jW i117)
def Qb(C:Fld P)(x y z:B P):Gives 90 #[(rv x y z)] (pv (x*(inv z*inv z)) (y*(inv z*inv z)*inv z)):=by
 intro w;let⟨c1,j⟩:∃c,c=inv z:=⟨_,Z⟩
 let⟨c2,f⟩:∃c,c=c1*c1:=⟨_,Z⟩
 let⟨k,i⟩:∃c,c=x*c2:=⟨_,Z⟩
 let⟨g,e⟩:∃c,c=y*c2:=⟨_,Z⟩
 let⟨b,d⟩:∃c,c=g*c1:=⟨_,Z⟩
 go_enter func90,ntmps90;refine RG.M.enter [(0,.v (rv x y z))] 27 kR λa0 o=>?_
 refine Zq <| o.T [.m 0,.m 1] [(0,ws x++(ws y++(ws z))),(1,RG.z 8)] [] [1,2] ⟨mk 0 159,mk 1 83,Fs⟩ λs A K r l=>?_
 refine Zq <| l.D [.c gv0,.s (.p 0 8),.x (fv z),.c (fv z),.c (fv c1),.c (fv c1),.m 2,.u 2] [(6,RG.z 4)] [(2,7,ws c1)] [1,2,3] ⟨cl bM,st,ld aQ aL,cl (H5 C z),cl ((Ll C).e j),cl (yO C c1),mk 2 157,RG.pt aL,Fs⟩ λM a2 L n=>?_
 refine Zq <| n.T [.x (fv c1),.x (fv c1),.c (fv c2),.m 3,.u 3] [(3,RG.z 4)] [(3,4,ws c2)] [1,2,3,4] ⟨ld aQ aL,ld aQ aL,cl ((aY C c1 c1).e f),mk 3 157,RG.pt aL,Fs⟩ λu v t m=>?_
 refine Zq <| m.D [.s (.p 0 0),.x (fv x),.x (fv c2),.c (fv k),.c (fv k),.s (.p 0 4),.x (fv y),.x (fv c2),.c (fv g),.x (fv c1),.c (fv b),.c (fv b),.x (pv k b),.u 1] [] [(1,13,ws k++(ws b))] [2] ⟨st,ld aQ aL,ld aQ aL,cl ((aY C x c2).e i),cl (H5 C k),st,ld aQ aL,ld aQ aL,cl ((aY C y c2).e e),ld aQ aL,cl ((aY C g c1).e d),cl (H5 C b),st,RG.pt i109,Fs⟩ λa q p=>?_
 exact ag (p.rr 1 Z jX i109)
def xF(C:Fld P)(x y z:B P)(d:z=0):Gives 155 #[(rv x y z)] tZ:=by
 intro w;go_enter func155,ntmps155;refine RG.M.enter [(0,.v (rv x y z))] 7 kR λa0 k=>?_
 refine Zq <| k.T [.m 0,.x fZ] [(0,ws x++(ws y++(ws z)))] [] [1,2] ⟨mk 0 159,st,Fs⟩ λg f e c=>?_
 refine Zq <| c.U [.s (.p 0 8),.x (fv z),.x (fv (0:B P)),.x tZ,.x tZ] [2] ⟨st,ld aQ aL,se (mN (P:=P)),aT Z .eql 157 Z Z sx sx (λw=>kR) (Jg C d),st,Fs⟩ λa2 i b=>?_
 exact ag b.rt
def xG(C:Fld P)(x y z:B P)(d:¬z=0):Gives 155 #[(rv x y z)] fZ:=by
 intro w;go_enter func155,ntmps155;refine RG.M.enter [(0,.v (rv x y z))] 7 kR λa0 k=>?_
 refine Zq <| k.T [.m 0,.x fZ] [(0,ws x++(ws y++(ws z)))] [] [1,2] ⟨mk 0 159,st,Fs⟩ λg f e c=>?_
 refine Zq <| c.U [.s (.p 0 8),.x (fv z),.x (fv (0:B P)),.x fZ,.x fZ] [2] ⟨st,ld aQ aL,se (mN (P:=P)),aT Z .eql 157 Z Z sx sx (λw=>kR) (NU C d),st,Fs⟩ λa2 i b=>?_
 exact ag b.rt
def JU(C:Fld P)(x y:B P)(e:x=0/\y=0):Gives 150 #[(pv x y)] (rv (0:B P) 0 0):=by
 intro w;go_enter func150,ntmps150;refine RG.M.enter [(0,.v (pv x y))] 16 kR λa0 b=>?_
 refine Zq <| b.T [.m 0,.m 1] [(0,ws x++(ws y)),(1,RG.z 12)] [] [1,2] ⟨mk 0 83,mk 1 159,Fs⟩ λj f i g d=>?_
 refine Zq <| Zq <| d.U [.x (pv x y),.x (pv (0:B P) (0:B P)),.x tZ] [2,5] ⟨ld jX i109,se (jL (P:=P)),aT Z .eql 83 Z Z sx sx (λw=>kR) (NS C e),Fs⟩ λa2 m k=>Z6 k.ev<|Zq <| k.T [.x (rv (0:B P) (0:B P) (0:B P)),.u 1] [] [(1,1,ws (0:B P)++(ws (0:B P)++(ws (0:B P))))] [2] ⟨se (xU (P:=P)),RG.pt i117,Fs⟩ λn l c=>?_
 exact ag (c.rr 1 Z jW i117)
def JV(C:Fld P)(x y:B P)(e:¬(x=0/\y=0)):Gives 150 #[(pv x y)] (rv x y 1):=by
 intro w;go_enter func150,ntmps150;refine RG.M.enter [(0,.v (pv x y))] 16 kR λa0 b=>?_
 refine Zq <| b.T [.m 0,.m 1] [(0,ws x++(ws y)),(1,RG.z 12)] [] [1,2] ⟨mk 0 83,mk 1 159,Fs⟩ λj f i g d=>?_
 refine Zq <| Zq <| d.U [.x (pv x y),.x (pv (0:B P) (0:B P)),.x fZ] [1,2,5] ⟨ld jX i109,se (jL (P:=P)),aT Z .eql 83 Z Z sx sx (λw=>kR) (GV C e),Fs⟩ λa2 m k=>Z2 k.ev<|aw<|Zq <| k.D [.s (.p 0 0),.x (fv x),.c (fv x),.s (.p 0 4),.x (fv y),.c (fv y),.x (fv (1:B P)),.c (fv (1:B P)),.x (rv x y (1:B P)),.u 1] [] [(1,9,ws x++(ws y++(ws (1:B P))))] [2] ⟨st,ld u85 i85,cl (yO C x),st,ld u85 i85,cl (yO C y),se (CQ C),cl (yO C (1:B P)),st,RG.pt i117,Fs⟩ λn l c=>?_
 exact ag (c.rr 1 Z jW i117)
theorem J2(C:Fld P)(x1 e k x2 i b:B P)(R:Zm)(ha:k=0->R=rv x2 i b)(hb:¬k=0->b=0->R=rv x1 e k)(hc:¬k=0->¬b=0->dE x1 b=dE x2 k/\fF e b=fF i k->R=rv (twX x1 e) (twY x1 e) (twZ e k))(hd:¬k=0->¬b=0->¬(dE x1 b=dE x2 k/\fF e b=fF i k)->R=rv (plX (dE x1 b) (fF e b) (dE x2 k) (fF i k)) (plY (dE x1 b) (fF e b) (dE x2 k) (fF i k)) (plZ k b (dE x1 b) (dE x2 k))):Gives 88 #[(rv x1 e k),(rv x2 i b)] R:=by
 intro w;obtain⟨c1,hu⟩:∃c,c=k*k:=⟨_,Z⟩
 obtain⟨c2,hj⟩:∃c,c=b*b:=⟨_,Z⟩
 obtain⟨n,hp⟩:∃c,c=x1*c2:=⟨_,Z⟩
 obtain⟨u,hi⟩:∃c,c=x2*c1:=⟨_,Z⟩
 obtain⟨c5,ht⟩:∃c,c=e*c2:=⟨_,Z⟩
 obtain⟨q,hn⟩:∃c,c=c5*b:=⟨_,Z⟩
 obtain⟨c7,he⟩:∃c,c=i*c1:=⟨_,Z⟩
 obtain⟨v,hk⟩:∃c,c=c7*k:=⟨_,Z⟩
 go_enter func88,ntmps88;refine RG.M.enter [(0,.v (rv x1 e k)),(1,.v (rv x2 i b))] 108 kR λa0 M0=>?_
 refine Zq <| M0.T [.m 0,.m 1,.m 2] [(0,ws x1++(ws e++(ws k))),(1,ws x2++(ws i++(ws b))),(2,RG.z 12)] [] [2,3,4] ⟨mk 0 159,mk 1 159,mk 2 159,Fs⟩ λj1 i1 m1 a1 w1 M1=>?_
 repeat refine Zq ?_
 by_cases p:k=0
 .obtain rfl:=ha p;refine M1.U [.x (rv x1 e k),.c (.bool H)] [3,4,19] ⟨ld jW i117,cl (xF C x1 e k p),Fs⟩ λa2 w2 T=>?_
  refine Z6 T.ev<|Zq <| T.T [.x (rv x2 i b),.u 2] [] [(2,1,ws x2++(ws i++(ws b)))] [4] ⟨ld jW i117,RG.pt i117,Fs⟩ λa3 w3 N=>?_
  exact ag (N.rr 2 Z jW i117)
 refine M1.U [.x (rv x1 e k),.c (.bool D)] [2,3,4,19] ⟨ld jW i117,cl (xG C x1 e k p),Fs⟩ λa2 w2 T=>?_
 refine Z2 T.ev<|aw ?_
 repeat refine Zq ?_
 by_cases s:b=0
 .obtain rfl:=hb p s;refine T.U [.x (rv x2 i b),.c (.bool H)] [2,4,22] ⟨ld jW i117,cl (xF C x2 i b s),Fs⟩ λa3 w3 N=>?_
  refine Z6 N.ev<|Zq <| N.T [.x (rv x1 e k),.u 2] [] [(2,1,ws x1++(ws e++(ws k)))] [4] ⟨ld jW i117,RG.pt i117,Fs⟩ λa4 w4 M4=>?_
  exact ag (M4.rr 2 Z jW i117)
 refine T.U [.x (rv x2 i b),.c (.bool D)] [2,3,4,22] ⟨ld jW i117,cl (xG C x2 i b s),Fs⟩ λa3 w3 N=>?_
 refine Z2 N.ev<|aw<|Zq <| N.D [.s (.p 0 8),.x (fv k),.s (.p 0 8),.x (fv k),.c (fv c1),.s (.p 1 8),.x (fv b),.s (.p 1 8),.x (fv b),.c (fv c2),.m 3,.m 4,.u 3,.u 4] [(10,RG.z 4),(11,RG.z 4)] [(3,12,ws c1),(4,13,ws c2)] [2,3,4,5,6] ⟨st,ld aQ aL,st,ld aQ aL,cl ((aY C k k).e hu),st,ld aQ aL,st,ld aQ aL,cl ((aY C b b).e hj),mk 3 157,mk 4 157,RG.pt aL,RG.pt aL,Fs⟩ λj4 i4 a4 w4 M4=>?_
 refine Zq <| M4.D [.s (.p 0 0),.x (fv x1),.x (fv c2),.c (fv n),.s (.p 1 0),.x (fv x2),.x (fv c1),.c (fv u),.m 5,.m 6,.u 5,.u 6] [(8,RG.z 4),(9,RG.z 4)] [(5,10,ws n),(6,11,ws u)] [2,3,4,5,6,7,8] ⟨st,ld aQ aL,ld aQ aL,cl ((aY C x1 c2).e hp),st,ld aQ aL,ld aQ aL,cl ((aY C x2 c1).e hi),mk 5 157,mk 6 157,RG.pt aL,RG.pt aL,Fs⟩ λj5 i5 a5 w5 M5=>?_
 refine Zq <| M5.D [.s (.p 0 4),.x (fv e),.x (fv c2),.c (fv c5),.s (.p 1 8),.x (fv b),.c (fv q),.s (.p 1 4),.x (fv i),.x (fv c1),.c (fv c7),.s (.p 0 8),.x (fv k),.c (fv v),.m 7,.m 8,.u 7,.u 8] [(14,RG.z 4),(15,RG.z 4)] [(7,16,ws q),(8,17,ws v)] [2,3,4,7,8,9,10] ⟨st,ld aQ aL,ld aQ aL,cl ((aY C e c2).e ht),st,ld aQ aL,cl ((aY C c5 b).e hn),st,ld aQ aL,ld aQ aL,cl ((aY C i c1).e he),st,ld aQ aL,cl ((aY C c7 k).e hk),mk 7 157,mk 8 157,RG.pt aL,RG.pt aL,Fs⟩ λj6 i6 a6 w6 M6=>?_
 repeat refine Zq ?_
 by_cases x:dE x1 b=dE x2 k/\fF e b=fF i k
 .have hR:=hc p s x;obtain⟨hx,hy⟩:=x;obtain⟨j,L⟩:∃c,c=twX x1 e:=⟨_,Z⟩
  obtain⟨d,t⟩:∃c,c=twY x1 e:=⟨_,Z⟩
  obtain⟨f,r⟩:∃c,c=twZ e k:=⟨_,Z⟩
  obtain rfl:R=rv j d f:=hR.trans (by subst_vars;rfl);refine M6.U [.x (fv n),.x (fv u),.x (.bool H),.x (.bool H),.x (fv q),.x (fv v),.x (.bool H),.x (.bool H)] [2,4,63] ⟨ld aQ aL,ld aQ aL,aT Z .eql (T:=157) 157 (t1:=56) (t2:=57) (v1:=(fv n)) (v2:=(fv u)) (v:=(.bool H)) Z Z sx sx (λw=>kR) (Jg C (by subst_vars;exact hx)),st,ld aQ aL,ld aQ aL,aT Z .eql (T:=157) 157 (t1:=60) (t2:=61) (v1:=(fv q)) (v2:=(fv v)) (v:=(.bool H)) Z Z sx sx (λw=>kR) (Jg C (by subst_vars;exact hy)),st,Fs⟩ λa7 w7 M7=>?_
  refine Z6 M7.ev<|Zq <| M7.T [.x (rv x1 e k),.c (rv j d f),.u 2] [] [(2,2,ws j++(ws d++(ws f)))] [4] ⟨ld jW i117,cl ((Ia C x1 e k).e3 L t r),RG.pt i117,Fs⟩ λa8 w8 M8=>?_
  exact ag (M8.rr 2 Z jW i117)
 have hR:=hd p s x;obtain⟨j,L⟩:∃c,c=u-n:=⟨_,Z⟩
 obtain⟨d,t⟩:∃c,c=v-q:=⟨_,Z⟩
 obtain⟨f,r⟩:∃c,c=j*j:=⟨_,Z⟩
 obtain⟨l,h9⟩:∃c,c=f*j:=⟨_,Z⟩
 obtain⟨m,h7⟩:∃c,c=f*n:=⟨_,Z⟩
 obtain⟨z,h6⟩:∃c,c=d*d:=⟨_,Z⟩
 obtain⟨O,h5⟩:∃c,c=z-l:=⟨_,Z⟩
 obtain⟨K,h2⟩:∃c,c=dbl m:=⟨_,Z⟩
 obtain⟨g,X⟩:∃c,c=O-K:=⟨_,Z⟩
 obtain⟨a,h4⟩:∃c,c=m-g:=⟨_,Z⟩
 obtain⟨M,V⟩:∃c,c=d*a:=⟨_,Z⟩
 obtain⟨Q,h0⟩:∃c,c=l*q:=⟨_,Z⟩
 obtain⟨o,h3⟩:∃c,c=M-Q:=⟨_,Z⟩
 obtain⟨A,h8⟩:∃c,c=k*b:=⟨_,Z⟩
 obtain⟨y,W⟩:∃c,c=A*j:=⟨_,Z⟩
 obtain rfl:R=rv g o y:=hR.trans (by subst_vars;rfl);by_cases hx:dE x1 b=dE x2 k
 case' pos =>
  have hy:¬fF e b=fF i k:=λh=>x ⟨hx,h⟩
  refine M6.U [.x (fv n),.x (fv u),.x (.bool H),.x (.bool H),.x (fv q),.x (fv v),.x (.bool D),.x (.bool D)] [2,3,4,7,8,9,10,63] ⟨ld aQ aL,ld aQ aL,aT Z .eql (T:=157) 157 (t1:=56) (t2:=57) (v1:=(fv n)) (v2:=(fv u)) (v:=(.bool H)) Z Z sx sx (λw=>kR) (Jg C (by subst_vars;exact hx)),st,ld aQ aL,ld aQ aL,aT Z .eql (T:=157) 157 (t1:=60) (t2:=61) (v1:=(fv q)) (v2:=(fv v)) (v:=(.bool D)) Z Z sx sx (λw=>kR) (NU C (by subst_vars;exact hy)),st,Fs⟩ ?_
 case' neg =>
  refine M6.u [.x 56 [] (fv n),.x 57 [] (fv u),.x 58 [(56,0),(57,1)] (.bool D),.x 59 [(58,2)] (.bool D),⟨J 60,[],.v am,.pass⟩,⟨J 61,[],.v am,.pass⟩,⟨J 62,[],.v am,.pass⟩,.x 63 [(59,3),(62,6)] (.bool D)] [(2,.p 0 0),(3,.p 1 0),(4,.p 2 0),(7,.p 5 0),(8,.p 6 0),(9,.p 7 0),(10,.p 8 0),(63,.v (.bool D))] ⟨ld aQ aL,ld aQ aL,aT Z .eql (T:=157) 157 (t1:=56) (t2:=57) (v1:=(fv n)) (v2:=(fv u)) (v:=(.bool D)) Z Z sx sx (λw=>kR) (NU C (by subst_vars;exact hx)),st,aO Z Z,aO Z Z,aO Z Z,st,Fs⟩ ?_
 all_goals
  intro a7 w7 M7;refine Z2 M7.ev<|aw<|Zq <| M7.D [.x (fv u),.x (fv n),.c (fv j),.x (fv v),.x (fv q),.c (fv d),.m 9,.m 10,.u 9,.u 10] [(6,RG.z 4),(7,RG.z 4)] [(9,8,ws j),(10,9,ws d)] [2,3,4,7,9,11,12] ⟨ld aQ aL,ld aQ aL,cl ((fJ C u n).e L),ld aQ aL,ld aQ aL,cl ((fJ C v q).e t),mk 9 157,mk 10 157,RG.pt aL,RG.pt aL,Fs⟩ λj8 i8 a8 w8 M8=>?_
  refine Zq <| M8.T [.x (fv j),.x (fv j),.c (fv f),.m 11,.u 11] [(3,RG.z 4)] [(11,4,ws f)] [2,3,4,7,9,11,12,13] ⟨ld aQ aL,ld aQ aL,cl ((aY C j j).e r),mk 11 157,RG.pt aL,Fs⟩ λj9 a9 w9 M9=>?_
  refine Zq <| M9.D [.x (fv f),.x (fv j),.c (fv l),.x (fv f),.x (fv n),.c (fv m),.m 12,.m 13,.u 12,.u 13] [(6,RG.z 4),(7,RG.z 4)] [(12,8,ws l),(13,9,ws m)] [2,3,4,9,11,12,14,15] ⟨ld aQ aL,ld aQ aL,cl ((aY C f j).e h9),ld aQ aL,ld aQ aL,cl ((aY C f n).e h7),mk 12 157,mk 13 157,RG.pt aL,RG.pt aL,Fs⟩ λk0 k4 hw k7 hr=>?_
  refine Zq <| hr.D [.x (fv d),.x (fv d),.c (fv z),.x (fv l),.c (fv O),.x (fv m),.c (fv K),.c (fv g),.m 14,.u 14] [(8,RG.z 4)] [(14,9,ws g)] [2,3,4,9,11,12,14,15,16] ⟨ld aQ aL,ld aQ aL,cl ((aY C d d).e h6),ld aQ aL,cl ((fJ C z l).e h5),ld aQ aL,cl ((iQ C m).e h2),cl ((fJ C O K).e X),mk 14 157,RG.pt aL,Fs⟩ λk6 k1 k3 hm=>?_
  refine Zq <| hm.D [.x (fv d),.x (fv m),.x (fv g),.c (fv a),.c (fv M),.x (fv l),.x (fv q),.c (fv Q),.c (fv o),.m 15,.u 15] [(9,RG.z 4)] [(15,10,ws o)] [2,3,4,11,16,17] ⟨ld aQ aL,ld aQ aL,ld aQ aL,cl ((fJ C m g).e h4),cl ((aY C d a).e V),ld aQ aL,ld aQ aL,cl ((aY C l q).e h0),cl ((fJ C M Q).e h3),mk 15 157,RG.pt aL,Fs⟩ λk2 hz k8 hg=>?_
  refine Zq <| hg.D [.x (fv g),.x (fv o),.s (.p 0 8),.x (fv k),.s (.p 1 8),.x (fv b),.c (fv A),.x (fv j),.c (fv y),.x (rv g o y),.u 2] [] [(2,10,ws g++(ws o++(ws y)))] [4] ⟨ld aQ aL,ld aQ aL,st,ld aQ aL,st,ld aQ aL,cl ((aY C k b).e h8),ld aQ aL,cl ((aY C A j).e W),st,RG.pt i117,Fs⟩ λk9 k5 hq=>?_
  exact ag (hq.rr 2 Z jW i117)
abbrev T3(P:I):=B P × B P × B P
abbrev tv(t:T3 P):Zm:=rv t.1 t.2.1 t.2.2
abbrev tw(t:T3 P):G Zm:=ws t.1++(ws t.2.1++ws t.2.2)
def JacT(t:T3 P)(p:EC.Pt P):Prop:=Jac t.1 t.2.1 t.2.2 p/\On p
def twJ(t:T3 P):T3 P:=(twX t.1 t.2.1,twY t.1 t.2.1,twZ t.2.1 t.2.2)
def plJ(a b:T3 P):T3 P:=
 if a.2.2=0 then b else if b.2.2=0 then a else
 if dE a.1 b.2.2=dE b.1 a.2.2/\fF a.2.1 b.2.2=fF b.2.1 a.2.2 then twJ a else
 (plX (dE a.1 b.2.2) (fF a.2.1 b.2.2) (dE b.1 a.2.2) (fF b.2.1 a.2.2),plY (dE a.1 b.2.2) (fF a.2.1 b.2.2) (dE b.1 a.2.2) (fF b.2.1 a.2.2),plZ a.2.2 b.2.2 (dE a.1 b.2.2) (dE b.1 a.2.2))
def opJ(t:T3 P):T3 P:=(t.1,0-t.2.1,t.2.2)
def raJ(x y:B P):T3 P:=if x=0/\y=0 then(0,0,0) else(x,y,1)
def Rx(C:Fld P)(t:T3 P):Gives 87 #[tv t] (tv (twJ t)):=Ia C t.1 t.2.1 t.2.2
def RN(C:Fld P)(a b:T3 P):Gives 88 #[tv a,tv b] (tv (plJ a b)):=by
 let⟨x1,f,d⟩:=a
 let⟨x2,e,c⟩:=b
 exact J2 C x1 f d x2 e c _ (λh=>by unfold plJ;rw[GD h]) (λh1 k=>by unfold plJ;rw[Id h1,GD k]) (λh1 k h=>by unfold plJ;rw[Id h1,Id k,GD h];rfl) (λh1 k h=>by unfold plJ;rw[Id h1,Id k,Id h])
def Wg(C:Fld P)(t:T3 P):Gives 156 #[tv t] (tv (opJ t)):=Gy C t.1 t.2.1 t.2.2
def V4{x y:B P}(C:Fld P):Gives 150 #[pv x y] (tv (raJ x y)):=by
 unfold raJ;by_cases k:x=0/\y=0
 .rw[GD k];exact JU C x y k
 rw[Id k];exact JV C x y k
def V7(C:Fld P)(t:T3 P):Gives 90 #[tv t] (pv (t.1*(inv t.2.2*inv t.2.2)) (t.2.1*(inv t.2.2*inv t.2.2)*inv t.2.2)):=Qb C t.1 t.2.1 t.2.2
def JacT.twice(C:Fld P){t:T3 P}{p:EC.Pt P}(h:JacT t p):JacT (twJ t) (EC.add p p):=⟨h.1.twice C.cur h.2,C.cur.on h.2 h.2⟩
def JacT.plus(C:Fld P){a b:T3 P}{p q:EC.Pt P}(h:JacT a p)(k:JacT b q):JacT (plJ a b) (EC.add p q):=by
 refine⟨?_,C.cur.on h.2 k.2⟩;let⟨x1,j,i⟩:=a
 let⟨x2,l,g⟩:=b
 unfold plJ;by_cases c:i=0
 .rw[GD c];obtain rfl:=h.1.zero C.cur c;exact k.1
 rw[Id c];by_cases d:g=0
 .rw[GD d];obtain rfl:=k.1.zero C.cur d;rw[bO];exact h.1
 rw[Id d];rcases h.1.plus C.cur h.2 k.1 k.2 c d with⟨f,e,e3⟩|⟨f,e⟩
 .rw[GD ⟨f,e⟩,e3];exact h.1.twice C.cur h.2
 rw[Id f];exact e
def JacT.neg{t:T3 P}{p:EC.Pt P}(h:JacT t p):JacT (opJ t) (neg p):=⟨h.1.neg,dQ h.2⟩
def RI(C:Fld P){x y:B P}{p:EC.Pt P}(h:Pair x y p)(b:On p):JacT (raJ x y) p:=by
 refine⟨?_,b⟩;unfold raJ;by_cases k:x=0/\y=0
 .obtain rfl:=h.nothing C.cur b k;rw[GD k];rfl
 rw[Id k];exact h.jac C.cur k
def JacT.pair(C:Fld P){t:T3 P}{p:EC.Pt P}(h:JacT t p):Pair (t.1*(inv t.2.2*inv t.2.2)) (t.2.1*(inv t.2.2*inv t.2.2)*inv t.2.2) p:=h.1.pair C.cur
def JacT.none:JacT ((0,0,0):T3 P) .none:=⟨Z,kJ⟩
namespace DG
def nX(d:I->Y):I->Y
 | 0=>0
 | k+1=>nX d k+d k*2^k
def upd(d:I->Y)(i:I)(v:Y):I->Y:=λj=>if j=i then v else d j
def AL{d e:I->Y}:∀k,(∀j,j<k->d j=e j)->nX d k=nX e k
 | 0,_=>rfl
 | k+1,h=>by
  show nX d k+d k*2^k=nX e k+e k*2^k;rw[AL k λj b=>h j S,h k S]
def AK{i:I}{d:I->Y}(h:∀j,i<=j->d j=0):∀k,nX d (i+k)=nX d i
 | 0=>rfl
 | k+1=>by
  show nX d (i+k)+d (i+k)*2^(i+k)=_;rw[h (i+k) S,yEe,yEp,AK h k]
def upd_same(d:I->Y)(i:I)(v:Y):upd d i v i=v:=GD Z
def kM{i:I}{v:Y}(h:j≠i):upd d i v j=d j:=Id h
def NX{i:I}{v:Y}(h:∀j,i<=j->d j=0)(k:I):nX (upd d i v) (i+1+k)=nX d i+v*2^i:=by
 rw[AK (i:=(i+1)) (λj b=>by rw[kM S];exact h j S) k];show nX (upd d i v) i+upd d i v i*2^i=_;rw[upd_same,AL i λj b=>kM S]
structure DI(n:I)(d:I->Y)(i c:I):Prop where
 hc:c<=1
 hz:∀j,i<=j->d j=0
 hw:∀j,257<=j->d j=0
 ho:∀j,d j=0\/(d j%2=1/\-15<=d j/\d j<=15)
 hs:(n:Y)=nX d i+((n/2^i+c:I):Y)*2^i
 he:257<=i->n/2^i+c=0
def DI.start(n:I):DI n (λ_=>0) 0 0:=by
 refine⟨dC,λ_ _=>rfl,λ_ _=>rfl,λ_=>Z5 Z,?_,λh=>S⟩;rw[rx,I.div_one];show(n:Int)=0+((n+0:I):Int)*1;omega
def high{i:I}(k:n<2^256)(b:256<=i):n/2^i=0:=
 qv (Zn k (qp dC b))
def DI.skip{i:I}(h:DI n d i c)(g:n<2^256)(m:i<257)(f:n/2^i%2=c):DI n d (i+1) c:=by
 have k:n/2^(i+1)=n/2^i/2:=by rw[oB,yCo]
 refine⟨h.hc,λj l=>h.hz j S,h.hw,h.ho,?_,λb=>?_⟩
 .rw[h.hs];show _=nX d i+d i*2^i+_;rw[h.hz i (Zo _),yEe,yEp,k,show n/2^i+c=(n/2^i/2+c)*2 by have:=h.hc;omega];rw[show(2:Int)^(i+1)=2^i*2 by rw[yGr]];generalize (2:Int)^i=t;rw[sg,yET,yEf (2:I) t];rfl
 have h1:i=256:=S;have e:n/2^i=0:=high g S;rw[k,e];rw[e]at f;omega
def DI.take{i:I}(h:DI n d i c)(q:n<2^256)(s:i<257)(p:n/2^i%2≠c):
 DI n (upd d i (((n/2^i%32+c:I):Int)-32*(((n/2^i%32+c)/16:I):Int))) (i+5) ((n/2^i%32+c)/16):=by
 have k:n/2^(i+5)=n/2^i/32:=by rw[rn,yCo]
 have r:=h.hc;have b:(n/2^i%32+c)%2=1:=S;have f:n/2^i%32+c<32:=S;refine⟨S,λj e=>?_,λj e=>?_,λj=>?_,?_,λg=>?_⟩
 .rw[kM S];exact h.hz j S
 .rw[kM S];exact h.hw j e
 .by_cases e:j=i
  .subst e;rw[upd_same];right;omega
  rw[kM e];exact h.ho j
 .rw[show i+5=i+1+4 by omega,NX h.hz 4,show i+1+4=i+5 by omega,h.hs,Int.add_assoc]
  congr 1
  rw[k,Int.pow_add,show(2:Int)^5=32 by decide,<-yEf (32:Int),<-yET,<-yGA]
  congr 1
  omega
 have l:n/2^i<16:=by
  rw[I.div_lt_iff_lt_mul (rj dC)];refine Zn q ?_
  calc 2^256=16*2^252:=dK
   _<=16*2^i:=qm (Zo _) (qp dC S)
 rw[k];generalize n/2^i=m at l p b f⊢;rw[ZC (show m<32 by omega)]at b⊢;have o:m+c<16:=S;rw[qv o,qv (show m<32 by omega)]
def DI.all{i:I}(h:DI n d i c)(k:257<=i):(n:Int)=nX d 257:=by
 have h1:=h.hs;rw[h.he k,px,yEe,yEp]at h1;rw[h1,show i=257+(i-257) by omega,AK h.hw]
def hor(d:I->Y):I->Y
 | 0=>0
 | k+1=>2*hor d k+d (256-k)
def I4(d:I->Y):∀k,k<=257->hor d k*2^(257-k)+nX d (257-k)=nX d 257
 | 0,_=>by show 0*_+_=_;rw[yEe,Y.zero_add]
 | k+1,hk=>by
  rw[<-I4 d k S];show(2*hor d k+d (256-k))*2^(257-(k+1))+nX d (257-(k+1))=_;rw[show 257-(k+1)=256-k by omega,show 257-k=(256-k)+1 by omega];show _=hor d k*2^(256-k+1)+(nX d (256-k)+d (256-k)*2^(256-k));rw[yGr];generalize (2:Y)^(256-k)=t;generalize hor d k=a;rw[yGA,yEf t 2,<-yET,yEf a 2];omega
def QD{i:I}(h:DI n d i c)(k:257<=i):hor d 257=(n:Y):=by
 have h1:=I4 d 257 (Zo _);rw[ww]at h1;rw[h.all k,<-h1];show hor d 257=hor d 257*1+0;omega
end DG
def OC{i:I}(k o:I)(c:i<257)(w:Zl):(iB 162 (oZ k o) (iZ i)).run prog w=.ok (oZ k (o+i)) w:=by
 have h1:¬(i:Y)<0:=S;have b:(i:Y)<257:=S;go_simp
def U8{i:I}(b:i<257):(iB 162 (jZ k) (iZ i)).run prog w=.ok (oZ k i) w:=by
 rw[OC k 0 b,Zs]
def Jz{i:I}(c:i<8):(iB 160 (oZ k o) (iZ i)).run prog w=.ok (oZ k (o+12*i)) w:=by
 have h1:¬(i:Y)<0:=S;have b:(i:Y)<8:=S;go_simp
def OD{i:I}(c:i<8):(iB 160 (oZ k o) (.int .i8 i)).run prog w=.ok (oZ k (o+12*i)) w:=by
 have h1:¬(i:Y)<0:=S;have b:(i:Y)<8:=S;go_simp
def JA{i:I}(b:i<n):(iB 156 (sZ k n c) (iZ i)).run prog w=.ok (oZ k (353*i)) w:=by
 go_simp
def Y8{i:I}(b:i<n):(iB 78 (qZ k o n c) (iZ i)).run prog w=.ok (oZ k (o+4*i)) w:=by
 go_simp
def XH{i:I}(b:i<n):(iB 90 (qZ k o n c) (iZ i)).run prog w=.ok (oZ k (o+8*i)) w:=by
 go_simp
def Sc{d:Y}(hd:-15<=d/\d<=15)(w:Zl):(yGk .neg (.int .i8 d)).run prog w=.ok (.int .i8 (-d)) w:=by
 have h:=yEy (-d) S;go_simp
def Sb(b:k<8)(w:Zl):(binOp .quo 161 (.int .i8 (2*(k:Y)+1)) (.int .i8 2)).run prog w=.ok (.int .i8 k) w:=by
 have c:(2*(k:Y)+1).tdiv 2=(k:Y):=by rw[Y.tdiv_eq_ediv_of_nonneg S];omega
 have h:=yEy (k:Y) S;go_simp
def Yh(k:g<32)(w:Zl):(binOp .shr 3 (iZ g) (U 4)).run prog w=.ok (iZ ((g/16:I):Y)) w:=by
 go_simp
def Yi(b:g<32)(w:Zl):(binOp .shl 3 (iZ g) (U 5)).run prog w=.ok (iZ (32*(g:Y))) w:=by
 have h:=po (32*(g:Y)) S;have k:(g:Y)*32=32*(g:Y):=S;go_simp
def FK{a b:Y}(k:-1000<=a/\a<=1000)(c:-1000<=b/\b<=1000)(w:Zl):(binOp .sub 3 (iZ a) (iZ b)).run prog w=.ok (iZ (a-b)) w:=by
 have h:=po (a-b) S;go_simp
def Ba(k:a<=1000000)(c:b<=1000000)(w:Zl):(binOp .add 3 (iZ a) (iZ b)).run prog w=.ok (iZ ((a+b:I):Y)) w:=by
 have h:=po ((a:Y)+(b:Y)) S;go_simp
def cv8{v:Y}(hv:-15<=v/\v<=15)(w:Zl):(convert 3 161 (iZ v)).run prog w=.ok (.int .i8 v) w:=by
 have h:=yEy v S;go_simp
def Xn(e:b=c)(w:Zl):(binOp .eql 3 (iZ b) (iZ c)).run prog w=.ok tZ w:=by
 subst e;go_simp
def Xo(e:¬b=c)(w:Zl):(binOp .eql 3 (iZ b) (iZ c)).run prog w=.ok fZ w:=by
 have h:¬(b:Y)=(c:Y):=S;go_simp
def pO{i:I}(e:i<n)(w:Zl):(binOp .lss 3 (iZ i) (iZ n)).run prog w=.ok tZ w:=by
 go_simp
def wG{i:I}(e:¬i<n)(w:Zl):(binOp .lss 3 (iZ i) (iZ n)).run prog w=.ok fZ w:=by
 go_simp
def OY(d:n<top)(hf:f<=256)(b:c<=32):Gives 200 #[nv n,iZ f,iZ c] (iZ ((n/2^f%2^c:I):Y)):=λw =>
 (Fl _ n f c (fN d) hf b w).mono (by rintro e w' ⟨v,rfl,k,rfl⟩;exact⟨_,Z,k,Z⟩)
def dg(d:I->Y):G Zm:=(fo 257).map (λj=>gM .i8 (d j))
def dv(d:I->Y):Zm:=.agg (dg d).toArray
def bQ(d:I->Y):(dg d).length=257:=by unfold dg;rw[ZI,G.length_range]
def N5(k:j<257):(dg d)[j]? = J (.int .i8 (d j)):=by
 rw[dg,rm,G.getElem?_range k];rfl
def UP{i:I}{v:Y}:dg (DG.upd d i v)=(dg d).set i (.int .i8 v):=by
 apply yDB;intro j;rw[G.getElem?_set];by_cases b:j<257
 .rw[N5 b,N5 b];by_cases k:i=j
  .subst k;rw[GD Z,GD (by rw[bQ];exact b),DG.upd_same]
  rw[Id k,DG.kM (λh=>k h.symm)]
 rw[zl (by rw[bQ];omega)];by_cases k:i=j
 .rw[GD k,Id (by rw[bQ];omega)]
 rw[Id k,zl (by rw[bQ];omega)]
def N1:(dg d).all (·.oneCell')=H:=by
 rw[dg,G.all_map];exact G.all_eq_true.2 λ_ _=>rfl
def UO:((dg d).drop 0).take (dg d).length=dg d:=by rw[G.drop_zero,G.take_length]
def dgo(n:I):I->(I->Y)->I->I->(I->Y)
 | 0,d,_,_=>d
 | f+1,d,i,c=>if i<257 then(if n/2^i%2=c then dgo n f d (i+1) c else
  dgo n f (DG.upd d i (((n/2^i%32+c:I):Y)-32*(((n/2^i%32+c)/16:I):Y))) (i+5) ((n/2^i%32+c)/16)) else d
def Jj{i:I}(n:I)(f:I)(d:I->Y)(c:I)(h:¬i<257):dgo n f d i c=d:=by
 cases f with
 | zero=>rfl
 | succ f=>rw[dgo,Id h]
def G5{n:I}(e:n<2^256):∀(f:I) (d:I->Y) (i c:I),DG.DI n d i c->257<=i+f->∃g c',257<=g/\DG.DI n (dgo n f d i c) g c'
 | 0,d,i,c,h,hf=>⟨i,c,S,h⟩
 | f+1,d,i,c,h,hf=>by
  by_cases b:i<257
  .rw[dgo,GD b];by_cases k:n/2^i%2=c
   .rw[GD k];exact G5 e f d (i+1) c (h.skip e b k) S
   rw[Id k];exact G5 e f _ (i+5) _ (h.take e b k) S
  rw[Jj n _ d c b];exact⟨i,c,S,h⟩
def fX(n:I):I->Y:=dgo n 257 (λ_=>0) 0 0
def Da(k:n<2^256):∃i c,257<=i/\DG.DI n (fX n) i c:=G5 k 257 _ 0 0 (DG.DI.start n) S
def u138:yZ 162:=yQ
def i138:gZ 162 257:=gQ
def YM:gZ 161 1:=gQ
def VF:wZ 161:=wQ
def SI(w:Zl):(yFe 162 H (.tuple #[])).run prog w=.ok (jZ w.heap.size) (w.alloc (.cells (dg (λ_=>0)).toArray 162)):=kR
def NZ(W:n<top):Gives 149 #[nv n] (dv (fX n)):=by
 intro w;go_enter func149,ntmps149;refine RG.M.enter [(0,.v (nv n))] 33 kR λa0 l=>?_
 refine Zq <| l.T [.m 0,.m 1] [(0,wn n),(1,dg (λ_=>0))] [] [1,2] ⟨mk 0 81,sK 1 Z Z Z (T:=162) Z SI,Fs⟩ λP X M C f=>?_
 refine Zq <| f.T [.m 2] [(0,dg (λ_=>0))] [] [1,2,3] ⟨sK 2 Z Z Z (T:=162) Z SI,Fs⟩ λj2 a2 N k=>?_
 refine Zq <| k.U [.x (iZ 0)] [1,2,3,4] ⟨st,Fs⟩ λV T u=>?_
 refine Zq <| Zq <| u.U [.x (iZ 0)] [1,2,3,4,5] ⟨st,Fs⟩ λa4 w4 O=>?_
 repeat apply Zq
 refine ay<|DM (λm a wr=>∃(d:I->Y) (i c:I),c<=1/\i<=261/\257<=i+m/\dgo n m d i c=fX n/\RG.M w w.heap.size [] 33 [wn n,dg (λ_=>0),dg d] [P,X,j2] [(1,.p 0 0),(2,.p 1 0),(3,.p 2 0),(4,.v (iZ c)),(5,.v (iZ i))] a wr) 257 ⟨λ_=>0,0,0,oM,oM,oM,Z,O.cv⟩ ?_
 intro m a wr;rintro⟨d,i,c,hc,h0,hm,hd,l⟩;obtain⟨b,q⟩:=vH (n/2^i%2);obtain⟨e,r⟩:=vH (n/2^i%32);obtain⟨g,t⟩:=vH (e+c);obtain⟨v,z⟩:=vH ((g:Y)-32*((g/16:I):Y):Y);generalize P=k1 at l;generalize X=k2 at l;generalize j2=k3 at l;by_cases o:i<257
 .have p:Gives 200 #[nv n,iZ i,iZ 1] (iZ b):=by rw[<-q];exact OY (c:=1) W oM oM
  have L:Gives 200 #[nv n,iZ i,iZ 5] (iZ e):=by rw[<-r];exact OY (c:=5) W oM oM
  have K:∃j,m=j+1:=by
   cases m with
   | zero=>exact absurd hm oM
   | succ j=>exact⟨j,Z⟩
  obtain⟨j,rfl⟩:=K;rw[dgo,GD o,q,r,t,z]at hd;by_cases A:b=c
  .rw[GD A]at hd;refine Zq <| Zq <| l.U [.x (iZ i),.x tZ] [1,2,3,4,5,8] ⟨st,aJ Z .lss (T:=3) 3 (t1:=7) (v1:=(iZ i)) (v2:=(iZ 257)) (v:=tZ) Z Z sx (λw=>kR) (pO (n:=257) o),Fs⟩ λM C f=>?_
   refine Z6 f.ev<|aw<|Zq<|ay<|Zq <| Zq <| f.U [.x (nv n),.x (iZ i),.c (iZ b),.x (iZ c),.x tZ] [1,2,3,4,5,15] ⟨ld u85 i85,st,cl p,st,aT Z .eql (T:=3) 3 (t1:=13) (t2:=14) (v1:=(iZ b)) (v2:=(iZ c)) (v:=tZ) Z Z sx sx (λw=>kR) (Xn A),Fs⟩ λa2 N k=>?_
   refine Z6 k.ev<|tT ?_
   dsimp only[Exit.then,yr];rw[GD Z];refine k.U [.x (iZ i),.x (iZ ((i+1:I):Y)),.x (iZ ((i+1:I):Y))] [1,2,3,4,5] ⟨st,aJ Z .add (T:=3) 3 (t1:=9) (v1:=(iZ i)) (v2:=(iZ 1)) (v:=(iZ ((i+1:I):Y))) Z Z sx (λw=>kR) (Ba (a:=i) (b:=1) oM oM),st,Fs⟩ λV T u=>?_
   show ∃n',_;exact⟨j,BT j,d,i+1,c,hc,oM,oM,hd,u.cv⟩
  rw[Id A]at hd;have he:e<32:=oM;have Q:g%2=1:=oM;have hg:g<32:=oM;have hv:-15<=v/\v<=15:=oM;have x:∀w,(binOp .add 3 (iZ e) (iZ c)).run prog w=.ok (iZ g) w:=λw=>by rw[Ba (a:=e) (b:=c) oM oM,t]
  have y:∀w,(binOp .sub 3 (iZ g) (iZ (32*((g/16:I):Y)))).run prog w=.ok (iZ v) w:=λw=>by rw[FK oM oM,z]
  refine Zq <| Zq <| l.U [.x (iZ i),.x tZ] [1,2,3,4,5,8] ⟨st,aJ Z .lss (T:=3) 3 (t1:=7) (v1:=(iZ i)) (v2:=(iZ 257)) (v:=tZ) Z Z sx (λw=>kR) (pO (n:=257) o),Fs⟩ λM C f=>?_
  refine Z6 f.ev<|aw<|Zq<|ay<|Zq <| Zq <| f.U [.x (nv n),.x (iZ i),.c (iZ b),.x (iZ c),.x fZ] [1,2,3,4,5,15] ⟨ld u85 i85,st,cl p,st,aT Z .eql (T:=3) 3 (t1:=13) (t2:=14) (v1:=(iZ b)) (v2:=(iZ c)) (v:=fZ) Z Z sx sx (λw=>kR) (Xo A),Fs⟩ λa2 N k=>?_
  refine Z2 k.ev<|aw<|Zq <| k.U [.x (nv n),.x (iZ i),.c (iZ e),.x (iZ c),.x (iZ g),.x (iZ g)] [1,2,3,4,5,6] ⟨ld u85 i85,st,cl L,st,aT Z .add (T:=3) 3 (t1:=18) (t2:=19) (v1:=(iZ e)) (v2:=(iZ c)) (v:=(iZ g)) Z Z sx sx (λw=>kR) x,st,Fs⟩ λV T u=>?_
  refine Zq <| u.U [.x (iZ g),.x (iZ ((g/16:I):Y)),.x (iZ ((g/16:I):Y))] [1,2,3,4,5,6] ⟨st,aJ Z .shr (T:=3) 217 (t1:=21) (v1:=(iZ g)) (v2:=(U 4)) (v:=(iZ ((g/16:I):Y))) Z Z sx (λw=>kR) (Yh (g:=g) hg),st,Fs⟩ λa4 w4 O=>?_
  refine Zq <| O.T [.x (iZ i),.x (iZ g),.x (iZ ((g/16:I):Y)),.x (iZ (32*((g/16:I):Y))),.x (iZ v),.x (.int .i8 v),.s (.p 2 i),.u 2] [] [(2,7,dg (DG.upd d i v))] [1,2,3,4,5] ⟨st,st,st,aJ Z .shl (T:=3) 217 (t1:=25) (v1:=(iZ ((g/16:I):Y))) (v2:=(U 5)) (v:=(iZ (32*((g/16:I):Y)))) Z Z sx (λw=>kR) (Yi (g:=(g/16)) oM),aT Z .sub (T:=3) 3 (t1:=24) (t2:=26) (v1:=(iZ g)) (v2:=(iZ (32*((g/16:I):Y)))) (v:=(iZ v)) Z Z sx sx (λw=>kR) y,Cb Z (S:=3) (T:=161) (t:=27) (v:=(iZ v)) (b:=(.int .i8 v)) Z Z sx (cv8 (v:=v) hv),cJ Z 162 (t:=3) (u:=23) Z (.p 2 0) (iv:=(iZ i)) sx sx (λμ w=>U8 (i:=i) o (w:=w)),KY (b:=2) (off:=i) Z Z (T:=161) (x:=(.tmp 29)) (y:=(.tmp 28)) (v:=(.int .i8 v)) Z Z sx sx (by show i<(dg _).length;rw[bQ];exact o) (UP (d:=d) (i:=i) (v:=v)) YM Z Z,Fs⟩ λa5 w5 M5=>?_
  refine M5.U [.x (iZ i),.x (iZ ((i+4:I):Y)),.x (iZ ((i+4:I):Y))] [1,2,3,4,5] ⟨st,aJ Z .add (T:=3) 3 (t1:=30) (v1:=(iZ i)) (v2:=(iZ 4)) (v:=(iZ ((i+4:I):Y))) Z Z sx (λw=>kR) (Ba (a:=i) (b:=4) oM oM),st,Fs⟩ λa6 w6 M6=>?_
  refine M6.U [.x (iZ ((i+4:I):Y)),.x (iZ ((i+4+1:I):Y)),.x (iZ ((i+4+1:I):Y))] [1,2,3,4,5] ⟨st,aJ Z .add (T:=3) 3 (t1:=9) (v1:=(iZ ((i+4:I):Y))) (v2:=(iZ 1)) (v:=(iZ ((i+4+1:I):Y))) Z Z sx (λw=>kR) (Ba (a:=(i+4)) (b:=1) oM oM),st,Fs⟩ λa7 w7 M7=>?_
  show ∃n',_;exact⟨j,BT j,DG.upd d i v,i+5,g/16,oM,oM,oM,hd,M7.cv⟩
 have j:d=fX n:=by rw[<-hd,Jj n m d (i:=i) c o]
 refine Zq <| Zq <| l.U [.x (iZ i),.x fZ] [2,3,8] ⟨st,aJ Z .lss (T:=3) 3 (t1:=7) (v1:=(iZ i)) (v2:=(iZ 257)) (v:=fZ) Z Z sx (λw=>kR) (wG (n:=257) o),Fs⟩ λM C f=>?_
 refine Z2 f.ev<|tT ?_
 dsimp only[Exit.then,yr];rw[GD Z];refine Zq <| f.T [.x (dv d),.u 1] [] [(1,1,dg d)] [2] ⟨rA Z (b:=2) (off:=0) _ Z Z kR (T:=162) (t:=3) Z (cs:=(dg d)) Z sx UO u138 (by rw[bQ];exact i138),Oj (b:=1) Z Z 162 (x:=(.tmp 2)) (y:=(.tmp 32)) Z Z (by show(dg _).length=(dg _).length;rw[bQ,bQ]) sx sx (by show _=J (dg _).length;rw[bQ];exact i138) N1,Fs⟩ λa2 N k=>?_
 refine ag<|Zx (v:=dv d) (gK k.st (t:=2) (T:=162) Z (b:=1) Z (k.at (s:=(.p 1 0))) u138 (by rw[bQ];exact i138)) k.sl.defers ?_
 exact⟨_,Z,k.st.bel.below,by rw[j]⟩
omit [NeZero P] in
theorem cO(t:T3 P):(tw t).length=12:=rfl
omit [NeZero P] in
theorem Fu(t:T3 P):(tw t).all (·.oneCell')=H:=rfl
def od(x y:B P):I->T3 P
 | 0=>raJ x y
 | q+1=>plJ (od x y q) (twJ (raJ x y))
def Ug(C:Fld P){x y:B P}{p:EC.Pt P}(h:Pair x y p)(k:On p):∀q,JacT (od x y q) (eF ((2*q+1:I):Y) p)
 | 0=>by
  show JacT (raJ x y) (eF 1 p);rw[Dy];exact RI C h k
 | q+1=>by
  have e:eF ((2*(q+1)+1:I):Y) p=EC.add (eF ((2*q+1:I):Y) p) (EC.add p p):=by
   have:EC.add p p=eF 2 p:=by
    rw[show(2:Y)=1+1 by rfl,yR C.cur k,Dy]
   rw[this,<-yR C.cur k]
   congr 1
  rw[e];exact(Ug C h k q).plus C ((RI C h k).twice C)
structure Fi(x y:B P)(D:I->Y)(C0:G Zm)(off m:I)(C:G Zm):Prop where
 len:C.length=C0.length
 out:∀j,j<off\/off+353<=j->C[j]? = C0[j]?
 dig:∀j,j<257->C[off+96+j]? = J (.int .i8 (D j))
 odd:∀q j,q<m->j<12->C[off+12*q+j]? = (tw (od x y q))[j]?
def Fi.first{x y:Fin P}{D:I->Int}{off:I}(h:off+353<=C0.length):Fi x y D C0 off 0 (rep C0 (off+96) (dg D)):=by
 have hl:off+96+(dg D).length<=C0.length:=by rw[bQ];omega
 refine⟨fU hl,λj k=>?_,λj k=>?_,λq j b _=>S⟩
 .rw[RG.rep_at hl,Id (by rw[bQ];omega)]
 rw[RG.rep_at hl,GD (by rw[bQ];omega),show off+96+j-(off+96)=j by omega,N5 k]
def Fi.next{x y:Fin P}{D:I->Int}{off:I}(h:off+353<=C0.length)(c:Fi x y D C0 off m C)(e:m<8):Fi x y D C0 off (m+1) (rep C (off+12*m) (tw (od x y m))):=by
 have b:=c.len;have hl:off+12*m+(tw (od x y m)).length<=C.length:=by rw[cO];omega
 refine⟨by rw[fU hl];exact b,λj k=>?_,λj k=>?_,λq j f k=>?_⟩
 .rw[RG.rep_at hl,Id (by rw[cO];omega)];exact c.out j k
 .rw[RG.rep_at hl,Id (by rw[cO];omega)];exact c.dig j k
 rw[RG.rep_at hl];by_cases d:q=m
 .subst d;rw[GD (by rw[cO];omega),show off+12*q+j-(off+12*q)=j by omega]
 rw[Id (by rw[cO];omega)];exact c.odd q j S k
def Fi.sub{x y:Fin P}{D:I->Int}{off:I}(h:off+353<=C0.length)(b:Fi x y D C0 off m C)(c:q<m)(d:m<=8):(C.drop (off+12*q)).take (tw (od x y q)).length=tw (od x y q):=
 Tf (λj k=>b.odd q j c (by rw[cO]at k;exact k)) (by rw[cO];have:=b.len;omega)
def fc(x y:B P)(D:I->Y)(C0:G Zm)(off:I):I->G Zm
 | 0=>rep C0 (off+96) (dg D)
 | m+1=>rep (fc x y D C0 off m) (off+12*m) (tw (od x y m))
def Jc{x y:B P}{D:I->Y}{C0:G Zm}{off:I}(h:off+353<=C0.length):∀m,m<=8->Fi x y D C0 off m (fc x y D C0 off m)
 | 0,_=>Fi.first h
 | m+1,hm=>(Jc h m S).next h S
def Fi.uniq{x y:Fin P}{D:I->Int}{b:G Zm}{off:I}(h:Fi x y D C0 off 8 C)(k:Fi x y D C0 off 8 b):C=b:=by
 apply yDB;intro j;by_cases h1:j<off\/off+353<=j
 .rw[h.out j h1,k.out j h1]
 by_cases c:j<off+96
 .have e:j=off+12*((j-off)/12)+(j-off)%12:=S;rw[e,h.odd _ _ S S,k.odd _ _ S S]
 have e:j=off+96+(j-off-96):=S;rw[e,h.dig _ S,k.dig _ S]
def UM(F:Fld P)(hn:n<top)(x y:B P)(C0:G Zm)(u off:I)(e:off+353<=C0.length)(w:Zl)(hk:u<w.heap.size)(ht:w.there u 0 C0.length)(hr:w.rangeAt u 0 C0):
 ae prog 86 #[oZ u off,nv n,pv x y] w (Ret λr w'=>(∃C,Fi x y (fX n) C0 off 8 C/\PutTo u C0.length C w w')/\r=.tuple #[]):=by
 obtain⟨D,j⟩:=vH (fX n);have hD:Gives 149 #[nv n] (dv D):=j ▸ NZ hn;obtain⟨s0,d⟩:=vH (raJ x y);have h2:Gives 150 #[pv x y] (tv s0):=d ▸ V4 F (x:=x) (y:=y);obtain⟨s2,b⟩:=vH (twJ s0);have X:Gives 87 #[tv s0] (tv s2):=b ▸ Rx F s0;obtain⟨f,p⟩:=vH (rep C0 (off+96) (dg D));have M:off+96+(dg D).length<=C0.length:=by rw[bQ];omega
 have T:=p ▸ RG.rep_at M;have Q:f.length=C0.length:=p ▸ fU M;have F1:Fi x y D C0 off 0 f:=p ▸ Fi.first e;obtain⟨g,k⟩:=vH (rep f (off+0+12*0) (tw s0));have l:off+0+12*0+(tw s0).length<=f.length:=by rw[cO];omega
 have v:=k ▸ RG.rep_at l;have z:g.length=f.length:=k ▸ fU l;have F2:Fi x y D C0 off 1 g:=by
  have:=F1.next e dC;rw[<-k,<-d];exact this
 have o:(g.drop (off+0+12*0)).take (tw s0).length=tw s0:=by
  have:=F2.sub e (q:=0) dC dC;rw[<-d];exact this
 obtain⟨i,h8⟩:∃i:I,i=0:=⟨_,Z⟩
 obtain⟨s3,-⟩:∃s:T3 P,s=s0:=⟨_,Z⟩
 obtain⟨sp,-⟩:∃s:T3 P,s=s0:=⟨_,Z⟩
 go_enter func86,ntmps86;refine XY (v0:=oZ u off) (v1:=nv n) (v2:=pv x y) (n:=43) kR kR kR kR kR ?_;intro a0 h0 f0 f1 f2;have h3:=RG.St.lent hk hr ht;have A:RG.M w w.heap.size [u] 43 [C0] [u] [(0,.p 0 off),(1,.v (nv n)),(2,.v (pv x y))] a0 _:=⟨h3,h0,⟨f0,f1,f2,Fs⟩⟩
 refine Zq <| A.T [.m 1,.m 2] [(0,wn n),(1,ws x++(ws y))] [] [0,4,5] ⟨mk 1 81,mk 2 83,Fs⟩ λj1 i1 a1 w1 t=>?_
 replace t:=t.cv (os':=[(0,.p 0 off),(4,.p 1 0),(5,.p 2 0)]) Z;refine Zq <| t.tx [.s 8 [] (.p 0 off),.x 9 [] (nv n),.c 10 [(9,1)] (dv D),.s 11 [(8,0)] (.p 0 off),.s 12 [(11,3)] (.p 0 (off+96)),.u [(12,4),(10,2)] 0] [] [(0,5,f)] [f,wn n,ws x++(ws y)] [(0,.p 0 off),(5,.p 2 0)] kR (congrArg (λn=>[n]) Q) ⟨st,ld u85 i85,cl hD,st,st,nO (b:=0) (off:=(off+96)) Z _ Z (T:=162) (x:=(.tmp 12)) (y:=(.tmp 10)) (vs:=(dg D)) Z Z sx sx (by show off+96+(dg D).length<=C0.length;rw[bQ];omega) T (by show _=J (dg _).length;rw[bQ];exact i138) N1,Fs⟩ λa2 w2 M2=>?_
 refine Zq <| M2.dr kR [.s 13 [] (.p 0 off),.x 14 [] (pv x y),.c 15 [(14,1)] (tv s0),.s 16 [(13,0)] (.p 0 off),.s 17 [(16,3)] (.p 0 (off+0)),.s 18 [(17,4)] (.p 0 ((off+0)+12*0)),.u [(18,5),(15,2)] 0] [] [(0,6,g)] [g,wn n,ws x++(ws y)] [(0,.p 0 off)] kR (congrArg (λn=>[n]) z) ⟨st,ld jX i109,cl h2,st,st,fA Z 160 (t:=17) (iZ 0) Z (.p 0 (off+0)) sx (λμ w=>Jz (i:=0) dC (w:=w)),nO (b:=0) (off:=((off+0)+12*0)) Z _ Z (T:=159) (x:=(.tmp 18)) (y:=(.tmp 15)) (vs:=(tw s0)) Z Z sx sx (by show off+0+12*0+(tw s0).length<=f.length;rw[cO];omega) v i117 (Fu _),Fs⟩ λa3 w3 M3=>?_
 refine Zq <| M3.T [.s (.p 0 off),.s (.p 0 off),.s (.p 0 (off+0)),.s (.p 0 ((off+0)+12*0)),.x (tv s0),.c (tv s2),.m 3,.u 3] [(6,RG.z 12)] [(3,7,tw s2)] [0,6] ⟨st,st,st,fA Z 160 (t:=21) (iZ 0) Z (.p 0 (off+0)) sx (λμ w=>Jz (i:=0) dC (w:=w)),rA Z (b:=0) (off:=((off+0)+12*0)) _ Z Z kR (T:=159) (t:=22) Z (cs:=(tw s0)) Z sx o jW i117,cl X,mk 3 159,RG.pt i117,Fs⟩ λj4 a4 w4 M4=>?_
 refine Zq <| M4.U [.x (iZ 1)] [0,6,7] ⟨st,Fs⟩ λa5 w5 M5=>?_
 subst j;subst d;subst b;clear T v o Q z M l;repeat refine Zq ?_
 refine ay<|DM (λm a wr=>∃(i:I) (C:G Zm),1<=i/\i<=8/\i+m=8/\Fi x y (fX n) C0 off i C/\RG.M w w.heap.size [u] 43 [C,wn n,ws x++ws y,tw (twJ (raJ x y))] [u,j1,i1,j4] [(0,.p 0 off),(6,.p 3 0),(7,.v (iZ i))] a wr) 7 ⟨1,g,S,S,S,F2,M5.cv⟩ ?_
 intro m a wr;rintro⟨i,f,h7,h9,hm,O,A⟩;generalize j1=k1 at A;generalize i1=k2 at A;generalize j4=k3 at A;obtain⟨D,j⟩:=vH (fX n);rw[j]at O;obtain⟨s0,d⟩:=vH (raJ x y);obtain⟨s2,b⟩:=vH (twJ (raJ x y));rw[b]at A;obtain⟨sp,L⟩:=vH (od x y (i-1));obtain⟨s3,K⟩:=vH (plJ sp s2);have V:Gives 88 #[tv sp,tv s2] (tv s3):=K ▸ RN F sp s2;have h6:=O.len;by_cases hi:i<8
 .have h5:od x y i=s3:=by
   obtain⟨q,rfl⟩:∃q,i=q+1:=⟨i-1,S⟩
   rw[<-K,<-L,<-b];rfl
  have N:(f.drop (off+0+12*(i-1))).take (tw sp).length=tw sp:=by
   have:=O.sub e (q:=i-1) S S;rw[L]at this;exact this
  obtain⟨g,k⟩:=vH (rep f (off+0+12*i) (tw s3));have l:off+0+12*i+(tw s3).length<=f.length:=by rw[cO];omega
  have v:=k ▸ RG.rep_at l;have z:g.length=f.length:=k ▸ fU l;have W:Fi x y D C0 off (i+1) g:=by
   have:=O.next e hi;rw[h5]at this;rw[<-k];exact this
  have h4:∀w,(binOp .sub 3 (iZ i) (iZ 1)).run prog w=.ok (iZ ((i-1:I):Y)) w:=λw=>by
   rw[FK S S,show(i:Y)-1=((i-1:I):Y) by omega]
  clear d k;refine Zq <| Zq <| A.U [.x (iZ i),.x (.bool H)] [0,6,7,26] ⟨st,aJ Z .lss (T:=3) 3 (t1:=25) (v1:=(iZ i)) (v2:=(iZ 8)) (v:=(.bool H)) Z Z sx (λw=>kR) (pO (n:=8) hi),Fs⟩ λa1 w1 t=>?_
  refine Z6 t.ev<|aw<|Zq<|ay<|t.dr kR [.s 29 [] (.p 0 off),.x 30 [] (iZ i),.s 31 [] (.p 0 off),.x 32 [] (iZ i),.x 33 [(32,3)] (iZ ((i-1:I):Y)),.s 34 [(31,2)] (.p 0 off),.s 35 [(34,5)] (.p 0 (off+0)),.s 36 [(35,6),(33,4)] (.p 0 ((off+0)+12*(i-1))),.x 37 [(36,7)] (tv sp),.x 38 [] (tv s2),.c 39 [(37,8),(38,9)] (tv s3),.s 40 [(29,0)] (.p 0 off),.s 41 [(40,11)] (.p 0 (off+0)),.s 42 [(41,12),(30,1)] (.p 0 ((off+0)+12*i)),.u [(42,13),(39,10)] 0] [] [(0,14,g)] [g,wn n,ws x++(ws y),tw s2] [(0,.p 0 off),(6,.p 3 0),(7,.v (iZ i))] kR (congrArg (λn=>[n]) z) ⟨st,st,st,st,aJ Z .sub (T:=3) 3 (t1:=32) (v1:=(iZ i)) (v2:=(iZ 1)) (v:=(iZ ((i-1:I):Y))) Z Z sx (λw=>kR) h4,st,st,cJ Z 160 (t:=35) (u:=33) Z (.p 0 (off+0)) (iv:=(iZ ((i-1:I):Y))) sx sx (λμ w=>Jz (i:=(i-1)) S (w:=w)),rA Z (b:=0) (off:=((off+0)+12*(i-1))) _ Z Z kR (T:=159) (t:=36) Z (cs:=(tw sp)) Z sx N jW i117,ld jW i117,cl V,st,st,cJ Z 160 (t:=41) (u:=30) Z (.p 0 (off+0)) (iv:=(iZ i)) sx sx (λμ w=>Jz (i:=i) S (w:=w)),nO (b:=0) (off:=((off+0)+12*i)) Z _ Z (T:=159) (x:=(.tmp 42)) (y:=(.tmp 39)) (vs:=(tw s3)) Z Z sx sx (by show off+0+12*i+(tw s3).length<=f.length;rw[cO];omega) v i117 (Fu _),Fs⟩ λa2 w2 M2=>?_
  refine M2.U [.x (iZ i),.x (iZ ((i+1:I):Y)),.x (iZ ((i+1:I):Y))] [0,6,7] ⟨st,aJ Z .add (T:=3) 3 (t1:=27) (v1:=(iZ i)) (v2:=(iZ 1)) (v:=(iZ ((i+1:I):Y))) Z Z sx (λw=>kR) (Ba (a:=i) (b:=1) S S),st,Fs⟩ λa3 w3 M3=>?_
  show ∃n',_;exact⟨m-1,S,i+1,g,S,S,S,j.symm ▸ W,by rw[b];exact M3.cv⟩
 have N:i=8:=S;obtain⟨g,-⟩:∃c:G Zm,c=f:=⟨_,Z⟩
 refine Zq <| Zq <| A.U [.x (iZ i),.x (.bool false)] [0,6,7,26] ⟨st,aJ Z .lss (T:=3) 3 (t1:=25) (v1:=(iZ i)) (v2:=(iZ 8)) (v:=(.bool false)) Z Z sx (λw=>kR) (wG (n:=8) hi),Fs⟩ λa1 w1 t=>?_
 refine Z2 t.ev<|tT ?_
 dsimp only[Exit.then,yr];rw[GD Z];exact⟨t.sl.defers,.tuple #[],RG.results_none Z,_,Z,⟨f,j.symm ▸ N ▸ O,t.st.putTo O.len⟩,Z⟩
def Pj(F:Fld P)(b o k:I)(i:k<8)(s:T3 P)(w:Zl)(m:b<w.heap.size)(n:w.rangeAt b (o+0+12*k) (tw s)):eZ 89 #[(oZ b o),(.int .i8 (-(2*(k:Y)+1)))] w (tv (opJ s)):=by
 let⟨s2,c⟩:∃s2,opJ s=s2:=⟨_,Z⟩
 have d:∀w,(binOp .lss 161 (.int .i8 (-(2*(k:Y)+1))) (.int .i8 0)).run prog w=.ok tZ w:=λw=>by
  go_simp;try omega
 have f:∀w,(yGk .neg (.int .i8 (-(2*(k:Y)+1)))).run prog w=.ok (.int .i8 (2*(k:Y)+1)) w:=λw=>by
  rw[Sc S,yGz]
 go_enter func89,ntmps89;refine RG.M.enter [(0,.v (oZ b o)),(1,.v (.int .i8 (-(2*(k:Y)+1))))] 23 kR λa0 p=>?_
 refine Zq <| p.T [.m 0] [(0,RG.z 12)] [] [0,1,4] ⟨mk 0 159,Fs⟩ λr x q l=>?_
 refine Zq <| Zq <| l.U [.x (.int .i8 (-(2*(k:Y)+1))),.x tZ] [0,1,4,6] ⟨st,aJ Z .lss 161 Z Z sx (λw=>kR) d,Fs⟩ λa2 y j=>Z6 j.ev<|Zq <| j.T [.x (oZ b o),.x (.int .i8 (-(2*(k:Y)+1))),.x (.int .i8 (2*(k:Y)+1)),.x (.int .i8 k),.x (oZ b o),.x (oZ b (o+0)),.x (oZ b ((o+0)+12*k)),.x (tv s),.c (tv s2),.u 0] [] [(0,9,tw s2)] [4] ⟨st,st,QS Z .neg 161 Z Z sx f,aJ Z .quo 161 Z Z sx (λw=>kR) (Sb i),st,st,cJ Z 160 Z (.v (oZ b (o+0))) sx sx (λμ w=>OD i),eU Z m ZJ Z Z sx n jW i117,cl ((c ▸ Wg F s)),RG.pt i117,Fs⟩ λu t g=>?_
 refine ag<|Zx (v:=tv s2) (gK g.st Z Z (g.at (s:=(.p 0 0))) jW i117) g.sl.defers ?_
 exact⟨_,Z,g.st.bel.below,by rw[c]⟩
def Pi(F:Fld P)(b o k:I)(d:k<8)(s:T3 P)(w:Zl)(l:b<w.heap.size)(n:w.rangeAt b (o+0+12*k) (tw s)):eZ 89 #[(oZ b o),(.int .i8 (2*(k:Y)+1))] w (tv s):=by
 let⟨s2,f⟩:∃s2,opJ s=s2:=⟨_,Z⟩
 have c:∀w,(binOp .lss 161 (.int .i8 (2*(k:Y)+1)) (.int .i8 0)).run prog w=.ok fZ w:=λw=>by
  go_simp;try omega
 have g:∀w,(yGk .neg (.int .i8 (-(2*(k:Y)+1)))).run prog w=.ok (.int .i8 (2*(k:Y)+1)) w:=λw=>by
  rw[Sc S,yGz]
 go_enter func89,ntmps89;refine RG.M.enter [(0,.v (oZ b o)),(1,.v (.int .i8 (2*(k:Y)+1)))] 23 kR λa0 p=>?_
 refine Zq <| p.T [.m 0] [(0,RG.z 12)] [] [0,1,4] ⟨mk 0 159,Fs⟩ λr v q j=>?_
 refine Zq <| Zq <| j.U [.x (.int .i8 (2*(k:Y)+1)),.x fZ] [0,1,4,6] ⟨st,aJ Z .lss 161 Z Z sx (λw=>kR) c,Fs⟩ λa2 x i=>Z2 i.ev<|aw<|Zq <| i.T [.x (oZ b o),.x (.int .i8 (2*(k:Y)+1)),.x (.int .i8 k),.x (oZ b o),.x (oZ b (o+0)),.x (oZ b ((o+0)+12*k)),.x (tv s),.u 0] [] [(0,7,tw s)] [4] ⟨st,st,aJ Z .quo 161 Z Z sx (λw=>kR) (Sb d),st,st,cJ Z 160 Z (.v (oZ b (o+0))) sx sx (λμ w=>OD d),eU Z l ZJ Z Z sx n jW i117,RG.pt i117,Fs⟩ λu t m=>?_
 exact ag (m.rr 0 Z jW i117)
def tmJ(x y:B P)(d:Y):T3 P:=if d<0 then opJ (od x y ((-d).toNat/2)) else od x y (d.toNat/2)
def VG(C:Fld P){x y:B P}{p:EC.Pt P}(h:Pair x y p)(k:On p){d:Y}(hd:d%2=1):JacT (tmJ x y d) (eF d p):=by
 unfold tmJ;by_cases b:d<0
 .rw[GD b];have h1:=(Ug C h k ((-d).toNat/2)).neg;rw[<-DC C.cur k]at h1;rw[show -((2*((-d).toNat/2)+1:I):Y)=d by omega]at h1;exact h1
 rw[Id b];have h1:=Ug C h k (d.toNat/2);rw[show((2*(d.toNat/2)+1:I):Y)=d by omega]at h1;exact h1
def inn(ns:I->I)(xs ys:I->B P)(st:T3 P)(place:I):I->T3 P
 | 0=>st
 | i+1=>if fX (ns i) place=0 then inn ns xs ys st place i else plJ (inn ns xs ys st place i) (tmJ (xs i) (ys i) (fX (ns i) place))
def jY(ns:I->I)(xs ys:I->B P)(N:I):I->T3 P
 | 0=>(0,0,0)
 | m+1=>inn ns xs ys (twJ (jY ns xs ys N m)) (256-m) N
def RY(C:Fld P){ns:I->I}{xs ys:I->B P}{p:I->EC.Pt P}{N:I}(k:∀i,i<N->ns i<2^256)(d:∀i,i<N->Pair (xs i) (ys i) (p i))(ho:∀i,i<N->On (p i)){st:T3 P}{g:I->Y}{place:I}
 (h:JacT st (tot p N g)):∀i,i<=N->JacT (inn ns xs ys st place i) (tot p N (λj=>if j<i then g j+fX (ns j) place else g j))
 | 0,_=>by
  have:tot p N (λj=>if j<0 then g j+fX (ns j) place else g j)=tot p N g:=eX N λj _=>Id S
  rw[this];exact h
 | i+1,hi=>by
  have f:=RY C k d ho (place:=place) h i S;have e:tot p N (λj=>if j<i+1 then g j+fX (ns j) place else g j)=EC.add (tot p N (λj=>if j<i then g j+fX (ns j) place else g j)) (eF (fX (ns i) place) (p i)):=by
   rw[<-Pg C.cur (fX (ns i) place) S ho];refine eX N λj _=>?_
   by_cases h1:j=i
   .subst h1;rw[GD S,GD Z,Id S]
   rw[Id h1];by_cases b:j<i
   .rw[GD S,GD b]
   rw[Id S,Id b]
  rw[e];unfold inn;by_cases b:fX (ns i) place=0
  .rw[GD b,b,JJ,bO];exact f
  rw[Id b];obtain⟨q,c,-,l⟩:=Da (k i S);rcases l.ho place with h1|h1
  .exact absurd h1 b
  exact f.plus C (VG C (d i S) (ho i S) h1.1)
def LM(C:Fld P){ns:I->I}{xs ys:I->B P}{p:I->EC.Pt P}{N:I}(k:∀i,i<N->ns i<2^256)(b:∀i,i<N->Pair (xs i) (ys i) (p i))(ho:∀i,i<N->On (p i)):
 ∀m,m<=257->JacT (jY ns xs ys N m) (tot p N (λj=>DG.hor (fX (ns j)) m))
 | 0,_=>by
  rw[show tot p N (λj=>DG.hor (fX (ns j)) 0)=.none from yW p N (λ_ _=>rfl)];exact JacT.none
 | m+1,hm=>by
  have c:=(LM C k b ho m S).twice C;rw[<-JL C.cur ho]at c;have e:tot p N (λj=>DG.hor (fX (ns j)) (m+1))=tot p N (λj=>if j<N then 2*DG.hor (fX (ns j)) m+fX (ns j) (256-m) else 2*DG.hor (fX (ns j)) m):=
   eX N λj d=>by rw[GD d];rfl
  rw[e];exact RY C k b ho (place:=256-m) c N (Zo _)
def DR(C:Fld P){ns:I->I}{xs ys:I->B P}{p:I->EC.Pt P}(k:∀i,i<N->ns i<2^256)(b:∀i,i<N->Pair (xs i) (ys i) (p i))(ho:∀i,i<N->On (p i)):
 JacT (jY ns xs ys N 257) (tot p N (λj=>(ns j:Y))):=by
 have e:tot p N (λj=>(ns j:Y))=tot p N (λj=>DG.hor (fX (ns j)) 257):=eX N λj d=>by
  let⟨q,c,f,g⟩:=Da (k j d)
  exact(DG.QD g f).symm
 rw[e];exact LM C k b ho 257 (Zo _)
def cc(ns:I->I)(xs ys:I->B P)(C0:G Zm):I->G Zm
 | 0=>C0
 | i+1=>fc (xs i) (ys i) (fX (ns i)) (cc ns xs ys C0 i) (353*i) 8
def Sx{ns:I->I}{xs ys:I->B P}{C0:G Zm}{N:I}(hl:C0.length=353*N):∀i,i<=N->(cc ns xs ys C0 i).length=353*N /\
 ∀j,j<i->(∀q,q<257->(cc ns xs ys C0 i)[353*j+96+q]? = J (.int .i8 (fX (ns j) q)))/\∀q r,q<8->r<12->(cc ns xs ys C0 i)[353*j+12*q+r]? = (tw (od (xs j) (ys j) q))[r]?
 | 0,_=>⟨hl,λj l=>S⟩
 | i+1,hi=>by
  obtain⟨h1,e⟩:=Sx hl i S;have b:=Jc (x:=xs i) (y:=ys i) (D:=fX (ns i)) (C0:=cc ns xs ys C0 i) (off:=353*i) (by rw[h1];omega) 8 (Zo _);refine⟨by rw[<-h1];exact b.len,λj l=>?_⟩;by_cases c:j=i
  .subst c;exact⟨b.dig,λq r k d=>b.odd q r k d⟩
  obtain⟨g,f⟩:=e j S;exact⟨λq k=>(b.out _ S).trans (g q k),λq r k d=>(b.out _ S).trans (f q r k d)⟩
def Wr(j:N<=512):∃C0:G Zm,C0.length=353*N/\∀w:Zl,(ue 156 (iZ N) (iZ N)).run prog w=.ok (sZ w.heap.size N N) (w.alloc (.cells C0.toArray 164)):=by
 have d:(prog.info? 164).map (λi=>(i.size,decide (i.bytes<=4000),i.zero.isSome))=J (353,H,H):=kR;let⟨i,b,k⟩:=Zp.1 d
 simp only[an.injEq,decide_eq_true_eq]at k;let⟨h1,c,f⟩:=k
 let⟨z,l⟩:=Z8.1 f
 refine⟨(madeCells z.cells (N*353)).toList,by rw[ZE,DH,ax],λw=>?_⟩;have g:(i.bytes:Y)*(N:Y)<=281474976710656:=by
  have:i.bytes*N<=4000*512:=qm c j;have e:((i.bytes*N:I):Y)<=281474976710656:=S;rwa[sg]at e
 have:=run_make (P:=prog) w 156 164 i z kR b l .i64 .i64 (N:Y) (N:Y) S S g S;rw[DP,h1]at this;rw[DE];exact this
def NR{x y:B P}(F:Fld P){off:I}(d:n<top)(k:off+353<=C0.length)(c:w.there b 0 C0.length)(i:w.rangeAt b 0 C0):
 cZ 86 #[oZ b off,nv n,pv x y] w (Ret λr w'=>PutTo b C0.length (fc x y (fX n) C0 off 8) w w'/\r=.tuple #[]):=by
 have g:b<w.heap.size:=by
  have h1:=(c 0 S).1;exact xD λd=>by
   have f:w.heap[b]? = none:=R.getElem?_eq_none S;simp[World.cell?,f]at h1
 apply(UM F d x y C0 b off k w g c i).mono;rintro e w' ⟨v,rfl,⟨C,f,j⟩,rfl⟩;refine⟨_,Z,?_,Z⟩;rw[(Jc k 8 (Zo _)).uniq f];exact j
def Pk{x y:B P}(F:Fld P){d:Y}(hd:d%2=1)(g:-15<=d/\d<=15)(b:k<w.heap.size)(c:∀q,q<8->w.rangeAt k (o+0+12*q) (tw (od x y q))):
 eZ 89 #[oZ k o,.int .i8 d] w (tv (tmJ x y d)):=by
 unfold tmJ;by_cases f:d<0
 .rw[GD f];have h1:=Pj F k o ((-d).toNat/2) S (od x y ((-d).toNat/2)) w b (c _ S);rw[show -(2*(((-d).toNat/2:I):Y)+1)=d by omega]at h1;exact h1
 rw[Id f];have h1:=Pi F k o (d.toNat/2) S (od x y (d.toNat/2)) w b (c _ S);rw[show 2*((d.toNat/2:I):Y)+1=d by omega]at h1;exact h1
def XN[NeZero P](w:Zl):(yFe 159 H (.tuple #[])).run prog w=.ok (jZ w.heap.size) (w.alloc (.cells (tw ((0,0,0):T3 P)).toArray 159)):=by
 show _=Result.ok _ (w.alloc (.cells (ws (0:B P)++(ws (0:B P)++ws (0:B P))).toArray 159));rw[<-xW];kernel_rfl
def Wn(w:Zl):(binOp .neq 161 (.int .i8 0) (.int .i8 0)).run prog w=.ok fZ w:=kR
def Wm{d:Y}(h:¬d=0)(w:Zl):(binOp .neq 161 (.int .i8 d) (.int .i8 0)).run prog w=.ok tZ w:=by
 go_simp
def sub1'(k:q<1000)(w:Zl):(binOp .sub 3 (iZ q) (iZ 1)).run prog w=.ok (iZ ((q:Y)-1)) w:=FK S S w
def geq0'{i:I}(w:Zl):(binOp .geq 3 (iZ i) (iZ 0)).run prog w=.ok tZ w:=by
 go_simp
def LL(F:Fld P)(N:I)(hN:N<=512)(ns:I->I)(xs ys:I->B P)(hc:∀i,i<N->ns i<top)(p u:I)(w:Zl)(he:p<w.heap.size)(hu:u<w.heap.size)
 (hn:∀i,i<N->w.rangeAt p (4*i) (wn (ns i))) (ha:∀i,i<N->w.rangeAt u (8*i) (ws (xs i)++ws (ys i))) :
 dZ 41 #[sZ p N N,sZ u N N] w λe w'=>∃s,s=jY ns xs ys N 257/\e=pv (s.1*(inv s.2.2*inv s.2.2)) (s.2.1*(inv s.2.2*inv s.2.2)*inv s.2.2):=by
 obtain⟨C,ki,k2⟩:=Wr (N:=N) hN;have L:∀(i:I) (c2:G Zm),fc (xs i) (ys i) (fX (ns i)) (cc ns xs ys C i) (353*i) 8=c2->cc ns xs ys C (i+1)=c2:=λi c2 h=>h
 obtain⟨i,-⟩:∃i:I,i=0:=⟨_,Z⟩
 obtain⟨q,-⟩:∃i:I,i=0:=⟨_,Z⟩
 obtain⟨d,-⟩:∃i:Y,i=0:=⟨_,Z⟩
 obtain⟨C2,-⟩:∃c:G Zm,c=C:=⟨_,Z⟩
 obtain⟨s,-⟩:∃s:T3 P,s=(0,0,0):=⟨_,Z⟩
 obtain⟨s2,-⟩:∃s:T3 P,s=(0,0,0):=⟨_,Z⟩
 obtain⟨s3,-⟩:∃s:T3 P,s=(0,0,0):=⟨_,Z⟩
 obtain⟨s4,-⟩:∃s:T3 P,s=(0,0,0):=⟨_,Z⟩
 go_enter func41,ntmps41;refine RG.M.enter [(0,.v (sZ p N N)),(1,.v (sZ u N N))] 62 kR λa0 M0=>?_
 refine Zq <| M0.T [.m 0] [(0,RG.z 8)] [] [0,1,4] ⟨mk 0 83,Fs⟩ λj1 a1 w1 X=>?_
 refine Zq <| X.t [.x 11 [] (sZ p N N),.x 12 [(11,0)] (iZ N),⟨J 13,[(12,1)],.s 1 N N,.make 1⟩,.s 5 [(13,2)] (.s 1 N N)] [(2,C)] [] [RG.z 8,C] [(0,.v (sZ p N N)),(1,.v (sZ u N N)),(4,.p 0 0),(5,.s 1 N N)] ⟨st,qG Z (t:=11) (.v (sZ p N N)) (iZ N) Z sx (λa w=>kR) (λμ w=>kR),Hb 1 Z Z (T:=156) (E:=164) (t1:=12) (t2:=12) (n:=N) Z Z sx sx k2,st,Fs⟩ λj2 a2 w2 M2=>?_
 refine Zq <| Zq <| M2.U [.s (.s 1 N N),.x (iZ N),.x (iZ 0)] [0,1,4,5,15,16] ⟨st,qG Z (t:=14) (.s 1 N N) (iZ N) Z sx (λa w=>kR) (λμ w=>kR),st,Fs⟩ λa3 w3 M3=>?_
 repeat apply Zq
 refine ay<|DM (λm a wr=>∃i,i+m=N/\RG.M w w.heap.size [] 62 [RG.z 8,cc ns xs ys C i] [j1,j2] [(0,.v (sZ p N N)),(1,.v (sZ u N N)),(4,.p 0 0),(5,.s 1 N N),(15,.v (iZ N)),(16,.v (iZ i))] a wr) N ⟨0,S,M3.cv⟩ ?_
 intro m a wr;rintro⟨i,k7,X⟩;generalize j1=kr at X;generalize j2=kt at X;obtain⟨C,h6⟩:=vH (cc ns xs ys C i);have O:=Sx (ns:=ns) (xs:=xs) (ys:=ys) ki i S;rw[h6]at X O;by_cases l:i<N
 .obtain⟨C2,f⟩:=vH (fc (xs i) (ys i) (fX (ns i)) C (353*i) 8);have g:353*i+353<=C.length:=by rw[O.1];omega
  have T:C2.length=C.length:=f ▸ (Jc g 8 (Zo _)).len;have o:∀(k:I) (w:Zl),w.there k 0 C.length->w.rangeAt k 0 C->cZ 86 #[oZ k (353*i),nv (ns i),pv (xs i) (ys i)] w (Ret λr w'=>PutTo k C.length C2 w w'/\r=.tuple #[]):=λk w z hr=>f ▸ NR F (hc i l) (x:=(xs i)) (y:=(ys i)) (C0:=C) (b:=k) (off:=(353*i)) g (w:=w) z hr
  have y:w.rangeAt p (0+4*i) (wn (ns i)):=by rw[Zs];exact hn i l
  have A:w.rangeAt u (0+8*i) (ws (xs i)++ws (ys i)):=by rw[Zs];exact ha i l
  refine Zq <| X.U [.x tZ] [0,1,4,5,15,16,17] ⟨aT Z .lss (T:=3) 3 (t1:=16) (t2:=15) (v1:=(iZ i)) (v2:=(iZ N)) (v:=tZ) Z Z sx sx (λw=>kR) (pO l),Fs⟩ λku ky x=>?_
  refine Zq <| Z6 x.ev ?_
  refine aw<|Zq<|ay<|Zq <| x.U [.x (iZ i),.x (iZ i)] [0,1,4,5,6,15,16] ⟨st,st,Fs⟩ λW b8 K=>?_
  refine K.dr kR [.s 19 [] (.s 1 N N),.x 20 [] (iZ i),.s 21 [(19,0),(20,1)] (.p 1 (353*i)),.x 22 [] (sZ p N N),.x 23 [] (iZ i),.x 24 [(22,3),(23,4)] (oZ p (0+4*i)),.x 25 [(24,5)] (nv (ns i)),.x 26 [] (sZ u N N),.x 27 [] (iZ i),.x 28 [(26,7),(27,8)] (oZ u (0+8*i)),.x 29 [(28,9)] (pv (xs i) (ys i)),⟨J 30,[(21,2),(25,6),(29,10)],.v (.tuple #[]),.put 1⟩] [] [(1,11,C2)] [RG.z 8,C2] [(0,.v (sZ p N N)),(1,.v (sZ u N N)),(4,.p 0 0),(5,.s 1 N N),(15,.v (iZ N)),(16,.v (iZ i))] kR (congrArg (λn=>[n]) T) ⟨st,st,cJ Z 156 (t:=19) (u:=20) Z (.s 1 N N) (iv:=(iZ i)) sx sx (λμ w=>JA (i:=i) l (w:=w)),st,st,cJ Z 78 (t:=22) (u:=23) Z (.v (sZ p N N)) (iv:=(iZ i)) sx sx (λμ w=>Y8 (i:=i) l (w:=w)),eU Z (k:=p) (off:=(0+4*i)) he ZJ (T:=81) (t:=24) Z (cs:=(wn (ns i))) Z sx y u85 i85,st,st,cJ Z 90 (t:=26) (u:=27) Z (.v (sZ u N N)) (iv:=(iZ i)) sx sx (λμ w=>XH (i:=i) l (w:=w)),eU Z (k:=u) (off:=(0+8*i)) hu ZJ (T:=83) (t:=28) Z (cs:=(ws (xs i)++ws (ys i))) Z sx A jX i109,Bp 1 Z Z 86 (t1:=21) (t2:=25) (j:=29) (.p 1 (353*i)) (v2:=(nv (ns i))) (d:=(pv (xs i) (ys i))) (.tuple #[]) Z (λa w=>kR) sx sx sx (λμ w z hr=>o (μ 1) w z hr),Fs⟩ λb9 b2 M=>?_
  refine M.U [.x (iZ ((i+1:I):Y)),.x (iZ ((i+1:I):Y))] [0,1,4,5,15,16] ⟨aJ Z .add (T:=3) 3 (t1:=16) (v1:=(iZ i)) (v2:=(iZ 1)) (v:=(iZ ((i+1:I):Y))) Z Z sx (λw=>kR) (Ba (a:=i) (b:=1) S S),st,Fs⟩ λV b3 Q=>?_
  show ∃n',_;refine⟨m-1,S,i+1,S,?_⟩;rw[L i C2 (by rw[h6];exact f)];exact Q.cv
 have k3:i=N:=S;rw[k3]at O;have kc:=O.2;refine Zq <| X.U [.x fZ] [4,5,17] ⟨aT Z .lss (T:=3) 3 (t1:=16) (t2:=15) (v1:=(iZ i)) (v2:=(iZ N)) (v:=fZ) Z Z sx sx (λw=>kR) (wG l),Fs⟩ λkw kz h7=>?_
 refine Zq <| Z2 h7.ev ?_
 apply tT;dsimp only[Exit.then,yr];rw[GD Z];refine Zq <| h7.T [.m 2] [(0,tw ((0,0,0):T3 P))] [] [4,5,7] ⟨sK 2 Z Z Z (T:=159) Z XN,Fs⟩ λhb b5 km k9=>?_
 refine Zq <| Zq <| k9.U [.x (iZ 256)] [4,5,7,8] ⟨st,Fs⟩ λkp kk hg=>?_
 repeat apply Zq
 apply ay;refine DM (λm a wr=>m<=257/\RG.M w w.heap.size [] 62 [RG.z 8,C,tw (jY ns xs ys N (257-m))] [kr,kt,hb] [(4,.p 0 0),(5,.s 1 N N),(7,.p 2 0),(8,.v (iZ ((m:Y)-1)))] a wr) 257 ⟨Zo _,?_⟩ ?_
 .rw[ww,jY];exact hg.cv
 intro m b wr;rintro⟨hm,M4⟩;generalize hb=kl at M4;by_cases hz:m=0
 .subst hz;rw[show 257-0=257 from Z]at M4;obtain⟨s,z⟩:=vH (jY ns xs ys N 257);rw[z]at M4;refine Zq <| Zq <| M4.U [.x (iZ (-1)),.x fZ] [4,7,33] ⟨st,st,Fs⟩ λo y g=>?_
  refine Z2 g.ev<|tT ?_
  dsimp only[Exit.then,yr];rw[GD Z];refine Zq <| g.T [.x (tv s),.c (pv (s.1*(inv s.2.2*inv s.2.2)) (s.2.1*(inv s.2.2*inv s.2.2)*inv s.2.2)),.u 0] [] [(0,2,ws (s.1*(inv s.2.2*inv s.2.2))++(ws (s.2.1*(inv s.2.2*inv s.2.2)*inv s.2.2)))] [4] ⟨ld jW i117,cl (V7 F s),RG.pt i109,Fs⟩ λx A f=>?_
  refine ag<|Zx (v:=pv (s.1*(inv s.2.2*inv s.2.2)) (s.2.1*(inv s.2.2*inv s.2.2)*inv s.2.2)) (gK f.st (t:=4) (T:=83) Z (b:=0) Z (f.at (s:=(.p 0 0))) jX i109) f.sl.defers ?_
  exact⟨_,Z,f.st.bel.below,s,z.symm,Z⟩
 obtain⟨q,rfl⟩:∃q,m=q+1:=⟨m-1,S⟩
 have hq:q<257:=S;rw[show((q+1:I):Y)-1=q by omega]at M4;obtain⟨s,z⟩:=vH (jY ns xs ys N (257-(q+1)));rw[z]at M4;obtain⟨s2,V⟩:=vH (twJ s);have hk:=V ▸ Rx F s;have y:jY ns xs ys N (257-q)=inn ns xs ys s2 q N:=by
  rw[show 257-q=257-(q+1)+1 by omega];show inn ns xs ys (twJ (jY ns xs ys N (257-(q+1)))) (256-(257-(q+1))) N=_;rw[z,V,show 256-(257-(q+1))=q by omega]
 refine Zq <| Zq <| M4.U [.x (iZ q),.x tZ] [4,5,7,8,33] ⟨st,aJ Z .geq (T:=3) 3 (t1:=32) (v1:=(iZ q)) (v2:=(iZ 0)) (v:=tZ) Z Z sx (λw=>kR) (geq0' (i:=q)),Fs⟩ λb6 ko h9=>?_
 refine Z6 h9.ev<|aw<|Zq<|ay<|Zq <| h9.T [.x (tv s),.c (tv s2),.u 2] [] [(2,2,tw s2)] [4,5,7,8] ⟨ld jW i117,cl hk,RG.pt i117,Fs⟩ λa32 kv kd=>?_
 refine Zq <| kd.U [.s (.s 1 N N),.x (iZ N),.x (iZ 0)] [4,5,7,8,39,40] ⟨st,qG Z (t:=38) (.s 1 N N) (iZ N) Z sx (λa w=>kR) (λμ w=>kR),st,Fs⟩ λa33 b4 ke=>?_
 repeat apply Zq
 refine ay<|DM (λm a wr=>∃i,i+m=N/\RG.M w w.heap.size [] 62 [RG.z 8,C,tw (inn ns xs ys s2 q i)] [kr,kt,kl] [(4,.p 0 0),(5,.s 1 N N),(7,.p 2 0),(8,.v (iZ q)),(39,.v (iZ N)),(40,.v (iZ i))] a wr) N ⟨0,S,ke.cv⟩ ?_
 intro m' c wr;rintro⟨i,k7,M5⟩;obtain⟨s,o⟩:=vH (inn ns xs ys s2 q i);rw[o]at M5;by_cases l:i<N
 .obtain⟨h1,h2⟩:=kc i l;obtain⟨d,M⟩:=vH (fX (ns i) q);have g:=M ▸ h1 q hq;have h8:C≠[]:=by intro h;rw[h]at g;simp at g
  have f:inn ns xs ys s2 q (i+1)=if d=0 then s else plJ s (tmJ (xs i) (ys i) d):=by rw[<-o,<-M];rfl
  by_cases A:d=0
  .rw[GD A]at f;rw[A]at g;refine Zq <| M5.U [.x tZ] [4,5,7,8,39,40,41] ⟨aT Z .lss (T:=3) 3 (t1:=40) (t2:=39) (v1:=(iZ i)) (v2:=(iZ N)) (v:=tZ) Z Z sx sx (λw=>kR) (pO l),Fs⟩ λkh kg K=>?_
   refine Zq <| Z6 K.ev ?_
   refine aw<|Zq<|ay<|Zq <| K.U [.x (iZ i),.x (iZ i)] [4,5,7,8,9,39,40] ⟨st,st,Fs⟩ λk0 k4 h4=>?_
   refine Zq <| h4.U [.s (.s 1 N N),.x (iZ i),.x (iZ q),.s (.p 1 (353*i)),.s (.p 1 ((353*i)+96)),.s (.p 1 (((353*i)+96)+q)),.x (.int .i8 0),.x (.int .i8 0)] [4,5,7,8,10,39,40] ⟨st,st,st,cJ Z 156 (t:=43) (u:=44) Z (.s 1 N N) (iv:=(iZ i)) sx sx (λμ w=>JA (i:=i) l (w:=w)),st,cJ Z 162 (t:=47) (u:=45) Z (.p 1 ((353*i)+96)) (iv:=(iZ q)) sx sx (λμ w=>OC _ _ (i:=q) hq w),AZ Z (b:=1) (off:=(((353*i)+96)+q)) Z Z kR (T:=161) (t:=48) Z (v:=(.int .i8 0)) Z sx g VF,st,Fs⟩ λkj hy h0=>?_
   refine Zq <| h0.U [.x (.int .i8 0),.x fZ] [4,5,7,8,39,40,51] ⟨st,aJ Z .neq (T:=161) 161 (t1:=50) (v1:=(.int .i8 0)) (v2:=(.int .i8 0)) (v:=fZ) Z Z sx (λw=>kR) Wn,Fs⟩ λk8 hp x=>?_
   refine Z2 x.ev<|aw<|x.U [.x (iZ ((i+1:I):Y)),.x (iZ ((i+1:I):Y))] [4,5,7,8,39,40] ⟨aJ Z .add (T:=3) 3 (t1:=40) (v1:=(iZ i)) (v2:=(iZ 1)) (v:=(iZ ((i+1:I):Y))) Z Z sx (λw=>kR) (Ba (a:=i) (b:=1) S S),st,Fs⟩ λhw k1 h5=>?_
   show ∃n',_;exact⟨m'-1,S,i+1,S,by rw[f];exact h5.cv⟩
  rw[Id A]at f;have Q:d%2=1/\-15<=d/\d<=15:=by
   obtain⟨_,_,-,T⟩:=Da (show ns i<2^256 from hc i l);rcases T.ho q with h|h
   .exact absurd (M ▸ h) A
   exact M ▸ h
  obtain⟨s3,W⟩:=vH (tmJ (xs i) (ys i) d);obtain⟨s4,T⟩:=vH (plJ s s3);have kb:=T ▸ RN F s s3;have kf:∀(k:I) (w:Zl),k<w.heap.size->w.rangeAt k 0 C->eZ 89 #[oZ k (353*i),.int .i8 d] w (tv s3):=λk w h3 hr =>
   W ▸ Pk F (k:=k) (o:=(353*i)) (x:=(xs i)) (y:=(ys i)) Q.1 Q.2 (w:=w) h3 (λqq k6=>JW hr (λj hj=>by rw[qg];exact h2 qq j k6 (by rw[cO]at hj;exact hj)))
  rw[W,T]at f;refine Zq <| M5.U [.x tZ] [4,5,7,8,39,40,41] ⟨aT Z .lss (T:=3) 3 (t1:=40) (t2:=39) (v1:=(iZ i)) (v2:=(iZ N)) (v:=tZ) Z Z sx sx (λw=>kR) (pO l),Fs⟩ λkh kg K=>?_
  refine Zq <| Z6 K.ev ?_
  refine aw<|Zq<|ay<|Zq <| K.U [.x (iZ i),.x (iZ i)] [4,5,7,8,9,39,40] ⟨st,st,Fs⟩ λk0 k4 h4=>?_
  refine Zq <| h4.U [.s (.s 1 N N),.x (iZ i),.x (iZ q),.s (.p 1 (353*i)),.s (.p 1 ((353*i)+96)),.s (.p 1 (((353*i)+96)+q)),.x (.int .i8 d),.x (.int .i8 d)] [4,5,7,8,9,10,39,40] ⟨st,st,st,cJ Z 156 (t:=43) (u:=44) Z (.s 1 N N) (iv:=(iZ i)) sx sx (λμ w=>JA (i:=i) l (w:=w)),st,cJ Z 162 (t:=47) (u:=45) Z (.p 1 ((353*i)+96)) (iv:=(iZ q)) sx sx (λμ w=>OC _ _ (i:=q) hq w),AZ Z (b:=1) (off:=(((353*i)+96)+q)) Z Z kR (T:=161) (t:=48) Z (v:=(.int .i8 d)) Z sx g VF,st,Fs⟩ λkj hy h0=>?_
  refine Zq <| h0.U [.x (.int .i8 d),.x tZ] [4,5,7,8,9,10,39,40,51] ⟨st,aJ Z .neq (T:=161) 161 (t1:=50) (v1:=(.int .i8 d)) (v2:=(.int .i8 0)) (v:=tZ) Z Z sx (λw=>kR) (Wm A),Fs⟩ λk8 hp x=>?_
  refine Z6 x.ev<|x.D [.x (tv s),.s (.s 1 N N),.x (iZ i),.s (.p 1 (353*i)),.x (.int .i8 d),.c (tv s3),.c (tv s4),.u 2] [] [(2,7,tw s4)] [4,5,7,8,39,40] ⟨ld jW i117,st,st,cJ Z 156 (t:=53) (u:=54) Z (.s 1 N N) (iv:=(iZ i)) sx sx (λμ w=>JA (i:=i) l (w:=w)),st,EW Z 1 Z Z kR h8 89 (t1:=55) (t2:=56) (.p 1 (353*i)) (v2:=(.int .i8 d)) (tv s3) Z (λa w=>kR) sx sx (λμ w h3 hr=>kf (μ 1) w h3 hr),cl kb,RG.pt i117,Fs⟩ λhw k1 h5=>?_
  refine h5.U [.x (iZ ((i+1:I):Y)),.x (iZ ((i+1:I):Y))] [4,5,7,8,39,40] ⟨aJ Z .add (T:=3) 3 (t1:=40) (v1:=(iZ i)) (v2:=(iZ 1)) (v:=(iZ ((i+1:I):Y))) Z Z sx (λw=>kR) (Ba (a:=i) (b:=1) S S),st,Fs⟩ λb7 kx k5=>?_
  show ∃n',_;exact⟨m'-1,S,i+1,S,by rw[f];exact k5.cv⟩
 have g:i=N:=S;rw[g]at o;rw[o]at y;refine Zq <| M5.U [.x fZ] [4,5,7,8,41] ⟨aT Z .lss (T:=3) 3 (t1:=40) (t2:=39) (v1:=(iZ i)) (v2:=(iZ N)) (v:=fZ) Z Z sx sx (λw=>kR) (wG l),Fs⟩ λQ K f=>?_
 refine Zq <| Z2 f.ev ?_
 apply tT;dsimp only[Exit.then,yr];rw[GD Z];refine f.U [.x (iZ q),.x (iZ ((q:Y)-1)),.x (iZ ((q:Y)-1))] [4,5,7,8] ⟨st,aJ Z .sub (T:=3) 3 (t1:=34) (v1:=(iZ q)) (v2:=(iZ 1)) (v:=(iZ ((q:Y)-1))) Z Z sx (λw=>kR) (sub1' (q:=q) S),st,Fs⟩ λA M x=>?_
 show ∃n',_;exact⟨q,BT q,S,by rw[y];exact x.cv⟩
def S3(h:Fld P):([U 1,U 0,U 0,U 0]:G Zm)=ws (1:B P):=by
 have h:=CQ h;unfold nv at h;injection h with h
 exact congrArg yGg h
def rt(m:B P):GJ (B P):=if m.val^(P/4+1)%P*(m.val^(P/4+1)%P)%P=m.val then J (rz P (even P (m.val^(P/4+1)%P))) else F
omit [NeZero P] in
theorem Je(k:0<P)(h:r<P):even P r<P:=by unfold even;split<;>omega
def PD{m y:B P}(h:rt m=J y)(k:GS v (even P (m.val^(P/4+1)%P))):v=fv y:=by
 unfold rt at h;split at h
 .obtain rfl:=GJ.some.inj h;have:(rz P (even P (m.val^(P/4+1)%P))).val=even P (m.val^(P/4+1)%P):=ZC (Je (BY P) (gD _ (BY P)));show v=nv _;rw[this];exact k.nv
 cases h
theorem Mk{m y:B P}(h:rt m=J y):m.val^(P/4+1)%P*(m.val^(P/4+1)%P)%P=m.val:=by
 unfold rt at h;split at h
 .assumption
 cases h
theorem VV{m:B P}(h:rt m=F):¬m.val^(P/4+1)%P*(m.val^(P/4+1)%P)%P=m.val:=by
 unfold rt at h;split at h
 .cases h
 assumption
def RootR.val{m:Fin P}{e:Zm}(h:RootR P m.val (m.val^(P/4+1)%P) e):(∀y,rt m=J y->e=.tuple #[fv y,tZ])/\(rt m=F->e=.tuple #[fv (0:Fin P),fZ]):=by
 obtain⟨i,f,j,g,ok,rfl,h1,b,c⟩:=h;refine⟨λy k=>?_,λd=>?_⟩
 .cases ok with
  | true=>rw[PD k (h1 Z).2]
  | false=>exact absurd (Mk k) (b Z)
 cases ok with
 | true=>exact absurd (h1 Z).1 (VV d)
 | false =>
  obtain⟨rfl,rfl,rfl,rfl⟩:=c Z;rw[<-mN];rfl
def Vg(h:Fld P){m y:B P}(e:rt m=J y):Gives 165 #[gv0,fv m] (.tuple #[fv y,tZ]):=λw =>
 (Ff 4294968273 0 0 P _ m.val h.gap h.p4 (h.four m) w).mono (by rintro e' w' ⟨v,rfl,k,b⟩;exact⟨_,Z,k,b.val.1 y e⟩)
def Vh(h:Fld P){m:B P}(e:rt m=F):Gives 165 #[gv0,fv m] (.tuple #[fv (0:B P),fZ]):=λw =>
 (Ff 4294968273 0 0 P _ m.val h.gap h.p4 (h.four m) w).mono (by rintro e' w' ⟨v,rfl,k,b⟩;exact⟨_,Z,k,b.val.2 e⟩)
def gl0:G Zm:=[U 4294968273,U 0,U 0,U 0]
theorem Cn(C:Fld P)(x y:B P)(m:rt (x*x*x+7)=J y):Gives 94 #[(fv x)] (.tuple #[pv x y,tZ]):=by
 intro w;let⟨c1,e⟩:∃c,c=x*x:=⟨_,Z⟩
 let⟨c2,b⟩:∃c,c=c1*x:=⟨_,Z⟩
 let⟨k,d⟩:∃c,c=c2+(7:B P):=⟨_,Z⟩
 go_enter func94,ntmps94;refine RG.M.enter [(0,.v (fv x))] 31 kR λa0 o=>?_
 refine Zq <| o.T [.m 0,.m 1,.x fZ] [(0,ws x),(1,RG.z 8)] [] [1,2,3] ⟨mk 0 81,mk 1 83,st,Fs⟩ λs N O r i=>?_
 refine Zq <| i.T [.c gv0,.m 2,.u 2] [(1,RG.z 4)] [(2,2,gl0)] [1,2,3,4] ⟨cl bM,mk 2 153,RG.pt i79,Fs⟩ λV a2 Q n=>?_
 refine Zq <| n.D [.x gv0,.x gv0,.x gv0,.x (fv x),.x (fv x),.c (fv c1),.x (fv x),.c (fv c2),.x (fv (7:B P)),.c (fv k),.m 3,.u 3] [(10,RG.z 4)] [(3,11,ws k)] [1,2,3,4,5] ⟨ld u79 i79,ld u79 i79,ld u79 i79,ld u85 i85,ld u85 i85,cl ((uU C).e e),ld u85 i85,cl ((uU C).e b),se (zF C),cl ((JE C).e d),mk 3 81,RG.pt i85,Fs⟩ λu A t j=>?_
 refine Zq <| j.T [.x gv0,.x (fv k),.c (.tuple #[fv y,tZ]),.x (.tuple #[fv y,tZ]),.x (fv y),.x tZ,.m 4,.u 4,.x tZ] [(6,RG.z 4)] [(4,7,ws y)] [1,2,3,6,7] ⟨ld u79 i79,ld u85 i85,cl (f:=165) (args:=#[gv0,fv k]) (v:=(.tuple #[fv y,tZ])) (Vg C (by subst_vars;exact m)),st,st,st,mk 4 81,RG.pt i85,st,Fs⟩ λa L q p=>?_
 refine Zq <| Zq <| p.U [.x tZ,.x fZ] [1,2,3,6,26] ⟨st,st,Fs⟩ λK T g=>Z2 g.ev<|aw<|Zq <| g.T [.x (fv x),.x (fv y),.x (pv x y),.u 1,.x tZ] [] [(1,3,ws x++(ws y))] [2,3] ⟨ld u85 i85,ld u85 i85,st,RG.pt i109,st,Fs⟩ λM z l=>?_
 exact ag (l.r2 1 Z jX i109)
theorem Co(C:Fld P)(x:B P)(m:rt (x*x*x+7)=F):Gives 94 #[(fv x)] (.tuple #[pv (0:B P) 0,fZ]):=by
 intro w;let⟨c1,e⟩:∃c,c=x*x:=⟨_,Z⟩
 let⟨c2,b⟩:∃c,c=c1*x:=⟨_,Z⟩
 let⟨k,d⟩:∃c,c=c2+(7:B P):=⟨_,Z⟩
 go_enter func94,ntmps94;refine RG.M.enter [(0,.v (fv x))] 31 kR λa0 o=>?_
 refine Zq <| o.T [.m 0,.m 1,.x fZ] [(0,ws x),(1,RG.z 8)] [] [1,2,3] ⟨mk 0 81,mk 1 83,st,Fs⟩ λs M N r i=>?_
 refine Zq <| i.T [.c gv0,.m 2,.u 2] [(1,RG.z 4)] [(2,2,gl0)] [1,2,3,4] ⟨cl bM,mk 2 153,RG.pt i79,Fs⟩ λT a2 O n=>?_
 refine Zq <| n.D [.x gv0,.x gv0,.x gv0,.x (fv x),.x (fv x),.c (fv c1),.x (fv x),.c (fv c2),.x (fv (7:B P)),.c (fv k),.m 3,.u 3] [(10,RG.z 4)] [(3,11,ws k)] [2,3,4,5] ⟨ld u79 i79,ld u79 i79,ld u79 i79,ld u85 i85,ld u85 i85,cl ((uU C).e e),ld u85 i85,cl ((uU C).e b),se (zF C),cl ((JE C).e d),mk 3 81,RG.pt i85,Fs⟩ λu a t j=>?_
 refine Zq <| j.T [.x gv0,.x (fv k),.c (.tuple #[fv (0:B P),fZ]),.x (.tuple #[fv (0:B P),fZ]),.x (fv (0:B P)),.x fZ,.m 4,.u 4,.x fZ] [(6,RG.z 4)] [(4,7,ws (0:B P))] [2,3,7] ⟨ld u79 i79,ld u85 i85,cl (f:=165) (args:=#[gv0,fv k]) (v:=(.tuple #[fv (0:B P),fZ])) (Vh C (by subst_vars;exact m)),st,st,st,mk 4 81,RG.pt i85,st,Fs⟩ λz K q p=>?_
 refine Zq <| Zq <| p.U [.x fZ,.x tZ] [2,3,26] ⟨st,st,Fs⟩ λA Q g=>Z6 g.ev<|Zq <| g.T [.x (pv (0:B P) (0:B P)),.u 1,.x fZ] [] [(1,1,ws (0:B P)++(ws (0:B P)))] [2,3] ⟨se (jL (P:=P)),RG.pt i109,st,Fs⟩ λL y l=>?_
 exact ag (l.r2 1 Z jX i109)
def TX(C:Fld P)(x y:B P):Gives 185 #[(pv x y)] (pv x (0-y)):=by
 intro w;let⟨c1,k⟩:∃c,c=(0:B P)-y:=⟨_,Z⟩
 go_enter func185,ntmps185;refine RG.M.enter [(0,.v (pv x y))] 11 kR λa0 b=>?_
 refine Zq <| b.T [.m 0,.m 1] [(0,ws x++(ws y)),(1,RG.z 8)] [] [1,2] ⟨mk 0 83,mk 1 83,Fs⟩ λj f i g e=>?_
 refine Zq <| e.D [.s (.p 0 0),.x (fv x),.c gv0,.x (fv (0:B P)),.s (.p 0 4),.x (fv y),.c (fv c1),.x (pv x c1),.u 1] [] [(1,8,ws x++(ws c1))] [2] ⟨st,ld u85 i85,cl bM,se (mN (P:=P)),st,ld u85 i85,cl ((OS C).e k),st,RG.pt i109,Fs⟩ λa2 l d=>?_
 exact ag (d.rr 1 Z jX i109)
def jR{e d i:I}(h:IS w k [⟨e,0,a,b,c,d⟩,⟨k,0,i,g,f,0⟩,⟨j,0,0,0,0,0⟩] W):W.cell? ⟨e,0,F⟩=J (U a)/\W.cell? ⟨e,1,F⟩=J (U b)/\W.cell? ⟨e,2,F⟩=J (U c)/\W.cell? ⟨e,3,F⟩=J (U d)/\W.cell? ⟨k,0,F⟩=J (U i)/\W.cell? ⟨k,1,F⟩=J (U g)/\W.cell? ⟨k,2,F⟩=J (U f)/\W.cell? ⟨k,3,F⟩=J (U 0)/\IS w k [⟨e,0,a,b,c,d⟩,⟨k,0,i,g,f,0⟩,⟨j,0,0,0,0,0⟩] W:=⟨h.head.c0,h.head.c1,h.head.c2,h.head.c3,h.tail.head.c0,h.tail.head.c1,h.tail.head.c2,h.tail.head.c3,h⟩
def qQ{e d i:I}(h:W.cell? ⟨e,0,F⟩=J (U a)/\W.cell? ⟨e,1,F⟩=J (U b)/\W.cell? ⟨e,2,F⟩=J (U c)/\W.cell? ⟨e,3,F⟩=J (U d)/\W.cell? ⟨k,0,F⟩=J (U i)/\W.cell? ⟨k,1,F⟩=J (U g)/\W.cell? ⟨k,2,F⟩=J (U f)/\W.cell? ⟨k,3,F⟩=J (U 0)/\IS w k [⟨e,0,a,b,c,d⟩,⟨k,0,i,g,f,0⟩,⟨j,0,0,0,0,0⟩] W):IS w k [⟨e,0,a,b,c,d⟩,⟨k,0,i,g,f,0⟩,⟨j,0,0,0,0,0⟩] W:=h.2.2.2.2.2.2.2.2
def Ef{e d i:I}{o:Obj}(h:W.cell? ⟨e,0,F⟩=J (U a)/\W.cell? ⟨e,1,F⟩=J (U b)/\W.cell? ⟨e,2,F⟩=J (U c)/\W.cell? ⟨e,3,F⟩=J (U d)/\W.cell? ⟨k,0,F⟩=J (U i)/\W.cell? ⟨k,1,F⟩=J (U g)/\W.cell? ⟨k,2,F⟩=J (U f)/\W.cell? ⟨k,3,F⟩=J (U 0)/\IS w k [⟨e,0,a,b,c,d⟩,⟨k,0,i,g,f,0⟩,⟨j,0,0,0,0,0⟩] W):(W.alloc o).cell? ⟨e,0,F⟩=J (U a)/\(W.alloc o).cell? ⟨e,1,F⟩=J (U b)/\(W.alloc o).cell? ⟨e,2,F⟩=J (U c)/\(W.alloc o).cell? ⟨e,3,F⟩=J (U d)/\(W.alloc o).cell? ⟨k,0,F⟩=J (U i)/\(W.alloc o).cell? ⟨k,1,F⟩=J (U g)/\(W.alloc o).cell? ⟨k,2,F⟩=J (U f)/\(W.alloc o).cell? ⟨k,3,F⟩=J (U 0)/\IS w k [⟨e,0,a,b,c,d⟩,⟨k,0,i,g,f,0⟩,⟨j,0,0,0,0,0⟩] (W.alloc o):=jR ((qQ h).alloc o)
def CB{e d i:I}{o:Obj}(h:W.drew.cell? ⟨e,0,F⟩=J (U a)/\W.drew.cell? ⟨e,1,F⟩=J (U b)/\W.drew.cell? ⟨e,2,F⟩=J (U c)/\W.drew.cell? ⟨e,3,F⟩=J (U d)/\W.drew.cell? ⟨k,0,F⟩=J (U i)/\W.drew.cell? ⟨k,1,F⟩=J (U g)/\W.drew.cell? ⟨k,2,F⟩=J (U f)/\W.drew.cell? ⟨k,3,F⟩=J (U 0)/\IS w k [⟨e,0,a,b,c,d⟩,⟨k,0,i,g,f,0⟩,⟨j,0,0,0,0,0⟩] W.drew):(W.alloc o).drew.cell? ⟨e,0,F⟩=J (U a)/\(W.alloc o).drew.cell? ⟨e,1,F⟩=J (U b)/\(W.alloc o).drew.cell? ⟨e,2,F⟩=J (U c)/\(W.alloc o).drew.cell? ⟨e,3,F⟩=J (U d)/\(W.alloc o).drew.cell? ⟨k,0,F⟩=J (U i)/\(W.alloc o).drew.cell? ⟨k,1,F⟩=J (U g)/\(W.alloc o).drew.cell? ⟨k,2,F⟩=J (U f)/\(W.alloc o).drew.cell? ⟨k,3,F⟩=J (U 0)/\IS w k [⟨e,0,a,b,c,d⟩,⟨k,0,i,g,f,0⟩,⟨j,0,0,0,0,0⟩] (W.alloc o).drew:=jR (((qQ h).undrew).alloc o).drew
def OQ(pv:Zm)(p:GJ Addr)(n cap:I)(w:Zl)(d c b:I)(k:pv=.agg #[U d,U c,U b,U 0])(f:n≠32):
 eZ 85 #[pv,.slice p n cap] w (.tuple #[.agg #[U 0,U 0,U 0,U 0],fZ]):=by
 subst k;go_enter func85,ntmps85;go_wp2;refine Zx (by simp[results,Tryz.results85,go_sem];rfl) Z ?_;exact⟨_,Z,below2 _ _ _,Z⟩
theorem Be(l m j P g o cap:I)(bs:Bs)(hG:Gap l m j P)(w:Zl)(hs:bs.size=32)(hc:32<=cap)(hg:g<w.heap.size)(hB:FE encB w g o bs):
 ae prog 85 #[.agg #[.int .u64 l,.int .u64 m,.int .u64 j,.int .u64 0],.slice (J ⟨g,o,F⟩) 32 cap] w
  (Ret λe w'=>Below w.heap.size w w'/\((beV bs.toList<P/\∃v,e=.tuple #[v,.bool H]/\GS v (beV bs.toList))\/(P<=beV bs.toList/\e=.tuple #[.agg #[.int .u64 0,.int .u64 0,.int .u64 0,.int .u64 0],.bool D]))):=by
 have C:E (Gap l m j P):=hG;have h3:E (FE encB w g o bs):=hB;have HS:E (bs.size=32):=hs;clear hG hB hs;go_enter func85,ntmps85;go_wp2_with fail
 have PR:=(At4.made w 153 l m j 0 Z).alloc (.cells #[.int .u64 0,.int .u64 0,.int .u64 0,.int .u64 0] 81);have RE:=At4.made (w.alloc (.cells #[.int .u64 l,.int .u64 m,.int .u64 j,.int .u64 0] 153)) 81 0 0 0 0 (Zy _ _);have q:=((Kept.mk1 (below2 w (.cells #[.int .u64 l,.int .u64 m,.int .u64 j,.int .u64 0] 153) (.cells #[.int .u64 0,.int .u64 0,.int .u64 0,.int .u64 0] 81)) (below2 w (.cells #[.int .u64 l,.int .u64 m,.int .u64 j,.int .u64 0] 153) (.cells #[.int .u64 0,.int .u64 0,.int .u64 0,.int .u64 0] 81)).size).cons RE.blk).cons PR.blk;have r:=Holds.below h3 (below2 w (.cells #[.int .u64 l,.int .u64 m,.int .u64 j,.int .u64 0] 153) (.cells #[.int .u64 0,.int .u64 0,.int .u64 0,.int .u64 0] 81)) hg;clear PR RE;generalize pn _ _=W0 at q r⊢;apply(lW (J ⟨g,o,F⟩) g o 32 cap bs _ (Zo 32) hc HS (ZW ⟨Z,r⟩)).mono;rintro e w1 ⟨v,rfl,i,V⟩;obtain⟨a,b,c,d,rfl,ha,hb,Q,hd,W⟩:=id V;have O:E (GS _ _):=V;have X:=q.call i;clear W V i q r;go_wp2_with fail
 have f:=(X.alloc (.cells #[.int .u64 a,.int .u64 b,.int .u64 c,.int .u64 d] 81)).cons (At4.made w1 81 a b c d Z).blk;have y:w1.heap.size≠w.heap.size:=pe X.head.lt;clear X;generalize pn _ _=W1 at f⊢;generalize w1.heap.size=u at f y⊢;generalize h1:w.heap.size+1=L at f⊢;have Q1:E (w.heap.size<=L):=by unfold E;omega
 generalize h0:w.heap.size=p at f Q1 hg y⊢;have H0:E (w.heap.size=p):=h0;clear h0 h1
 go_cut [8] (λs8 wx=>∃k:I,s8=.int .u64 k/\k<=1/\E (∃t,t<top/\t+top*k=beV bs.toList+val l m j 0)/\IS w p [⟨u,0,a,b,c,d⟩,⟨p,0,l,m,j,0⟩,⟨L,0,0,0,0,0⟩] wx)
 case first =>
  go_region_held3 (λw'=>w'.cell? ⟨u,0,F⟩=J (.int .u64 a)/\w'.cell? ⟨u,1,F⟩=J (.int .u64 b)/\w'.cell? ⟨u,2,F⟩=J (.int .u64 c)/\w'.cell? ⟨u,3,F⟩=J (.int .u64 d)/\w'.cell? ⟨p,0,F⟩=J (.int .u64 l)/\w'.cell? ⟨p,1,F⟩=J (.int .u64 m)/\w'.cell? ⟨p,2,F⟩=J (.int .u64 j)/\w'.cell? ⟨p,3,F⟩=J (.int .u64 0)/\IS w p [⟨u,0,a,b,c,d⟩,⟨p,0,l,m,j,0⟩,⟨L,0,0,0,0,0⟩] w') (first|(with_reducible exact jR f)|(with_reducible exact jR f.drew)|(with_reducible exact CB (by assumption))|(with_reducible exact Ef (by assumption))|(with_reducible exact jR (f.alloc _))|(with_reducible exact jR (f.set4' z (λx hx=>pe (K x hx)) _ _ _ _))|(with_reducible exact jR (f.alloc _).drew)|(with_reducible exact jR (f.set4' z (λx hx=>pe (K x hx)) _ _ _ _).drew)) (first|(go_at_call 148;apply(kY O).mono;rintro e w2 ⟨v,rfl,i,rfl⟩;(try(with_reducible have M:=T.call i;clear T;have T:=M;clear M));(try(first|(with_reducible have T:=(At4.made _ 151 0 0 0 0 Z).call i)|(with_reducible have T:=(At4.made _ 151 0 0 0 0 Z).drew.call i));have K:=f.lts;have z:=f.le);have n:=Kept.call (qQ (by assumption)) i;clear f;have f:=n;clear n i)|(go_at_call 147;apply(t9 _ _ _ _ O (Four.mk C.h0 C.h1 C.h2 dC Z) _).mono;rintro e w2 ⟨v,rfl,i,v2,t,k,rfl,s,A,he⟩;obtain⟨a',b',c',d',rfl,hp,h8,Q,h6,W⟩:=id s;have HT:E (t<top/\t+top*k=beV bs.toList+val l m j 0):=⟨s.lt,he⟩;clear W he s;(try(with_reducible have M:=T.call i;clear T;have T:=M;clear M));(try(first|(with_reducible have T:=(At4.made _ 151 0 0 0 0 Z).call i)|(with_reducible have T:=(At4.made _ 151 0 0 0 0 Z).drew.call i));have K:=f.lts;have z:=f.le);have n:=Kept.call (qQ (by assumption)) i;clear f;have f:=n;clear n i;(try(let⟨h9,h5,hi,h4,tf⟩:=id T;have zt:=T.lt))))
  all_goals (try go_wp2)
  all_goals (have N:E (∃t,t<top/\t+top*k=beV bs.toList+val l m j 0):=⟨t,HT⟩)
  all_goals (go_meet;first|(with_reducible exact⟨k,Z,A,N,f.alloc _⟩)|(with_reducible exact⟨k,Z,A,N,(f.alloc _).drew⟩)|(with_reducible exact⟨k,Z,A,N,f.set4' z (λx hx=>pe (K x hx)) _ _ _ _⟩)|(with_reducible exact⟨k,Z,A,N,(f.set4' z (λx hx=>pe (K x hx)) _ _ _ _).drew⟩))
 case rest =>
  clear f;obtain⟨k,rfl,A,HE,f⟩:=hcut;have s:k=0\/k=1:=S;rcases s with rfl|rfl
  .let⟨hn,hm,hj,h7,xf⟩:=f.head.at4
   let⟨z,M,K,N,rf⟩:=f.tail.tail.head.at4
   have z1:=f.tail.tail.head.lt;go_wp2;have n:=f.tail.tail.head.at4.self4 a b c d;unfold set4 at n;refine Zx (by simp[results,Tryz.results85,go_sem,n.c0,n.c1,n.c2,n.c3];rfl) Z ?_;refine⟨_,Z,?_,Z5 ⟨?_,_,Z,O⟩⟩
   .rw[H0.out];exact aH f.bl Q1
   let⟨t,h1,h2⟩:=HE
   have:=C.hP;omega
  let⟨z,M,K,N,rf⟩:=f.tail.tail.head.at4
  have z1:=f.tail.tail.head.lt;go_wp2;have n:At4 (set4 wc L (.int .u64 0) (.int .u64 0) (.int .u64 0) (.int .u64 0)) L 0 0 0 0:=f.tail.tail.head.at4.self4 0 0 0 0;unfold set4 at n;refine Zx (by simp[results,Tryz.results85,go_sem,n.c0,n.c1,n.c2,n.c3];rfl) Z ?_;refine⟨_,Z,?_,ZW ⟨?_,Z⟩⟩
  .rw[H0.out];exact aH f.bl Q1
  let⟨t,h1,h2⟩:=HE
  have:=C.hP;omega
def Arg(w:Zl)(v:Zm)(bs:Bs):Prop:=∃(p:GJ Addr) (n cap:I),v=.slice p n cap/\bs.size=n/\(n=32->∃g o,p=J ⟨g,o,F⟩/\32<=cap/\g<w.heap.size/\hZ w g o bs)
def Arg.below{k:Zl}{bs:Bs}(h:Arg w v bs)(b:kZ w k):Arg k v bs:=by
 obtain⟨p,n,cap,rfl,hs,h1⟩:=h;refine⟨p,n,cap,Z,hs,λd=>?_⟩;let⟨g,o,i,e,c,f⟩:=h1 d
 exact⟨g,o,i,e,Zn c b.size,Holds.below f b c⟩
def SR(P:I)(bs:Bs):Prop:=bs.size=32/\beV bs.toList<P
def Args(w:Zl)(q:GJ Addr)(n:I)(L:I->Bs):Prop:=0<n->∃k,q=J (aZ k)/\k<w.heap.size/\∀j,j<n->∃v,w.cell? ⟨k,j,F⟩=J v/\Arg w v (L j)
section
def u131:yZ 39:=yQ
def i131:gZ 39 33:=gQ
def u5:wZ 5:=wQ
def S8:prog.underlying 39=J (.array 33 5):=kR
def Yb:prog.underlying 5=J (.int .u8):=kR
def cells5:prog.cellsOf 5=1:=kR
def VQ(k:33<=cap)(w:Zl):(Instr.sliceAt 22 (qZ g o 33 cap) (J (iZ 1)) F F).run prog w=.ok (qZ g (o+1) 32 (cap-1)) w:=by
 go_simp;omega
def SE(w:Zl):(Instr.arrayAt 39 (qZ g o 33 cap)).run prog w=.ok (oZ g o) w:=kR
def Hx(k:0<n):(iB 22 (qZ g o n cap) (iZ 0)).run prog w=.ok (oZ g o) w:=by
 go_simp
def RO(xs:R Zm)(i:I)(h:xs[i]? = J v)(w:Zl):(part 5 xs i).run prog w=.ok v w:=by
 go_simp
def eqI{a b:I->Y}{D:I}(xs ys:R Zm)(w:Zl):∀(k:G I),(∀i∈k,xs[i]? = J (.int .u8 (a i)))->(∀i∈k,ys[i]? = J (.int .u8 (b i))) ->
 (yFM (D+1) 5 1 xs ys k).run prog w=.ok (decide (∀i∈k,a i=b i)) w
 | [],_,_=>by
  rw[yFM];simp
 | i :: k,hx,hy=>by
  have e:=eqI xs ys (a:=a) (b:=b) (D:=D) w k (λj c=>hx j (ps _ c)) (λj c=>hy j (ps _ c));have p1:=RO xs (i*1) (by rw[ri];exact hx i pw) w;have p2:=RO ys (i*1) (by rw[ri];exact hy i pw) w;have d:=run_equalIn_int (P:=prog) w D 5 .u8 .u8 (a i) (b i) Yb;rw[yFM];simp only[ZK,p1,p2,d,lp];by_cases h:a i=b i
  .simp only[h,beq_self_eq_true,Hc.not_true,Hc.false_eq_true,if_false,e,yFc,true_and]
  have f:(a i == b i)=false:=by simpa using h
  simp only[f,Hc.not_false,if_true,Sem.run_pure,yFc,h,false_and,decide_false]
def aA(bs:Bs):G Zm:=bs.toList.map encB
def z33:G Zm:=qz 33 (.int .u8 0)
def uQ{bs:Bs}{i:I}(h:i<bs.size):(aA bs)[i]? = J (.int .u8 (ub bs[i]!)):=by
 rw[aA,rm,qi,ZS h,getElem!_pos bs i h];rfl
def eqz{bs:Bs}(h:bs.size=33)(w:Zl):(binOp .eql 39 (.agg (aA bs).toArray) (.agg z33.toArray)).run prog w=.ok (.bool (decide (∀i∈fo 33,ub bs[i]! = 0))) w:=by
 have b:(prog.info? 5).isSome=H:=kR;let⟨c,k⟩:=Z8.1 b
 rw[run_eql_struct,run_equalIn_array w 9999 _ _ S8 k,cells5,
  eqI _ _ w (fo 33) (λi b=>by
   rw[ZU];exact uQ (by rw[h];exact p9.1 b)) (λi b=>by
   rw[ZU];rw[z33,G.getElem?_replicate,GD (p9.1 b)])]
 rfl
@[reducible] def qK (bs:Bs):Prop:=∀i∈fo 33,ub bs[i]! = 0
def WR{bs:Bs}(h:bs.size=33)(k:qK bs)(w:Zl):(binOp .eql 39 (.agg (aA bs).toArray) (.agg z33.toArray)).run prog w=.ok tZ w:=by rw[eqz h,decide_eq_true (show ∀i∈fo 33,ub bs[i]! = 0 from k)]
def WS{bs:Bs}(h:bs.size=33)(k:¬qK bs)(w:Zl):(binOp .eql 39 (.agg (aA bs).toArray) (.agg z33.toArray)).run prog w=.ok fZ w:=by rw[eqz h,decide_eq_false (show ¬ ∀i∈fo 33,ub bs[i]! = 0 from k)]
def aB{bs:Bs}(h:bs.size=33):(aA bs).length=33:=by unfold aA;rw[ZI,ZE,h]
def Ht{bs:Bs}(b:hZ w g o bs):w.rangeAt g o (aA bs):=λj v hv=>by
 have k:j<bs.size:=by
  have:=(Zz.1 hv).1;unfold aA at this;rwa[ZI,ZE]at this
 rw[uQ k]at hv;rw[(b j k).1];exact hv
def kG(bs:Bs):Bs:=bs.extract 1 33
def jA{bs:Bs}(h:bs.size=33):(kG bs).size=32:=by unfold kG;rw[yq,h];rfl
theorem tl33_holds{bs:Bs}(h:bs.size=33)(b:hZ w g o bs):hZ w g (o+1) (kG bs):=
 Holds.part b (by rw[jA h,h];decide) (λj k=>by
  rw[jA h]at k;rw[kG,getElem!_pos _ j (by rw[yq,h];omega),getElem!_pos _ (1+j) (by rw[h];omega),R.getElem_extract])
variable {P:Nat}[NeZero P]
def OO(C:Fld P){bs:Bs}(hs:bs.size=32)(f:32<=cap){x:B P}(hx:beV bs.toList=x.val)(c:g<w.heap.size)(d:hZ w g o bs):
 eZ 85 #[gv0,qZ g o 32 cap] w (.tuple #[fv x,tZ]):=
 (Be 4294968273 0 0 P g o cap bs C.gap w hs f c d).mono (by
  rintro e w' ⟨v,rfl,b,⟨hl,i,rfl,k⟩|⟨hl,rfl⟩⟩
  .refine⟨_,Z,b,?_⟩;rw[hx]at k;rw[k.nv]
  have:=x.isLt;omega)
def OP(C:Fld P){bs:Bs}(hs:bs.size=32)(d:32<=cap)(hx:¬beV bs.toList<P)(b:g<w.heap.size)(c:hZ w g o bs):
 eZ 85 #[gv0,qZ g o 32 cap] w (.tuple #[fv (0:B P),fZ]):=
 (Be 4294968273 0 0 P g o cap bs C.gap w hs d b c).mono (by
  rintro e w' ⟨v,rfl,k,⟨hl,f,rfl,i⟩|⟨hl,rfl⟩⟩
  .exact absurd hl hx
  refine⟨_,Z,k,?_⟩;rw[<-mN])
def rdx(P:I)[NeZero P](bs:Bs):B P:=rz P (beV (kG bs).toList)
def rd(P:I)[NeZero P](bs:Bs):GJ (B P × B P):=
 if bs.size=33 then
  if qK bs then J (0,0) else
  if ub bs[0]! = 2\/ub bs[0]! = 3 then
   if beV (kG bs).toList<P then
    (rt (rdx P bs*rdx P bs*rdx P bs+7)).map (λy=>(rdx P bs,if ub bs[0]! = 3 then 0-y else y))
   else F
  else F
 else F
def rdV:GJ (B P × B P)->Zm
 | none=>.tuple #[pv (0:B P) 0,fZ]
 | some p=>.tuple #[pv p.1 p.2,tZ]
end
def TC(C:Fld P)(q:GJ Addr)(n cap:I)(x:B P)(w:Zl)(m:¬n=33):eZ 117 #[(.slice q n cap)] w ((.tuple #[pv (0:B P) 0,fZ])):=by
 have k:∀w,(binOp .neq 3 (iZ n) (iZ 33)).run prog w=.ok tZ w:=λw=>by
  have h:¬(n:Y)=33:=S;go_simp
 go_enter func117,ntmps117;refine RG.M.enter [(0,.v (.slice q n cap))] 54 kR λa0 f=>?_
 refine Zq <| f.T [.m 0,.x fZ] [(0,RG.z 8)] [] [0,2,3] ⟨mk 0 83,st,Fs⟩ λi o g c=>?_
 refine Zq <| Zq <| c.U [.x (.slice q n cap),.x (iZ n),.x tZ] [2,3,9] ⟨st,qG Z (t:=7) (.v (.slice q n cap)) (iZ n) Z sx (λa w=>kR) (λμ w=>kR),aJ Z .neq (T:=3) 3 (t1:=8) (v1:=(iZ n)) (v2:=(iZ 33)) (v:=tZ) Z Z sx (λw=>kR) k,Fs⟩ λa2 p b=>?_
 refine Z6 b.ev<|Zq <| b.T [.x (pv (0:B P) (0:B P)),.u 0,.x fZ] [] [(0,1,ws (0:B P)++(ws (0:B P)))] [2,3] ⟨se (jL (P:=P)),RG.pt i109,st,Fs⟩ λl j d=>?_
 exact ag (d.r2 0 Z jX i109)
abbrev v33(g o cap:I):Zm:=qZ g o 33 cap
def Yq(C:Fld P)(g o cap:I)(bs:Bs)(w:Zl)(hs:bs.size=33)(hc:33<=cap)(b:g<w.heap.size)(K:hZ w g o bs):eZ 117 #[v33 g o cap] w (rdV (rd P bs)):=by
 have t:=Ht K;have k:w.cell? ⟨g,o,F⟩=J (.int .u8 (ub bs[0]!)):=by
  have:=(K 0 (by rw[hs];decide)).1;rw[qg]at this;exact this
 go_enter func117,ntmps117;refine RG.M.enter [(0,.v (v33 g o cap))] 54 kR λa0 M0=>?_
 refine Zq <| M0.T [.m 0,.x fZ] [(0,RG.z 8)] [] [0,2,3] ⟨mk 0 83,st,Fs⟩ λj1 a1 w1 M1=>?_
 refine Zq <| Zq <| M1.U [.x (v33 g o cap),.x (iZ 33),.x fZ] [0,2,3,9] ⟨st,qG Z (t:=7) (.v (v33 g o cap)) (iZ 33) Z sx (λa w=>kR) (λμ w=>kR),st,Fs⟩ λa2 w2 N=>?_
 refine Z2 N.ev<|aw ?_
 repeat apply Zq
 rw[rd,GD hs];by_cases v:qK bs
 .rw[GD v];refine N.U [.x (v33 g o cap),.x (oZ g o),.x (.agg (aA bs).toArray),.x (.agg z33.toArray),.x tZ] [2,3,15] ⟨st,EV Z (T:=39) (t:=11) (v:=(v33 g o cap)) (b:=(oZ g o)) Z Z sx (SE (g:=g) (o:=o) (cap:=cap)),eU Z (k:=g) (off:=o) b ZJ (T:=39) (t:=12) Z (cs:=(aA bs)) Z sx t u131 (by rw[aB hs];exact i131),st,aT Z .eql (T:=39) 39 (t1:=13) (t2:=14) (v1:=(.agg (aA bs).toArray)) (v2:=(.agg z33.toArray)) (v:=tZ) Z Z sx sx (λw=>kR) (WR hs v),Fs⟩ λa3 w3 i=>?_
  refine Z6 i.ev<|Zq <| i.T [.x (pv (0:B P) (0:B P)),.u 0,.x tZ] [] [(0,1,ws (0:B P)++(ws (0:B P)))] [2,3] ⟨se (jL (P:=P)),RG.pt i109,st,Fs⟩ λa4 O f=>?_
  exact ag (f.r2 0 Z jX i109)
 rw[Id v];refine N.U [.x (v33 g o cap),.x (oZ g o),.x (.agg (aA bs).toArray),.x (.agg z33.toArray),.x fZ] [0,2,3,15] ⟨st,EV Z (T:=39) (t:=11) (v:=(v33 g o cap)) (b:=(oZ g o)) Z Z sx (SE (g:=g) (o:=o) (cap:=cap)),eU Z (k:=g) (off:=o) b ZJ (T:=39) (t:=12) Z (cs:=(aA bs)) Z sx t u131 (by rw[aB hs];exact i131),st,aT Z .eql (T:=39) 39 (t1:=13) (t2:=14) (v1:=(.agg (aA bs).toArray)) (v2:=(.agg z33.toArray)) (v:=fZ) Z Z sx sx (λw=>kR) (WS hs v),Fs⟩ λa3 w3 i=>?_
 refine Z2 i.ev<|aw ?_
 repeat apply Zq
 by_cases c:ub bs[0]! = 2\/ub bs[0]! = 3
 rotate_left
 .rw[Id c];generalize ub bs[0]! = m at k c;have T:¬m=2:=λh=>c (.inl h)
  have A:¬m=3:=λh=>c (.inr h)
  have j:∀w,(binOp .neq 5 (.int .u8 m) (.int .u8 2)).run prog w=.ok tZ w:=λw=>by
   go_simp
  have d:∀w,(binOp .neq 5 (.int .u8 m) (.int .u8 3)).run prog w=.ok tZ w:=λw=>by
   go_simp
  refine i.U [.x (v33 g o cap),.x (oZ g o),.x (.int .u8 m),.x tZ,.x tZ,.x (v33 g o cap),.x (oZ g o),.x (.int .u8 m),.x tZ,.x tZ] [2,3,26] ⟨st,fA Z 22 (t:=17) (iZ 0) Z (.v (v33 g o cap)) sx (λμ w=>Hx (g:=g) (o:=o) (n:=33) (cap:=cap) dC (w:=w)),eW Z (k:=g) (off:=o) b ZJ (T:=5) (t:=18) Z (v:=(.int .u8 m)) Z sx k u5,aJ Z .neq (T:=5) 5 (t1:=19) (v1:=(.int .u8 m)) (v2:=(.int .u8 2)) (v:=tZ) Z Z sx (λw=>kR) j,st,st,fA Z 22 (t:=22) (iZ 0) Z (.v (v33 g o cap)) sx (λμ w=>Hx (g:=g) (o:=o) (n:=33) (cap:=cap) dC (w:=w)),eW Z (k:=g) (off:=o) b ZJ (T:=5) (t:=23) Z (v:=(.int .u8 m)) Z sx k u5,aJ Z .neq (T:=5) 5 (t1:=24) (v1:=(.int .u8 m)) (v2:=(.int .u8 3)) (v:=tZ) Z Z sx (λw=>kR) d,st,Fs⟩ λa4 O f=>?_
  refine Z6 f.ev<|Zq <| f.T [.x (pv (0:B P) (0:B P)),.u 0,.x fZ] [] [(0,1,ws (0:B P)++(ws (0:B P)))] [2,3] ⟨se (jL (P:=P)),RG.pt i109,st,Fs⟩ λX w5 r=>?_
  exact ag (r.r2 0 Z jX i109)
 rw[GD c];rcases c with c|c
 case' inl=>refine i.u [.x 17 [] (v33 g o cap),.x 18 [(17,0)] (oZ g o),.x 19 [(18,1)] (.int .u8 2),.x 20 [(19,2)] fZ,.x 21 [(20,3)] fZ,⟨J 22,[],.v am,.pass⟩,⟨J 23,[],.v am,.pass⟩,⟨J 24,[],.v am,.pass⟩,⟨J 25,[],.v am,.pass⟩,.x 26 [(21,4),(25,8)] fZ] [(0,.v (v33 g o cap)),(2,.p 0 0),(3,.v fZ),(26,.v fZ)] ⟨st,fA Z 22 (t:=17) (iZ 0) Z (.v (v33 g o cap)) sx (λμ w=>Hx (g:=g) (o:=o) (n:=33) (cap:=cap) dC (w:=w)),eW Z (k:=g) (off:=o) b ZJ (T:=5) (t:=18) Z (v:=(.int .u8 2)) Z sx (k.trans (by rw[c])) u5,st,st,aO Z Z,aO Z Z,aO Z Z,aO Z Z,st,Fs⟩ ?_
 case' inr=>refine i.U [.x (v33 g o cap),.x (oZ g o),.x (.int .u8 3),.x tZ,.x tZ,.x (v33 g o cap),.x (oZ g o),.x (.int .u8 3),.x fZ,.x fZ] [0,2,3,26] ⟨st,fA Z 22 (t:=17) (iZ 0) Z (.v (v33 g o cap)) sx (λμ w=>Hx (g:=g) (o:=o) (n:=33) (cap:=cap) dC (w:=w)),eW Z (k:=g) (off:=o) b ZJ (T:=5) (t:=18) Z (v:=(.int .u8 3)) Z sx (k.trans (by rw[c])) u5,st,st,st,fA Z 22 (t:=22) (iZ 0) Z (.v (v33 g o cap)) sx (λμ w=>Hx (g:=g) (o:=o) (n:=33) (cap:=cap) dC (w:=w)),eW Z (k:=g) (off:=o) b ZJ (T:=5) (t:=23) Z (v:=(.int .u8 3)) Z sx (k.trans (by rw[c])) u5,st,st,Fs⟩ ?_
 all_goals
  intro a4 O f;refine Z2 f.ev<|aw ?_
  repeat apply Zq
  by_cases hx:beV (kG bs).toList<P
  rotate_left
  .rw[Id hx];have j:∀w',BelX w.heap.size [] w w'->cZ 85 #[gv0,qZ g (o+1) 32 (cap-1)] w' (Ret λe l=>kZ w' l/\e=.tuple #[fv (0:B P),fZ]):=λw' s=>OP C (jA hs) S hx (Zn b s.size) (Holds.below (tl33_holds hs K) s.below b)
   refine f.D [.c gv0,.x (v33 g o cap),.x (qZ g (o+1) 32 (cap-1)),.c (.tuple #[fv (0:B P),fZ]),.x (.tuple #[fv (0:B P),fZ]),.x (fv (0:B P)),.x fZ,.m 1,.u 1,.x fZ] [(7,RG.z 4)] [(1,8,ws (0:B P))] [2,3,5] ⟨cl bM,st,lS Z (T:=22) (t:=30) (b:=(iZ 1)) (v:=(v33 g o cap)) (c:=(qZ g (o+1) 32 (cap-1))) Z Z sx (VQ (g:=g) (o:=o) (cap:=cap) hc),xK Z (f:=85) (t1:=29) (t2:=31) (v1:=gv0) (v2:=(qZ g (o+1) 32 (cap-1))) (v:=(.tuple #[fv (0:B P),fZ])) Z (λa w=>kR) sx sx j,st,st,st,mk 1 81,RG.pt i85,st,Fs⟩ λj5 X w5 r=>?_
   refine Zq <| Zq <| r.U [.x fZ,.x tZ] [2,3,36] ⟨st,st,Fs⟩ λa6 w6 p=>?_
   refine Z6 p.ev<|Zq <| p.T [.x (pv (0:B P) (0:B P)),.u 0,.x fZ] [] [(0,1,ws (0:B P)++(ws (0:B P)))] [2,3] ⟨se (jL (P:=P)),RG.pt i109,st,Fs⟩ λV W n=>?_
   exact ag (n.r2 0 Z jX i109)
  rw[GD hx];have q:beV (kG bs).toList=(rdx P bs).val:=(ZC hx).symm;generalize rdx P bs=x at q;have j:∀w',BelX w.heap.size [] w w'->cZ 85 #[gv0,qZ g (o+1) 32 (cap-1)] w' (Ret λe l=>kZ w' l/\e=.tuple #[fv x,tZ]):=λw' s=>OO C (jA hs) S q (Zn b s.size) (Holds.below (tl33_holds hs K) s.below b)
  refine f.D [.c gv0,.x (v33 g o cap),.x (qZ g (o+1) 32 (cap-1)),.c (.tuple #[fv x,tZ]),.x (.tuple #[fv x,tZ]),.x (fv x),.x tZ,.m 1,.u 1,.x tZ] [(7,RG.z 4)] [(1,8,ws x)] [0,2,3,4,5] ⟨cl bM,st,lS Z (T:=22) (t:=30) (b:=(iZ 1)) (v:=(v33 g o cap)) (c:=(qZ g (o+1) 32 (cap-1))) Z Z sx (VQ (g:=g) (o:=o) (cap:=cap) hc),xK Z (f:=85) (t1:=29) (t2:=31) (v1:=gv0) (v2:=(qZ g (o+1) 32 (cap-1))) (v:=(.tuple #[fv x,tZ])) Z (λa w=>kR) sx sx j,st,st,st,mk 1 81,RG.pt i85,st,Fs⟩ λj5 X w5 r=>?_
  refine Zq <| Zq <| r.U [.x tZ,.x fZ] [0,2,3,4,5,36] ⟨st,st,Fs⟩ λa6 w6 p=>?_
  refine Z2 p.ev<|aw ?_
  repeat apply Zq
  cases hr:rt (x*x*x+7) with
  | none =>
   refine p.T [.x (fv x),.c (.tuple #[pv (0:B P) (0:B P),fZ]),.x (.tuple #[pv (0:B P) (0:B P),fZ]),.x (pv (0:B P) (0:B P)),.x fZ,.m 2,.u 2,.x fZ] [(5,RG.z 8)] [(2,6,ws (0:B P)++(ws (0:B P)))] [2,3,5,6] ⟨ld u85 i85,A2 Z (f:=94) (t1:=39) (v1:=(fv x)) (v:=(.tuple #[pv (0:B P) (0:B P),fZ])) Z (λa w=>kR) sx (Co C x hr),st,st,st,mk 2 83,RG.pt i109,st,Fs⟩ λj7 V W n=>?_
   refine Zq <| Zq <| n.u [.x 43 [] fZ,.x 44 [(43,0)] fZ,⟨J 45,[],.v am,.pass⟩,⟨J 46,[],.v am,.pass⟩,⟨J 47,[],.v am,.pass⟩,⟨J 48,[],.v am,.pass⟩,.x 49 [(44,1),(48,5)] fZ] [(2,.p 0 0),(3,.v fZ),(5,.v fZ),(6,.p 2 0),(49,.v fZ)] ⟨st,st,aO Z Z,aO Z Z,aO Z Z,aO Z Z,st,Fs⟩ λQ w8 d=>?_
   refine Z2 d.ev<|aw<|Zq <| d.T [.x (pv (0:B P) (0:B P)),.x fZ,.u 0,.x fZ] [] [(0,2,ws (0:B P)++(ws (0:B P)))] [2,3] ⟨ld jX i109,st,RG.pt i109,st,Fs⟩ λa9 w9 u=>?_
   exact ag (u.r2 0 Z jX i109)
  | some y =>
   refine p.T [.x (fv x),.c (.tuple #[pv x y,tZ]),.x (.tuple #[pv x y,tZ]),.x (pv x y),.x tZ,.m 2,.u 2,.x tZ] [(5,RG.z 8)] [(2,6,ws x++(ws y))] [0,2,3,5,6] ⟨ld u85 i85,A2 Z (f:=94) (t1:=39) (v1:=(fv x)) (v:=(.tuple #[pv x y,tZ])) Z (λa w=>kR) sx (Cn C x y hr),st,st,st,mk 2 83,RG.pt i109,st,Fs⟩ λj7 V W n=>?_
   repeat apply Zq
   rw[GJ.map_some];by_cases A:ub bs[0]! = 3
   .rw[GD A];generalize L:0-y=z;refine n.U [.x tZ,.x tZ,.x (v33 g o cap),.x (oZ g o),.x (.int .u8 3),.x tZ,.x tZ] [2,3,5,6,49] ⟨st,st,st,fA Z 22 (t:=45) (iZ 0) Z (.v (v33 g o cap)) sx (λμ w=>Hx (g:=g) (o:=o) (n:=33) (cap:=cap) dC (w:=w)),eW Z (k:=g) (off:=o) b ZJ (T:=5) (t:=46) Z (v:=(.int .u8 3)) Z sx (k.trans (by rw[A])) u5,st,st,Fs⟩ λQ w8 d=>?_
    refine Z6 d.ev<|d.T [.x (pv x y),.c (pv x z),.u 2] [] [(2,2,ws x++(ws z))] [2,3,5,6] ⟨ld jX i109,cl ((L ▸ TX C x y)),RG.pt i109,Fs⟩ λa9 w9 u=>?_
    refine Zq <| u.T [.x (pv x z),.x tZ,.u 0,.x tZ] [] [(0,2,ws x++(ws z))] [2,3] ⟨ld jX i109,st,RG.pt i109,st,Fs⟩ λh4 h0 M=>?_
    exact ag (M.r2 0 Z jX i109)
   rw[Id A];have T:ub bs[0]! = 2:=S;refine n.U [.x tZ,.x tZ,.x (v33 g o cap),.x (oZ g o),.x (.int .u8 2),.x fZ,.x fZ] [2,3,5,6,49] ⟨st,st,st,fA Z 22 (t:=45) (iZ 0) Z (.v (v33 g o cap)) sx (λμ w=>Hx (g:=g) (o:=o) (n:=33) (cap:=cap) dC (w:=w)),eW Z (k:=g) (off:=o) b ZJ (T:=5) (t:=46) Z (v:=(.int .u8 2)) Z sx (k.trans (by rw[T])) u5,st,st,Fs⟩ λQ w8 d=>?_
   refine Z2 d.ev<|aw<|Zq <| d.T [.x (pv x y),.x tZ,.u 0,.x tZ] [] [(0,2,ws x++(ws y))] [2,3] ⟨ld jX i109,st,RG.pt i109,st,Fs⟩ λa9 w9 u=>?_
   exact ag (u.r2 0 Z jX i109)
def Arg33(w:Zl)(v:Zm)(bs:Bs):Prop:=∃(p:GJ Addr) (n cap:I),v=.slice p n cap/\bs.size=n/\(n=33->∃g o,p=J ⟨g,o,F⟩/\33<=cap/\g<w.heap.size/\hZ w g o bs)
def Arg33.below{k:Zl}{bs:Bs}(h:Arg33 w v bs)(b:kZ w k):Arg33 k v bs:=by
 obtain⟨p,n,cap,rfl,hs,h1⟩:=h;refine⟨p,n,cap,Z,hs,λd=>?_⟩;let⟨g,o,i,e,c,f⟩:=h1 d
 exact⟨g,o,i,e,Zn c b.size,Holds.below f b c⟩
def wY{bs:Bs}(C:Fld P)(hv:Arg33 w v bs):eZ 117 #[v] w (rdV (rd P bs)):=by
 obtain⟨p,n,cap,rfl,hs,h1⟩:=hv;by_cases k:n=33
 .subst k;obtain⟨g,o,rfl,d,b,c⟩:=h1 Z;exact Yq C g o cap bs w hs d b c
 rw[rd,Id (by rw[hs];exact k)];exact TC C p n cap 0 w k
def bx(n:I):Bs:=be32 (n%2^64) (n/2^64%2^64) (n/2^128%2^64) (n/2^192%2^64)
def dJ(n:I):(bx n).size=32:=by unfold bx;exact Ci
def mark(n:I):Fk:=if n%2=1 then 3 else 2
def wR(x y:B P):Bs:=if x=0/\y=0 then ZA 33 0 else #[mark y.val]++bx x.val
def JI{x:B P}(C:Fld P)(w:Zl):dZ 96 #[fv x] w λe w'=>∃g,e=sZ g 32 32/\w.heap.size<=g/\hZ w' g 0 (bx x.val):=
 (Cr _ _ w (C.four x)).mono (by
  rintro e w' ⟨v,rfl,j,g,a,b,c,d,rfl,l,k,i⟩;refine⟨_,Z,j,g,Z,l,?_⟩;have f:fv x=.agg #[U ((x.val%2^64:I):Y),U ((x.val/2^64%2^64:I):Y),U ((x.val/2^128%2^64:I):Y),U ((x.val/2^192%2^64:I):Y)]:=rfl;rw[f]at k;simp only[ZM.injEq,zi.injEq,sw.injEq,gM.injEq,true_and,and_true,By]at k;obtain⟨rfl,rfl,rfl,rfl⟩:=k;exact i)
def SN(C:Fld P)(y:B P):Gives 95 #[fv y] (.bool (decide (y.val%2=1))):=λw =>
 (JF (C.four y)).mono (by rintro e w' ⟨v,rfl,k,rfl⟩;exact⟨_,Z,k,Z⟩)
def GM:(prog.info? 5).map (λi=>(i.zero,i.size,i.bytes))=J (J (.int .u8 0),1,1):=kR
def LD:prog.underlying 22=J (.slice 5):=kR
def nR(w:Zl)(T:Bs)(e:Zm)(w':Zl):Prop:=∃g cap,e=sZ g 33 cap/\33<=cap/\w.heap.size<=g/\g<w'.heap.size/\hZ w' g 0 T
def J9(w:Zl):(ue 22 (iZ 33) (iZ 33)).run prog w=.ok (sZ w.heap.size 33 33) (w.alloc (.cells (madeCells #[.int .u8 0] 33) 5)):=
 run_make_row' (P:=prog) 22 5 (.int .u8 0) 1 LD GM Z .i64 .i64 33 dC dC w
def Nt(w:Zl)(o:Obj):hZ ((w.alloc o).alloc (.cells (madeCells #[.int .u8 0] 33) 5)) (w.heap.size+1) 0 (ZA 33 0):=by
 have h:=Holds.made (enc:=encB) (w.alloc o) 5 33 (0:Fk);rw[Zy]at h;exact h
omit [NeZero P] in
theorem mH(x y:B P):pv x y=.agg #[U ((x.val%2^64:I):Y),U ((x.val/2^64%2^64:I):Y),U ((x.val/2^128%2^64:I):Y),U ((x.val/2^192%2^64:I):Y),U ((y.val%2^64:I):Y),U ((y.val/2^64%2^64:I):Y),U ((y.val/2^128%2^64:I):Y),U ((y.val/2^192%2^64:I):Y)]:=rfl
def Hm(C:Fld P)(x y:B P)(g:x=0/\y=0)(w:Zl):dZ 45 #[pv x y] w λe w'=>nR w (ZA 33 0) e w':=by
 have k:=NS C (x:=x) (y:=y) (z:=0) (t:=0) g;rw[<-jL,mH]at k;rw[mH];generalize ((x.val%2^64:I):Y)=a at k⊢;generalize ((x.val/2^64%2^64:I):Y)=b at k⊢;generalize ((x.val/2^128%2^64:I):Y)=c at k⊢;generalize ((x.val/2^192%2^64:I):Y)=d at k⊢;generalize ((y.val%2^64:I):Y)=p at k⊢;generalize ((y.val/2^64%2^64:I):Y)=q at k⊢;generalize ((y.val/2^128%2^64:I):Y)=r at k⊢;generalize ((y.val/2^192%2^64:I):Y)=s at k⊢;have i:=J9;generalize hT:(ZA 33 0:Bs)=T;go_enter func45,ntmps45;go_wp2;go_ret;have f:=Nt w (.cells #[U a,U b,U c,U d,U p,U q,U r,U s] 83);rw[hT]at f;exact⟨_,Z,below2 _ _ _,_,33,Z,S,S,by simp,f⟩
def NI{B:Bs}(f:B.size=32)(r:w.cell? ⟨k,0,F⟩=J (.int .u8 m))(o:FE encB w g 0 B)(q:m<256:=by decide):
 ∃(w':Zl) (cap:I),(Builtin.append_ #[22,22] 22 #[sZ k 1 1,sZ g 32 32]).run prog w=.ok (sZ w.heap.size 33 cap) w'/\kZ w w'/\33<=cap/\w.heap.size<w'.heap.size/\FE encB w' w.heap.size 0 (#[ZG m]++B):=by
 obtain⟨i,p,d⟩:=Zp.1 GM;simp only[an.injEq]at d;obtain⟨n,hs,l⟩:=d;have e:=run_append_grow (P:=prog) w 22 22 5 i (.int .u8 0) LD p n (aZ k) 1 1 [.int .u8 m] (by rw[hs];rfl) (λj v b=>by
  cases j with
  | zero =>
   obtain rfl:gM .u8 m=v:=by simpa using b
   rw[yGl];exact r
  | succ j=>simp at b) ⟨g,0,F⟩ 32 32 (B.toList.map encB) (by rw[hs,ZI,ZE,f]) (λj v b=>by
  have c:j<B.size:=by
   have:=(Zz.1 b).1;rwa[ZI,ZE]at this
  rw[yGl,(o j c).1];rw[rm,qi,ZS c]at b;rw[getElem!_pos B j c];exact b) dC dC (by rw[l];decide)
 refine⟨_,_,e,?_,?_,?_,?_⟩
 .exact(Below.refl _ w).drew.trans (aD (w:=w.drew) _)
 .exact grownCap_ge w (1+32) 1 5
 .show w.drew.heap.size<(w.drew.alloc _).heap.size;rw[Zy];exact BT _
 intro j b;have c:(#[ZG m]++B).size=33:=by rw[pq,f];rfl
 refine⟨?_,World.frozen?_alloc_new w.drew _ _ _⟩;show(w.drew.alloc _).cell? ⟨w.drew.heap.size,0+j,F⟩=_;rw[Zs,oX,getElem!_pos _ j b,yDo (by
  rw[pq,kI,kI,ZI,ZE];show j<1+B.size;omega)]
 cases j with
 | zero =>
  rw[yDo (by simp),R.getElem_append_left (by simp)];show J (gM .u8 m)=J (encB (ZG m));rw[encB,tB,ZC q]
 | succ i =>
  rw[R.getElem?_append_right (by simp),R.getElem_append_right (by simp),ZU,rm,qi];show GJ.map encB B[i]? = J (encB B[i]);rw[ZS S];rfl
def RU(w:Zl)(a b c d p q r s:I):IS w w.heap.size [⟨w.heap.size,0,a,b,c,d⟩,⟨w.heap.size,4,p,q,r,s⟩] (w.alloc (.cells #[U a,U b,U c,U d,U p,U q,U r,U s] 83)):=by
 have F:=At8.made w 83 a b c d p q r s Z;refine((Kept.mk1 (aD (w:=w) _) (aD _).size).cons ?_).cons ?_
 .exact⟨F.c4,F.c5,F.c6,F.c7,F.fz⟩
 exact⟨F.c0,F.c1,F.c2,F.c3,F.fz⟩
def Lf(C:Fld P)(x y:Fin P)(V:¬(x=0/\y=0))(ho:y.val%2=1)(w:Zl):dZ 45 #[pv x y] w λe w'=>nR w (#[3]++bx x.val) e w':=by
 have f:=GV C (x:=x) (y:=y) (z:=0) (t:=0) V;rw[<-jL,mH]at f;rw[mH];have i:∀w,eZ 95 #[.agg #[U ((y.val%2^64:I):Y),U ((y.val/2^64%2^64:I):Y),U ((y.val/2^128%2^64:I):Y),U ((y.val/2^192%2^64:I):Y)]] w tZ:=λw=>by
  have h:=SN C y w;rw[decide_eq_true ho]at h;exact h
 have k:∀w,dZ 96 #[.agg #[U ((x.val%2^64:I):Y),U ((x.val/2^64%2^64:I):Y),U ((x.val/2^128%2^64:I):Y),U ((x.val/2^192%2^64:I):Y)]] w λe w'=>∃g,e=sZ g 32 32/\w.heap.size<=g/\hZ w' g 0 (bx x.val):=JI C
 have m:=dJ x.val;generalize bx x.val=B at k m⊢;generalize x.val%2^64=a at f i k⊢;generalize x.val/2^64%2^64=b at f i k⊢;generalize x.val/2^128%2^64=c at f i k⊢;generalize x.val/2^192%2^64=d at f i k⊢;generalize y.val%2^64=p at f i k⊢;generalize y.val/2^64%2^64=q at f i k⊢;generalize y.val/2^128%2^64=r at f i k⊢;generalize y.val/2^192%2^64=s at f i k⊢;have HQ:=mk1 (f);go_enter func45,ntmps45;go_wp2_with fail
 have j:=RU w a b c d p q r s;generalize O:w.heap.size=k0 at j⊢;apply(i _).mono;rintro e u ⟨v,rfl,L,rfl⟩;replace j:=j.call L;let⟨h2,h0,W,T,xf⟩:=j.head
 have zx:=j.head.lt;go_wp2_with fail
 apply(k _).mono;rintro e Q ⟨v,rfl,l,g,rfl,hg,X⟩;have hc:Q.cell? ⟨u.heap.size,0,F⟩=J (.int .u8 3):=by
  rw[l.cell (p:=⟨u.heap.size,0,F⟩) (by show u.heap.size<_;rw[Zy];omega),oX];rfl
 have o:=Zw j.le (Zw (by rw[Zy];omega) l.size);let⟨W3,cp,K,N,A,n,M⟩:=NI m hc X
 go_wp2_with (at_builtin;refine uy _ Z _ _ 22 22 Z _ _ Z Z _ _ K ?_)
 go_ret;refine⟨_,Z,?_,_,cp,Z,A,?_,n,M⟩
 .rw[O];exact(mk1 (((j.alloc _).call l).bl)).trans (N.mono o)
 rw[O];exact o
def Hn(C:Fld P)(x y:Fin P)(V:¬(x=0/\y=0))(ho:¬y.val%2=1)(w:Zl):dZ 45 #[pv x y] w λe w'=>nR w (#[2]++bx x.val) e w':=by
 have f:=GV C (x:=x) (y:=y) (z:=0) (t:=0) V;rw[<-jL,mH]at f;rw[mH];have i:∀w,eZ 95 #[.agg #[U ((y.val%2^64:I):Y),U ((y.val/2^64%2^64:I):Y),U ((y.val/2^128%2^64:I):Y),U ((y.val/2^192%2^64:I):Y)]] w fZ:=λw=>by
  have h:=SN C y w;rw[decide_eq_false ho]at h;exact h
 have k:∀w,dZ 96 #[.agg #[U ((x.val%2^64:I):Y),U ((x.val/2^64%2^64:I):Y),U ((x.val/2^128%2^64:I):Y),U ((x.val/2^192%2^64:I):Y)]] w λe w'=>∃g,e=sZ g 32 32/\w.heap.size<=g/\hZ w' g 0 (bx x.val):=JI C
 have m:=dJ x.val;generalize bx x.val=B at k m⊢;generalize x.val%2^64=a at f i k⊢;generalize x.val/2^64%2^64=b at f i k⊢;generalize x.val/2^128%2^64=c at f i k⊢;generalize x.val/2^192%2^64=d at f i k⊢;generalize y.val%2^64=p at f i k⊢;generalize y.val/2^64%2^64=q at f i k⊢;generalize y.val/2^128%2^64=r at f i k⊢;generalize y.val/2^192%2^64=s at f i k⊢;have HQ:=mk1 (f);go_enter func45,ntmps45;go_wp2_with fail
 have j:=RU w a b c d p q r s;generalize O:w.heap.size=k0 at j⊢;apply(i _).mono;rintro e u ⟨v,rfl,L,rfl⟩;replace j:=j.call L;let⟨h2,h0,W,T,xf⟩:=j.head
 have zx:=j.head.lt;go_wp2_with fail
 apply(k _).mono;rintro e Q ⟨v,rfl,l,g,rfl,hg,X⟩;have hc:Q.cell? ⟨u.heap.size,0,F⟩=J (.int .u8 2):=by
  rw[l.cell (p:=⟨u.heap.size,0,F⟩) (by show u.heap.size<_;rw[Zy];omega),oX];rfl
 have o:=Zw j.le (Zw (by rw[Zy];omega) l.size);let⟨W3,cp,K,N,A,n,M⟩:=NI m hc X
 go_wp2_with (at_builtin;refine uy _ Z _ _ 22 22 Z _ _ Z Z _ _ K ?_)
 go_ret;refine⟨_,Z,?_,_,cp,Z,A,?_,n,M⟩
 .rw[O];exact(mk1 (((j.alloc _).call l).bl)).trans (N.mono o)
 rw[O];exact o
def yK{x y:B P}(C:Fld P)(w:Zl):dZ 45 #[pv x y] w λe w'=>nR w (wR x y) e w':=by
 unfold wR mark;by_cases k:x=0/\y=0
 .rw[GD k];exact Hm C x y k w
 rw[Id k];by_cases ho:y.val%2=1
 .rw[GD ho];exact Lf C x y k ho w
 rw[Id ho];exact Hn C x y k ho w
def Ws(j:N<=512):∃C0:G Zm,C0.length=8*N/\∀w:Zl,(ue 90 (iZ N) (iZ N)).run prog w=.ok (sZ w.heap.size N N) (w.alloc (.cells C0.toArray 83)):=by
 have d:(prog.info? 83).map (λi=>(i.size,decide (i.bytes<=4000),i.zero.isSome))=J (8,H,H):=kR;let⟨i,b,k⟩:=Zp.1 d
 simp only[an.injEq,decide_eq_true_eq]at k;let⟨h1,c,f⟩:=k
 let⟨z,l⟩:=Z8.1 f
 refine⟨(madeCells z.cells (N*8)).toList,by rw[ZE,DH,ax],λw=>?_⟩;have g:(i.bytes:Y)*(N:Y)<=281474976710656:=by
  have:i.bytes*N<=4000*512:=qm c j;have e:((i.bytes*N:I):Y)<=281474976710656:=S;rwa[sg]at e
 have:=run_make (P:=prog) w 90 83 i z kR b l .i64 .i64 (N:Y) (N:Y) S S g S;rw[DP,h1]at this;rw[DE];exact this
def YD(j:N<=512):∃C0:G Zm,C0.length=4*N/\∀w:Zl,(ue 78 (iZ N) (iZ N)).run prog w=.ok (sZ w.heap.size N N) (w.alloc (.cells C0.toArray 81)):=by
 have d:(prog.info? 81).map (λi=>(i.size,decide (i.bytes<=4000),i.zero.isSome))=J (4,H,H):=kR;let⟨i,b,k⟩:=Zp.1 d
 simp only[an.injEq,decide_eq_true_eq]at k;let⟨h1,c,f⟩:=k
 let⟨z,l⟩:=Z8.1 f
 refine⟨(madeCells z.cells (N*4)).toList,by rw[ZE,DH,ax],λw=>?_⟩;have g:(i.bytes:Y)*(N:Y)<=281474976710656:=by
  have:i.bytes*N<=4000*512:=qm c j;have e:((i.bytes*N:I):Y)<=281474976710656:=S;rwa[sg]at e
 have:=run_make (P:=prog) w 78 81 i z kR b l .i64 .i64 (N:Y) (N:Y) S S g S;rw[DP,h1]at this;rw[DE];exact this
structure Rows(sz N:I)(cell:I->G Zm)(m:I)(C:G Zm):Prop where
 len:C.length=sz*N
 row:∀j r,j<m->r<sz->C[sz*j+r]? = (cell j)[r]?
def rq(N:I)(bs:Bs):GJ I:=if bs.size=32/\beV bs.toList<N then J (beV bs.toList) else F
def rqV:GJ I->Zm
 | none=>.tuple #[nv 0,fZ]
 | some n=>.tuple #[nv n,tZ]
def jK:Gives 84 #[] gv1:=λw=>(E9).mono (by rintro e w' ⟨rfl,rfl⟩;exact⟨_,Z,aD _,Z⟩)
def Ip{bs:Bs}(hG:Gap 4624529908474429119 4994812053365940164 1 N)(hv:Arg w v bs):eZ 85 #[gv1,v] w (rqV (rq N bs)):=by
 obtain⟨p,n,cap,rfl,hs,h1⟩:=hv;unfold rq;by_cases b:n=32
 .subst b;obtain⟨g,o,rfl,c,i,d⟩:=h1 Z;apply(Be _ _ _ N g o cap bs hG w hs c i d).mono;rintro e w' ⟨v,rfl,k,⟨hl,j,rfl,f⟩|⟨hl,rfl⟩⟩
  .rw[GD ⟨hs,hl⟩];exact⟨_,Z,k,by rw[f.nv];rfl⟩
  rw[Id (λh=>S)];exact⟨_,Z,k,Z⟩
 apply(OQ _ p n cap w _ _ _ Z b).mono;rintro e w' ⟨v,rfl,k,rfl⟩;rw[Id (λh=>b (hs.symm.trans h.1))];exact⟨_,Z,k,Z⟩
structure RefP(p0 p1 p2 p3 c0 c1 c2 c3 P:I):Prop where
 hp0:p0<18446744073709551616
 hp1:p1<18446744073709551616
 hp2:p2<18446744073709551616
 hp3:p3<18446744073709551616
 hc0:c0<18446744073709551616
 hc1:c1<18446744073709551616
 hc2:c2<18446744073709551616
 hc3:c3<18446744073709551616
 eP:P=val p0 p1 p2 p3
 hP:P+val c0 c1 c2 c3=top
 hP2:top<2*P
def V1:RefP 13822214165235122497 13451932020343611451 18446744073709551614 18446744073709551615 4624529908474429119 4994812053365940164 1 0 Go.Proofs.YtndpeoebngkhmaaGreat.p1:=
 ⟨dC,dC,dC,dC,dC,dC,dC,dC,dK,dK,dK⟩
theorem qO(x y:Zm)(m n:I)(hx:GS x m)(O:GS y n)(w:Zl):
 dZ 74 #[x,y] w λe w'=>∃(v:Zm) (s k:I),e=.tuple #[v,U k]/\GS v s/\k<=1/\s+n=m+top*k:=by
 obtain⟨a,b,c,d,rfl,T,C,V,hd,N⟩:=hx;obtain⟨p,q,r,s,rfl,M,K,P,hs,en⟩:=O;let⟨s0,L,a0,j,l,W⟩:=Cx a p T M
 let⟨s1,A,a1,o,g,e1⟩:=mC b q C K l
 let⟨s2,Q,a2,t,f,e2⟩:=mC c r V P g
 let⟨s3,z,X,i,u,e3⟩:=mC d s hd hs f
 have hv:val s0 s1 s2 s3+n=m+top*z:=by rw[N,en];unfold val top;omega
 go_enter func74,ntmps74;go_wp2;refine yi 5 ?_;rw[ZY];go_wp2;go_region
 go_wp2;rw[ZY];go_wp2;go_region
 go_wp2;rw[ZY];go_wp2;go_region
 go_wp2;rw[ZY];go_wp2;go_region
 go_wp2;rw[ZY];go_wp2
 refine Zx (by simp[results,Tryz.results74,go_sem];rfl) Z ?_;exact⟨_,Z,(jJ _ _ _ _ _).drew.drew.drew.drew,_,_,z,Z,Four.mk j o t i Z,u,hv⟩
def nV(v:Zm)(n:I):Prop:=∃a b c d k f c' e:I,v=.agg #[U a,U b,U c,U d,U k,U f,U c',U e] /\
 a<2^64/\b<2^64/\c<2^64/\d<2^64/\k<2^64/\f<2^64/\c'<2^64/\e<2^64 /\
 n=val a b c d+top*val k f c' e
def Hz{d s u:I}(j:m=a+top*b)(en:n=c+top*d)(h1:s+top*k=a+c)(f:u+top*l=b+d+k)(e:m+n<top*top):m+n=s+top*u:=by
 have o:top*u+top*top*l=top*b+top*d+top*k:=by rw[uj,<-te,f,te,te]
 have g:m+n=s+top*u+top*top*l:=S;have i:l=0:=by
  rcases yFu l with h|h
  .exact h
  have:=I.le_mul_of_pos_right (top*top) h;omega
 rw[g,i,xe,qg]
theorem vM(x y:Zm)(m n:I)(hx:nV x m)(hy:nV y n)(k:m+n<top*top)(w:Zl):
 dZ 76 #[x,y] w λe w'=>nV e (m+n):=by
 obtain⟨a,b,c,d,aa,bb,cc,dd,rfl,ha,hb,hc,hd,O,g,W,A,N⟩:=hx;obtain⟨p,q,r,s,pp,qq,rr,ss,rfl,hp,hq,hr,hs,X,C,h2,z,en⟩:=hy;let⟨s0,k0,a0,t,u,e0⟩:=wS ha hp
 let⟨s1,k1,a1,P,V,e1⟩:=qI hb hq u
 let⟨s2,k2,a2,j,l,e2⟩:=qI hc hr V
 let⟨s3,L,a3,f,Q,e3⟩:=qI hd hs l
 let⟨s4,k4,a4,M,h0,e4⟩:=qI O X Q
 let⟨s5,k5,a5,o,K,e5⟩:=qI g C h0
 let⟨s6,k6,a6,i,v,e6⟩:=qI W h2 K
 let⟨s7,k7,a7,T,h3,e7⟩:=qI A z v
 have v1:val s0 s1 s2 s3+top*L=val a b c d+val p q r s:=by clear N en k e4 e5 e6 e7;unfold val top;omega
 have v2:val s4 s5 s6 s7+top*k7=val aa bb cc dd+val pp qq rr ss+L:=by clear N en k e0 e1 e2 e3;unfold val top;omega
 go_enter func76,ntmps76;go_wp2;refine yi 9 ?_;rw[ZY];go_wp2;go_region
 go_wp2;rw[ZY];go_wp2;go_region
 go_wp2;rw[ZY];go_wp2;go_region
 go_wp2;rw[ZY];go_wp2;go_region
 go_wp2;rw[ZY];go_wp2;go_region
 go_wp2;rw[ZY];go_wp2;go_region
 go_wp2;rw[ZY];go_wp2;go_region
 go_wp2;rw[ZY];go_wp2;go_region
 go_wp2;rw[ZY];go_wp2
 refine Zx (by simp[results,Tryz.results76,go_sem];rfl) Z ?_;exact⟨_,Z,(below3 _ _ _).drew.drew.drew.drew.drew.drew.drew.drew,s0,s1,s2,s3,s4,s5,s6,s7,Z,t,P,j,f,M,o,i,T,Hz N en v1 v2 k⟩
section
def KJ{d r2 e s0 s1 s2 s3 t0 t1 t2 u0 u1 u2 u3 i h1:I}
 (m:j+18446744073709551616*val g r2 e i=a*n+val 0 0 0 0)
 (p:s0+18446744073709551616*val s1 s2 s3 h1=b*n+val g r2 e i)
 (o:t0+18446744073709551616*val t1 t2 k f=c*n+val s1 s2 s3 h1)
 (e3:u0+18446744073709551616*val u1 u2 u3 l=d*n+val t1 t2 k f) :
 val a b c d*n=val j s0 t0 u0+top*val u1 u2 u3 l:=by
 have m:val a b c d*n=val (a*n) (b*n) (c*n) (d*n):=by
  rw[ax,CU,ax n a,ax n b,ax n c,ax n d]
 rw[m];unfold val at *;unfold top;omega
structure PrI(w W:Zl)(k0 k1 k2 k3 a b c d p q r s:I)(L:G I):Prop where
 x:At4 W k0 a b c d
 y:At4 W k1 p q r s
 r:At8 W k2 0 0 0 0 0 0 0 0
 o:At8 W k3 (L.getD 0 0) (L.getD 1 0) (L.getD 2 0) (L.getD 3 0) (L.getD 4 0) (L.getD 5 0) (L.getD 6 0) (L.getD 7 0)
 bl:Below k0 w W
 n:k0<k1/\k1<k2/\k2<k3
section
variable {w W:Zl}{k0 k1 k2 k3 a b c d p q r s x0 x1 x2 x3 x4 x5 x6 x7:Nat}{L:List Nat}
def PrI.dr(h:PrI w W k0 k1 k2 k3 a b c d p q r s L)(n:I):PrI w (W.drewN n) k0 k1 k2 k3 a b c d p q r s L:=⟨h.x.drewN n,h.y.drewN n,h.r.drewN n,h.o.drewN n,lA h.bl,h.n⟩
def PrI.st(h:PrI w W k0 k1 k2 k3 a b c d p q r s [x0,x1,x2,x3,x4,x5,x6,x7])(i v:I)(l:i<8){k:G I}(e:[x0,x1,x2,x3,x4,x5,x6,x7].set i v=k:=by(simp only[Zt,Zu])<;>rfl):PrI w (W.setCell ⟨k3,i,F⟩ (uZ v)) k0 k1 k2 k3 a b c d p q r s k:=by
 subst e;let⟨hx,f,g,ho,j,n⟩:=h
 refine⟨hx.other S _,f.other S _,g.other S _,?_,j.setCell (p:=⟨k3,i,F⟩) (show k0<=k3 by omega) _,n⟩;match i,l with
 | 0,_=>exact ho.set0 v
 | 1,_=>exact ho.set1 v
 | 2,_=>exact ho.set2 v
 | 3,_=>exact ho.set3 v
 | 4,_=>exact ho.set4 v
 | 5,_=>exact ho.set5 v
 | 6,_=>exact ho.set6 v
 | 7,_=>exact ho.set7 v
end
theorem mV(x y:Zm)(m n:I)(hx:GS x m)(hy:GS y n)(w:Zl):
 ae prog 73 #[x,y] w (Ret λe w'=>Below w.heap.size w w'/\nV e (m*n)):=by
 obtain⟨a,b,c,d,rfl,ha,hb,hc,hd,em⟩:=hx;obtain⟨p,q,r,s,rfl,hp,hq,hr,hs,en⟩:=hy;go_enter func73,ntmps73;go_wp2;refine yi 5 ?_;have K:PrI w _ w.heap.size (w.heap.size+1) (w.heap.size+1+1) (w.heap.size+1+1+1) a b c d p q r s [0,0,0,0,0,0,0,0]:=⟨(((At4.made w 46 a b c d Z).alloc _).alloc _).alloc _,((At4.made _ 46 p q r s (Zy _ _)).alloc _).alloc _,(At8.made _ 141 0 0 0 0 0 0 0 0 (by simp)).alloc _,At8.made _ 141 0 0 0 0 0 0 0 0 (by simp),jJ w _ _ _ _,by omega⟩
 generalize pn _ _=W0 at K⊢;generalize h3:w.heap.size+1+1+1=k3 at K⊢;generalize h2:w.heap.size+1+1=k2 at K⊢;generalize h1:w.heap.size+1=k1 at K⊢;generalize h0:w.heap.size=k0 at K⊢;have H0:E (w.heap.size=k0):=h0;have jo:k0≠k3:=S;have gb:k1≠k3:=S;have gr:k2≠k3:=S;clear h0 h1 h2 h3;obtain⟨⟨L,N,C,u,xf⟩,⟨A,M,v,z,yf⟩,-,⟨t,o,f,g,l,k,i,j,of⟩,-,-⟩:=id K;simp only[yCE,yCF,px]at t o f g l k i j;rw[ZY];go_wp2
 refine yi 5 ?_;obtain⟨jp,gy,s00,jq,hk,ia,jk,f5,bo,ht,k6,f7,e8,cu,kh,kb⟩:=dH (x:=a) (y:=p) (o:=0) (c:=0) ha hp dC dC;simp only[px]at ht k6;rw[ZY];go_wp2
 go_quiet ((go_at_call 144;exact ut (bo _)));revert nq;intro kg
 go_wp2_with (first|simp only[ht]|simp only[k6])
 obtain⟨gj,gg,s01,fz,V,gu,ir,ej,b5,b3,hz,eh,fj,bz,b9,c4⟩:=dH (x:=a) (y:=q) (o:=0) (c:=f5) ha hq dC kh;simp only[px]at hz;rw[ZY];go_wp2
 go_quiet ((go_at_call 144;exact ut (b5 _)));revert nq;intro bi
 go_wp2_with (first|simp only[b3]|simp only[hz])
 obtain⟨j4,im,s02,fy,h4,g6,gw,e5,kf,dz,k8,ff,fd,kx,dp,br⟩:=dH (x:=a) (y:=r) (o:=0) (c:=ej) ha hr dC b9;simp only[px]at k8;rw[ZY];go_wp2
 go_quiet ((go_at_call 144;exact ut (kf _)));revert nq;intro kr
 go_wp2_with (first|simp only[dz]|simp only[k8])
 obtain⟨j3,i5,s03,g0,h5,jm,iw,hj,bj,co,k5,ec,ey,dk,ka,c9⟩:=dH (x:=a) (y:=s) (o:=0) (c:=e5) ha hs dC dp;simp only[px]at k5;rw[ZY];go_wp2
 go_quiet ((go_at_call 144;exact ut (bj _)));revert nq;intro d8
 go_wp2_with (first|simp only[co]|simp only[k5])
 rw[ZY];go_wp2
 have fe:=mk1 (tJ (n:=val 0 0 0 0) (p:=0) (q:=0) (r:=0) (s:=0) (x:=a) (l0:=hk) (l1:=V) (l2:=h4) (l3:=h5) en Z kb c4 br c9);replace K:=((((((((K.dr kg).st 0 hk dC).dr bi).st 1 V dC).dr kr).st 2 h4 dC).dr d8).st 3 h5 dC).st 4 hj dC;clear kb bo ht k6 f7 e8 c4 b5 b3 hz eh fj br kf dz k8 ff fd c9 bj co k5 ec ey L N C u xf A M v z yf t o f g l k i j of;generalize zy _ _ _=W1 at K⊢;obtain⟨⟨L,N,C,u,xf⟩,⟨A,M,v,z,yf⟩,-,⟨t,o,f,g,l,k,i,j,of⟩,-,-⟩:=id K;simp only[yCE,yCF,px]at t o f g l k i j;rw[ZY];go_wp2
 refine yi 5 ?_;obtain⟨ik,fn,s10,io,h8,ja,jd,f4,ku,k7,e2,f8,e4,bt,d3,ko⟩:=dH (x:=b) (y:=p) (o:=V) (c:=0) hb hp bz dC;simp only[px]at k7;rw[ZY];go_wp2
 go_quiet ((go_at_call 144;exact ut (ku _)));revert nq;intro df
 go_wp2_with (first|simp only[k7]|simp only[e2])
 obtain⟨g8,jn,s11,g1,P,g2,gh,et,c5,cf,kc,es,z11,be,cz,dx⟩:=dH (x:=b) (y:=q) (o:=h4) (c:=f4) hb hq kx d3;rw[ZY];go_wp2
 go_quiet ((go_at_call 144;exact ut (c5 _)));revert nq;intro de
 go_wp2_with (first|simp only[cf]|simp only[kc])
 obtain⟨jg,i2,s12,i9,T,gt,iy,e7,db,bp,bn,fl,z12,kp,kd,d1⟩:=dH (x:=b) (y:=r) (o:=h5) (c:=et) hb hr dk cz;rw[ZY];go_wp2
 go_quiet ((go_at_call 144;exact ut (db _)));revert nq;intro d0
 go_wp2_with (first|simp only[bp]|simp only[bn])
 obtain⟨j1,j9,s13,gz,X,ix,i7,h9,dm,bf,k9,ep,e6,dw,ke,da⟩:=dH (x:=b) (y:=s) (o:=hj) (c:=e7) hb hs ka kd;rw[ZY];go_wp2
 go_quiet ((go_at_call 144;exact ut (dm _)));revert nq;intro e0
 go_wp2_with (first|simp only[bf]|simp only[k9])
 rw[ZY];go_wp2
 have fg:=mk1 (tJ (n:=val V h4 h5 hj) (p:=V) (q:=h4) (r:=h5) (s:=hj) (x:=b) (l0:=h8) (l1:=P) (l2:=T) (l3:=X) en Z ko dx d1 da);replace K:=((((((((K.dr df).st 1 h8 dC).dr de).st 2 P dC).dr d0).st 3 T dC).dr e0).st 4 X dC).st 5 h9 dC;clear ko ku k7 e2 f8 e4 dx c5 cf kc es z11 d1 db bp bn fl z12 da dm bf k9 ep e6 L N C u xf A M v z yf t o f g l k i j of;generalize zy _ _ _=W2 at K⊢;obtain⟨⟨L,N,C,u,xf⟩,⟨A,M,v,z,yf⟩,-,⟨t,o,f,g,l,k,i,j,of⟩,-,-⟩:=id K;simp only[yCE,yCF,px]at t o f g l k i j;rw[ZY];go_wp2
 refine yi 5 ?_;obtain⟨fu,ig,s20,fp,hg,gs,jb,fm,kv,k4,d2,eu,ek,kw,e1,dd⟩:=dH (x:=c) (y:=p) (o:=P) (c:=0) hc hp be dC;simp only[px]at k4;rw[ZY];go_wp2
 go_quiet ((go_at_call 144;exact ut (kv _)));revert nq;intro c6
 go_wp2_with (first|simp only[k4]|simp only[d2])
 obtain⟨iq,fx,s21,jr,h6,j5,j6,fb,cj,cg,cd,er,fh,cy,ky,b8⟩:=dH (x:=c) (y:=q) (o:=T) (c:=fm) hc hq kp e1;rw[ZY];go_wp2
 go_quiet ((go_at_call 144;exact ut (cj _)));revert nq;intro dy
 go_wp2_with (first|simp only[cg]|simp only[cd])
 obtain⟨i1,ij,s22,gk,W,i3,ge,ef,cp,d9,ba,ez,eg,km,bm,kk⟩:=dH (x:=c) (y:=r) (o:=X) (c:=fb) hc hr dw ky;rw[ZY];go_wp2
 go_quiet ((go_at_call 144;exact ut (cp _)));revert nq;intro dh
 go_wp2_with (first|simp only[d9]|simp only[ba])
 obtain⟨g3,ie,s23,iu,Q,g7,gq,he,ci,d5,kl,f0,f9,b6,b7,dl⟩:=dH (x:=c) (y:=s) (o:=h9) (c:=ef) hc hs ke bm;rw[ZY];go_wp2
 go_quiet ((go_at_call 144;exact ut (ci _)));revert nq;intro d6
 go_wp2_with (first|simp only[d5]|simp only[kl])
 rw[ZY];go_wp2
 have eb:=mk1 (tJ (n:=val P T X h9) (p:=P) (q:=T) (r:=X) (s:=h9) (x:=c) (l0:=hg) (l1:=h6) (l2:=W) (l3:=Q) en Z dd b8 kk dl);replace K:=((((((((K.dr c6).st 2 hg dC).dr dy).st 3 h6 dC).dr dh).st 4 W dC).dr d6).st 5 Q dC).st 6 he dC;clear dd kv k4 d2 eu ek b8 cj cg cd er fh kk cp d9 ba ez eg dl ci d5 kl f0 f9 L N C u xf A M v z yf t o f g l k i j of;generalize zy _ _ _=W3 at K⊢;obtain⟨⟨L,N,C,u,xf⟩,⟨A,M,v,z,yf⟩,-,⟨t,o,f,g,l,k,i,j,of⟩,-,-⟩:=id K;simp only[yCE,yCF,px]at t o f g l k i j;rw[ZY];go_wp2
 refine yi 5 ?_;obtain⟨i6,jl,s30,i4,hi,je,fs,ed,c3,hu,b4,f6,ex,ct,kj,du⟩:=dH (x:=d) (y:=p) (o:=h6) (c:=0) hd hp cy dC;simp only[px]at hu;rw[ZY];go_wp2
 go_quiet ((go_at_call 144;exact ut (c3 _)));revert nq;intro c7
 go_wp2_with (first|simp only[hu]|simp only[b4])
 obtain⟨iz,fq,s31,ft,h7,j7,i8,e9,cx,cn,kn,ew,fk,bh,d7,bc⟩:=dH (x:=d) (y:=q) (o:=W) (c:=ed) hd hq km kj;rw[ZY];go_wp2
 go_quiet ((go_at_call 144;exact ut (cx _)));revert nq;intro cq
 go_wp2_with (first|simp only[cn]|simp only[kn])
 obtain⟨ji,j8,s32,j0,hm,g4,ih,ea,bq,bk,c8,eo,fa,d4,bu,dq⟩:=dH (x:=d) (y:=r) (o:=Q) (c:=e9) hd hr b6 d7;rw[ZY];go_wp2
 go_quiet ((go_at_call 144;exact ut (bq _)));revert nq;intro kt
 go_wp2_with (first|simp only[bk]|simp only[c8])
 obtain⟨ip,il,s33,g9,o33,j2,g5,hw,b2,bd,ds,v33,z33,c0,bv,ki⟩:=dH (x:=d) (y:=s) (o:=he) (c:=ea) hd hs b7 bu;rw[ZY];go_wp2
 go_quiet ((go_at_call 144;exact ut (b2 _)));revert nq;intro kz
 go_wp2_with (first|simp only[bd]|simp only[ds])
 rw[ZY];go_wp2
 have ei:=mk1 (tJ (n:=val h6 W Q he) (p:=h6) (q:=W) (r:=Q) (s:=he) (x:=d) (l0:=hi) (l1:=h7) (l2:=hm) (l3:=o33) en Z du bc dq ki);replace K:=((((((((K.dr c7).st 3 hi dC).dr cq).st 4 h7 dC).dr kt).st 5 hm dC).dr kz).st 6 o33 dC).st 7 hw dC;clear du c3 hu b4 f6 ex bc cx cn kn ew fk dq bq bk c8 eo fa ki b2 bd ds v33 z33 L N C u xf A M v z yf t o f g l k i j of;generalize zy _ _ _=W4 at K⊢;obtain⟨-,-,R,O,BL,hn⟩:=id K;obtain⟨t,o,f,g,l,k,i,j,of⟩:=id O;obtain⟨ic,jh,ii,i0,ib,jf,jj,jc,rf⟩:=id R;simp only[yCE,yCF]at t o f g l k i j;have z3:=O.lt;have z2:=R.lt;rw[ZY];go_wp2
 have RF:=R.self8 hk h8 hg hi h7 hm o33 hw;unfold D2 at RF;refine Zx (by simp[results,Tryz.results73,go_sem,RF.c0,RF.c1,RF.c2,RF.c3,RF.c4,RF.c5,RF.c6,RF.c7];rfl) Z ?_;refine⟨_,Z,?_,hk,h8,hg,hi,h7,hm,o33,hw,Z,cu,bt,kw,ct,bh,d4,c0,bv,?_⟩
 .rw[H0.out];exact xM BL (by omega)
 rw[em];exact KJ fe fg eb ei
end
structure LessI(w wr:Zl)(p0 p1 p2 p3 c0 c1 c2 c3 a b c d e f g h:I):Prop where
 bl:Below w.heap.size w wr
 fr:At8 wr w.heap.size p0 p1 p2 p3 c0 c1 c2 c3
 wi:At8 wr (w.heap.size+1) a b c d e f g h
 re:At4 wr (w.heap.size+1+1) 0 0 0 0
 ha:a<18446744073709551616
 hb:b<18446744073709551616
 hc:c<18446744073709551616
 hd:d<18446744073709551616
 he:e<18446744073709551616
 hf:f<18446744073709551616
 hg:g<18446744073709551616
 hh:h<18446744073709551616
def GB{x y:I}(hx:x<top)(k:y<top):x*y+top<=top*top:=by
 have h1:x*y<=(top-1)*(top-1):=qm S S;have b:(top-1)*(top-1)+top<=top*top:=by unfold top;decide
 omega
def Ap{i p0 p1 p2 c1 c2 d e h:I}(H:IS w i [⟨i,0,p0,p1,p2,m⟩,⟨i,4,j,c1,c2,l⟩,⟨k,0,a,b,c,d⟩,⟨k,4,e,f,g,h⟩,⟨n,0,0,0,0,0⟩] W):W.cell? ⟨i,4,F⟩=J (U j)/\W.cell? ⟨i,5,F⟩=J (U c1)/\W.cell? ⟨i,6,F⟩=J (U c2)/\W.cell? ⟨i,7,F⟩=J (U l)/\W.cell? ⟨k,0,F⟩=J (U a)/\W.cell? ⟨k,1,F⟩=J (U b)/\W.cell? ⟨k,2,F⟩=J (U c)/\W.cell? ⟨k,3,F⟩=J (U d)/\W.cell? ⟨k,4,F⟩=J (U e)/\W.cell? ⟨k,5,F⟩=J (U f)/\W.cell? ⟨k,6,F⟩=J (U g)/\W.cell? ⟨k,7,F⟩=J (U h)/\IS w i [⟨i,0,p0,p1,p2,m⟩,⟨i,4,j,c1,c2,l⟩,⟨k,0,a,b,c,d⟩,⟨k,4,e,f,g,h⟩,⟨n,0,0,0,0,0⟩] W:=
 ⟨H.tail.head.c0,H.tail.head.c1,H.tail.head.c2,H.tail.head.c3,H.tail.tail.head.c0,H.tail.tail.head.c1,H.tail.tail.head.c2,H.tail.tail.head.c3,H.tail.tail.tail.head.c0,H.tail.tail.tail.head.c1,H.tail.tail.tail.head.c2,H.tail.tail.tail.head.c3,H⟩
def or4{d:I}(e:a<2^64)(k:b<2^64)(f:c<2^64)(hd:d<2^64):
 ∃o:I,bits .or .u64 (bits .or .u64 (bits .or .u64 (a:Y) (b:Y)) (c:Y)) (d:Y)=(o:Y)/\(o=0↔(a=0/\b=0/\c=0/\d=0)):=by
 have lt:∀x y:I,x<2^64->y<2^64->x ||| y<2^64:=λx y hx g=>I.or_lt_two_pow (n:=64) hx g
 refine⟨a ||| b ||| c ||| d,?_,?_⟩
 .rw[Bx a b e k,Bx _ c (lt _ _ e k) f,Bx _ d (lt _ _ (lt _ _ e k) f) hd]
 constructor
 .intro h;have h1:=yEG (n:=a ||| b ||| c) (m:=d);have i:=yEt (n:=a ||| b ||| c) (m:=d);have p:=yEG (n:=a ||| b) (m:=c);have j:=yEt (n:=a ||| b) (m:=c);have l:=yEG (n:=a) (m:=b);have q:=yEt (n:=a) (m:=b);omega
 rintro⟨rfl,rfl,rfl,rfl⟩;rfl
def Ko{cc gk:I}(f:P+cc=top)(d:top<2*P)(b:0<k)(g:gk=c+top*k):k*cc+c<gk/\(k*cc+c)%P=gk%P:=by
 have e:gk=k*cc+c+P*k:=by rw[g,<-f,xc,ax cc];omega
 rw[e,I.add_mul_mod_self_left];have:0<P*k:=I.mul_pos S b;exact⟨S,Z⟩
def vQ(p0 p1 p2 p3 c0 c1 c2 c3 P:I)(x:Zm)(m:I)(hp0:p0<18446744073709551616)(hp1:p1<18446744073709551616)(hp2:p2<18446744073709551616)(hp3:p3<18446744073709551616)
 (hc0:c0<18446744073709551616) (hc1:c1<18446744073709551616) (hc2:c2<18446744073709551616) (hc3:c3<18446744073709551616) (eP:P=val p0 p1 p2 p3) (hP:P+val c0 c1 c2 c3=top) (hP2:top<2*P) (hx:nV x m) (w:Zl) :
 dZ 72 #[.agg #[U p0,U p1,U p2,U p3,U c0,U c1,U c2,U c3],x] w λe w'=>GS e (m%P):=by
 obtain⟨a,b,c,d,e,f,g,h,rfl,ha,hb,hc,hd,he,hf,hg,hh,em⟩:=hx;go_enter func72,ntmps72;go_wp2;have HEP:=mk1 (eP);go_loopg [] (val a b c d+top*val e f g h) (λgk wr=>∃(a b c d e f g h:I),LessI w wr p0 p1 p2 p3 c0 c1 c2 c3 a b c d e f g h/\gk=val a b c d+top*val e f g h/\E (gk%P=m%P))
 case atStart =>
  refine⟨a,b,c,d,e,f,g,h,⟨below3 _ _ _,?_,?_,?_,ha,hb,hc,hd,he,hf,hg,hh⟩,Z,?_⟩
  .exact(((At8.made w 54 p0 p1 p2 p3 c0 c1 c2 c3 Z).alloc _).alloc _)
  .exact(At8.made (w.alloc _) 141 a b c d e f g h (Zy _ _)).alloc _
  .exact At4.made ((w.alloc _).alloc _) 46 0 0 0 0 (by simp)
  .rw[em];rfl
 case round =>
  obtain⟨a,b,c,d,e,f,g,h,hI,hgk,HE⟩:=hrel;obtain⟨bl,fr,wi,re,ha,hb,hc,hd,he,hf,hg,hh⟩:=hI;have HB:=mk1 (bl);generalize q2:w.heap.size+1+1=k2 at re⊢;generalize q1:w.heap.size+1=k1 at wi⊢;have H:E (w.heap.size+1=k1/\w.heap.size+1+1=k2):=⟨q1,q2⟩
  have Q1:E (w.heap.size<=k1):=by unfold E;omega
  have Q2:E (w.heap.size<=k2):=by unfold E;omega
  generalize q0:w.heap.size=k0 at fr HB Q1 Q2⊢;have H0:E (w.heap.size=k0):=q0;have n01:k0≠k1:=S;have n12:k1≠k2:=S;have z0:=fr.lt;have z1:=wi.lt;have z2:=re.lt;clear q0 q1 q2;obtain⟨o,ho,hoz⟩:=or4 (a:=e) (b:=f) (c:=g) (d:=h) he hf hg hh;obtain⟨fc0,fc1,fc2,fc3,fc4,fc5,fc6,fc7,ff⟩:=id fr;obtain⟨wc0,wc1,wc2,wc3,wc4,wc5,wc6,wc7,wf⟩:=id wi;obtain⟨rc0,rc1,rc2,rc3,rf⟩:=id re;by_cases hz:o=0
  .obtain⟨rfl,rfl,rfl,rfl⟩:=hoz.1 hz;have hlow:gk=val a b c d:=by rw[hgk];rfl
   have HE2:E (val a b c d%P=m%P):=by unfold E;rw[<-hlow];exact HE.out
   clear hgk HE hoz hlow;subst hz;go_wp2;have N:=At4.made wr 46 a b c d Z;have M0:k0≠wr.heap.size:=qh z0;have M2:k2≠wr.heap.size:=qh z2;have M5:E (k0<=wr.heap.size):=qx z0;have HB0:E (Below k0 w _):=HB.alloc (qx z0) (.cells #[U a,U b,U c,U d] 46);replace fr:=fr.alloc (.cells #[U a,U b,U c,U d] 46);replace re:=re.alloc (.cells #[U a,U b,U c,U d] 46);clear wi fc0 fc1 fc2 fc3 fc4 fc5 fc6 fc7 ff wc0 wc1 wc2 wc3 wc4 wc5 wc6 wc7 wf rc0 rc1 rc2 rc3 rf z0 z1 z2 HB ho;generalize pn _ _=W0 at N fr re HB0⊢;generalize wr.heap.size=k5 at N M0 M2 M5⊢;have hB4:E (a<18446744073709551616/\b<18446744073709551616/\c<18446744073709551616/\d<18446744073709551616):=⟨ha,hb,hc,hd⟩
   have HPP:E (0<P):=by unfold E;have:=hP2;omega
   clear ha hb hc hd hP hP2;have KP:IS w k0 [⟨k5,0,a,b,c,d⟩,⟨k0,0,p0,p1,p2,p3⟩,⟨k2,0,0,0,0,0⟩] W0:=
    (((Kept.mk1 HB0.out (qx fr.lt)).cons re.blk).cons (x:=⟨k0,0,p0,p1,p2,p3⟩) ⟨fr.c0,fr.c1,fr.c2,fr.c3,fr.fz⟩).cons N.blk
   clear fr re N HB0;go_loopg [] (val a b c d) (λgk2 wr2=>∃(a b c d:I),gk2=val a b c d/\IS w k0 [⟨k5,0,a,b,c,d⟩,⟨k0,0,p0,p1,p2,p3⟩,⟨k2,0,0,0,0,0⟩] wr2/\E (a<18446744073709551616/\b<18446744073709551616/\c<18446744073709551616/\d<18446744073709551616)/\E (val a b c d%P=m%P))
   case atStart=>exact⟨a,b,c,d,Z,KP,hB4,HE2⟩
   case round =>
    clear KP hB4 HE2;obtain⟨a,b,c,d,hgk2,KP,hB4,HE2⟩:=hrel;obtain⟨xc0,xc1,xc2,xc3,xf⟩:=KP.head.at4;obtain⟨pc0,pc1,pc2,pc3,pf⟩:=KP.tail.head.at4;have z5:=KP.head.lt;have z0:=KP.tail.head.lt;go_wp2_with fail
    refine(qO _ _ _ _ (Four.mk hB4.1 hB4.2.1 hB4.2.2.1 hB4.2.2.2 Z) (Four.mk hp0 hp1 hp2 hp3 Z) _).mono ?_;rintro r w2 ⟨v,rfl,hb2,v2,t2,j,rfl,⟨a2,b2,c2,d2,rfl,ha2,hb2',hc2,hd2,es2⟩,hj,he2⟩;clear xc0 xc1 xc2 xc3 xf pc0 pc1 pc2 pc3 pf z5 z0;replace KP:=KP.call hb2;clear hb2;have HE3:E (val a2 b2 c2 d2+P=val a b c d+top*j):=by unfold E;rw[<-es2,HEP.out];exact he2
    clear he2 es2;have hj':j=0\/j=1:=S;rcases hj' with rfl|rfl
    .obtain⟨xc0,xc1,xc2,xc3,xf⟩:=KP.head.at4;have z5:=KP.head.lt;go_wp2;go_roundg (val a2 b2 c2 d2)
     case measure=>have:=HE3.out;have:=HPP.out;omega
     case rel =>
      refine⟨a2,b2,c2,d2,Z,?_,⟨ha2,hb2',hc2,hd2⟩,?_⟩
      .exact(KP.put M5.out (by simp only[fT,ZJ,or_false];rintro x (rfl|rfl);exact M0.symm;exact M2.symm) a2 b2 c2 d2).alloc _
      .rw[E,<-HE2.out,show val a b c d=val a2 b2 c2 d2+P by have:=HE3.out;omega,I.add_mod_right]
    .obtain⟨xc0,xc1,xc2,xc3,xf⟩:=KP.head.at4;obtain⟨rc0,rc1,rc2,rc3,rf⟩:=KP.tail.tail.head.at4;have z5:=KP.head.lt;have z3:=KP.tail.tail.head.lt;go_wp2;have RF:=(KP.tail.tail.head.at4.self4 a b c d).alloc (.cells #[U a2,U b2,U c2,U d2] 46);unfold set4 at RF;refine Zx (by simp[results,Tryz.results72,go_sem,RF.c0,RF.c1,RF.c2,RF.c3];rfl) Z ?_;refine⟨_,Z,?_,Four.mk hB4.1 hB4.2.1 hB4.2.2.1 hB4.2.2.2 ?_⟩
     .rw[H0.out];exact(aH KP.bl Q2.out).alloc (by rw[JO];exact KP.le) _
     .rw[<-HE2.out,ZC (by have:=HE3.out;have:=jV ha2 hb2' hc2 hd2;omega)]
  .have hpos:0<val e f g h:=by
    rcases yFu (val e f g h)with h0|h0
    .exact absurd (hoz.2 (by unfold val at h0;omega)) hz
    .exact h0
   have HL:E (_/\_):=Ko hP hP2 hpos hgk;clear hoz hgk hpos;go_wp2;have KP:IS w k0 [⟨k0,0,p0,p1,p2,p3⟩,⟨k0,4,c0,c1,c2,c3⟩,⟨k1,0,a,b,c,d⟩,⟨k1,4,e,f,g,h⟩,⟨k2,0,0,0,0,0⟩] wr:=
    (((((Kept.mk1 HB.out (qx z0)).cons re.blk).cons (x:=⟨k1,4,e,f,g,h⟩) ⟨wi.c4,wi.c5,wi.c6,wi.c7,wi.fz⟩).cons (x:=⟨k1,0,a,b,c,d⟩) ⟨wi.c0,wi.c1,wi.c2,wi.c3,wi.fz⟩).cons (x:=⟨k0,4,c0,c1,c2,c3⟩) ⟨fr.c4,fr.c5,fr.c6,fr.c7,fr.fz⟩).cons (x:=⟨k0,0,p0,p1,p2,p3⟩) ⟨fr.c0,fr.c1,fr.c2,fr.c3,fr.fz⟩
   clear HEP rc0 rc1 rc2 rc3 rf fc0 fc1 fc2 fc3 fr wi re HB;refine anyTill.begin (λw'=>w'.cell? ⟨k0,4,F⟩=J (U c0)/\w'.cell? ⟨k0,5,F⟩=J (U c1)/\w'.cell? ⟨k0,6,F⟩=J (U c2)/\w'.cell? ⟨k0,7,F⟩=J (U c3)/\w'.cell? ⟨k1,0,F⟩=J (U a)/\w'.cell? ⟨k1,1,F⟩=J (U b)/\w'.cell? ⟨k1,2,F⟩=J (U c)/\w'.cell? ⟨k1,3,F⟩=J (U d)/\w'.cell? ⟨k1,4,F⟩=J (U e)/\w'.cell? ⟨k1,5,F⟩=J (U f)/\w'.cell? ⟨k1,6,F⟩=J (U g)/\w'.cell? ⟨k1,7,F⟩=J (U h)/\IS w k0 [⟨k0,0,p0,p1,p2,p3⟩,⟨k0,4,c0,c1,c2,c3⟩,⟨k1,0,a,b,c,d⟩,⟨k1,4,e,f,g,h⟩,⟨k2,0,0,0,0,0⟩] w') 22 mixed (Ap KP.drew) (λhS=>?_);refine anyTill.tq 0 hS ?_;refine anyTill.tq 1 hS ?_;refine anyTill.tq 2 hS ?_;refine anyTill.tq 3 hS ?_;refine anyTill.tq 4 hS ?_;refine anyTill.tq 5 hS ?_;refine anyTill.tq 6 hS ?_;refine anyTill.tq 7 hS ?_;refine anyTill.tq 8 hS ?_;refine anyTill.tq 9 hS ?_;refine anyTill.tq 10 hS ?_;refine anyTill.tq 12 hS ?_;refine anyTill.tq 13 hS ?_;refine anyTill.tq 14 hS ?_;refine anyTill.tq 15 hS ?_;refine anyTill.tq 16 hS ?_;refine anyTill.tq 17 hS ?_;refine anyTill.tq 18 hS ?_;refine anyTill.tq 19 hS ?_;refine anyTill.tq 20 hS ?_;simp only[ah];refine anyTill.step (i:=11) Z kR (λK hK=>?_);go_simp;refine(mV _ _ _ _ (Four.mk he hf hg hh Z) (Four.mk hc0 hc1 hc2 hc3 Z) _).mono ?_;rintro r w1 ⟨v,rfl,hb1,hE1⟩;obtain⟨x0,x1,x2,x3,x4,x5,x6,x7,rfl,hx0,hx1,hx2,hx3,hx4,hx5,hx6,hx7,hxe⟩:=id hE1;clear hxe hS;have KP1:=KP.drew.call hb1;clear hb1 KP;refine hK.out _ _ (λ_=>Ap KP1) ?_;clear hK K;try simp only[ah,Zr,Zu,Zt]
   refine anyTill.step (i:=21) Z kR (λK hK=>?_);go_simp;refine(vM _ _ _ _ hE1 ⟨a,b,c,d,0,0,0,0,Z,ha,hb,hc,hd,dC,dC,dC,dC,Z⟩ (by have h1:=GB (jV he hf hg hh) (jV hc0 hc1 hc2 hc3);have h2:=jV ha hb hc hd;have e0:val 0 0 0 0=0:=rfl;rw[e0,xe,qg];omega) _).mono ?_;rintro r w2 ⟨v,rfl,hb2,hE2⟩;obtain⟨y0,y1,y2,y3,y4,y5,y6,y7,rfl,hy0,hy1,hy2,hy3,hy4,hy5,hy6,hy7,hye⟩:=id hE2;rw[show val 0 0 0 0=0 from Z,xe,qg]at hye;have HY:E (_=_):=hye;clear hye hE1 hE2;have KP2:=KP1.call hb2;clear hb2 KP1;refine hK.out _ _ (λ_=>Ap KP2) ?_;clear hK K;try simp only[ah,Zr,Zu,Zt]
   have fr:At8 w2 k0 p0 p1 p2 p3 c0 c1 c2 c3:=⟨KP2.head.c0,KP2.head.c1,KP2.head.c2,KP2.head.c3,KP2.tail.head.c0,KP2.tail.head.c1,KP2.tail.head.c2,KP2.tail.head.c3,KP2.head.f⟩
   have wi:At8 w2 k1 a b c d e f g h:=⟨KP2.tail.tail.head.c0,KP2.tail.tail.head.c1,KP2.tail.tail.head.c2,KP2.tail.tail.head.c3,KP2.tail.tail.tail.head.c0,KP2.tail.tail.tail.head.c1,KP2.tail.tail.tail.head.c2,KP2.tail.tail.tail.head.c3,KP2.tail.tail.head.f⟩
   have re:At4 w2 k2 0 0 0 0:=KP2.tail.tail.tail.tail.head.at4;have HB:E (Below k0 w w2):=KP2.bl;clear KP2 wc0 wc1 wc2 wc3 wc4 wc5 wc6 wc7 wf z0 z1 z2;obtain⟨wc0,wc1,wc2,wc3,wc4,wc5,wc6,wc7,wf⟩:=id wi;have z1:=wi.lt;refine anyTill.step (i:=22) Z kR (λK hK=>?_);go_simp;refine hK.out _ _ (λh=>zd h) ?_;clear hK K;try simp only[ah,Zr,Zu,Zt]
   refine anyTill.done kR ?_ _;obtain⟨q1,q2⟩:=H.out;have q0:=H0.out;subst q1 q2 q0;go_wp2;go_roundg (val y0 y1 y2 y3+top*val y4 y5 y6 y7)
   case measure=>rw[<-HY.out];exact HL.1
   case rel =>
    refine⟨y0,y1,y2,y3,y4,y5,y6,y7,⟨?_,?_,?_,?_,hy0,hy1,hy2,hy3,hy4,hy5,hy6,hy7⟩,Z,?_⟩
    .exact xM HB.out Q1.out
    .exact fr.other8 n01.symm _ _ _ _ _ _ _ _
    .exact wi.self8 y0 y1 y2 y3 y4 y5 y6 y7
    .exact re.other8 n12 _ _ _ _ _ _ _ _
    .rw[E,<-HY.out,<-HE.out];exact HL.2
def fK{e p0 p1 p2 c1 c2 i d s:I}(h:IS w k [⟨k,0,p0,p1,p2,g⟩,⟨k,4,j,c1,c2,i⟩,⟨e,0,a,b,c,d⟩,⟨f,0,p,q,r,s⟩] W):W.cell? ⟨k,0,F⟩=J (U p0)/\W.cell? ⟨k,1,F⟩=J (U p1)/\W.cell? ⟨k,2,F⟩=J (U p2)/\W.cell? ⟨k,3,F⟩=J (U g)/\W.cell? ⟨k,4,F⟩=J (U j)/\W.cell? ⟨k,5,F⟩=J (U c1)/\W.cell? ⟨k,6,F⟩=J (U c2)/\W.cell? ⟨k,7,F⟩=J (U i)/\W.cell? ⟨e,0,F⟩=J (U a)/\W.cell? ⟨e,1,F⟩=J (U b)/\W.cell? ⟨e,2,F⟩=J (U c)/\W.cell? ⟨e,3,F⟩=J (U d)/\W.cell? ⟨f,0,F⟩=J (U p)/\W.cell? ⟨f,1,F⟩=J (U q)/\W.cell? ⟨f,2,F⟩=J (U r)/\W.cell? ⟨f,3,F⟩=J (U s)/\IS w k [⟨k,0,p0,p1,p2,g⟩,⟨k,4,j,c1,c2,i⟩,⟨e,0,a,b,c,d⟩,⟨f,0,p,q,r,s⟩] W:=
 ⟨h.head.c0,h.head.c1,h.head.c2,h.head.c3,h.tail.head.c0,h.tail.head.c1,h.tail.head.c2,h.tail.head.c3,h.tail.tail.head.c0,h.tail.tail.head.c1,h.tail.tail.head.c2,h.tail.tail.head.c3,h.tail.tail.tail.head.c0,h.tail.tail.tail.head.c1,h.tail.tail.tail.head.c2,h.tail.tail.tail.head.c3,h⟩
theorem MF(p0 p1 p2 f i c1 c2 g P:I)(x y:Zm)(m n:I)(h7:p0<2^64)(W:p1<2^64)(V:p2<2^64)(L:f<2^64)
 (T:i<2^64) (h8:c1<2^64) (N:c2<2^64) (Q:g<2^64) (eP:P=val p0 p1 p2 f) (hP:P+val i c1 c2 g=top) (h5:top<2*P) (hx:GS x m) (hy:GS y n) (w:Zl) :
 ae prog 21 #[.agg #[.int .u64 p0,.int .u64 p1,.int .u64 p2,.int .u64 f,.int .u64 i,.int .u64 c1,.int .u64 c2,.int .u64 g],x,y] w (Ret λe w'=>Below w.heap.size w w'/\GS e (m*n%P)):=by
 obtain⟨a,b,c,d,rfl,ha,hb,hc,hd,em⟩:=id hx;obtain⟨p,q,r,s,rfl,hp,hq,hr,hs,en⟩:=id hy;have HX:E (GS _ _):=hx;have HY:E (GS _ _):=hy;have HL:E (∀(v:Zm) (k:I) (w:Zl),nV v k->ae prog 72 #[.agg #[.int .u64 p0,.int .u64 p1,.int .u64 p2,.int .u64 f,.int .u64 i,.int .u64 c1,.int .u64 c2,.int .u64 g],v] w (Ret λe w'=>Below w.heap.size w w'/\GS e (k%P))):=
  λv k w hv=>vQ p0 p1 p2 f i c1 c2 g P v k h7 W V L T h8 N Q eP hP h5 hv w
 clear em en hx hy ha hb hc hd hp hq hr hs h7 W V L T h8 N Q eP hP h5;go_enter func21,ntmps21;go_wp2_with fail
 have FR:=((((At8.made w 54 p0 p1 p2 f i c1 c2 g Z).alloc (.cells #[.int .u64 a,.int .u64 b,.int .u64 c,.int .u64 d] 46)).alloc (.cells #[.int .u64 p,.int .u64 q,.int .u64 r,.int .u64 s] 46)).alloc (.cells #[.int .u64 0,.int .u64 0,.int .u64 0,.int .u64 0] 46))
 have X:=(((At4.made (w.alloc (.cells #[.int .u64 p0,.int .u64 p1,.int .u64 p2,.int .u64 f,.int .u64 i,.int .u64 c1,.int .u64 c2,.int .u64 g] 54)) 46 a b c d (Zy _ _)).alloc (.cells #[.int .u64 p,.int .u64 q,.int .u64 r,.int .u64 s] 46)).alloc (.cells #[.int .u64 0,.int .u64 0,.int .u64 0,.int .u64 0] 46))
 have Y:=((At4.made ((w.alloc (.cells #[.int .u64 p0,.int .u64 p1,.int .u64 p2,.int .u64 f,.int .u64 i,.int .u64 c1,.int .u64 c2,.int .u64 g] 54)).alloc (.cells #[.int .u64 a,.int .u64 b,.int .u64 c,.int .u64 d] 46)) 46 p q r s (k:=w.heap.size+1+1) (by simp)).alloc (.cells #[.int .u64 0,.int .u64 0,.int .u64 0,.int .u64 0] 46))
 have T3:=At4.made (((w.alloc (.cells #[.int .u64 p0,.int .u64 p1,.int .u64 p2,.int .u64 f,.int .u64 i,.int .u64 c1,.int .u64 c2,.int .u64 g] 54)).alloc (.cells #[.int .u64 a,.int .u64 b,.int .u64 c,.int .u64 d] 46)).alloc (.cells #[.int .u64 p,.int .u64 q,.int .u64 r,.int .u64 s] 46)) 46 0 0 0 0 (k:=w.heap.size+1+1+1) (by simp);have j:=((((Kept.mk1 (jJ w (.cells #[.int .u64 p0,.int .u64 p1,.int .u64 p2,.int .u64 f,.int .u64 i,.int .u64 c1,.int .u64 c2,.int .u64 g] 54) (.cells #[.int .u64 a,.int .u64 b,.int .u64 c,.int .u64 d] 46) (.cells #[.int .u64 p,.int .u64 q,.int .u64 r,.int .u64 s] 46) (.cells #[.int .u64 0,.int .u64 0,.int .u64 0,.int .u64 0] 46)) (jJ w (.cells #[.int .u64 p0,.int .u64 p1,.int .u64 p2,.int .u64 f,.int .u64 i,.int .u64 c1,.int .u64 c2,.int .u64 g] 54) (.cells #[.int .u64 a,.int .u64 b,.int .u64 c,.int .u64 d] 46) (.cells #[.int .u64 p,.int .u64 q,.int .u64 r,.int .u64 s] 46) (.cells #[.int .u64 0,.int .u64 0,.int .u64 0,.int .u64 0] 46)).size).cons Y.blk).cons X.blk).cons (x:=⟨w.heap.size,4,i,c1,c2,g⟩) ⟨FR.c4,FR.c5,FR.c6,FR.c7,FR.fz⟩).cons (x:=⟨w.heap.size,0,p0,p1,p2,f⟩) ⟨FR.c0,FR.c1,FR.c2,FR.c3,FR.fz⟩;simp only[px]at T3;clear FR X Y;generalize pn _ _=W0 at j T3⊢;generalize h3:w.heap.size+1+1+1=k3 at T3⊢;generalize h2:w.heap.size+1+1=A at j⊢;generalize h1:w.heap.size+1=C at j⊢;have Q3:E (w.heap.size<=k3):=by unfold E;omega
 generalize h0:w.heap.size=l at j Q3⊢;have O:∀x∈([⟨l,0,p0,p1,p2,f⟩,⟨l,4,i,c1,c2,g⟩,⟨C,0,a,b,c,d⟩,⟨A,0,p,q,r,s⟩]:G Blk),k3≠x.k:=by simp only[fT,ZJ,or_false];rintro x (rfl|rfl|rfl|rfl)<;>simp only<;>omega
 let⟨h4,M,h6,K,tf⟩:=id T3
 have zt:=T3.lt;go_region_held3 (λw'=>w'.cell? ⟨l,0,F⟩=J (.int .u64 p0)/\w'.cell? ⟨l,1,F⟩=J (.int .u64 p1)/\w'.cell? ⟨l,2,F⟩=J (.int .u64 p2)/\w'.cell? ⟨l,3,F⟩=J (.int .u64 f)/\w'.cell? ⟨l,4,F⟩=J (.int .u64 i)/\w'.cell? ⟨l,5,F⟩=J (.int .u64 c1)/\w'.cell? ⟨l,6,F⟩=J (.int .u64 c2)/\w'.cell? ⟨l,7,F⟩=J (.int .u64 g)/\w'.cell? ⟨C,0,F⟩=J (.int .u64 a)/\w'.cell? ⟨C,1,F⟩=J (.int .u64 b)/\w'.cell? ⟨C,2,F⟩=J (.int .u64 c)/\w'.cell? ⟨C,3,F⟩=J (.int .u64 d)/\w'.cell? ⟨A,0,F⟩=J (.int .u64 p)/\w'.cell? ⟨A,1,F⟩=J (.int .u64 q)/\w'.cell? ⟨A,2,F⟩=J (.int .u64 r)/\w'.cell? ⟨A,3,F⟩=J (.int .u64 s)/\IS w l [⟨l,0,p0,p1,p2,f⟩,⟨l,4,i,c1,c2,g⟩,⟨C,0,a,b,c,d⟩,⟨A,0,p,q,r,s⟩] w') (first|exact fK j|exact fK j.drew|exact fK (j.set4' Q3 O _ _ _ _)|exact fK (j.set4' Q3 O _ _ _ _).drew) (first|(go_at_call 73;apply(mV _ _ _ _ HX HY _).mono;rintro e w1 ⟨v,rfl,z,o⟩;obtain⟨x0,x1,x2,x3,x4,x5,x6,x7,rfl,hn,k6,hj,hu,hk,hm,k4,k5,h9⟩:=id o;clear h9;have hg:E (nV _ _):=o;clear o;replace j:=j.cl z;replace T3:=T3.cl z;clear z;let⟨h4,M,h6,K,tf⟩:=id T3;have zt:=T3.lt)|(go_at_call 72;apply(HL _ _ _ hg).mono;rintro e w2 ⟨v,rfl,t,u⟩;obtain⟨a',b',c',d',rfl,k7,hz,hw,ht,he⟩:=id u;clear he;have hi:E (GS _ _):=u;clear u;replace j:=j.cl t;replace T3:=T3.cl t;clear t;let⟨h4,M,h6,K,tf⟩:=id T3;have zt:=T3.lt))
 go_wp2;have RF:=T3.self4 a' b' c' d';unfold set4 at RF;refine Zx (by simp[results,Tryz.results21,go_sem,RF.c0,RF.c1,RF.c2,RF.c3];rfl) Z ?_;refine⟨_,Z,?_,hi⟩;rw[(mk1 h0).out];exact aH j.bl Q3
def Four.eight{d:I}(h:GS (.agg #[uZ a,uZ b,uZ c,uZ d]) m):
 nV (.agg #[uZ a,uZ b,uZ c,uZ d,uZ 0,uZ 0,uZ 0,uZ 0]) m:=by
 obtain⟨p,q,r,s,e,k,f,g,hs,rfl⟩:=h;simp only[ZM.injEq,zi.injEq,sw.injEq,gM.injEq,true_and,and_true,By]at e;obtain⟨rfl,rfl,rfl,rfl⟩:=e;exact⟨a,b,c,d,0,0,0,0,Z,k,f,g,hs,dC,dC,dC,dC,Z⟩
def Li{u:Zm}(hx:GS v m)(k:GS u n):m+n<top*top:=by
 have h1:=hx.lt;have b:=k.lt;have c:top+top<=top*top:=by unfold top;decide
 omega
theorem MJ(p0 p1 p2 f i c1 c2 g P:I)(x y:Zm)(m n:I)(h7:p0<2^64)(W:p1<2^64)(V:p2<2^64)(L:f<2^64)
 (T:i<2^64) (h8:c1<2^64) (N:c2<2^64) (Q:g<2^64) (eP:P=val p0 p1 p2 f) (hP:P+val i c1 c2 g=top) (h5:top<2*P) (hx:GS x m) (hy:GS y n) (w:Zl) :
 ae prog 25 #[.agg #[.int .u64 p0,.int .u64 p1,.int .u64 p2,.int .u64 f,.int .u64 i,.int .u64 c1,.int .u64 c2,.int .u64 g],x,y] w (Ret λe w'=>Below w.heap.size w w'/\GS e ((m+n)%P)):=by
 obtain⟨a,b,c,d,rfl,ha,hb,hc,hd,em⟩:=id hx;obtain⟨p,q,r,s,rfl,hp,hq,hr,hs,en⟩:=id hy;have HX:E (GS _ _):=hx;have HY:E (GS _ _):=hy;have HL:E (∀(v:Zm) (k:I) (w:Zl),nV v k->ae prog 72 #[.agg #[.int .u64 p0,.int .u64 p1,.int .u64 p2,.int .u64 f,.int .u64 i,.int .u64 c1,.int .u64 c2,.int .u64 g],v] w (Ret λe w'=>Below w.heap.size w w'/\GS e (k%P))):=
  λv k w hv=>vQ p0 p1 p2 f i c1 c2 g P v k h7 W V L T h8 N Q eP hP h5 hv w
 clear em en hx hy ha hb hc hd hp hq hr hs h7 W V L T h8 N Q eP hP h5;go_enter func25,ntmps25;go_wp2_with fail
 have FR:=((((At8.made w 54 p0 p1 p2 f i c1 c2 g Z).alloc (.cells #[.int .u64 a,.int .u64 b,.int .u64 c,.int .u64 d] 46)).alloc (.cells #[.int .u64 p,.int .u64 q,.int .u64 r,.int .u64 s] 46)).alloc (.cells #[.int .u64 0,.int .u64 0,.int .u64 0,.int .u64 0] 46))
 have X:=(((At4.made (w.alloc (.cells #[.int .u64 p0,.int .u64 p1,.int .u64 p2,.int .u64 f,.int .u64 i,.int .u64 c1,.int .u64 c2,.int .u64 g] 54)) 46 a b c d (Zy _ _)).alloc (.cells #[.int .u64 p,.int .u64 q,.int .u64 r,.int .u64 s] 46)).alloc (.cells #[.int .u64 0,.int .u64 0,.int .u64 0,.int .u64 0] 46))
 have Y:=((At4.made ((w.alloc (.cells #[.int .u64 p0,.int .u64 p1,.int .u64 p2,.int .u64 f,.int .u64 i,.int .u64 c1,.int .u64 c2,.int .u64 g] 54)).alloc (.cells #[.int .u64 a,.int .u64 b,.int .u64 c,.int .u64 d] 46)) 46 p q r s (k:=w.heap.size+1+1) (by simp)).alloc (.cells #[.int .u64 0,.int .u64 0,.int .u64 0,.int .u64 0] 46))
 have T3:=At4.made (((w.alloc (.cells #[.int .u64 p0,.int .u64 p1,.int .u64 p2,.int .u64 f,.int .u64 i,.int .u64 c1,.int .u64 c2,.int .u64 g] 54)).alloc (.cells #[.int .u64 a,.int .u64 b,.int .u64 c,.int .u64 d] 46)).alloc (.cells #[.int .u64 p,.int .u64 q,.int .u64 r,.int .u64 s] 46)) 46 0 0 0 0 (k:=w.heap.size+1+1+1) (by simp);have j:=((((Kept.mk1 (jJ w (.cells #[.int .u64 p0,.int .u64 p1,.int .u64 p2,.int .u64 f,.int .u64 i,.int .u64 c1,.int .u64 c2,.int .u64 g] 54) (.cells #[.int .u64 a,.int .u64 b,.int .u64 c,.int .u64 d] 46) (.cells #[.int .u64 p,.int .u64 q,.int .u64 r,.int .u64 s] 46) (.cells #[.int .u64 0,.int .u64 0,.int .u64 0,.int .u64 0] 46)) (jJ w (.cells #[.int .u64 p0,.int .u64 p1,.int .u64 p2,.int .u64 f,.int .u64 i,.int .u64 c1,.int .u64 c2,.int .u64 g] 54) (.cells #[.int .u64 a,.int .u64 b,.int .u64 c,.int .u64 d] 46) (.cells #[.int .u64 p,.int .u64 q,.int .u64 r,.int .u64 s] 46) (.cells #[.int .u64 0,.int .u64 0,.int .u64 0,.int .u64 0] 46)).size).cons Y.blk).cons X.blk).cons (x:=⟨w.heap.size,4,i,c1,c2,g⟩) ⟨FR.c4,FR.c5,FR.c6,FR.c7,FR.fz⟩).cons (x:=⟨w.heap.size,0,p0,p1,p2,f⟩) ⟨FR.c0,FR.c1,FR.c2,FR.c3,FR.fz⟩;simp only[px]at T3;clear FR X Y;generalize pn _ _=W0 at j T3⊢;generalize h3:w.heap.size+1+1+1=k3 at T3⊢;generalize h2:w.heap.size+1+1=A at j⊢;generalize h1:w.heap.size+1=C at j⊢;have Q3:E (w.heap.size<=k3):=by unfold E;omega
 generalize h0:w.heap.size=l at j Q3⊢;have O:∀x∈([⟨l,0,p0,p1,p2,f⟩,⟨l,4,i,c1,c2,g⟩,⟨C,0,a,b,c,d⟩,⟨A,0,p,q,r,s⟩]:G Blk),k3≠x.k:=by simp only[fT,ZJ,or_false];rintro x (rfl|rfl|rfl|rfl)<;>simp only<;>omega
 let⟨h4,M,h6,K,tf⟩:=id T3
 have zt:=T3.lt;go_region_held3 (λw'=>w'.cell? ⟨l,0,F⟩=J (.int .u64 p0)/\w'.cell? ⟨l,1,F⟩=J (.int .u64 p1)/\w'.cell? ⟨l,2,F⟩=J (.int .u64 p2)/\w'.cell? ⟨l,3,F⟩=J (.int .u64 f)/\w'.cell? ⟨l,4,F⟩=J (.int .u64 i)/\w'.cell? ⟨l,5,F⟩=J (.int .u64 c1)/\w'.cell? ⟨l,6,F⟩=J (.int .u64 c2)/\w'.cell? ⟨l,7,F⟩=J (.int .u64 g)/\w'.cell? ⟨C,0,F⟩=J (.int .u64 a)/\w'.cell? ⟨C,1,F⟩=J (.int .u64 b)/\w'.cell? ⟨C,2,F⟩=J (.int .u64 c)/\w'.cell? ⟨C,3,F⟩=J (.int .u64 d)/\w'.cell? ⟨A,0,F⟩=J (.int .u64 p)/\w'.cell? ⟨A,1,F⟩=J (.int .u64 q)/\w'.cell? ⟨A,2,F⟩=J (.int .u64 r)/\w'.cell? ⟨A,3,F⟩=J (.int .u64 s)/\IS w l [⟨l,0,p0,p1,p2,f⟩,⟨l,4,i,c1,c2,g⟩,⟨C,0,a,b,c,d⟩,⟨A,0,p,q,r,s⟩] w') (first|exact fK j|exact fK j.drew|exact fK (j.set4' Q3 O _ _ _ _)|exact fK (j.set4' Q3 O _ _ _ _).drew) (first|(go_at_call 76;apply(vM _ _ _ _ (Four.eight HX) (Four.eight HY) (Li HX HY) _).mono;rintro e w1 ⟨v,rfl,z,o⟩;obtain⟨x0,x1,x2,x3,x4,x5,x6,x7,rfl,hn,k6,hj,hu,hk,hm,k4,k5,h9⟩:=id o;clear h9;have hg:E (nV _ _):=o;clear o;replace j:=j.cl z;replace T3:=T3.cl z;clear z;let⟨h4,M,h6,K,tf⟩:=id T3;have zt:=T3.lt)|(go_at_call 72;apply(HL _ _ _ hg).mono;rintro e w2 ⟨v,rfl,t,u⟩;obtain⟨a',b',c',d',rfl,k7,hz,hw,ht,he⟩:=id u;clear he;have hi:E (GS _ _):=u;clear u;replace j:=j.cl t;replace T3:=T3.cl t;clear t;let⟨h4,M,h6,K,tf⟩:=id T3;have zt:=T3.lt))
 go_wp2;have RF:=T3.self4 a' b' c' d';unfold set4 at RF;refine Zx (by simp[results,Tryz.results25,go_sem,RF.c0,RF.c1,RF.c2,RF.c3];rfl) Z ?_;refine⟨_,Z,?_,hi⟩;rw[(mk1 h0).out];exact aH j.bl Q3
def Gh(x y:Zm)(m n:I)(hx:GS x m)(l:GS y n)(w:Zl):
 eZ 137 #[x,y] w (.bool (decide (m<n))):=by
 obtain⟨a,b,c,d,rfl,ha,N,hc,hd,V⟩:=id hx;obtain⟨p,q,r,s,rfl,T,P,W,hs,en⟩:=id l;have u:=mk1 (hx);have j:=mk1 (l);go_enter func137,ntmps137;go_wp2_with fail
 apply(qO _ _ _ _ u j _).mono;rintro e L ⟨v,rfl,g,v2,t,k,rfl,i,O,he⟩;have f:=mk1 ((below2 w _ _).trans (g.mono (below2 w _ _).size));have hd:decide (m<n)=decide (k=1):=by
  have h1:=i.lt;have o:=u.lt;have z:=j.lt;have:k=0\/k=1:=S;rcases this with rfl|rfl
  .rw[decide_eq_false S,decide_eq_false S]
  rw[decide_eq_true S,decide_eq_true Z]
 have o:=mk1 (hd);obtain⟨Q,M,c',X,rfl,z,C,A,K,es⟩:=id i;have:k=0\/k=1:=S;rcases this with rfl|rfl
 .go_wp2;go_ret;exact⟨_,Z,f.alloc f.size _,by rw[o.out];rfl⟩
 go_wp2;go_ret;exact⟨_,Z,f.alloc f.size _,by rw[o.out];rfl⟩
def At4.setq{d:I}(h:At4 w k a b c d)(q o:I)(f:q<4):
 At4 (w.setCell ⟨k,q,F⟩ (uZ o)) k (if q=0 then o else a) (if q=1 then o else b) (if q=2 then o else c) (if q=3 then o else d):=by
 have e:q=0\/q=1\/q=2\/q=3:=S;rcases e with rfl|rfl|rfl|rfl
 .exact h.set0 o
 .exact h.set1 o
 .exact h.set2 o
 exact h.set3 o
def Qr{d M B:I}(e:a<2^64)(j:b<2^64)(l:c<2^64)(hd:d<2^64)(m:k<32)(g:B<256)(hv:val a b c d=M*256^(k+1)):
 bits .or .u64 (wd a b c d (k/8):Y) ((B*2^(8*(k%8)):I):Y)=((wd a b c d (k/8)+B*2^(8*(k%8)):I):Y)/\wd a b c d (k/8)+B*2^(8*(k%8))<2^64:=by
 have h1:wd a b c d (k/8)=256^(k%8+1)*(M%256^(7-k%8)):=by
  rw[Lz (k/8) S e j l hd,hv,Uf Z Z]
 let⟨f,i⟩:=Wh (y:=M%256^(7-k%8)) (x:=B) (r:=k%8) S g (gD _ (rj dC))
 rw[h1];refine⟨?_,i⟩;rw[Bx _ _ S S,f]
def Qs{d B:I}(f:k<32)(ho:o=wd a b c d (k/8)+B*2^(8*(k%8))):
 val (if k/8=0 then o else a) (if k/8=1 then o else b) (if k/8=2 then o else c) (if k/8=3 then o else d)=val a b c d+B*256^k:=by
 have h:=H9 a b c d (k/8) o S;have e:(256:I)^k=2^(64*(k/8))*2^(8*(k%8)):=by
  rw[<-rn,show 64*(k/8)+8*(k%8)=8*k by omega,I.pow_mul]
 rw[ho,te,<-uj,ax (2^(64*(k/8))) B,uj,<-e]at h;rw[ho];omega
def Oy{i:I}(k:i<s.size):beV (s.data.extract 0 (i+1)).toList=beV (s.data.extract 0 i).toList*256+s[i].toNat:=by
 have e:(s.data.extract 0 (i+1)).toList=(s.data.extract 0 i).toList++[s[i]]:=by
  rw[R.extract_succ_right S k,R.toList_push];rfl
 rw[e,gI];simp[beV]
theorem Iy(s:Fd)(hs:s.size=32)(w:Zl):
 ae prog 136 #[.string s] w (rZ w λe w'=>GS e (beV s.data.toList)):=by
 go_enter func136,ntmps136;go_wp2;have f:=((Kept.mk1 (below2 w (.cells #[U 0,U 0,U 0,U 0] 46) (.cells #[U 0,U 0,U 0,U 0] 46)) (below2 w _ _).size).cons ((At4.made w 46 0 0 0 0 Z).alloc (.cells #[U 0,U 0,U 0,U 0] 46)).blk).cons (At4.made (w.alloc (.cells #[U 0,U 0,U 0,U 0] 46)) 46 0 0 0 0 (Zy _ _)).blk;generalize h1:w.heap.size+1=z at f⊢;have A:z≠w.heap.size:=S;have Q1:E (w.heap.size<=z):=by unfold E;omega
 go_loopg [4] 32 (λgk s4 wr=>∃i a b c d:I,i+gk=32/\s4=iZ i/\IS w w.heap.size [⟨z,0,a,b,c,d⟩,⟨w.heap.size,0,0,0,0,0⟩] wr/\E (GS (.agg #[U a,U b,U c,U d]) (beV (s.data.extract 0 i).toList*256^(32-i))))
 case atStart =>
  refine⟨0,0,0,0,0,Z,Z,f,?_⟩;have:beV (s.data.extract 0 0).toList=0:=by simp[beV]
  rw[this,DB];exact Four.mk dC dC dC dC Z
 case round =>
  obtain⟨i,a,b,c,d,hi,rfl,f,L⟩:=hrel;by_cases P:i<32
  .obtain⟨k,hk⟩:∃k,31-i=k:=⟨_,Z⟩
   have n:k<32:=S;have l:i<s.size:=S;have m:val a b c d=beV (s.data.extract 0 i).toList*256^(k+1)/\a<18446744073709551616/\b<18446744073709551616/\c<18446744073709551616/\d<18446744073709551616:=by
    obtain⟨u,p,c',M,e',h1,g,N,C,K⟩:=L.out;obtain⟨rfl,rfl,rfl,rfl⟩:u=a/\p=b/\c'=c/\M=d:=by
     simp only[ZM.injEq,zi.injEq,sw.injEq,gM.injEq,true_and,and_true,By]at e';exact⟨e'.1.symm,e'.2.1.symm,e'.2.2.1.symm,e'.2.2.2.symm⟩
    exact⟨by rw[<-K,show 32-i=k+1 by omega],h1,g,N,C⟩
   obtain⟨B,O⟩:∃B,s[i].toNat=B:=⟨_,Z⟩
   have p:=O ▸ s[i].toNat_lt;obtain⟨hor,g⟩:=Qr m.2.1 m.2.2.1 m.2.2.2.1 m.2.2.2.2 n p m.1;have N:=f.head.at4.wd (k/8) S;obtain⟨o,ho⟩:∃o,wd a b c d (k/8)+B*2^(8*(k%8))=o:=⟨_,Z⟩
   rw[ho]at hor g;have C:=Qs (a:=a) (b:=b) (c:=c) (d:=d) n ho.symm;have u:E (GS (.agg #[U ((if k/8=0 then o else a:I):Y),U ((if k/8=1 then o else b:I):Y),U ((if k/8=2 then o else c:I):Y),U ((if k/8=3 then o else d:I):Y)]) (beV (s.data.extract 0 (i+1)).toList*256^(32-(i+1)))):=by
    refine Four.mk ?_ ?_ ?_ ?_ ?_
    .split;exact g;exact m.2.1
    .split;exact g;exact m.2.2.1
    .split;exact g;exact m.2.2.2.1
    .split;exact g;exact m.2.2.2.2
    .rw[C,m.1,Oy (s:=s) (i:=i) l,O,show 32-(i+1)=k by omega,xc,oB,uj,ax (256^k) 256]
   obtain⟨y,M⟩:∃y,B*2^(8*(k%8))=y:=⟨_,Z⟩
   rw[M]at hor;obtain⟨v,hv⟩:∃v,wd a b c d (k/8)=v:=⟨_,Z⟩
   rw[hv]at hor N;obtain⟨q,V⟩:∃q,k/8=q:=⟨_,Z⟩
   obtain⟨r,X⟩:∃r,k%8=r:=⟨_,Z⟩
   obtain⟨t,Q⟩:∃t,8*r=t:=⟨_,Z⟩
   have K:q<4:=S;have PT:=λ(v:Zm)=>f.tail.set (j:=z) (i:=q) Q1.out (by simp only[fT,ZJ,or_false];rintro x rfl;exact A) v
   rw[V]at N u;have h0:cW.wrap ((B:Y)*2^t)=(y:Y):=by
    rw[<-Q,<-X,<-M,sg,xL];have:=wrapN (a:=(B*2^(8*(k%8)))) S;rw[sg,xL]at this;exact this
   have T:=f.head.at4.setq q o K;have W:=f.head.lt;have xf:=f.head.f;go_wp2;go_region
   go_wp2;go_roundg (gk-1)
   case measure=>omega
   case rel =>
    refine⟨i+1,_,_,_,_,S,Z,?_,u⟩;exact((PT _).cons T.blk).drew
  .have l:i=32:=S;subst l;have m:s.data.extract 0 32=s.data:=by
    rw[<-hs];exact R.extract_size
   have h1:=L.out;rw[ww,rx,ri,m]at h1;obtain⟨M,K,C,N,V⟩:=f.head.at4;obtain⟨u,n,O,p,Q⟩:=f.tail.head.at4;have W:=f.head.lt;have T:=f.tail.head.lt;go_wp2;have g:=f.tail.head.at4.self4 a b c d;unfold set4 at g;refine Zx (by simp[results,Tryz.results136,go_sem,g.c0,g.c1,g.c2,g.c3];rfl) Z ?_;exact⟨_,Z,aH f.bl (Zo _),(mk1 h1).out⟩
end Go.Proofs.YtndpeoebngkhmaaGreat
