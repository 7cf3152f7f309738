import Derived.Lib.ConvBytes
import Derived.Laws.MathBits
import Derived.Deep.LoopGhost
import Derived.Test.YtndpeoebngkhmaaGreatsv5
set_option linter.unusedVariables false
set_option linter.defProp false
set_option linter.constructorNameAsVariable false
set_option linter.unusedSimpArgs false
set_option maxRecDepth 1000000
set_option maxHeartbeats 4000000
namespace Go.Proofs.YtndpeoebngkhmaaGreat
open _root_ renaming Array->R,Bool->Hc,ByteArray->Fd,Fin->B,Int->Y,List->G,Nat->I,Option->GJ,UInt8->Fk,rfl->Z
open Go.Proofs.YtndpeoebngkhmaaGreat renaming Fld->IO,Gives->FL,Row->FJ,i40->In,oM->S,uZ->U,yGP->GD,yGQ->Id,yGR->Fs
open Go.RowKit renaming Hid->E
open Go.Sort renaming Holds->FE
open _root_.Bool renaming false->D,true->H
open _root_.Option renaming none->F,some->J
open EC NT RG SP
open _root_.And renaming intro->gF
open _root_.Array renaming all_eq_true'->ul,getD_eq_getD_getElem?->ZB,length_toList->ZE,toArray_toList->DE
open _root_.Bool renaming and_eq_true->ZD
open _root_.Fin renaming ext->tj,val_add->yFm,val_mul->xt
open _root_.Go renaming Calls->ae,FuncId->ph,Oper->Z4,Operand->oF,Program->ai,TypeId->ZR,Value->Zm,World->Zl,bodyPost_ret->Zx,execOp->Z0,run_loadVar_mid->um,size_madeCells->DH,undef->am,wpList_load_mid->gS,wpList_plain->sj,wpList_store_mid->ZZ,wp_block->ay,wp_cond_false->Z2,wp_cond_true->Z6,wp_exit->tT,wp_ret->ag,wp_seq->Zq,wp_skip->aw
open _root_.Go.Act renaming put->ah
open _root_.Go.Builtin renaming append_->oT
open _root_.Go.Deferred renaming ofValue->yE7
open _root_.Go.Instr renaming box->aj,buildSlice->pg,indexAt->iB,makeSlice->ue,sliceAt->ux
open _root_.Go.IntKind renaming i64->ZN,wrap_i64->pk
open _root_.Go.Next renaming value->pi
open _root_.Go.Oper renaming wp->ao
open _root_.Go.Operand renaming tmp->yEI
open _root_.Go.Region renaming ready->ZX
open _root_.Go.Result renaming andThen_ok->lp
open _root_.Go.RowKit.Below renaming mono->yEC,refl->ZF
open _root_.Go.RowKit.Hid renaming out->z9
open _root_.Go.Sem renaming run_bind->ZK,run_pure->qj
open _root_.Go.Value renaming agg->ZM,func->yEw,ownBlock->AR
open _root_.Go.World renaming cell?_of_block->ZP,frozen?_of_block->sI,rangeAt_setCells_apart->su,rangeAt_setCells_same->yj,setCells->C8,size_alloc->Zy,there_setCells->ym
open _root_.Int renaming natCast_mul->sg,tdiv_eq_ediv_of_nonneg->yB8,toNat_natCast->DP
open _root_.List renaming cons_append->qo,drop->tr,drop_nil->yDV,drop_succ_cons->yCJ,drop_zero->yDr,getElem?_cons_succ->ZQ,getElem?_cons_zero->ZT,getElem?_eq_getElem->ZH,getElem?_eq_some_iff->Zz,getElem?_set_self->yE3,getElem?_toArray->ZU,getElem_mem->qs,length_append->Zv,length_cons->Z9,length_map->ZI,length_nil->uh,map_append->ty,mem_append->py,mem_append_left->xy,mem_append_right->xz,mem_cons->fT,mem_cons_of_mem->ps,mem_cons_self->pw,mem_map->Z1,mem_of_getElem?->oE,mem_of_mem_take->yDS,mem_singleton->ur,mem_toArray->yCD,nil_append->sy,nodup_cons->yEo,nodup_nil->yF3,not_mem_nil->ZJ,setIfInBounds_toArray->Zr,set_cons_succ->Zt,set_cons_zero->Zu,size_toArray->kI,take->r9,take_succ_cons->DQ,take_zero->xu
open _root_.Nat renaming add_sub_cancel->CA,div_eq_of_lt->qv,le_of_ble_eq_true->qt,le_of_eq->CK,le_of_lt->qx,le_refl->Zo,le_trans->Zw,lt_of_lt_of_le->Zn,lt_of_succ_le->yh,mod_eq_of_lt->ZC,mod_lt->gD,mul_comm->ax,mul_le_mul->qm,mul_le_mul_left->yCO,mul_le_mul_right->z6,mul_pos->yFh,mul_succ->CD,mul_two->yGy,ne_of_gt->pe,not_lt_zero->uv,one_mul->tF,pos_of_neZero->BY,pow_pos->rj,pow_succ->oB,pow_zero->rx,reduceAdd->mi,reduceEqDiff->yFP,sub_self->ww,zero_add->Zs,zero_le->pj,zero_mod->yp
open _root_.Option renaming isSome_iff_exists->Z8,map_eq_some_iff->Zp,some->ZV
open _root_.Or renaming inl->Z5,inr->ZW
open _root_.Prod renaming fst->yD8,mk->an,snd->yD7
open _root_.Subtype renaming ext->At
open Go.Proofs.Tryz
open Go.RowKit Go.Sort Go.Deep
variable {P:Nat}[NeZero P]{N:Nat}
variable {C0 us vs xs z:List Zm}{K base c e g ga gx j k m r:Nat}{Q:Nat->Prop}{T:Nat->LB}{W W' w:Zl}{cap tmps:Array Zm}{f:ph}{l:LB}{l':List Nat}{rs:List (Nat × List Zm)}{t:Tmp}{y:oF}
def atP{o n i:I}(b:i<n)(w:Zl):(iB 102 (qZ k o n c) (iZ i)).run prog w=.ok (oZ k (o+33*i)) w:=by
 go_simp
def Wq(N:I)(l:N<=512):∃C0:G Zm,C0.length=33*N/\∀w:Zl,(ue 102 (iZ N) (iZ N)).run prog w=.ok (sZ w.heap.size N N) (w.alloc (.cells C0.toArray 40)):=by
 have e:prog.underlying 102=J (.slice 40):=kR;have d:(prog.info? 40).map (λi=>(i.size,decide (i.bytes<=4000),i.zero.isSome))=J (33,H,H):=kR;let⟨i,b,k⟩:=Zp.1 d
 simp only[an.injEq,decide_eq_true_eq]at k;let⟨h1,c,g⟩:=k
 let⟨z,m⟩:=Z8.1 g
 refine⟨(madeCells z.cells (N*33)).toList,by rw[ZE,DH,ax],λw=>?_⟩;have j:(i.bytes:Y)*(N:Y)<=281474976710656:=by
  have:i.bytes*N<=4000*512:=qm c l;have f:((i.bytes*N:I):Y)<=281474976710656:=S;rwa[sg]at f
 have:=run_make (P:=prog) w 102 40 i z e b m .i64 .i64 (N:Y) (N:Y) S S j S;rw[DP,h1]at this;rw[DE];exact this
structure Az(w W:Zl)(K k i:I)(L:I->Bs):Prop where
 bl:kZ w W
 lt:K<W.heap.size
 th:W.there K 0 (33*k)
 rw:∀j,j<i->W.rangeAt K (33*j) (aA (L j))
def Az.grow{i:I}{L:I->Bs}(h:Az w W K k i L)(b:kZ W W'):Az w W' K k i L:=
 ⟨h.bl.trans (b.mono h.bl.size),Zn h.lt b.size,eM h.th b h.lt,λj c=>aF (h.rw j c) b h.lt⟩
def Az.put{i:I}{L:I->Bs}(h:Az w W K k i L)(d:w.heap.size<=K)(g:i<k)(c:∀j,j<=i->(L j).size=33):Az w (W.setCells K (33*i) (aA (L i))) K k (i+1) L:=by
 refine⟨RG.below_setCells d _ _ _ h.bl,by rw[setCells_size];exact h.lt,ym h.th _ _ _,λj f=>?_⟩;by_cases b:j=i
 .subst b;refine yj W K _ _ λt e=>?_
  rw[aB (c j (Zo _))]at e;have:=h.th (33*j+t) S;rwa[Zs]at this
 exact su (h.rw j S) K _ _ (ZW (Z5 (by rw[aB (c j S)];omega)))
def XX(P:I)[NeZero P](w:Zl)(k:I)(L:I->Bs)(e:Zm)(w':Zl):Prop:=
 kZ w w'/\(((∀j,j<k->∃p,rd P (L j)=J p)/\∃K,e=.tuple #[sZ K k k,tZ]/\w.heap.size<=K/\K<w'.heap.size/\w'.there K 0 (33*k)/\∀j,j<k->w'.rangeAt K (33*j) (aA (L j)))\/((∃j,j<k/\rd P (L j)=F)/\e=.tuple #[nZ,fZ]))
def Ve(C:IO P)(M o k c:I)(hk:k<=512)(L:I->Bs)(w:Zl)(hg:M<w.heap.size)(hL:∀j,j<k->∃v,w.cell? ⟨M,o+j,F⟩=J v/\Arg33 w v (L j)):
 ae prog 53 #[.func (.func 11) #[] #[],.slice (J ⟨M,o,F⟩) k c] w (Ret (XX P w k L)):=by
 obtain⟨C0,T,h0⟩:=Wq k hk;have x:=h0 w;obtain⟨w1,z⟩:=hE (w.alloc (.cells C0.toArray 40));rw[z.out]at x;have HM:=Hid.mk' x;have K1:E (Az w w1 w.heap.size k 0 L):=by
  have hR:FJ w1 w.heap.size C0:=by rw[<-z.out];exact aE
  refine⟨by rw[<-z.out];exact aD _,hR.1,by rw[<-T];exact hR.2.2,λj hj=>S⟩
 have HC:E (IO P/\(∀j,j<k->∃v,w.cell? ⟨M,o+j,F⟩=J v/\Arg33 w v (L j))/\M<w.heap.size):=⟨C,hL,hg⟩
 obtain⟨d,h4,h2⟩:=Zp.1 uCP;have HD:=mk2 h4 h2;have HO:E (z33.toArray.all (·.oneCell')=H):=by show _=_;decide +kernel
 clear h4 h2 C hL hg h0 T z;go_enter func53,ntmps53;go_wp2;clear x;go_loopg [16] k (λm s16 W=>∃i:I,i+m=k/\s16=iZ i/\E (Az w W w.heap.size k i L/\∀j,j<i->∃p,rd P (L j)=J p))
 exact⟨0,S,Z,K1,λj hj=>S⟩;obtain⟨i,ha,rfl,r⟩:=hrel;by_cases hi:i<k
 .have h6:(i:Y)<(k:Y):=S;obtain⟨v,h3,V⟩:=HC.2.1 i hi;have hc:wr.cell? ⟨M,o+i,F⟩=J v:=by rw[r.1.bl.cell (p:=⟨M,o+i,F⟩) HC.2.2];exact h3
  have HA:E (Arg33 wr v (L i)):=V.below r.1.bl;have h5:=atB M o c hi;rw[show o+1*i=o+i by omega]at h5;clear h3 V;obtain⟨b,A⟩:=yH (L i);rw[A.out]at HA;obtain⟨g,f⟩:∃g:I,True:=⟨0,Fs⟩
  clear f g;cases hr:rd P b with
  | none =>
   go_wp2_with fail
   apply(QZ HC.1 v b wr HA hr).mono;rintro e a ⟨vv,rfl,O,rfl⟩;obtain⟨vz,l⟩:=hE (ZM z33.toArray);rw[l.out];obtain⟨g,f⟩:=hE (a.heap.size);obtain⟨y,s⟩:=hE (a.alloc (.cells z33.toArray 40));obtain⟨Q,u⟩:=hE (y.setCells g 0 z33);have N:E (FJ y g z33/\kZ w y/\w.heap.size<=g):=by
    have n:=r.1.bl.trans (O.mono r.1.bl.size);rw[<-s.out,<-f.out];exact⟨aE,n.alloc n.size _,n.size⟩
   have n:E (kZ w Q):=by rw[<-u.out];exact RG.below_setCells N.2.2 _ _ _ N.2.1
   have K:E (i<k/\rd P (L i)=F):=⟨hi,by rw[A.out];exact hr⟩
   go_wp2_with (first|(refine bH (v:=jZ g) (w':=y) Z (.alloc 40) Z ?_ ?_;(rw[<-s.out,<-f.out];kernel_rfl))|(refine ZZ Z 40 _ _ Z g 0 z33.toArray ?_ ?_ ?_ ?_ ?_ ?_;rfl;exact l.symm;exact N.1.2.2;exact dB;exact HO;rw[show z33.toArray.toList=z33 from Z,u.out])|fail)
   go_ret2
   exact⟨_,Z,n,ZW ⟨⟨i,K⟩,Z⟩⟩
  | some p =>
   have hs:=Iu hr;go_wp2_with fail
   apply(Js HC.1 v b p wr HA hr).mono;rintro e a ⟨vv,rfl,O,rfl⟩;obtain⟨vz,l⟩:=hE (pvl b);rw[l.out];have n:=aB hs;have h7:(aA b).toArray.size=33:=by rw[kI];exact n
   obtain⟨g,f⟩:=hE (a.heap.size);obtain⟨y,s⟩:=hE (a.alloc (.cells z33.toArray 40));obtain⟨Q,u⟩:=hE (y.setCells g 0 (aA b));obtain⟨W4,X⟩:=hE (Q.setCells w.heap.size (33*i) (aA b));have A1:=r.1.grow O;have N:E (FJ y g z33/\kZ a y):=by
    rw[<-s.out,<-f.out];exact⟨aE,aD _⟩
   have F3:E (FJ Q g (aA b)/\Az w Q w.heap.size k i L):=by
    rw[<-u.out];exact⟨N.1.put (by rw[n];rfl),A1.grow (RG.below_setCells (by rw[f.out];exact Zo _) _ _ _ N.2)⟩
   have K4:E (Az w W4 w.heap.size k (i+1) L/\∀j,j<i+1->∃p,rd P (L j)=J p):=by
    have K:∀j,j<i+1->∃p,rd P (L j)=J p:=λj hj=>by
     by_cases h8:j=i
     .subst h8;exact⟨p,by rw[A.out];exact hr⟩
     exact r.2 j S
    have h:=F3.2.put (Zo _) hi (λj hj=>by obtain⟨q,hq⟩:=K j S;exact Iu hq);rw[A.out,X.out]at h;exact⟨h,K⟩
   have K:E ((prog.info? 40).map (·.size)=J (aA b).length/\(prog.info? 40).map (·.size)=J (aA b).toArray.size/\y.there g 0 (aA b).toArray.size/\Q.there w.heap.size (33*i) (aA b).toArray.size):=by
    rw[n,h7];refine⟨dB,dB,N.1.2.2,λt ht=>?_⟩;have:=F3.2.th (33*i+t) S;rwa[Zs]at this
   have h9:=atP (k:=w.heap.size) (o:=0) (c:=k) hi;go_wp2_with (first|(refine bH (v:=jZ g) (w':=y) Z (.alloc 40) Z ?_ ?_;(rw[<-s.out,<-f.out];kernel_rfl))|(refine ZZ Z 40 _ _ Z g 0 (aA b).toArray ?_ ?_ ?_ ?_ ?_ ?_;rfl;exact l.symm;exact K.2.2.1;exact K.2.1;exact bW;rw[show(aA b).toArray.toList=aA b from Z,u.out])|(refine gS Z 40 _ Z g 0 ?_ (aA b) d ?_ ?_ ?_ ?_ ?_;rfl;exact F3.1.2.1;exact HD.1;exact HD.2;exact K.1;rw[show ZM (aA b).toArray=vz from l.out])|(refine ZZ Z 40 _ _ Z w.heap.size (33*i) (aA b).toArray ?_ ?_ ?_ ?_ ?_ ?_;rfl;exact l.symm;exact K.2.2.2;exact K.2.1;exact bW;rw[show(aA b).toArray.toList=aA b from Z,X.out])|fail)
   go_roundg (gk-1);omega;exact⟨i+1,S,Z,K4⟩
 have h6:¬(i:Y)<(k:Y):=S;obtain rfl:i=k:=S;go_wp2
 go_ret2
 exact⟨_,Z,r.1.bl,Z5 ⟨r.2,w.heap.size,Z,Zo _,r.1.lt,r.1.th,r.1.rw⟩⟩
def MY(O:Ord N){a:I}(b:a<N):FL 178 #[nv a] (nv (sMi N 0 a)):=by
 intro w;have h:=FS O 0 a O.pos b;generalize sMi N 0 a=m at h⊢;go_enter func178,ntmps178;refine RG.M.enter [(0,.v (nv a))] 6 kR λa0 k=>?_
 refine Zq <| k.T [.m 0,.m 1] [(0,wn a),(1,RG.z 4)] [] [1,2] ⟨mk 0 93,mk 1 93,Fs⟩ λf j g e d=>?_
 refine Zq <| d.T [.x (nv 0),.x (nv a),.c (nv m),.u 1] [] [(1,3,wn m)] [2] ⟨st,ld u40 In,cl h,RG.pt In,Fs⟩ λa2 i c=>?_
 exact ag (c.rr 1 Z u40 In)
def YB(j:N<=512):∃C0:G Zm,C0.length=37*N/\∀w:Zl,(ue 124 (iZ N) (iZ N)).run prog w=.ok (sZ w.heap.size N N) (w.alloc (.cells C0.toArray 244)):=by
 have d:(prog.info? 244).map (λi=>(i.size,decide (i.bytes<=4000),i.zero.isSome))=J (37,H,H):=kR;let⟨i,b,k⟩:=Zp.1 d
 simp only[an.injEq,decide_eq_true_eq]at k;let⟨h1,c,f⟩:=k
 let⟨z,l⟩:=Z8.1 f
 refine⟨(madeCells z.cells (N*37)).toList,by rw[ZE,DH,ax],λw=>?_⟩;have g:(i.bytes:Y)*(N:Y)<=281474976710656:=by
  have:i.bytes*N<=4000*512:=qm c j;have e:((i.bytes*N:I):Y)<=281474976710656:=S;rwa[sg]at e
 have:=run_make (P:=prog) w 124 244 i z Ft b l .i64 .i64 (N:Y) (N:Y) S S g S;rw[DP,h1]at this;rw[DE];exact this
def Lc(k:∀x∈l.map (·.2),x.size=33)(d:W.rangeAt g 0 (aU l))(b:j<l.length):W.rangeAt g (37*j) (wn (l[j]).1++aA (l[j]).2):=λt u c=>by
 have e:t<37:=by
  have:=(Zz.1 c).1;rw[jN (k _ (Z1.2 ⟨_,qs b,Z⟩))]at this;exact this
 have:=d (37*j+t) u (by rw[mL l k j b t e];exact c);rw[Zs]at this;exact this
def FX(k:∀x∈l.map (·.2),x.size=33)(i:∀j (b:j<l.length),W.rangeAt g (37*j) (wn (l[j]).1++aA (l[j]).2)):W.rangeAt g 0 (aU l):=λt u d=>by
 have f:t<l.length*37:=by
  have:=(Zz.1 d).1;rwa[sM λx hx=>k _ (Z1.2 ⟨x,hx,Z⟩)]at this
 have b:t/37<l.length:=I.div_lt_of_lt_mul S;have e:37*(t/37)+t%37=t:=I.div_add_mod _ _;have c:=mL l k (t/37) b (t%37) (gD _ dC);rw[e,d]at c;have:=i (t/37) b (t%37) u c.symm;rw[e]at this;rw[Zs];exact this
def tmT(N n:I)(x:I × Bs):I × Bs:=(sTi N n x.1,x.2)
structure Tz(w W:Zl)(N n K k3 i:I)(l:LB):Prop where
 bl:kZ w W
 lt:K<W.heap.size
 ne:k3≠K
 th:W.there K 0 (37*l.length)
 r3:FJ W k3 (wn n)
 rw:∀j (hj:j<l.length),j<i->W.rangeAt K (37*j) (wn (tmT N n (l[j])).1++aA (tmT N n (l[j])).2)
def Tz.grow{n i:I}(h:Tz w W N n K c i l)(k:kZ W W'):Tz w W' N n K c i l:=
 ⟨h.bl.trans (k.mono h.bl.size),Zn h.lt k.size,h.ne,eM h.th k h.lt,h.r3.below k,λj d b=>aF (h.rw j d b) k h.lt⟩
def Tz.drew{n i:I}(h:Tz w W N n K k i l):Tz w W.drew N n K k i l:=⟨h.bl.drew,h.lt,h.ne,h.th,h.r3,h.rw⟩
def Tz.put{n d i:I}(h:Tz w W N n K d i l)(m:w.heap.size<=K)(o:i<l.length)(c:∀x∈l.map (·.2),x.size=33):Tz w (W.setCells K (37*i) (wn (tmT N n (l[i])).1++aA (tmT N n (l[i])).2)) N n K d (i+1) l:=by
 have b:∀(j:I) (k:j<l.length),(wn (tmT N n (l[j])).1++aA (tmT N n (l[j])).2).length=37:=λj k=>jN (c _ (Z1.2 ⟨_,qs k,Z⟩))
 refine⟨RG.below_setCells m _ _ _ h.bl,by rw[setCells_size];exact h.lt,h.ne,ym h.th _ _ _,⟨by rw[setCells_size];exact h.r3.1,su h.r3.2.1 K _ _ (Z5 h.ne),ym h.r3.2.2 _ _ _⟩,λj k g=>?_⟩;by_cases e:j=i
 .subst e;refine yj W K _ _ λt f=>?_
  rw[b j k]at f;have:=h.th (37*j+t) S;rwa[Zs]at this
 exact su (h.rw j k S) K _ _ (ZW (Z5 (by rw[b j k];omega)))
section
variable (w:Zl) (n K k3 k7 i s m:Nat) (p:Bs) (l:List (Nat × Bs))
def Rt:I->Zm->Zl->Prop
 | 0,v,_=>v=sZ K l.length l.length
 | 1,v,_=>v=iZ i
 | 2,v,_=>v=nv n
 | 3,v,_=>v=jZ k7
 | 4,v,_=>v=nv s
 | 5,v,_=>v=nv m
 | 6,v,_=>v=oZ k7 4
 | 7,v,_=>v=pvl p
 | 8,v,_=>v=tvl m p
 | 9,v,_=>v=oZ K (0+37*i)
 | _,_,_=>True
def Gt(N:I):Gw:=⟨Rt n K k7 i s m p l,λW=>Tz w W N n K k3 i l/\FJ W k7 (wn s++aA p),λj v W W' k h=>by
 match j,h with
 | 0,h=>exact h
 | 1,h=>exact h
 | 2,h=>exact h
 | 3,h=>exact h
 | 4,h=>exact h
 | 5,h=>exact h
 | 6,h=>exact h
 | 7,h=>exact h
 | 8,h=>exact h
 | 9,h=>exact h
 | _+10,_=>trivial,λW W' k h=>⟨h.1.grow k,h.2.below k⟩⟩
end
def eO(O:Ord N){n:I}(hn:n<N)(B:I)(s:Zm)(l:G (I × Bs))(hl:l.length<=512)(k0:∀x∈l.map (·.2),x.size=33)(hq:∀x∈l,x.1<N)(w:Zl)(hS:Sm B w s l):
 ae prog 128 #[s,nv n] w (rZ w λe w'=>Sm w.heap.size w' e (l.map (tmT N n))):=by
 obtain⟨g,c,rfl,hc,-,hg,hr⟩:=hS;have HB:=Hid.mk' (boxS n (w:=w));obtain⟨L,r⟩:∃L,E (w.alloc (.cells (wn n).toArray 93)=L):=⟨_,Z⟩
 rw[r.out]at HB;obtain⟨T,C⟩:∃k,E (w.heap.size=k):=⟨_,Z⟩
 obtain⟨K,hK⟩:∃k,E (L.heap.size=k):=⟨_,Z⟩
 have e1:K=T+1:=by rw[<-hK.out,<-C.out,<-r.out,Zy]
 obtain⟨C0,he,hm⟩:=YB (N:=l.length) hl;have X:=hm L;obtain⟨w2,P⟩:∃w2,E (L.alloc (.cells C0.toArray 244)=w2):=⟨_,Z⟩
 rw[P.out,hK.out]at X;rw[C.out]at HB;have K2:E (Tz w w2 N n K T 0 l):=by
  have f:FJ L T (wn n):=by rw[<-r.out,<-C.out];exact aE (w:=w)
  have b1:kZ w L:=by rw[<-r.out];exact aD _
  have o:kZ L w2:=by rw[<-P.out];exact aD _
  have d:FJ w2 K C0:=by rw[<-P.out,<-hK.out];exact aE (w:=L)
  exact⟨b1.trans (o.mono b1.size),d.1,S,by rw[<-he];exact d.2.2,f.below o,λj hj q=>S⟩
 have A:E (Ord N/\n<N/\(∀x∈l.map (·.2),x.size=33)/\(∀x∈l,x.1<N)/\g<w.heap.size/\w.rangeAt g 0 (aU l)/\w.heap.size<=K):=⟨O,hn,k0,hq,hg,hr,by rw[C.out];omega⟩
 obtain⟨d',h8,k1⟩:=Zp.1 uT;have HD:E (prog.underlying 244=J d'/\d'.isRow=H):=⟨h8,k1⟩
 obtain⟨vn,ka⟩:∃v,E (nv n=v):=⟨_,Z⟩
 rw[ka.out]at HB⊢;clear h8 k1 O hn k0 hq hg hr hm he r P hK C e1;go_enter func128,ntmps128;go_wp2_with (first|(refine aI (u:=vn) (v:=jZ T) (w':=L) Z 93 (.tmp 1) Z ?_ ?_ ?_;rfl;exact HB.out)|fail)
 clear X;go_loopg [13] l.length (λm s13 W=>∃i:I,i+m=l.length/\s13=iZ i/\E (Tz w W N n K T i l))
 case atStart=>exact⟨0,S,Z,K2⟩
 case round =>
  clear K2 HB;obtain⟨i,kc,rfl,KM⟩:=hrel;by_cases q:i<l.length
  .have k5:(i:Y)<(l.length:Y):=S;obtain⟨s,h7⟩:∃s,E ((l[i]'q).1=s):=⟨(l[i]'q).1,(rfl:(l[i]'q).1=(l[i]'q).1)⟩
   obtain⟨p,h6⟩:∃p,E ((l[i]'q).2=p):=⟨(l[i]'q).2,(rfl:(l[i]'q).2=(l[i]'q).2)⟩
   have Q:E (p.size=33):=by rw[<-h6.out];exact A.2.2.1 _ (Z1.2 ⟨_,qs q,Z⟩)
   have k9:E (s<N):=by rw[<-h7.out];exact A.2.2.2.1 _ (qs q)
   have B0:E (wr.rangeAt g (37*i) (wn s++aA p)):=by
    have h:=aF (Lc A.2.2.1 A.2.2.2.2.2.1 (j:=i) q) KM.bl A.2.2.2.2.1;rw[h7.out,h6.out]at h;exact h
   obtain⟨o,M⟩:∃k,E (wr.heap.size=k):=⟨_,Z⟩
   obtain⟨W1,h5⟩:∃W1,E (wr.alloc (.cells zT.toArray 244)=W1):=⟨_,Z⟩
   obtain⟨W2,h4⟩:∃W2,E (W1.setCells o 0 (wn s++aA p)=W2):=⟨_,Z⟩
   have f:(wn s++aA p).length=37:=jN Q.out;have F1:E (FJ W1 o zT/\kZ wr W1):=by rw[<-h5.out,<-M.out];exact⟨aE (w:=wr),aD (w:=wr) _⟩
   have F2:E (FJ W2 o (wn s++aA p)/\Tz w W2 N n K T i l):=by
    rw[<-h4.out];exact⟨F1.1.put (by rw[f];rfl),KM.grow (RG.below_setCells (by rw[M.out];exact Zo _) _ _ _ F1.2)⟩
   have k6:E ((prog.info? 244).map (·.size)=J (wn s++aA p).length):=by show _=_;rw[f];exact iT
   have hw:E ((prog.info? 244).map (·.size)=J (wn s++aA p).toArray.size/\W1.there o 0 (wn s++aA p).toArray.size):=by
    have e:(wn s++aA p).toArray.size=37:=by rw[kI];exact f
    rw[e];exact⟨iT,F1.1.2.2⟩
   have k8:E ((wn s++aA p).toArray.all (·.oneCell')=H):=by
    show _=_;rw[ul];intro u hu;exact cells_one (n:=s) (a:=p) u (yCD.1 hu)
   have kb:=atT g 0 (n:=l.length) c (i:=i) q;obtain⟨vt,k4⟩:∃v,E (ZM (wn s++aA p).toArray=v):=⟨_,Z⟩
   have HL:E (i<l.length):=q;clear f KM F1;go_wp2_with (first|(refine gS Z 244 _ Z g (37*i) ?_ (wn s++aA p) d' ?_ ?_ ?_ ?_ ?_;rfl;exact B0.out;exact HD.1;exact HD.2;exact k6.out;rw[k4.out])|(refine bH (v:=jZ o) (w':=W1) Z (.alloc 244) Z ?_ ?_;(rw[<-h5.out,<-M.out];kernel_rfl))|(refine ZZ Z 244 _ _ Z o 0 (wn s++aA p).toArray ?_ ?_ ?_ ?_ ?_ ?_;rfl;exact k4.symm;exact hw.2;exact hw.1;exact k8.out;rw[show(wn s++aA p).toArray.toList=wn s++aA p from Z,h4.out])|fail)
   clear h5 h4 M;refine(Gt w n K T o i s (sTi N n s) p l N).tail2 10 kR kR kR ⟨
    bK λa W d=>⟨[(5,sZ K l.length l.length)],sZ K l.length l.length,W,⟨d.o 5 kR,Fs⟩,kR,ZF _ _,Z⟩,
    bK λa W d=>⟨[(6,iZ i)],iZ i,W,⟨d.o 6 kR,Fs⟩,kR,ZF _ _,Z⟩,
    jO (T:=93) 3 Z Go.Proofs.YtndpeoebngkhmaaGreat.u40 λa W d=>⟨T,0,wn n,d.o 3 kR,d.b.1.r3.2.1,In,Z⟩,
    bK λa W d=>⟨[(7,jZ o)],jZ o,W,⟨d.o 7 kR,Fs⟩,kR,ZF _ _,Z⟩,
    jO (T:=93) 21 Z Go.Proofs.YtndpeoebngkhmaaGreat.u40 λa W d=>⟨o,0,wn s,d.n 3 21 kR kR,lM d.b.2.2.1,In,Z⟩,
    fM λa W d=>⟨[(20,nv n),(22,nv s)],113,#[nv n,nv s],⟨d.n 2 20 kR kR,d.n 4 22 kR kR,Fs⟩,kR,(kA A.1 n s A.2.1 k9.out W).mono (by
     rintro e W' ⟨u,rfl,V,rfl⟩;exact⟨_,Z,V,Z⟩)⟩,
    bK λa W d=>⟨[(7,jZ o)],oZ o 4,W,⟨d.o 7 kR,Fs⟩,kR,ZF _ _,Z⟩,
    jO (T:=40) 24 Z uCP λa W d=>⟨o,4,aA p,d.n 6 24 kR kR,mY (xs:=wn s) d.b.2.2.1,by rw[aB Q.out];exact dB,Z⟩,
    bK λa W d=>⟨[(23,nv (sTi N n s)),(25,pvl p)],tvl (sTi N n s) p,W,⟨d.n 5 23 kR kR,d.n 7 25 kR kR,Fs⟩,by
     rw[an.injEq];refine⟨kR,?_⟩;refine Eq.trans (b:=((Instr.build 244 #[(0,nv (sTi N n s)),(1,pvl p)]) >>= λv=>pure (pi v)).run prog W) kR ?_;rw[ZK,XF Q.out];rfl,ZF _ _,Z⟩,
    bK λa W d=>⟨[(18,sZ K l.length l.length),(19,iZ i)],.pointer (J ⟨K,0+37*i,F⟩),W,⟨d.n 0 18 kR kR,d.n 1 19 kR kR,Fs⟩,by
     rw[an.injEq];refine⟨kR,?_⟩;show((iB 124 (sZ K l.length l.length) (iZ i)) >>= λv=>pure (pi v)).run prog W=_;rw[ZK,atT K 0 (n:=l.length) l.length (i:=i) HL.out];rfl,ZF _ _,Z⟩,Fs⟩ ⟨F2.2.drew,F2.1⟩ ?_
   intro V W3 h0 h3;have ha:V 8=tvl (sTi N n s) p:=h0 8 dC;have h9:V 9=.pointer (J ⟨K,0+37*i,F⟩):=h0 9 dC;have d:(wn (sTi N n s)++aA p).length=37:=jN Q.out;obtain⟨W4,hk⟩:∃W4,E (W3.setCells K (37*i) (wn (sTi N n s)++aA p)=W4):=⟨_,Z⟩
   have K4:E (Tz w W4 N n K T (i+1) l):=by
    have h:=h3.1.put A.2.2.2.2.2.2 HL.out A.2.2.1;have e:tmT N n (l[i]'HL.out)=(sTi N n s,p):=by
     have h1:=h7.out;have h2:=h6.out;unfold tmT;rw[h1,h2]
    rw[e]at h;rw[<-hk.out];exact h
   have HT:E (W3.there K (37*i) (wn (sTi N n s)++aA p).toArray.size/\(prog.info? 244).map (·.size)=J (wn (sTi N n s)++aA p).toArray.size/\(wn (sTi N n s)++aA p).toArray.all (·.oneCell')=H):=by
    have e:(wn (sTi N n s)++aA p).toArray.size=37:=by rw[kI];exact d
    refine⟨λt ht=>?_,by rw[e];exact iT,?_⟩
    .rw[e]at ht;have:=h3.1.th (37*i+t) (by have:=HL.out;omega);rwa[Zs]at this
    .rw[ul];intro u hu;exact cells_one (a:=p) u (yCD.1 hu)
   dsimp only[cD,mi,r9,tr];simp only[ah,Zr,Zt,Zu];obtain⟨vz,k2⟩:∃v,E (tvl (sTi N n s) p=v):=⟨_,Z⟩
   rw[ha,h9,k2.out,Zs];clear h0 h3 ha h9 d F2;generalize V 0=s0;generalize V 1=s1;generalize V 2=s2;generalize V 3=s3;generalize V 4=s4;generalize V 5=s5;generalize V 6=s6;generalize V 7=s7;go_wp2_with (first|(refine ZZ Z 244 _ _ Z K (37*i) (wn (sTi N n s)++aA p).toArray ?_ ?_ ?_ ?_ ?_ ?_;rfl;exact k2.symm;exact HT.1;exact HT.2.1;exact HT.2.2;rw[show(wn (sTi N n s)++aA p).toArray.toList=wn (sTi N n s)++aA p from Z,hk.out])|fail)
   go_roundg (gk-1)
   case measure=>omega
   case rel=>exact⟨i+1,S,Z,K4⟩
  .have k5:¬(i:Y)<(l.length:Y):=S;obtain rfl:i=l.length:=S;have d:E (kZ w wr/\Sm w.heap.size wr (sZ K l.length l.length) (l.map (tmT N n))):=by
    refine⟨KM.bl,K,l.length,by rw[ZI],by rw[ZI];exact Zo _,A.2.2.2.2.2.2,KM.lt,FX (λx hx=>?_) λj hj=>?_⟩
    .obtain⟨y,o,rfl⟩:=Z1.1 hx;obtain⟨z,f,rfl⟩:=Z1.1 o;exact A.2.2.1 _ (Z1.2 ⟨z,f,Z⟩)
    .rw[G.getElem_map];rw[ZI]at hj;exact KM.rw j hj hj
   clear KM;go_wp2;go_ret;exact⟨_,Z,d.1,d.2⟩
namespace SPA
structure Md(N:I)[NeZero N](M:Type) where
 ad:M->M->M
 zo:M
 ac:(B N)->M->M
 comm:∀a b,ad a b=ad b a
 assoc:∀a b c,ad (ad a b) c=ad a (ad b c)
 zadd:∀a,ad zo a=a
 acAd:∀r a b,ac r (ad a b)=ad (ac r a) (ac r b)
 adAc:∀r s a,ac (r+s) a=ad (ac r a) (ac s a)
 acAc:∀r s a,ac r (ac s a)=ac (r*s) a
 acOne:∀a,ac 1 a=a
 zac:∀a,ac 0 a=zo
variable {N:Nat}[NeZero N]{M:Type}
namespace Md
variable (D:Md N M)
def XO(a:M):D.ad a D.zo=a:=by rw[D.comm,D.zadd]
def swap(a b c d:M):D.ad (D.ad a b) (D.ad c d)=D.ad (D.ad a c) (D.ad b d):=by
 rw[D.assoc,<-D.assoc b,D.comm b c,D.assoc c,<-D.assoc]
def acz(r:(B N)):D.ac r D.zo=D.zo:=by
 have h:=D.zac D.zo;rw[<-h,D.acAc,show r*0=(0:(B N)) by grind]
def sm(f:I->M):I->M
 | 0=>D.zo
 | n+1=>D.ad (sm f n) (f n)
def oK{f g:I->M}:∀n,(∀i,i<n->f i=g i)->D.sm f n=D.sm g n
 | 0,_=>rfl
 | n+1,h=>by
  show D.ad _ _=D.ad _ _;rw[oK n λi k=>h i S,h n S]
def DV(f g:I->M):∀n,D.sm (λi=>D.ad (f i) (g i)) n=D.ad (D.sm f n) (D.sm g n)
 | 0=>(D.zadd _).symm
 | n+1=>by
  show D.ad _ _=D.ad (D.ad _ _) (D.ad _ _);rw[DV f g n,D.swap]
def Ij(r:(B N))(f:I->M):∀n,D.sm (λi=>D.ac r (f i)) n=D.ac r (D.sm f n)
 | 0=>(D.acz r).symm
 | n+1=>by
  show D.ad _ _=D.ac r (D.ad _ _);rw[Ij r f n,D.acAd]
def LX(f:I->M)(n:I):∀m,D.sm f (n+m)=D.ad (D.sm f n) (D.sm (λi=>f (n+i)) m)
 | 0=>(D.XO _).symm
 | m+1=>by
  show D.ad (D.sm f (n+m)) _=D.ad _ (D.ad _ _);rw[LX f n m,D.assoc];rfl
instance:Std.Associative D.ad:=⟨D.assoc⟩
instance:Std.Commutative D.ad:=⟨D.comm⟩
def dt(a:I->(B N))(g:I->M)(n:I):M:=D.sm (λi=>D.ac (a i) (g i)) n
def GY(a:I->(B N))(g:I->M)(n m:I):D.dt a g (n+m)=D.ad (D.dt a g n) (D.dt (λi=>a (n+i)) (λi=>g (n+i)) m):=D.LX _ n m
def GZ(x y:(B N))(b:x*y=1)(a c:I->(B N))(g k:I->M)(n:I):
 D.dt (λi=>x*a i+y*c i) (λi=>D.ad (D.ac y (g i)) (D.ac x (k i))) n
  = D.ad (D.ad (D.ac (x*x) (D.dt a k n)) (D.ad (D.dt a g n) (D.dt c k n))) (D.ac (y*y) (D.dt c g n)):=by
 unfold dt;rw[<-D.Ij,<-D.Ij,<-D.DV,<-D.DV,<-D.DV];refine D.oK n λi _=>?_
 rw[D.acAd,D.acAc,D.acAc,D.acAc,D.acAc,show(x*a i+y*c i)*y=a i+y*y*c i by grind,show(x*a i+y*c i)*x=x*x*a i+c i by grind,D.adAc,D.adAc]
 ac_rfl
def Ji(a c:I->(B N))(g:I->M)(n:I):D.dt (λi=>a i+c i) g n=D.ad (D.dt a g n) (D.dt c g n):=by
 unfold dt;rw[<-D.DV];exact D.oK n λi _=>D.adAc _ _ _
def Ss(r:(B N))(a:I->(B N))(g:I->M)(n:I):D.dt (λi=>r*a i) g n=D.ac r (D.dt a g n):=by
 unfold dt;rw[<-D.Ij];exact D.oK n λi _=>(D.acAc _ _ _).symm
end Md
def own(N:I)[NeZero N]:Md N (B N) where
 ad:=(·+·)
 zo:=0
 ac:=(·*·)
 comm:=by grind
 assoc:=by grind
 zadd:=by grind
 acAd:=by grind
 adAc:=by grind
 acAc:=by grind
 acOne:=by grind
 zac:=by grind
namespace Md
variable (D:Md N M)
def pr(a b:I->(B N))(n:I):(B N):=(own N).dt a b n
def hd(a b:I->(B N))(g h:I->M)(u:M)(n:I):M:=D.ad (D.ad (D.dt a g n) (D.dt b h n)) (D.ac (pr a b n) u)
def lf(a b:I->(B N))(g h:I->M)(u:M)(n:I):M:=D.hd a (λi=>b (n+i)) (λi=>g (n+i)) h u n
def rt(a b:I->(B N))(g h:I->M)(u:M)(n:I):M:=D.hd (λi=>a (n+i)) b g (λi=>h (n+i)) u n
def fS(x y:(B N))(n:I)(a:I->(B N))(i:I):(B N):=x*a i+y*a (n+i)
def fP(x y:(B N))(n:I)(g:I->M)(i:I):M:=D.ad (D.ac x (g i)) (D.ac y (g (n+i)))
def halved(x y:(B N))(k:x*y=1)(a b:I->(B N))(g h:I->M)(u:M)(n:I):
 D.hd (fS x y n a) (fS y x n b) (D.fP y x n g) (D.fP x y n h) u n
  = D.ad (D.ad (D.ac (x*x) (D.lf a b g h u n)) (D.hd a b g h u (n+n))) (D.ac (y*y) (D.rt a b g h u n)):=by
 have c:=D.GZ x y k a (λi=>a (n+i)) g (λi=>g (n+i)) n;have d:=D.GZ y x (by rw[<-k];grind) b (λi=>b (n+i)) h (λi=>h (n+i)) n;have e3:=(own N).GZ x y k a (λi=>a (n+i)) b (λi=>b (n+i)) n;unfold lf rt hd pr;rw[show D.dt (fS x y n a) (D.fP y x n g) n=_ from c,show D.dt (fS y x n b) (D.fP x y n h) n=_ from d,show(own N).dt (fS x y n a) (fS y x n b) n=_ from e3,D.GY,D.GY,(own N).GY];simp only[D.acAd,D.acAc];rw[show(own N).ad ((own N).ad ((own N).ac (x*x) ((own N).dt a (λi=>b (n+i)) n)) ((own N).ad ((own N).dt a b n) ((own N).dt (λi=>a (n+i)) (λi=>b (n+i)) n))) ((own N).ac (y*y) ((own N).dt (λi=>a (n+i)) b n))
  = (x*x*(own N).dt a (λi=>b (n+i)) n+(own N).ad ((own N).dt a b n) ((own N).dt (λi=>a (n+i)) (λi=>b (n+i)) n))+y*y*(own N).dt (λi=>a (n+i)) b n from Z,D.adAc,D.adAc]
 ac_rfl
def NF(a b:I->(B N))(g h:I->M)(u:M):D.hd a b g h u 1=D.ad (D.ad (D.ac (a 0) (g 0)) (D.ac (b 0) (h 0))) (D.ac (a 0*b 0) u):=by
 show D.ad (D.ad (D.ad D.zo _) (D.ad D.zo _)) (D.ac ((0:(B N))+a 0*b 0) u)=_;rw[D.zadd,D.zadd,show(0:(B N))+a 0*b 0=a 0*b 0 by grind]
structure Rg(R:Type) where
 l:I->R
 m:I->R
 s:I->R
 q:I->R
 Y:I->R
 W:I->R
 T:I->R
 z:R
 x:R
def Rg.Ok(r:Rg (Fin N))(n:I):Prop:=∀i,i<n->r.l i*r.m i=0/\r.m i=r.l i-1/\r.Y i*r.W i=1
def Rg.a0(r:Rg (Fin N))(i:I):(Fin N):=r.l i-r.z
def Rg.b0(r:Rg (Fin N))(i:I):(Fin N):=r.Y i*(r.m i+r.z)+r.z*r.z*r.T i
def Rg.b1(r:Rg (Fin N))(i:I):(Fin N):=r.Y i*r.q i
def Rg.a(r:Rg (Fin N))(i:I):(Fin N):=r.a0 i+r.s i*r.x
def Rg.b(r:Rg (Fin N))(i:I):(Fin N):=r.b0 i+r.b1 i*r.x
def Rg.sY(r:Rg (Fin N))(n:I):(Fin N):=(own N).sm r.Y n
def Rg.sT(r:Rg (Fin N))(n:I):(Fin N):=(own N).sm r.T n
def Rg.v(r:Rg (Fin N))(n:I):(Fin N):=pr r.l r.T n
def Rg.d(r:Rg (Fin N))(n:I):(Fin N):=(r.z-r.z*r.z)*r.sY n-r.z*r.z*r.z*r.sT n
def Rg.t1(r:Rg (Fin N))(n:I):(Fin N):=pr r.a0 r.b1 n+pr r.s r.b0 n
def Rg.t2(r:Rg (Fin N))(n:I):(Fin N):=pr r.s r.b1 n
def yB(a b:I->(B N))(n:I):pr a b (n+1)=pr a b n+a n*b n:=rfl
def Rg.t0(r:Rg (Fin N)):∀n,r.Ok n->pr r.a0 r.b0 n=r.z*r.z*r.v n+r.d n
 | 0,_=>by
  show(0:(Fin N))=r.z*r.z*0+((r.z-r.z*r.z)*0-r.z*r.z*r.z*0);grind
 | n+1,h=>by
  have b:=t0 r n λi e=>h i S
  let⟨h1,c,_⟩:=h n S
  have k:r.v (n+1)=r.v n+r.l n*r.T n:=rfl;have d:r.d (n+1)=(r.z-r.z*r.z)*(r.sY n+r.Y n)-r.z*r.z*r.z*(r.sT n+r.T n):=rfl;have e3:r.d n=(r.z-r.z*r.z)*r.sY n-r.z*r.z*r.z*r.sT n:=rfl;rw[yB,b,k,d,e3];unfold Rg.a0 Rg.b0;rw[c]at h1⊢;generalize r.v n=A,r.sY n=B,r.sT n=C,r.l n=l,r.Y n=y,r.T n=t,r.z=z at *;grind
def Rg.tt(r:Rg (Fin N)):∀n,pr r.a r.b n=pr r.a0 r.b0 n+r.t1 n*r.x+r.t2 n*r.x*r.x
 | 0=>by
  show(0:(Fin N))=0+(0+0)*r.x+0*r.x*r.x;grind
 | n+1=>by
  have b:=tt r n;have k:r.t1 (n+1)=(pr r.a0 r.b1 n+r.a0 n*r.b1 n)+(pr r.s r.b0 n+r.s n*r.b0 n):=rfl;have d:r.t2 (n+1)=pr r.s r.b1 n+r.s n*r.b1 n:=rfl;have e3:r.t1 n=pr r.a0 r.b1 n+pr r.s r.b0 n:=rfl;have c:r.t2 n=pr r.s r.b1 n:=rfl;rw[yB,b,k,d,e3,c,yB];show _+(r.a0 n+r.s n*r.x)*(r.b0 n+r.b1 n*r.x)=_;generalize pr r.a0 r.b0 n=A,pr r.a0 r.b1 n=B,pr r.s r.b0 n=C,pr r.s r.b1 n=E,r.a0 n=a0,r.b0 n=b0,r.s n=s,r.b1 n=b1,r.x=x;grind
def cm(H G:M)(c r:(B N)):M:=D.ad (D.ac c H) (D.ac r G)
def FG(r:Rg (B N))(n:I)(h:r.Ok n)(H G:M)(k t1 t2:(B N)):
 D.cm H G (pr r.a r.b n) (t1*r.x+t2*(r.x*r.x)+r.z*r.z*k)
  = D.ad (D.ad (D.ac (r.z*r.z) (D.cm H G (r.v n) k)) (D.ac (r.d n) H)) (D.ad (D.ac r.x (D.cm H G (r.t1 n) t1)) (D.ac (r.x*r.x) (D.cm H G (r.t2 n) t2))):=by
 rw[r.tt,r.t0 n h];unfold cm;simp only[D.acAd,D.acAc];rw[show r.z*r.z*r.v n+r.d n+r.t1 n*r.x+r.t2 n*r.x*r.x=r.z*r.z*r.v n+r.d n+r.x*r.t1 n+r.x*r.x*r.t2 n by grind,
  show t1*r.x+t2*(r.x*r.x)+r.z*r.z*k=r.x*t1+r.x*r.x*t2+r.z*r.z*k by grind]
 simp only[D.adAc]
 ac_rfl
def AH{a c:I->(B N)}{g k:I->M}(n:I)(h:∀i,i<n->D.ac (a i) (g i)=D.ac (c i) (k i)):D.dt a g n=D.dt c k n:=D.oK n h
def Za(r:Rg (B N))(g:I->M)(n:I):D.dt r.a g n=D.ad (D.ad (D.dt r.l g n) (D.ac r.x (D.dt r.s g n))) (D.dt (λ_=>-r.z) g n):=by
 rw[<-D.Ss,<-D.Ji,<-D.Ji];refine D.AH n λi _=>?_
 show D.ac (r.l i-r.z+r.s i*r.x) _=_;rw[show r.l i-r.z+r.s i*r.x=r.l i+r.x*r.s i+-r.z by grind]
def Y4(r:Rg (B N))(k:I->M)(n:I)(h:r.Ok n):D.dt r.b (λi=>D.ac (r.W i) (k i)) n
 = D.ad (D.ad (D.dt r.m k n) (D.ac r.x (D.dt r.q k n))) (D.dt (λi=>r.z+r.z*r.z*(r.T i*r.W i)) k n):=by
 rw[<-D.Ss,<-D.Ji,<-D.Ji];refine D.AH n λi b=>?_
 obtain⟨_,_,c⟩:=h i b;rw[D.acAc];show D.ac ((r.Y i*(r.m i+r.z)+r.z*r.z*r.T i+r.Y i*r.q i*r.x)*r.W i) _=_;rw[show(r.Y i*(r.m i+r.z)+r.z*r.z*r.T i+r.Y i*r.q i*r.x)*r.W i=r.m i+r.x*r.q i+(r.z+r.z*r.z*(r.T i*r.W i)) by
  generalize r.Y i=y,r.W i=w,r.m i=m,r.q i=q,r.T i=t,r.z=z,r.x=x at *;grind]
def En(r:Rg (Fin N))(n:I)(h:r.Ok n)(G:M)(g k:I->M)(U:M)(al b w:(Fin N)):
 D.ad (D.ad (D.ad (D.ad (D.ad (D.ac al G) (D.ad (D.dt r.l g n) (D.dt r.m k n))) (D.ac r.x (D.ad (D.ac b G) (D.ad (D.dt r.s g n) (D.dt r.q k n))))) (D.ac (-(al+b*r.x)) G))
  (D.ad (D.dt (λ_=>-r.z) g n) (D.dt (λi=>r.z+r.z*r.z*(r.T i*r.W i)) k n))) (D.ac (pr r.a r.b n*w) U)
  = D.hd r.a r.b g (λi=>D.ac (r.W i) (k i)) (D.ac w U) n:=by
 unfold hd;rw[D.Za,D.Y4 r k n h,D.acAc];simp only[D.acAd,D.acAc];have e:D.ad (D.ac al G) (D.ad (D.ac (r.x*b) G) (D.ac (-(al+b*r.x)) G))=D.zo:=by
  rw[<-D.adAc,<-D.adAc,show al+(r.x*b+-(al+b*r.x))=(0:(Fin N)) by grind,D.zac]
 generalize D.ac al G=A at *;generalize D.ac (r.x*b) G=B at *;generalize D.ac (-(al+b*r.x)) G=E at *;refine Eq.trans ?_ (D.zadd _);rw[<-e]
 ac_rfl
end Md
end SPA
section
open SPA
variable {P:Nat}[NeZero P]{N:Nat}[NeZero N]
abbrev OnP(P:I)[NeZero P]:={p:EC.Pt P // On p}
def aC(C:IO P)(k:∀r:EC.Pt P,On r->mul N r=F):Md N (OnP P) where
 ad a b:=⟨EC.add a.1 b.1,C.cur.on a.2 b.2⟩
 zo:=⟨F,kJ⟩
 ac r a:=⟨mul r.val a.1,fC C.cur a.2 _⟩
 comm a b:=At (C.cur.comm a.2 b.2)
 assoc a b c:=At (C.cur.assoc a.2 b.2 c.2)
 zadd _:=rfl
 acAd r a b:=At (Ae C a.2 b.2 _)
 adAc r s a:=At (by
  show mul (r+s).val a.1=_;rw[yFm,mul_mod C k a.2,mul_add C.cur a.2])
 acAc r s a:=At (by
  show _=mul (r*s).val a.1;rw[xt,mul_mod C k a.2,ax,yD C.cur a.2])
 acOne a:=At (by
  show mul (1:B N).val a.1=_;rw[show(1:B N).val=1%N from Z,mul_mod C k a.2];rfl)
 zac a:=At (by
  show mul (0:B N).val a.1=_;rw[show(0:B N).val=0%N from Z,mul_mod C k a.2];rfl)
omit [NeZero N] in
theorem nF(a b:B N):(a+b).val=sPl N a.val b.val:=yFm a b
omit [NeZero N] in
theorem fQ(a b:B N):(a*b).val=sTi N a.val b.val:=xt a b
omit [NeZero N] in
theorem GG(a b:B N):(a-b).val=sMi N a.val b.val:=by
 rw[B.sub_def];show(N-b.val+a.val)%N=(a.val+N-b.val)%N;have:=b.isLt;rw[show N-b.val+a.val=a.val+N-b.val by omega]
omit [NeZero N] in
theorem Nh(a:B N):(-a).val=sMi N 0 a.val:=by
 rw[B.neg_def];show(N-a.val)%N=(0+N-a.val)%N;rw[Zs]
def ivF(a:B N):B N:=⟨sIn N a.val,gD _ (BY N)⟩
def sJ{a:B N}(h:IsP N)(k:a.val≠0):a*ivF a=1:=by
 apply tj;have b:=h.1;have hd:¬N ∣ a.val:=λhd=>by
  have:=I.le_of_dvd S hd;have:=a.isLt;omega
 rw[xt,show(ivF a).val=a.val^(N-2)%N from Z,I.mul_mod_mod,<-I.pow_succ',show(N-2).succ=N-1 by omega,h.fermat1 a.val hd];show 1=1%N;rw[ZC S]
structure Tl(N:I)(l:LB)(X:OnP P):Prop where
 pts:PtsL P l
 lt:∀x∈l,x.1<N
 sum:gW P l=X.1
omit [NeZero N] in
theorem DO(C:IO P):∀ {l m:LB},PtsL P l->PtsL P m->gW P (l++m)=EC.add (gW P l) (gW P m)
 | [],_,_,_=>rfl
 | x :: r,m,h,hm=>by
  have k:PtsL P r:=λz b=>h z (ps _ b)
  show EC.add (mul x.1 (iE P x.2)) (gW P (r++m))=EC.add (EC.add _ _) _;rw[DO C k hm];exact(C.cur.assoc (fC C.cur (h.on C pw) _) (qN C k) (qN C hm)).symm
omit [NeZero N] in
theorem Ig(C:IO P)(k:∀r:EC.Pt P,On r->mul N r=F)(n:I):∀ {l:LB},PtsL P l->gW P (l.map (tmT N n))=mul n (gW P l)
 | [],_=>(Af n).symm
 | x :: r,h=>by
  have b:PtsL P r:=λz c=>h z (ps _ c)
  have hx:=h.on C (x:=x) pw;show EC.add (mul (sTi N n x.1) (iE P x.2)) (gW P (r.map (tmT N n)))=mul n (EC.add (mul x.1 (iE P x.2)) (gW P r));rw[Ig C k n b,Ae C (fC C.cur hx _) (qN C b)];rw[sTi,mul_mod C k hx,ax,yD C.cur hx]
section
variable (C:Fld P) (hord:∀r:EC.Pt P,EC.On r->EC.mul N r=none)
def Tl.nil:Tl N [] (aC C hord).zo:=⟨λ_ h=>(ZJ h).elim,λ_ h=>(ZJ h).elim,Z⟩
def Tl.app{m:LB}{X Y:OnP P}(h:Tl N l X)(k:Tl N m Y):Tl N (l++m) ((aC C hord).ad X Y):=
 ⟨λx hx=>(py.1 hx).elim (h.pts x) (k.pts x),λx hx=>(py.1 hx).elim (h.lt x) (k.lt x),by
  rw[DO C h.pts k.pts,h.sum,k.sum];rfl⟩
def Tl.tm{X:OnP P}(h:Tl N l X)(n:Fin N):Tl N (l.map (tmT N n.val)) ((aC C hord).ac n X):=
 ⟨λx hx=>by
  obtain⟨y,k,rfl⟩:=Z1.1 hx;exact h.pts y k,λx hx=>by
  obtain⟨y,k,rfl⟩:=Z1.1 hx;exact gD _ (BY N),by
  rw[Ig C hord n.val h.pts,h.sum];rfl⟩
omit [NeZero N] in
theorem Tl.one(C:IO P)(h1:1<N)(X:OnP P):Tl N [(1,wr X.1)] X:=
 ⟨λx hx=>⟨X.1,X.2,by rw[ur.1 hx]⟩,λx hx=>by rw[ur.1 hx];exact h1,by
  show EC.add (mul 1 (iE P (wr X.1))) F=_;rw[kF C X.2,bO];rfl⟩
def eJ(N:I)(a:I->I)(T:I->LB):I->LB
 | 0=>[]
 | n+1=>eJ N a T n++(T n).map (tmT N (a n))
def Jm{a:I->B N}{T:I->LB}{g:I->OnP P}:∀n,(∀i,i<n->Tl N (T i) (g i))->Tl N (eJ N (λi=>(a i).val) T n) ((aC C hord).dt a g n)
 | 0,_=>Tl.nil C hord
 | n+1,h=>(Jm n λi k=>h i S).app C hord ((h n S).tm C hord (a n))
def fH{a:I->I}(N:I){T:I->LB}{c:I}:∀n,(∀i,i<n->(T i).length=c)->(eJ N a T n).length=c*n
 | 0,_=>rfl
 | n+1,h=>by
  show(eJ N a T n++_).length=_;rw[Zv,ZI,fH N (a:=a) n (λi k=>h i S),h n S,CD]
def wJ(N x y n:I)(T:I->LB)(i:I):LB:=(T i).map (tmT N x)++(T (n+i)).map (tmT N y)
def QL{x y:B N}{n i:I}{g:I->OnP P}(h:∀i,i<n+n->Tl N (T i) (g i))(k:i<n):Tl N (wJ N x.val y.val n T i) ((aC C hord).fP x y n g i):=
 ((h i S).tm C hord x).app C hord ((h (n+i) S).tm C hord y)
def NM{x y n i:I}(h:∀i,i<n+n->(T i).length=c)(k:i<n):(wJ N x y n T i).length=c+c:=by
 rw[wJ,Zv,ZI,ZI,h i S,h (n+i) S]
end
end
section
open SPA
variable {N:Nat}[NeZero N]
def pwF(x:B N):I->B N
 | 0=>1
 | i+1=>pwF x i*x
def CM{x y:B N}(h:x*y=1):∀i,pwF x i*pwF y i=1
 | 0=>by
  show(1:B N)*1=1
  grobner
 | i+1=>by
  have k:=CM h i;show pwF x i*x*(pwF y i*y)=1;generalize pwF x i=a at *;generalize pwF y i=b at *
  grobner
def ofF(N:I)[NeZero N](n:I):B N:=⟨n%N,gD _ (BY N)⟩
def IR(a b:I):ofF N (a+b)=ofF N a+ofF N b:=tj (by
 rw[yFm];show(a+b)%N=(a%N+b%N)%N;rw[I.add_mod])
def IQ(a b:I):ofF N (a*b)=ofF N a*ofF N b:=tj (by
 rw[xt];show(a*b)%N=(a%N*(b%N))%N;rw[I.mul_mod])
def uD:ofF N 0=0:=tj Z
def IP:ofF N 1=1:=tj Z
def Gn:∀i,pwF (ofF N 2) i=ofF N (2^i)
 | 0=>IP.symm
 | i+1=>by
  show pwF (ofF N 2) i*ofF N 2=_;rw[Gn i,<-IQ,oB]
def btF(N:I)[NeZero N](v i:I):B N:=ofF N (v/2^i%2)
def Ou(v:I):∀n,Md.pr (btF N v) (pwF (ofF N 2)) n=ofF N (v%2^n)
 | 0=>by
  rw[rx,I.mod_one];exact uD.symm
 | n+1=>by
  rw[Md.yB,Ou v n,Gn];show _+ofF N _*_=_;rw[<-IQ,<-IR,oB,I.mod_mul,ax (2^n)]
def two_sum:∀n,(SPA.own N).sm (pwF (ofF N 2)) n=ofF N (2^n-1)
 | 0=>uD.symm
 | n+1=>by
  show(SPA.own N).sm _ n+_=_;rw[two_sum n,Gn,<-IR];have:=rj (n:=n) (show 0<2 by decide);rw[show 2^n-1+2^n=2^(n+1)-1 by rw[oB];omega]
def Xt(v i:I):btF N v i=0\/btF N v i=1:=by
 unfold btF;rcases I.mod_two_eq_zero_or_one (v/2^i)with h|h<;>rw[h]
 .exact Z5 uD
 exact ZW IP
def rgF(v:I)(s q:I->B N)(y k z x:B N):Md.Rg (B N):=⟨btF N v,λi=>btF N v i-1,s,q,pwF y,pwF k,pwF (ofF N 2),z,x⟩
def Mw{v n:I}{s q:I->B N}{z x y k:B N}(h:y*k=1):(rgF v s q y k z x).Ok n:=λi _=>⟨by
 show btF N v i*(btF N v i-1)=0;rcases Xt (N:=N) v i with e|e<;>rw[e]<;>grobner,Z,CM h i⟩
def VZ{v n:I}{s q:I->B N}{y k z x:B N}(hv:v<2^n):(rgF v s q y k z x).v n=ofF N v:=by
 show Md.pr (btF N v) (pwF (ofF N 2)) n=_;rw[Ou,ZC hv]
def V0{v n:I}{s q:I->B N}{y k z x:B N}:(rgF v s q y k z x).d n=(z-z*z)*(SPA.own N).sm (pwF y) n-z*z*z*ofF N (2^n-1):=by
 show _-z*z*z*(SPA.own N).sm (pwF (ofF N 2)) n=_;rw[two_sum];rfl
end
namespace SPA
variable {N:Nat}[NeZero N]{M:Type}
namespace Md
variable (D:Md N M)
def yC(p:M):D.ad p (D.ac (-1) p)=D.zo:=by
 have h:=D.adAc 1 (-1) p;rw[show(1:(B N))+-1=0 by grind,D.zac,D.acOne]at h;exact h.symm
def Te(e p:M):D.ad e (D.ac (-1) p)=D.zo↔p=e:=by
 constructor
 .intro h;have h1:D.ad (D.ad e (D.ac (-1) p)) p=D.ad D.zo p:=by rw[h]
  rw[D.assoc,D.comm _ p,D.yC,D.XO,D.zadd]at h1;exact h1.symm
 rintro rfl;exact D.yC p
def Nx{a b c:(B N)}(k:a*b=1)(d:a*c=1):b=c:=by
 have:b=(a*b)*c+b*(1-a*c):=by grind
 rw[k,d]at this;grind
structure Vs(S M:Type) where
 s:S
 p:M
 g:I->M
 h:I->M
structure Ps(S R M:Type) where
 s:S
 a:I->R
 b:I->R
 g:I->M
 h:I->M
section
variable {S:Type}(ch:S->M->M->S × (Fin N)) (iv:(Fin N)->(Fin N)) (u:M)
def Bu(n:I)(L T:M)(v:Vs S M):Vs S M:=
 let c:=ch v.s L T
 ⟨c.1,D.ad (D.ad (D.ac (c.2*c.2) L) v.p) (D.ac (iv c.2*iv c.2) T),D.fP (iv c.2) c.2 n v.g,D.fP c.2 (iv c.2) n v.h⟩
def vst(t:I)(L T:I->M)(v:Vs S M):I->Vs S M
 | 0=>v
 | i+1=>D.Bu ch iv (2^(t-(i+1))) (L i) (T i) (vst t L T v i)
def pL(n:I)(q:Ps S (B N) M):M:=D.lf q.a q.b q.g q.h u n
def pT(n:I)(q:Ps S (B N) M):M:=D.rt q.a q.b q.g q.h u n
def nT(n:I)(q:Ps S (B N) M):Ps S (B N) M:=
 let c:=ch q.s (D.pL u n q) (D.pT u n q)
 ⟨c.1,fS c.2 (iv c.2) n q.a,fS (iv c.2) c.2 n q.b,D.fP (iv c.2) c.2 n q.g,D.fP c.2 (iv c.2) n q.h⟩
def pst(t:I)(q:Ps S (B N) M):I->Ps S (B N) M
 | 0=>q
 | i+1=>D.nT ch iv u (2^(t-(i+1))) (pst t q i)
def pLi(t:I)(q:Ps S (B N) M)(i:I):M:=D.pL u (2^(t-(i+1))) (D.pst ch iv u t q i)
def pTi(t:I)(q:Ps S (B N) M)(i:I):M:=D.pT u (2^(t-(i+1))) (D.pst ch iv u t q i)
def hdP(n:I)(q:Ps S (B N) M):M:=D.hd q.a q.b q.g q.h u n
def beside(k:∀s L T,(ch s L T).2*iv (ch s L T).2=1)(t:I)(q:Ps S (B N) M):∀i,i<=t ->
 D.vst ch iv t (D.pLi ch iv u t q) (D.pTi ch iv u t q) ⟨q.s,D.hdP u (2^t) q,q.g,q.h⟩ i
  = ⟨(D.pst ch iv u t q i).s,D.hdP u (2^(t-i)) (D.pst ch iv u t q i),(D.pst ch iv u t q i).g,(D.pst ch iv u t q i).h⟩
 | 0,_=>rfl
 | i+1,hi=>by
  have b:=beside k t q i oM;show D.Bu ch iv _ _ _ (D.vst ch iv t _ _ _ i)=_;rw[b];have e:2^(t-i)=2^(t-(i+1))+2^(t-(i+1)):=by
   rw[show t-i=t-(i+1)+1 by omega,oB];omega
  show(⟨_,_,_,_⟩:Vs S M)=⟨(D.nT ch iv u _ (D.pst ch iv u t q i)).s,D.hdP u _ (D.nT ch iv u _ (D.pst ch iv u t q i)),(D.nT ch iv u _ (D.pst ch iv u t q i)).g,(D.nT ch iv u _ (D.pst ch iv u t q i)).h⟩;unfold pLi pTi;generalize D.pst ch iv u t q i=r;rw[e];have h:=D.halved _ _ (k r.s (D.pL u (2^(t-(i+1))) r) (D.pT u (2^(t-(i+1))) r)) r.a r.b r.g r.h u (2^(t-(i+1)))
  congr 1
  exact h.symm
def Fq(a b:(B N))(v:Vs S M):Prop:=v.p=D.ad (D.ad (D.ac a (v.g 0)) (D.ac b (v.h 0))) (D.ac (a*b) u)
def found(k:∀s L T,(ch s L T).2*iv (ch s L T).2=1)(t:I)(q:Ps S (B N) M):
 D.Fq u ((D.pst ch iv u t q t).a 0) ((D.pst ch iv u t q t).b 0) (D.vst ch iv t (D.pLi ch iv u t q) (D.pTi ch iv u t q) ⟨q.s,D.hdP u (2^t) q,q.g,q.h⟩ t):=by
 rw[D.beside ch iv u k t q t (Zo _),ww];exact D.NF _ _ _ _ u
end
end Md
end SPA
section
open SPA
variable {N:Nat}[NeZero N]
def Wy{x:B N}(h:IsP N)(hx:x.val≠0)(k:(x*x).val≠0):ivF (x*x)=ivF x*ivF x:=by
 refine Md.Nx (sJ h k) ?_;have e:=sJ h hx
 grobner
end
section
open SPA
variable {P:Nat}[NeZero P]{N:Nat}[NeZero N]
def Qq(a:B N):B N:=if a=0 then 1 else a
def Qp{a:B N}(h:1<N):(Qq a).val≠0:=by
 unfold Qq;split
 .show 1%N≠0;rw[ZC h];decide
 rename_i h0
 exact λe=>h0 (tj (e.trans (yp N).symm))
def kS(b k:G Fk)(L X Y:Bs):Bs:=iW (iW L b X.toList) k Y.toList
def lB(N:I)[NeZero N](L:Bs):B N:=Qq (ofF N (cha N L))
def aS(L:Bs):Bs:=nP L [99,104,97,108,108,101,110,103,101]
def chF(N:I)[NeZero N](L:Bs)(X Y:OnP P):Bs × B N:=
 let k:=kS [108,101,102,116] [114,105,103,104,116] L (wr X.1) (wr Y.1)
 (aS k,lB N k)
def Rk{L:Bs}(h:1<N):(lB N L).val≠0:=by
 unfold lB;exact Qp h
def QQ(L:Bs)(X Y:OnP P):∃k,(chF N L X Y).2=lB N k:=by
 unfold chF;dsimp only;exact⟨_,Z⟩
def Oe(h:IsP N)(L:Bs)(X Y:OnP P):(chF N L X Y).2*ivF (chF N L X Y).2=1:=by
 obtain⟨k,e⟩:=QQ (N:=N) L X Y;rw[e];have:=Rk h.1 (L:=k);generalize lB N k=a at *;exact sJ h (a:=a) this
def UX(h:IsP N)(L:Bs)(X Y:OnP P):((chF N L X Y).2*(chF N L X Y).2).val≠0:=λe=>by
 have h1:=Oe h L X Y;have c:(chF N L X Y).2*(chF N L X Y).2=0:=tj (e.trans (yp N).symm);generalize (chF N L X Y).2=x at *;generalize ivF x=y at *;have b:(1:B N)=0:=by grobner
 have k:1%N=0%N:=congrArg B.val b;have:=h.1;rw[ZC S,yp]at k;exact absurd k dC
def UK(C:IO P)(k:∀r:EC.Pt P,On r->mul N r=F)(h:IsP N)(u:OnP P)(t:I)(q:Md.Ps Bs (B N) (OnP P)):
 (aC C k).Fq u (((aC C k).pst (chF N) ivF u t q t).a 0) (((aC C k).pst (chF N) ivF u t q t).b 0)
  ((aC C k).vst (chF N) ivF t ((aC C k).pLi (chF N) ivF u t q) ((aC C k).pTi (chF N) ivF u t q) ⟨q.s,(aC C k).hdP u (2^t) q,q.g,q.h⟩ t):=
 (aC C k).found (chF N) ivF u (Oe h) t q
end
namespace SPA
variable {N:Nat}[NeZero N]{M:Type}
namespace Md
variable (D:Md N M)
def LO(a b p:M):D.ad p (D.ad a b)=D.ad (D.ad a p) b:=by ac_rfl
def LP(a b p:M):D.ad (D.ad p a) b=D.ad (D.ad a p) b:=by ac_rfl
end Md
end SPA
section
open SPA
variable {P:Nat}[NeZero P]{N:Nat}[NeZero N]
def Tl.pt(C:IO P)(k:∀r:EC.Pt P,On r->mul N r=F)(n:Fin N)(X:OnP P):Tl N [(n.val,wr X.1)] ((aC C k).ac n X):=
 ⟨λx hx=>⟨X.1,X.2,by rw[ur.1 hx]⟩,λx hx=>by rw[ur.1 hx];exact n.isLt,by
  show EC.add (mul n.val (iE P (wr X.1))) F=_;rw[kF C X.2,bO];rfl⟩
structure Gd(N n c:I)(T:I->LB)(g:I->OnP P):Prop where
 tl:∀i,i<n->Tl N (T i) (g i)
 len:∀i,i<n->(T i).length=c
section
variable (C:Fld P) (hord:∀r:EC.Pt P,EC.On r->EC.mul N r=none)
def Gd.fold{n:I}{g:I->OnP P}(h:Gd N (n+n) c T g)(x y:Fin N):Gd N n (c+c) (wJ N x.val y.val n T) ((aC C hord).fP x y n g):=
 ⟨λi k=>QL C hord h.tl k,λi k=>NM h.len k⟩
def Gd.cmb{n:I}{g:I->OnP P}(h:Gd N n c T g)(a:I->Fin N):Tl N (eJ N (λi=>(a i).val) T n) ((aC C hord).dt a g n)/\(eJ N (λi=>(a i).val) T n).length=c*n:=
 ⟨Jm C hord n h.tl,fH N n h.len⟩
omit [NeZero N] in
theorem Gd.low{n:I}{g:I->OnP P}(h:Gd N (n+m) c T g):Gd N n c T g:=⟨λi k=>h.tl i S,λi k=>h.len i S⟩
omit [NeZero N] in
theorem Gd.high{n:I}{g:I->OnP P}(h:Gd N (n+m) c T g):Gd N m c (λi=>T (n+i)) (λi=>g (n+i)):=⟨λi k=>h.tl (n+i) S,λi k=>h.len (n+i) S⟩
def NE(N:I)(a b:I->I)(p:I)(G H:I->LB)(U:LB)(n:I):LB:=eJ N a G n++eJ N b H n++U.map (tmT N p)
def ND{n d:I}{G H:I->LB}{U:LB}{g h:I->OnP P}{u:OnP P}(hG:Gd N n c G g)(k:Gd N n c H h)(e:Tl N U u)(hd:U.length=d)(a b:I->B N):
 Tl N (NE N (λi=>(a i).val) (λi=>(b i).val) (Md.pr a b n).val G H U n) ((aC C hord).hd a b g h u n)/\(NE N (λi=>(a i).val) (λi=>(b i).val) (Md.pr a b n).val G H U n).length=c*n+c*n+d:=by
 refine⟨((hG.cmb C hord a).1.app C hord (k.cmb C hord b).1).app C hord (e.tm C hord _),?_⟩;rw[NE,Zv,Zv,ZI,fH N n hG.len,fH N n k.len,hd]
end
end
structure Ar(w W:Zl)(K e n i:I)(R:I->G Zm):Prop where
 bl:kZ w W
 lt:K<W.heap.size
 th:W.there K 0 (e*n)
 rw:∀j,j<i->W.rangeAt K (e*j) (R j)
def Ex{T E:ZR}(j:prog.underlying T=J (.slice E))(m:(prog.info? E).map (λi=>(i.size,decide (i.bytes<=4000),i.zero.isSome))=J (e,H,H))(n:I)(o:n<=512):∃C0:G Zm,C0.length=e*n/\∀w:Zl,(ue T (iZ n) (iZ n)).run prog w=.ok (sZ w.heap.size n n) (w.alloc (.cells C0.toArray E)):=by
 let⟨i,b,k⟩:=Zp.1 m
 simp only[an.injEq,decide_eq_true_eq]at k;let⟨h1,c,l⟩:=k
 let⟨z,g⟩:=Z8.1 l
 refine⟨(madeCells z.cells (n*e)).toList,by rw[ZE,DH,ax],λw=>?_⟩;have d:(i.bytes:Y)*(n:Y)<=281474976710656:=by
  have:i.bytes*n<=4000*512:=qm c o;have f:((i.bytes*n:I):Y)<=281474976710656:=S;rwa[sg]at f
 have:=run_make (P:=prog) w T E i z j b g .i64 .i64 (n:Y) (n:Y) S S d S;rw[DP,h1]at this;rw[DE];exact this
def Ar.new{k:Zl}{n:I}{E:ZR}(R:I->G Zm)(c:C0.length=e*n)(b:w.alloc (.cells C0.toArray E)=k)(f:w.heap.size=K):Ar w k K e n 0 R:=by
 subst f;have hR:FJ k w.heap.size C0:=by rw[<-b];exact aE
 exact⟨by rw[<-b];exact aD _,hR.1,by rw[<-c];exact hR.2.2,λj d=>absurd d (uv _)⟩
def FQ(O:Ord N)(r:I)(L:Bs)(k:Fd)(w:Zl)(o:k.size<=1048576)(z:hZ w r 0 L)(hl:L.size=32):
 cZ 219 #[.agg #[jZ r],.string k] w (Ret λe w'=>SP.Only r 0 32 w w'/\hZ w' r 0 (nP L k.data.toList)/\e=nv (nW N (xR L k.data.toList 64))):=by
 let⟨A,C⟩:=hE (xR L k.data.toList 64)
 let⟨q,c⟩:∃q,E (nP L k.data.toList=q):=⟨_,Z⟩
 rw[c.out];have T:q.size=32:=c.out▸bC;have u:A.size=64:=C.out▸Cl;rw[C.out];have t:=Holds.lt z S;let⟨g,b⟩:∃g,E ((w.alloc (.cells #[jZ r] 116)).alloc (.cells #[U 0,U 0,U 0,U 0] 93)=g):=⟨_,Z⟩
 have x:E (FJ g (w.heap.size+1) [U 0,U 0,U 0,U 0]/\kZ w g/\hZ g r 0 L):=by
  rw[<-b.out];have d:kZ w ((w.alloc (.cells #[jZ r] 116)).alloc (.cells #[U 0,U 0,U 0,U 0] 93)):=(aD _).alloc (by rw[Zy];omega) _;have hR:=aE (w:=(w.alloc (.cells #[jZ r] 116))) (c:=[U 0,U 0,U 0,U 0]) (T:=93);rw[Zy]at hR;exact⟨hR,d,Holds.below z d t⟩
 clear z;go_enter func219,ntmps219;go_wp2_with fail
 rw[b.out];clear b;apply(Rn r L k 64 g o dC x.2.2 hl).mono;rintro e V ⟨r2,rfl,h1,P,f,n⟩;rw[C.out]at n;rw[c.out]at f;have i:=mk4 (x.1.only P S) ((SP.Only.of_below x.2.1 Z t).trans P) n f;go_wp2_with fail
 apply(BH O r2 A u V (Holds.lt i.2.2.1 S) i.2.2.1).mono;rintro e M ⟨v,rfl,d,rfl⟩;have s:=mk3 (i.1.below d) (i.2.1.trans (SP.Only.of_below d Z (Zn t i.2.1.size))) (Holds.below i.2.2.2 d (Holds.lt f S));let⟨m,Q⟩:=hE (nW N A)
 rw[Q.out];let⟨K,p⟩:=hE (M.setCells (w.heap.size+1) 0 (wn m))
 have y:E (FJ K (w.heap.size+1) (wn m)/\SP.Only r 0 32 w K/\hZ K r 0 q):=by
  rw[<-p.out];refine⟨s.1.put Z,bU s.2.1 t S,λj l=>?_⟩;have e:=aM (k:=(w.heap.size+1)) (wn m) 0 M r S;rw[ZP (a:=⟨r,0+j,F⟩) e,sI (a:=⟨r,0+j,F⟩) e];exact s.2.2 j l
 let⟨W,l⟩:=hE (nv m)
 rw[l.out];go_wp2_with (refine ZZ Z 93 _ _ Z (w.heap.size+1) 0 (wn m).toArray ?_ ?_ ?_ ?_ ?_ ?_;rfl;exact l.symm;exact s.1.2.2;exact In;exact aK;rw[show(wn m).toArray.toList=wn m from Z,p.out])
 refine Zx (aG 4 Z y.1 Z u40 In) Z ?_;exact⟨_,Z,y.2.1,y.2.2,by rw[Q.out];rfl⟩
def uS4:prog.underlying 109=J (.slice 93):=kR
def iS4:(prog.info? 93).map (λi=>(i.size,decide (i.bytes<=4000),i.zero.isSome))=J (4,H,H):=kR
section
variable {Q Q':Nat->Prop}{W W':Zl}{v:Zm}{l:List (Nat × Bs)}{n:Nat}
def Kq.of_only{o:I}(k:SP.Only r o m W W')(b:∀g,Q g->g≠r):Kq Q W W':=⟨k.size,λg h1 c=>k.block g c (b g h1)⟩
def Kq.range{o:I}(h:Kq Q W W')(k:Q g)(d:g<W.heap.size)(c:W.rangeAt g o vs):W'.rangeAt g o vs:=λj v b=>by
 rw[ZP (a:=⟨g,o+j,F⟩) (h.block g k d)];exact c j v b
def Kq.cell{o:I}{x:Zm}(h:Kq Q W W')(k:Q g)(c:g<W.heap.size)(b:W.cell? ⟨g,o,F⟩=J x):W'.cell? ⟨g,o,F⟩=J x:=by
 rw[ZP (a:=⟨g,o,F⟩) (h.block g k c)];exact b
def SmQ(Q:I->Prop)(W:Zl)(v:Zm)(l:LB):Prop:=∃g c,v=sZ g l.length c/\l.length<=c/\Q g/\g<W.heap.size/\W.rangeAt g 0 (aU l)
def SmQ.sm(h:SmQ Q W v l):Sm 0 W v l:=by
 obtain⟨g,c,h1,k,-,b⟩:=h;exact⟨g,c,h1,k,pj _,b⟩
def Sm.q{B:I}(h:Sm B W v l):SmQ (B<=·) W v l:=h
def SmQ.mono(h:SmQ Q W v l)(e:∀g,Q g->Q' g):SmQ Q' W v l:=by
 let⟨g,c,h1,k,d,b⟩:=h
 exact⟨g,c,h1,k,e g d,b⟩
def SmQ.keep(h:SmQ Q W v l)(k:Kq Q W W'):SmQ Q W' v l:=by
 let⟨g,c,h1,e,d,b,f⟩:=h
 exact⟨g,c,h1,e,d,Zn b k.size,k.range d b f⟩
def SLq(Q:I->Prop)(W:Zl)(v:Zm)(n:I)(a:I->I):Prop:=∃g o c,v=qZ g o n c/\n<=c/\Q g/\g<W.heap.size/\∀j,j<n->W.rangeAt g (o+4*j) (wn (a j))
def SLq.mono{a:I->I}(h:SLq Q W v n a)(e:∀g,Q g->Q' g):SLq Q' W v n a:=by
 let⟨g,o,c,h1,k,d,b⟩:=h
 exact⟨g,o,c,h1,k,e g d,b⟩
def SLq.keep{a:I->I}(h:SLq Q W v n a)(k:Kq Q W W'):SLq Q W' v n a:=by
 let⟨g,o,c,h1,f,d,b,i⟩:=h
 exact⟨g,o,c,h1,f,d,Zn b k.size,λj e=>k.range d b (i j e)⟩
def SLq.congr{a b:I->I}(h:SLq Q W v n a)(e:∀j,j<n->a j=b j):SLq Q W v n b:=by
 let⟨g,o,c,h1,d,l,f,i⟩:=h
 exact⟨g,o,c,h1,d,l,f,λj k=>by rw[<-e j k];exact i j k⟩
def GLq(Q:I->Prop)(W:Zl)(v:Zm)(n:I)(T:I->LB):Prop:=∃g o c,v=qZ g o n c/\n<=c/\Q g/\g<W.heap.size/\∀j,j<n->∃x,W.cell? ⟨g,o+j,F⟩=J x/\SmQ Q W x (T j)
def GLq.mono(h:GLq Q W v n T)(k:∀g,Q g->Q' g):GLq Q' W v n T:=by
 let⟨g,o,c,h1,e,m,f,l⟩:=h
 refine⟨g,o,c,h1,e,k g m,f,λj d=>?_⟩;let⟨x,b,i⟩:=l j d
 exact⟨x,b,i.mono k⟩
def GLq.keep(h:GLq Q W v n T)(k:Kq Q W W'):GLq Q W' v n T:=by
 let⟨g,o,c,h1,i,d,b,m⟩:=h
 refine⟨g,o,c,h1,i,d,Zn b k.size,λj f=>?_⟩;let⟨x,e,l⟩:=m j f
 exact⟨x,k.cell d b e,l.keep k⟩
structure GRq(Q:I->Prop)(W:Zl)(v:Zm)(n:I)(G H:I->LB)(U:LB):Prop where
 ex:∃vg vh vu,v=.agg #[vg,vh,vu]/\GLq Q W vg n G/\GLq Q W vh n H/\SmQ Q W vu U
def GRq.mono{G H:I->LB}{U:LB}(h:GRq Q W v n G H U)(k:∀g,Q g->Q' g):GRq Q' W v n G H U:=by
 let⟨c,f,d,h1,b,i,e⟩:=h.ex
 exact⟨c,f,d,h1,b.mono k,i.mono k,e.mono k⟩
def GRq.keep{G H:I->LB}{U:LB}(h:GRq Q W v n G H U)(k:Kq Q W W'):GRq Q W' v n G H U:=by
 let⟨c,f,d,h1,b,g,e⟩:=h.ex
 exact⟨c,f,d,h1,b.keep k,g.keep k,e.keep k⟩
structure TOk(N:I)(l:LB):Prop where
 sz:∀x∈l,x.2.size=33
 lt:∀x∈l,x.1<N
def TOk.szm(h:TOk N l):∀x∈l.map (·.2),x.size=33:=λx hx=>by
 obtain⟨y,k,rfl⟩:=Z1.1 hx;exact h.sz y k
def TOk.app{m:LB}(h:TOk N l)(k:TOk N m):TOk N (l++m):=⟨λx hx=>(py.1 hx).elim (h.sz x) (k.sz x),λx hx=>(py.1 hx).elim (h.lt x) (k.lt x)⟩
def TOk.tm(c:0<N)(h:TOk N l)(k:I):TOk N (l.map (tmT N k)):=⟨λx hx=>by
 obtain⟨y,b,rfl⟩:=Z1.1 hx;exact h.sz y b,λx hx=>by
 obtain⟨y,b,rfl⟩:=Z1.1 hx;exact gD _ c⟩
def TOk.nil:TOk N []:=⟨λ_ h=>(ZJ h).elim,λ_ h=>(ZJ h).elim⟩
def Tl.ok[NeZero P]{X:OnP P}(h:Tl N l X):TOk N l:=⟨λx hx=>by
 obtain⟨X,-,e⟩:=h.pts x hx;rw[e];exact aR _,h.lt⟩
def q7{N:I}(k:0<N){a:I->I}{T:I->LB}:∀n,(∀i,i<n->TOk N (T i))->TOk N (eJ N a T n)
 | 0,_=>TOk.nil
 | n+1,h=>(q7 k n λi b=>h i S).app ((h n S).tm k _)
end
namespace RG
structure S1 where
 p:Zm->Zl->Prop
 st:∀v w w',kZ w w'->p v w->p v w'
def pE(v:Zm):S1:=⟨λx _=>x=v,λ_ _ _ _ h=>h⟩
def pA:S1:=⟨λ_ _=>True,λ_ _ _ _ h=>h⟩
def pM(Q:I->Prop)(l:LB):S1:=⟨λv w=>SmQ Q w v l,λ_ _ _ k h=>h.keep (Kq.of_below k)⟩
def pS(Q:I->Prop)(n:I)(a:I->I):S1:=⟨λv w=>SLq Q w v n a,λ_ _ _ k h=>h.keep (Kq.of_below k)⟩
def pR(Q:I->Prop)(n:I)(G H:I->LB)(U:LB):S1:=⟨λv w=>GRq Q w v n G H U,λ_ _ _ k h=>h.keep (Kq.of_below k)⟩
def pI(T:ZR)(p:S1):S1:=⟨λv w=>∃x,v=.iface T x/\p.p x w,λ_ w w' b ⟨x,h1,k⟩=>⟨x,h1,p.st x w w' b k⟩⟩
def pN(B:I)(cs:G Zm):S1:=⟨λv w=>∃k,v=jZ k/\B<=k/\FJ w k cs,λ_ _ _ c ⟨k,h1,b,d⟩=>⟨k,h1,b,d.below c⟩⟩
def nth:G S1->I->S1
 | [],_=>pA
 | x :: _,0=>x
 | _ :: r,k+1=>nth r k
def gwL(L:G S1)(B:Zl->Prop)(k:∀w w',kZ w w'->B w->B w'):Gw:=⟨λi=>(nth L i).p,B,λi=>(nth L i).st,k⟩
variable {P:ai}{ops:Array Z4}{Q:Exit->Act->Zl->Prop}{w:Zl}{a0:Act}{G:Gw}{k:Nat}{o:Z4}
def UD(b:List (Tmp × Zm))(v:Zm)(d:∀a W,PreG G ops a0 k o a W->AllE a b)(hR:∀W,G.R k v W)(hs:∀W,(bZ (b.map (·.1)) o,(Z0 (evo (evl b)) o).run P W)=(H,.ok (.value v) W):=by intro _;kernel_rfl):bG P Q G.flow ops a0 k o:=
 bK λa W c=>⟨b,v,W,d a W c,hs W,ZF _ _,hR W⟩
def WI{v b:Zm}(d:a0.eval (.tmp t)=v)(hR:∀W,G.R k b W)(hf:nU ops k t=H:=by kernel_rfl)(hs:∀W,(bZ [t] o,(Z0 (evo (evl [(t,v)])) o).run P W)=(H,.ok (.value b) W):=by intro _;kernel_rfl):bG P Q G.flow ops a0 k o:=
 UD [(t,v)] b (λa W c=>⟨(c.o t hf).trans d,Fs⟩) hR hs
def NG(j:I)(t:Tmp)(v b:Zm)(d:∀x W,G.R j x W->x=v)(hR:∀W,G.R k b W)(hd:(bV o j,aP ops j)=(H,J t):=by kernel_rfl)(hs:∀W,(bZ [t] o,(Z0 (evo (evl [(t,v)])) o).run P W)=(H,.ok (.value b) W):=by intro _;kernel_rfl):bG P Q G.flow ops a0 k o:=
 UD [(t,v)] b (λa W c=>⟨d _ W (c.n j t (congrArg yD8 hd) (congrArg yD7 hd)),Fs⟩) hR hs
def Ky(j:I)(t:Tmp)(f:Zm->Zm)(hR:∀x W,G.R j x W->G.R k (f x) W)(hd:(bV o j,aP ops j)=(H,J t):=by kernel_rfl)(hs:∀v W,(bZ [t] o,(Z0 (evo (evl [(t,v)])) o).run P W)=(H,.ok (.value (f v)) W):=by intro _ _;kernel_rfl):bG P Q G.flow ops a0 k o:=
 bK λa W b=>⟨[(t,a.eval (.tmp t))],_,W,⟨Z,Fs⟩,hs _ W,ZF _ _,hR _ W (b.n j t (congrArg yD8 hd) (congrArg yD7 hd))⟩
def WH{e:Zm}{I:Sem Zm}(j:Nat)(t:Tmp)(c:Nat)(b:Tmp)(v u:Zm)(i:∀W,I.run P W=.ok e W)(g:∀x W,G.R j x W->x=v)(d:∀x W,G.R c x W->x=u)(hR:∀W,G.R k e W)(hd:((bV o j,aP ops j),(bV o c,aP ops c))=((H,J t),(H,J b)):=by kernel_rfl)(hs:(bZ [t,b] o,Z0 (evo (evl [(t,v),(b,u)])) o)=(H,I >>= λv=>pure (pi v)):=by kernel_rfl):bG P Q G.flow ops a0 k o:=
 bK λa W f=>⟨[(t,v),(b,u)],e,W,⟨g _ W (f.n j t (congrArg (·.1.1) hd) (congrArg (·.1.2) hd)),d _ W (f.n c b (congrArg (·.2.1) hd) (congrArg (·.2.2) hd)),Fs⟩,by
  rw[an.injEq]at hs⊢;refine⟨hs.1,?_⟩;rw[hs.2,ZK,i W];rfl,ZF _ _,hR W⟩
def CY{b:Zm}{I:Sem Zm}(j:Nat)(t:Tmp)(v:Zm)(e:∀W,I.run P W=.ok b W)(d:∀x W,G.R j x W->x=v)(hR:∀W,G.R k b W)(hd:(bV o j,aP ops j)=(H,J t):=by kernel_rfl)(hs:(bZ [t] o,Z0 (evo (evl [(t,v)])) o)=(H,I >>= λv=>pure (pi v)):=by kernel_rfl):bG P Q G.flow ops a0 k o:=
 bK λa W c=>⟨[(t,v)],b,W,⟨d _ W (c.n j t (congrArg yD8 hd) (congrArg yD7 hd)),Fs⟩,by
  rw[an.injEq]at hs⊢;refine⟨hs.1,?_⟩;rw[hs.2,ZK,e W];rfl,ZF _ _,hR W⟩
def uI{T:ZR}(j:I)(t:Tmp)(g off:I)(x:Zm)(e:(P.underlying T).map (·.isRow)=J D)(d:∀x W,G.R j x W->x=oZ g off)(f:∀W,G.B W->W.cell? ⟨g,off,F⟩=J x)(hR:∀W,G.R k x W)(hd:(bV o j,aP ops j)=(H,J t):=by kernel_rfl)(ho:o.op=.load T (.tmp t):=by rfl):bG P Q G.flow ops a0 k o:=
 Di λa W b=>by
  have c:=zO b;refine⟨x,W,?_,ZF _ _,hR W⟩;rw[Z0,ho];dsimp only;rw[d _ W (c.n j t (congrArg yD8 hd) (congrArg yD7 hd)),ZK,jD (f W c.b) e];rfl
def WJ{T:ZR}{off:I}{cs:List Zm}(t:Tmp)(d:(P.underlying T).map (·.isRow)=J H)(f:(P.info? T).map (·.size)=J cs.length)(c:∀x W,G.R j x W->x=oZ g off)(e:∀W,G.B W->W.rangeAt g off cs)(hR:∀W,G.R k (.agg cs.toArray) W)(hd:(bV o j,aP ops j)=(H,J t):=by kernel_rfl)(ho:o.op=.load T (.tmp t):=by rfl):bG P Q G.flow ops a0 k o:=
 jO t ho d λa W b=>⟨g,off,cs,c _ W (b.n j t (congrArg yD8 hd) (congrArg yD7 hd)),e W b.b,f,hR W⟩
def I6{T:ZR}{cs:List Zm}(t:Tmp)(g off:I)(c:(P.underlying T).map (·.isRow)=J H)(f:(P.info? T).map (·.size)=J cs.length)(d:a0.eval (.tmp t)=oZ g off)(e:∀W,G.B W->W.rangeAt g off cs)(hR:∀W,G.R k (.agg cs.toArray) W)(hf:nU ops k t=H:=by kernel_rfl)(ho:o.op=.load T (.tmp t):=by rfl):bG P Q G.flow ops a0 k o:=
 jO t ho c λa W b=>⟨g,off,cs,(b.o t hf).trans d,e W b.b,f,hR W⟩
def UE{T:ZR}(t:Tmp)(g off:I)(x:Zm)(d:(P.underlying T).map (·.isRow)=J D)(e:a0.eval (.tmp t)=oZ g off)(f:∀W,G.B W->W.cell? ⟨g,off,F⟩=J x)(hR:∀W,G.R k x W)(hf:nU ops k t=H:=by kernel_rfl)(ho:o.op=.load T (.tmp t):=by rfl):bG P Q G.flow ops a0 k o:=
 Di λa W b=>by
  have c:=zO b;refine⟨x,W,?_,ZF _ _,hR W⟩;rw[Z0,ho];dsimp only;rw[c.o t hf,e,ZK,jD (f W c.b) d];rfl
def Au(cs:List Zm)(T:ZR)(hR:∀W W':Zl,FJ W' W.heap.size cs->G.B W->G.R k (jZ W.heap.size) W')(hs:∀W,(bZ [] o,(Z0 (evo (evl [])) o).run P W)=(H,.ok (.value (jZ W.heap.size)) (W.alloc (.cells cs.toArray T))):=by intro _;kernel_rfl):bG P Q G.flow ops a0 k o:=
 bK λa W b=>⟨[],_,_,trivial,hs W,aD _,hR W _ aE b.b⟩
def Sg(f:ph)(args:R Zm)(c:∀W,G.B W->ae P f args W (rZ W λe W'=>G.R k e W'))(hs:∀W,(bZ [] o,(Z0 (evo (evl [])) o).run P W)=(H,.ok (.enter f args) W):=by intro _;kernel_rfl):bG P Q G.flow ops a0 k o:=
 fM λa W b=>⟨[],f,args,trivial,hs W,c W b.b⟩
def xH(j:I)(t:Tmp)(f:ph)(args:Zm->R Zm)(c:∀x W,G.R j x W->G.B W->ae P f (args x) W (rZ W λe W'=>G.R k e W'))(hd:(bV o j,aP ops j)=(H,J t):=by kernel_rfl)(hs:∀x W,(bZ [t] o,(Z0 (evo (evl [(t,x)])) o).run P W)=(H,.ok (.enter f (args x)) W):=by intro _ _;kernel_rfl):bG P Q G.flow ops a0 k o:=
 fM λa W b=>⟨[(t,a.eval (.tmp t))],f,_,⟨Z,Fs⟩,hs _ W,c _ W (b.n j t (congrArg yD8 hd) (congrArg yD7 hd)) b.b⟩
def eT(j:I)(t:Tmp)(c:I)(b:Tmp)(f:ph)(args:Zm->Zm->R Zm)(g:∀x y W,G.R j x W->G.R c y W->G.B W->ae P f (args x y) W (rZ W λe W'=>G.R k e W'))(hd:((bV o j,aP ops j),(bV o c,aP ops c))=((H,J t),(H,J b)):=by kernel_rfl)(hs:∀x y W,(bZ [t,b] o,(Z0 (evo (evl [(t,x),(b,y)])) o).run P W)=(H,.ok (.enter f (args x y)) W):=by intro _ _ _;kernel_rfl):bG P Q G.flow ops a0 k o:=
 fM λa W d=>⟨[(t,a.eval (.tmp t)),(b,a.eval (.tmp b))],f,_,⟨Z,Z,Fs⟩,hs _ _ W,g _ _ W (d.n j t (congrArg (·.1.1) hd) (congrArg (·.1.2) hd)) (d.n c b (congrArg (·.2.1) hd) (congrArg (·.2.2) hd)) d.b⟩
def I7(j:I)(t:Tmp)(g:I)(d:Tmp)(c:I)(b:Tmp)(f:ph)(args:Zm->Zm->Zm->R Zm)(l:∀x y z W,G.R j x W->G.R g y W->G.R c z W->G.B W->ae P f (args x y z) W (rZ W λe W'=>G.R k e W'))(hd:((bV o j,aP ops j),(bV o g,aP ops g),(bV o c,aP ops c))=((H,J t),(H,J d),(H,J b)):=by kernel_rfl)(hs:∀x y z W,(bZ [t,d,b] o,(Z0 (evo (evl [(t,x),(d,y),(b,z)])) o).run P W)=(H,.ok (.enter f (args x y z)) W):=by intro _ _ _ _;kernel_rfl):bG P Q G.flow ops a0 k o:=
 fM λa W i=>⟨[(t,a.eval (.tmp t)),(d,a.eval (.tmp d)),(b,a.eval (.tmp b))],f,_,⟨Z,Z,Z,Fs⟩,hs _ _ _ W,l _ _ _ W (i.n j t (congrArg (·.1.1) hd) (congrArg (·.1.2) hd)) (i.n g d (congrArg (·.2.1.1) hd) (congrArg (·.2.1.2) hd)) (i.n c b (congrArg (·.2.2.1) hd) (congrArg (·.2.2.2) hd)) i.b⟩
def Se(T:ZR)(j:I)(t:Tmp)(c:I)(b:Tmp)(p:S1)(f:ph)(g:∀x W,G.R j x W->(pI T p).p x W)(i:∀x y W,p.p x W->G.R c y W->G.B W->ae P f #[x,y] W (rZ W λe W'=>G.R k e W'))(hd:((bV o j,aP ops j),(bV o c,aP ops c))=((H,J t),(H,J b)):=by kernel_rfl)(hs:∀x y W,(bZ [t,b] o,(Z0 (evo (evl [(t,.iface T x),(b,y)])) o).run P W)=(H,.ok (.enter f #[x,y]) W):=by intro _ _ _;kernel_rfl):bG P Q G.flow ops a0 k o:=
 fM λa W d=>by
  let⟨x,e,hx⟩:=g _ W (d.n j t (congrArg (·.1.1) hd) (congrArg (·.1.2) hd))
  exact⟨[(t,.iface T x),(b,a.eval (.tmp b))],f,_,⟨e,Z,Fs⟩,hs _ _ W,i _ _ W hx (d.n c b (congrArg (·.2.1) hd) (congrArg (·.2.2) hd)) d.b⟩
end RG
namespace RG
variable {P:ai}{ops:Array Z4}{Q:Exit->Act->Zl->Prop}{w:Zl}{a0:Act}{G:Gw}{k:Nat}{o:Z4}{T:ZR}{g off:Nat}{cs:List Zm}{v u v' z:Zm}{I:Sem Zm}{f:ph}{t:Tmp}
def gO(t:Tmp)(v:Zm)(b:a0.eval (.tmp t)=v:=by kernel_rfl)(hR:∀W,G.R k v W:=by exact λ_=>rfl)(hf:nU ops k t=H:=by kernel_rfl)(hs:∀W,(bZ [t] o,(Z0 (evo (evl [(t,v)])) o).run P W)=(H,.ok (.value v) W):=by intro _;kernel_rfl):bG P Q G.flow ops a0 k o:=WI b hR hf hs
def gP(t:Tmp)(v b:Zm)(c:a0.eval (.tmp t)=v:=by kernel_rfl)(hR:∀W,G.R k b W:=by exact λ_=>rfl)(hf:nU ops k t=H:=by kernel_rfl)(hs:∀W,(bZ [t] o,(Z0 (evo (evl [(t,v)])) o).run P W)=(H,.ok (.value b) W):=by intro _;kernel_rfl):bG P Q G.flow ops a0 k o:=WI c hR hf hs
def gLo(t:Tmp)(d:∀W,G.B W->W.rangeAt g off cs)(b:(P.underlying T).map (·.isRow)=J H)(e:(P.info? T).map (·.size)=J cs.length)(c:a0.eval (.tmp t)=oZ g off:=by kernel_rfl)(hR:∀W,G.R k (.agg cs.toArray) W:=by exact λ_=>rfl)(hf:nU ops k t=H:=by kernel_rfl)(ho:o.op=.load T (.tmp t):=by rfl):bG P Q G.flow ops a0 k o:=I6 t g off b e c d hR hf ho
def gLr(j:Nat)(t:Tmp)(d:∀W,G.B W->W.rangeAt g off cs)(c:(P.underlying T).map (·.isRow)=J H)(e:(P.info? T).map (·.size)=J cs.length)(b:∀x W,G.R j x W->x=oZ g off:=by exact λ_ _ h=>h)(hR:∀W,G.R k (.agg cs.toArray) W:=by exact λ_=>rfl)(hd:(bV o j,aP ops j)=(H,J t):=by kernel_rfl)(ho:o.op=.load T (.tmp t):=by rfl):bG P Q G.flow ops a0 k o:=WJ t c e b d hR hd ho
def gX(j:Nat)(t:Tmp)(b:Nat)(c:Tmp)(f:∀W,I.run P W=.ok v' W)(e:∀x W,G.R j x W->x=v:=by exact λ_ _ h=>h)(d:∀x W,G.R b x W->x=u:=by exact λ_ _ h=>h)(hR:∀W,G.R k v' W:=by exact λ_=>rfl)(hd:((bV o j,aP ops j),(bV o b,aP ops b))=((H,J t),(H,J c)):=by kernel_rfl)(hs:(bZ [t,c] o,Z0 (evo (evl [(t,v),(c,u)])) o)=(H,I >>= λv=>pure (pi v)):=by kernel_rfl):bG P Q G.flow ops a0 k o:=WH j t b c v u f e d hR hd hs
def gC2(j:Nat)(t:Tmp)(b:Nat)(c:Tmp)(m:∀W,ae P f #[v,u] W (rZ W λe W'=>e=v'))(l:∀x W,G.R j x W->x=v:=by exact λ_ _ h=>h)(d:∀x W,G.R b x W->x=u:=by exact λ_ _ h=>h)(hR:∀W,G.R k v' W:=by exact λ_=>rfl)(hd:((bV o j,aP ops j),(bV o b,aP ops b))=((H,J t),(H,J c)):=by kernel_rfl)(hs:∀x y W,(bZ [t,c] o,(Z0 (evo (evl [(t,x),(c,y)])) o).run P W)=(H,.ok (.enter f #[x,y]) W):=by intro _ _ _;kernel_rfl):bG P Q G.flow ops a0 k o:=
 eT j t b c f (λx y=>#[x,y]) (λx y W h1 g _=>by
  rw[l x W h1,d y W g];apply(m W).mono;rintro e W' ⟨a,rfl,i,rfl⟩;exact⟨_,Z,i,hR W'⟩) hd hs
def gC3(j:Nat)(t:Tmp)(g:Nat)(i:Tmp)(c:Nat)(b:Tmp)(q:∀W,ae P f #[v,u,z] W (rZ W λe W'=>e=v'))(s:∀x W,G.R j x W->x=v:=by exact λ_ _ h=>h)(l:∀x W,G.R g x W->x=u:=by exact λ_ _ h=>h)(d:∀x W,G.R c x W->x=z:=by exact λ_ _ h=>h)(hR:∀W,G.R k v' W:=by exact λ_=>rfl)(hd:((bV o j,aP ops j),(bV o g,aP ops g),(bV o c,aP ops c))=((H,J t),(H,J i),(H,J b)):=by kernel_rfl)(hs:∀x y z W,(bZ [t,i,b] o,(Z0 (evo (evl [(t,x),(i,y),(b,z)])) o).run P W)=(H,.ok (.enter f #[x,y,z]) W):=by intro _ _ _ _;kernel_rfl):bG P Q G.flow ops a0 k o:=
 I7 j t g i c b f (λx y z=>#[x,y,z]) (λx y p W h1 m r _=>by
  rw[s x W h1,l y W m,d p W r];apply(q W).mono;rintro e W' ⟨a,rfl,n,rfl⟩;exact⟨_,Z,n,hR W'⟩) hd hs
end RG
def fG(n:I):Bs:=#[aV n 16777216,aV n 65536,aV n 256,aV n 1]
def MR{n:I}(h:hZ w r 0 (fG n)):PartOk w (sZ r 4 4) (fG n).toList:=
 ⟨_,r,0,4,fG n,Z,Z,Zo _,qt Z,ZW ⟨Z,h⟩⟩
def Qu:FL 105 #[U 1] (nv 1):=by
 intro w;go_enter func105,ntmps105;refine RG.M.enter [(0,.v (U 1))] 6 kR λa0 b=>?_
 refine Zq <| b.T [.m 0] [(0,RG.z 4)] [] [0,2] ⟨mk 0 93,Fs⟩ λk f e d=>?_
 refine Zq <| d.T [.x (U 1),.x (nv 1),.x (nv 1),.u 0] [] [(0,3,wn 1)] [2] ⟨st,st,st,RG.pt In,Fs⟩ λa2 g c=>?_
 exact ag (c.rr 0 Z u40 In)
def jT(a:I):I:=if a=0 then 1 else a
def Qo(O:Ord N){a:I}(m:a<N):FL 189 #[nv a] (nv (jT a)):=by
 intro w;have e:∀w:Zl,(binOp .eql 93 (nv a) (nv 0)).run prog w=.ok (.bool (decide (a=0))) w:=λw=>eqS (Zn m O.le) (show 0<top by unfold top;omega)
 let⟨d,hd⟩:=hE (decide (a=0))
 rw[hd.out]at e;go_enter func189,ntmps189;refine RG.M.enter [(0,.v (nv a))] 8 kR λa0 l=>?_
 refine Zq <| l.T [.m 0,.m 1] [(0,wn a),(1,RG.z 4)] [] [1,2] ⟨mk 0 93,mk 1 93,Fs⟩ λo p q n i=>?_
 refine Zq <| Zq <| i.U [.x (nv a),.x (nv 0),.x (.bool d)] [1,2,5] ⟨ld u40 In,st,aT Z .eql 93 Z Z sx sx (λw=>kR) e,Fs⟩ λa2 r k=>?_
 cases d with
 | true =>
  refine Z6 k.ev ?_;have g:=of_decide_eq_true hd;have c:jT a=1:=by unfold jT;rw[GD g]
  rw[c];refine Zq <| k.T [.c (nv 1),.u 1] [] [(1,1,wn 1)] [2] ⟨cl Qu,RG.pt In,Fs⟩ λj f b=>?_
  exact ag (b.rr 1 Z u40 In)
 | false =>
  refine Z2 k.ev ?_;have c:jT a=a:=by unfold jT;rw[Id (of_decide_eq_false hd.out)]
  rw[c];refine aw<|Zq <| k.T [.x (nv a),.u 1] [] [(1,1,wn a)] [2] ⟨ld u40 In,RG.pt In,Fs⟩ λj f b=>?_
  exact ag (b.rr 1 Z u40 In)
section
section
variable {P:ai}{ops:Array Z4}{rest:List Z4}{op:Z4}{a:Act}{w w':Zl}{v:Zm}{Q:Exit->Act->Zl->Prop}
def yT{x:oF}{b o:I}(c:op.guard=F)(k:ZR)(ho:op.op=.store k x y)(v:Zm)(hx:a.eval x=oZ b o)(g:a.eval y=v)(hv:v.cells=#[v])(h1:v.oneCell'=H)(d:w.there b o 1)(j:(P.info? k).map (·.size)=J 1)(h:wpList P ops Q rest (a.put op.dst am) (w.setCells b o [v])):wpList P ops Q (op :: rest) a w:=
 sj c λ_ f=>by
  have i:=run_storeVar_mid (P:=P) w b o k #[v] d j (by simp[h1]);have e:storeVar k ⟨b,o,F⟩ v=storeVar k ⟨b,o,F⟩ (.agg #[v]):=by
   rw[storeVar,hv];rfl
  unfold ao Z0;simp only[ho,hx,g,Instr.storeAt,Instr.sureAddr,ZK,qj,lp,e,i];exact f _ _ h
def vE{d:Array ZR}{x:Zm}(k:op.guard=F)(s t:Tmp)(ho:op.op=.call ⟨.value (.tmp s),#[.tmp t],d⟩)(hs:a.eval (.tmp s)=.func (.func f) #[] cap)(hx:a.eval (.tmp t)=x)(hf:∀args W,(callFunc f args).run P W=.ok (.enter f args) W){R:Zm->Zl->Prop}(g:ae P f (#[x]++cap) w (Ret R))(h:∀v w',R v w'->wpList P ops Q rest (a.put op.dst v) w'):wpList P ops Q (op :: rest) a w:=
 sj k λK b=>by
  have c:(Z0 a.eval op).run P w=.ok (.enter f (#[x]++cap)) w:=by
   rw[Z0,ho];have e:(#[yEI t].map a.eval)=#[x]:=by simp[hx]
   simp only[resolve,hs,yE7,ZK,qj,lp,invoke,e];exact hf _ w
  rw[ao,c,Oper.upon_enter];refine g.mono ?_;rintro e w' ⟨v,rfl,hR⟩;exact b _ _ (h v w' hR)
end
end
def Ad(n:I)(l:n<4294967296)(w:Zl):dZ 191 #[iZ n] w λe w'=>∃r,e=sZ r 4 4/\r<w'.heap.size/\hZ w' r 0 (fG n):=by
 have b:(n:Y)/16777216%256=SP.ub (aV n 16777216):=dR;have b0:(n:Y)/16777216=SP.ub (aV n 16777216):=S;clear b;have b1:(n:Y)/65536%256=SP.ub (aV n 65536):=dR;have i:(n:Y)/256%256=SP.ub (aV n 256):=dR;have j:(n:Y)%256=SP.ub (aV n 1):=pQ n;have d:=nK w (x:=(aV n 16777216)) (y:=(aV n 65536)) (z:=(aV n 256)) (aV n 1);have f:E (fG n=#[aV n 16777216,aV n 65536,aV n 256,aV n 1]):=rfl;generalize aV n 16777216=c at *;generalize aV n 65536=x1 at *;generalize aV n 256=x2 at *;generalize aV n 1=g at *;have k:kZ w (w.alloc (.cells #[.int .u8 (SP.ub c),.int .u8 (SP.ub x1),.int .u8 (SP.ub x2),.int .u8 (SP.ub g)] 5)):=(ZF _ _).alloc (Zo _) _;go_enter func191,ntmps191;go_wp2;go_ret;refine⟨_,Z,k,_,Z,by rw[Zy];omega,?_⟩;rw[f.out];exact d
def CS(a:Bs)(j:a.size=33)(w:Zl):ae prog 123 #[pvl a] w (rZ w λe w'=>Sm w.heap.size w' e [(1,a)]):=by
 have l:=Hid.mk' (uP j w);obtain⟨g,f⟩:=hE (w.alloc (.cells (aA a).toArray 40));rw[f.out]at l;have K:E (FJ g w.heap.size (aA a)/\kZ w g):=by rw[<-f.out];exact⟨aE,aD _⟩
 obtain⟨va,d⟩:=hE (pvl a);have i:E ((aj 40 va).run prog w=.ok (jZ w.heap.size) g):=by rw[<-d.out];exact l
 rw[d.out];go_enter func123,ntmps123;go_wp2_with (first|(refine aI (u:=va) (v:=jZ w.heap.size) (w':=g) Z 40 (.tmp 0) Z ?_ ?_ ?_;rfl;exact i)|fail)
 refine(gwL [pE (pvl a),pE (nv 1),pM (w.heap.size<=·) [(1,a)],pM (w.heap.size<=·) [(1,a)]] (λW=>FJ W w.heap.size (aA a)/\kZ w W) (λW W' b h=>⟨h.1.below b,h.2.trans (b.mono h.2.size)⟩)).draws kR kR ⟨
  I6 1 w.heap.size 0 (cs:=(aA a)) uCP (by rw[aB j];exact dB) Z (λW c=>c.1.2.1) (λ_=>rfl),
  Sg 105 #[U 1] λW c=>(Na W).mono (by
   rintro e W' ⟨u,rfl,b,rfl⟩;exact⟨_,Z,b,Z⟩),
  eT 0 3 1 4 100 (λx y=>#[x,y]) λx y W hx n c=>by
   obtain rfl:x=pvl a:=hx;obtain rfl:y=nv 1:=n;apply(mI a j 1 W).mono;rintro e W' ⟨u,rfl,b,k,rfl,m,hR⟩;exact⟨_,Z,b,Sm.one hR (Zw c.2.size m) Z⟩,
  Ky 2 5 id λx W h=>h,Fs⟩ ⟨K.1,K.2.drew⟩ ?_
 intro V m hR c;dsimp only[cD,mi];go_wp2;go_ret;exact⟨_,Z,(mk1 (c.2)).out,(mk1 (hR 3 (yh (qt kR)))).out⟩
def u9s:wZ 9:=wQ
def pH(n:I)(b:Bs):S1:=⟨λv W=>∃r,v=sZ r n n/\r<W.heap.size/\hZ W r 0 b,λ_ _ _ c ⟨r,h1,k,d⟩=>⟨r,h1,Zn k c.size,Holds.below d c k⟩⟩
noncomputable def hpN (P:I) [NeZero P] (lb:Fd) (i:I):Bs:=wr (.some (hpt P lb (fG i).toList):EC.Pt P)
def NA{lb:Fd}{i:I}:(hpN P lb i).size=33:=aR _
def TY(C:IO P)(lb:Fd)(j:lb.size<=1000000)(i:I)(z:i<4294967296)(k:I)(w:Zl)(s:k<w.heap.size)(a:w.cell? ⟨k,0,F⟩=J (.string lb)):
 dZ 190 #[iZ i,jZ k] w λe w'=>Sm w.heap.size w' e [(1,hpN P lb i)]:=by
 let⟨T,hT⟩:=hE (hpN P lb i)
 have f:T.size=33:=hT.out▸NA;rw[hT.out];have o:=λ(W:Zl) (n:GJ Addr) (l m:I) (t:PartOk W (.slice n l m) (fG i).toList)=>Jt C lb j n l m (fG i).toList W t
 have q:wr (.some (hpt P lb (fG i).toList):EC.Pt P)=T:=hT;rw[q]at o;go_enter func190,ntmps190;go_wp2_with fail
 refine(gwL [pE (.string lb),pE (iZ i),pH 4 (fG i),pE (pvl T),pM (w.heap.size<=·) [(1,T)],pM (w.heap.size<=·) [(1,T)]] (λW=>W.cell? ⟨k,0,F⟩=J (.string lb)/\kZ w W) (λW W' b h=>⟨by rw[b.cell (p:=⟨k,0,F⟩) (Zn s h.2.size)];exact h.1,h.2.trans (b.mono h.2.size)⟩)).draws kR kR ⟨
  UE 1 k 0 (.string lb) u9s Z (λW c=>c.1) (λ_=>rfl),
  RG.gO 0 (iZ i),
  xH 1 5 191 (λx=>#[x]) (λx W hx c=>by
   obtain rfl:x=iZ i:=hx;apply((Hid.mk' (λW=>Ad i z W)) W).mono;rintro e W' ⟨u,rfl,b,r,rfl,h1,d⟩;exact⟨_,Z,b,r,Z,h1,d⟩),
  eT 0 4 2 6 124 (λx y=>#[x,y]) (λx y W hx v c=>by
   obtain rfl:x=.string lb:=hx;obtain⟨r,rfl,h1,d⟩:=v;apply((Hid.mk' o) W _ _ _ (MR d)).mono;rintro e W' ⟨u,rfl,b,rfl⟩;exact⟨_,Z,b,Z⟩),
  xH 3 7 123 (λx=>#[x]) (λx W hx c=>by
   obtain rfl:x=pvl T:=hx;apply(CS T f W).mono;rintro e W' ⟨u,rfl,b,hs⟩;exact⟨_,Z,b,hs.q.mono λg d=>Zw c.2.size d⟩),
  Ky 4 8 id (λx W h=>h),Fs⟩ ⟨(mk1 a).out,(ZF _ w).drew⟩ ?_
 intro V d hR c;dsimp only[cD,mi];simp only[ah,Zr,Zt,Zu];go_wp2;go_ret;exact⟨_,Z,(mk1 (c.2)).out,(mk1 (hR 5 (yh (qt kR)))).out⟩
def uSu:prog.underlying 122=J (.slice 124):=kR
def iSu:(prog.info? 124).map (λi=>(i.size,decide (i.bytes<=4000),i.zero.isSome))=J (1,H,H):=kR
def WE:gZ 124 1:=gQ
structure LsI(w W:Zl)(K n i:I)(T:I->LB):Prop where
 bl:kZ w W
 lt:K<W.heap.size
 th:W.there K 0 n
 ge:w.heap.size<=K
 el:∀j,j<i->∃x,W.cell? ⟨K,j,F⟩=J x/\SmQ (λg=>w.heap.size<=g/\g≠K) W x (T j)
def LsI.grow{n i:I}(h:LsI w W K n i T)(k:kZ W W'):LsI w W' K n i T:=
 ⟨h.bl.trans (k.mono h.bl.size),Zn h.lt k.size,eM h.th k h.lt,h.ge,λj b=>by
  let⟨x,h1,c⟩:=h.el j b
  exact⟨x,by rw[k.cell (p:=⟨K,j,F⟩) h.lt];exact h1,c.keep (Kq.of_below k)⟩⟩
def Kq.set{o:I}(b:∀g,Q g->g≠K):Kq Q W (W.setCells K o vs):=⟨by rw[setCells_size];exact Zo _,λg k _=>aM vs o W g (b g k)⟩
def LsI.put{n i:I}{x:Zm}(h:LsI w W K n i T)(m:i<n)(hx:SmQ (λg=>w.heap.size<=g/\g≠K) W x (T i)):LsI w (W.setCells K i [x]) K n (i+1) T:=by
 have b:Kq (λg=>w.heap.size<=g/\g≠K) W (W.setCells K i [x]):=Kq.set λg f=>f.2
 refine⟨RG.below_setCells h.ge _ _ _ h.bl,by rw[setCells_size];exact h.lt,ym h.th _ _ _,h.ge,λj o=>?_⟩;by_cases e:j=i
 .subst e;refine⟨x,?_,hx.keep b⟩;have:=yj W K j [x] (λt c=>by
   have k:t=0:=by simp at c;omega
   subst k;have:=h.th j m;rwa[Zs]at this) 0 x Z
  exact this
 let⟨y,h1,d⟩:=h.el j S
 refine⟨y,?_,d.keep b⟩;have l:W.rangeAt K j [y]:=λt u c=>by
  have k:t=0:=by have:=(Zz.1 c).1;simp at this;omega
  subst k;obtain rfl:y=u:=by simpa using c
  exact h1
 exact su l K i [x] (ZW (by simp;omega)) 0 y Z
def LsI.gl{n:I}(h:LsI w W K n n T):GLq (w.heap.size<=·) W (sZ K n n) n T:=
 ⟨K,0,n,Z,Zo _,h.ge,h.lt,λj k=>by
  let⟨x,h1,b⟩:=h.el j k
  exact⟨x,by rw[Zs];exact h1,b.mono λg c=>c.1⟩⟩
def SmQ.one{v:Zm}(h:SmQ Q W v l):v.cells=#[v]/\v.oneCell'=H:=by
 obtain⟨g,c,rfl,-⟩:=h;exact⟨Z,Z⟩
def BW(n:I)(V:n<=512)(f:ph)(cap:R Zm)(hf:∀args W,(callFunc f args).run prog W=.ok (.enter f args) W)(T:I->LB)(w:Zl)
 (C:∀i W,i<n->kZ w W->dZ f (#[iZ i]++cap) W λe W'=>Sm W.heap.size W' e (T i)) :
 dZ 126 #[iZ n,.func (.func f) #[] cap] w λe w'=>GLq (w.heap.size<=·) w' e n T:=by
 obtain⟨C0,d,q⟩:=Ex uSu iSu n V;have k:=q w;obtain⟨K,s⟩:=yH w.heap.size;obtain⟨r,b⟩:=yH (w.alloc (.cells C0.toArray 124));have u:Ar w r K 1 n 0 (λ_=>[]):=Ar.new _ d b.out s.out;rw[b.out,s.out]at k;have O:E (LsI w r K n 0 T):=⟨u.bl,u.lt,by have:=u.th;rwa[tF]at this,by rw[s.out];exact Zo _,λj X=>absurd X (uv _)⟩
 have P:=Hid.mk' C;have N:=Hid.mk' hf;obtain⟨fv,l⟩:=hE (yEw (.func f) #[] cap);rw[l.out];clear u d q C hf b s;go_enter func126,ntmps126;go_wp2;clear k;go_loopg [11] n (λm s11 W=>∃i:I,i+m=n/\s11=iZ i/\E (LsI w W K n i T))
 case atStart=>exact⟨0,S,Z,O⟩
 case round =>
  obtain⟨i,Q,rfl,c⟩:=hrel;by_cases v:i<n
  .have y:(i:Y)<(n:Y):=S;have x:=atS K 0 (n:=n) n (i:=i) v;rw[show 0+1*i=i by omega]at x;go_wp2_with (first|(refine vE Z 16 17 Z (f:=f) (cap:=cap) (x:=(iZ i)) ?_ ?_ N.out (P i wr (Hid.mk' v).out c.bl) ?_;exact l.symm;rfl;intro e W' hR;refine z9 ?_)|fail)
   obtain⟨L,hS⟩:=hR;have z:=c.grow L;have p:SmQ (λg=>w.heap.size<=g/\g≠K) W' e (T i):=hS.q.mono λg M=>⟨Zw (Zw c.bl.size (Zo _)) M,oN c.lt⟩
   have a:=mk1 (z.put v p);have HT:E (W'.there K i 1):=λt ht=>by
    have o:t=0:=S;subst o;have:=z.th i v;rwa[Zs]at this
   have A:=Hid.mk' p.one;obtain⟨W4,o⟩:=hE (W'.setCells K i [e]);rw[o.out]at a;show wpList _ _ _ _ _ _;go_wp2_with (first|(refine yT Z 124 Z (b:=K) (o:=i) e ?_ ?_ A.1 A.2 HT.out WE ?_;rfl;rfl;rw[o.out])|fail)
   go_roundg (gk-1)
   case measure=>omega
   case rel=>exact⟨i+1,S,Z,a⟩
  .have y:¬(i:Y)<(n:Y):=S;obtain rfl:i=n:=S;have o:=mk2 c.bl c.gl;go_wp2;go_ret;exact⟨_,Z,o.1,o.2⟩
def xA(C:IO P)(lb:Fd)(j:lb.size<=1000000)(n:I)(s:n<=512)(w:Zl):
 dZ 122 #[.string lb,iZ n] w λe w'=>GLq (w.heap.size<=·) w' e n (λi=>[(1,hpN P lb i)]):=by
 let⟨c,b⟩:=hE (w.alloc (.cells #[.string lb] 9))
 let⟨k,l⟩:=hE w.heap.size
 have o:kZ w c:=b.out▸aD _;have hR:FJ c k [.string lb]:=b.out▸l.out▸aE;have r:=Hid.mk' (BW n s 190 #[jZ k] (λ_ _=>kR) (λi=>[(1,hpN P lb i)]) c (λi W t m=>TY C lb j i S k W (Zn hR.1 m.size) (by rw[m.cell (p:=⟨k,0,F⟩) hR.1];exact hR.2.1 0 _ Z)));have d:=Hid.mk' o;go_enter func122,ntmps122;go_wp2_with fail
 rw[b.out,l.out];refine r.mono ?_;rintro e u ⟨v,rfl,f,hG⟩;go_wp2;go_ret;exact⟨_,Z,(mk2 (d.trans (f.mono d.size)) (hG.mono λg q=>Zw d.size q)).out⟩
noncomputable def hpU (P:I) [NeZero P]:Bs:=wr (.some (hpt P ⟨#[105,110,110,101,114]⟩ []):EC.Pt P)
def iGr:gZ 126 3:=gQ
def uGr:yZ 126:=yQ
noncomputable def gGT (P:I) [NeZero P] (i:I):LB:=[(1,hpN P ⟨#[108,101,102,116]⟩ i)]
noncomputable def hGT (P:I) [NeZero P] (i:I):LB:=[(1,hpN P ⟨#[114,105,103,104,116]⟩ i)]
noncomputable def uGT (P:I) [NeZero P]:LB:=[(1,hpU P)]
def Av(C:IO P)(n:I)(hn:n<=512)(w:Zl):
 dZ 57 #[iZ n] w λe w'=>GRq (w.heap.size<=·) w' e n (gGT P) (hGT P) (uGT P):=by
 have V:=λW=>xA C ⟨#[108,101,102,116]⟩ dC n hn W
 have Q:=λW=>xA C ⟨#[114,105,103,104,116]⟩ dC n hn W
 have hU:=λW:Zl=>Jt C ⟨#[105,110,110,101,114]⟩ dC F 0 0 [] W ⟨F,0,0,0,#[],Z,Z,Zo _,pj _,Z5 Z⟩
 have e0:wr (.some (hpt P ⟨#[105,110,110,101,114]⟩ []):EC.Pt P)=hpU P:=rfl;rw[e0]at hU;have hO:=λW=>CS (hpU P) (aR _) W
 obtain⟨U,T⟩:=yH (hpU P);have e1:uGT P=[(1,U)]:=by unfold uGT;rw[T.out]
 rw[e1];rw[T.out]at hU hO;have t:=Hid.mk' (gF V (gF Q (gF hU hO)));have e2:(λi=>[(1,hpN P ⟨#[108,101,102,116]⟩ i)])=gGT P:=rfl;have e3:(λi=>[(1,hpN P ⟨#[114,105,103,104,116]⟩ i)])=hGT P:=rfl;rw[e2,e3]at t;generalize gGT P=G at t⊢;generalize hGT P=H at t⊢;clear V Q hU hO e0 e1 e2 e3 C hn;obtain⟨y,M⟩:=yH (w.alloc (.cells #[nZ,nZ,nZ] 126));obtain⟨k,X⟩:=yH w.heap.size;have K1:E (kZ w y/\FJ y k [nZ,nZ,nZ]):=by rw[<-M.out,<-X.out];exact⟨aD _,aE⟩
 go_enter func57,ntmps57;go_wp2_with fail
 rw[M.out,X.out];refine(t.1 y).mono ?_;rintro e w2 ⟨v1,rfl,N,hG⟩;have K:E (kZ w w2/\FJ w2 k [nZ,nZ,nZ]/\GLq (k < ·) w2 v1 n G):=⟨K1.1.trans (N.mono K1.1.size),K1.2.below N,hG.mono λg j=>Zn K1.2.1 j⟩
 go_wp2_with fail
 refine(t.2.1 w2).mono ?_;rintro e z ⟨v2,rfl,u,hG⟩;have L:E (kZ w z/\FJ z k [nZ,nZ,nZ]/\GLq (k < ·) z v1 n G/\GLq (k < ·) z v2 n H):=⟨K.1.trans (u.mono K.1.size),K.2.1.below u,K.2.2.keep (Kq.of_below u),hG.mono λg j=>Zn K.2.1.1 j⟩
 go_wp2_with fail
 refine(t.2.2.1 z).mono ?_;rintro e x ⟨v,rfl,f,rfl⟩;have s:E (kZ w x/\FJ x k [nZ,nZ,nZ]/\GLq (k < ·) x v1 n G/\GLq (k < ·) x v2 n H):=⟨L.1.trans (f.mono L.1.size),L.2.1.below f,L.2.2.1.keep (Kq.of_below f),L.2.2.2.keep (Kq.of_below f)⟩
 obtain⟨vu,O⟩:=hE (pvl U);have HO:E (∀W:Zl,dZ 123 #[vu] W λe w'=>Sm W.heap.size w' e [(1,U)]):=by rw[<-O.out];exact t.2.2.2
 rw[O.out];go_wp2_with fail
 refine(HO x).mono ?_;rintro e d ⟨v3,rfl,b,hS⟩;have c:E (kZ w d/\FJ d k [nZ,nZ,nZ]/\GLq (k < ·) d v1 n G/\GLq (k < ·) d v2 n H/\SmQ (k < ·) d v3 [(1,U)]):=⟨s.1.trans (b.mono s.1.size),s.2.1.below b,s.2.2.1.keep (Kq.of_below b),s.2.2.2.keep (Kq.of_below b),hS.q.mono λg j=>Zn s.2.1.1 j⟩
 clear b hS s HO;obtain⟨p,o,c1,rfl,-⟩:=c.2.2.1;obtain⟨l,m,c2,rfl,-⟩:=c.2.2.2.1;obtain⟨r,q,rfl,-⟩:=c.2.2.2.2;obtain⟨A,a⟩:∃A,E (d.setCells k 0 [qZ p o n c1,qZ l m n c2,sZ r [(1,U)].length q]=A):=⟨_,Hid.mk' Z⟩
 have K6:E (kZ w A/\FJ A k [qZ p o n c1,qZ l m n c2,sZ r [(1,U)].length q]/\GRq (w.heap.size<=·) A (.agg #[qZ p o n c1,qZ l m n c2,sZ r [(1,U)].length q]) n G H [(1,U)]):=by
  rw[<-a.out];have hq:∀g,k<g->w.heap.size<=g:=λg j=>by rw[X.out];omega
  have kq:Kq (k < ·) d (d.setCells k 0 [qZ p o n c1,qZ l m n c2,sZ r [(1,U)].length q]):=Kq.set λg j=>pe j
  exact⟨RG.below_setCells (by rw[X.out];exact Zo _) _ _ _ c.1,c.2.1.put Z,_,_,_,Z,(c.2.2.1.keep kq).mono hq,(c.2.2.2.1.keep kq).mono hq,(c.2.2.2.2.keep kq).mono hq⟩
 go_wp2_with (refine bH (v:=.agg #[qZ p o n c1,qZ l m n c2,sZ r [(1,U)].length q]) (w':=d) Z (.build 126 _) Z ?_ ?_;kernel_rfl;refine z9 ?_)
 show wpList _ _ _ _ _ _;refine ZZ Z 126 _ _ Z k 0 #[qZ p o n c1,qZ l m n c2,sZ r [(1,U)].length q] ?_ ?_ (mk1 c.2.1.2.2).out iGr ?_ ?_
 .kernel_rfl
 .kernel_rfl
 .kernel_rfl
 rw[show(#[qZ p o n c1,qZ l m n c2,sZ r [(1,U)].length q]:R Zm).toList=[qZ p o n c1,qZ l m n c2,sZ r [(1,U)].length q] from Z,a.out];go_wp2;refine Zx (aG 2 Z K6.2.1 Z uGr iGr) Z ?_;exact⟨_,Z,K6.1,K6.2.2⟩
def Y9{n i:I}(k o c:I)(b:i<n)(w:Zl):(iB 23 (qZ k o n c) (iZ i)).run prog w=.ok (oZ k (o+i)) w:=by
 go_simp
def mM{o n i:I}(b:i<n)(w:Zl):(iB 109 (qZ k o n c) (iZ i)).run prog w=.ok (oZ k (o+4*i)) w:=by
 go_simp
def YC(l:N<=512):∃C0:G Zm,C0.length=4*N/\∀w:Zl,(ue 109 (iZ N) (iZ N)).run prog w=.ok (sZ w.heap.size N N) (w.alloc (.cells C0.toArray 93)):=by
 have e:prog.underlying 109=J (.slice 93):=kR;have d:(prog.info? 93).map (λi=>(i.size,decide (i.bytes<=4000),i.zero.isSome))=J (4,H,H):=kR;let⟨i,b,k⟩:=Zp.1 d
 simp only[an.injEq,decide_eq_true_eq]at k;let⟨h1,c,g⟩:=k
 let⟨z,m⟩:=Z8.1 g
 refine⟨(madeCells z.cells (N*4)).toList,by rw[ZE,DH,ax],λw=>?_⟩;have j:(i.bytes:Y)*(N:Y)<=281474976710656:=by
  have:i.bytes*N<=4000*512:=qm c l;have f:((i.bytes*N:I):Y)<=281474976710656:=S;rwa[sg]at f
 have:=run_make (P:=prog) w 109 93 i z e b m .i64 .i64 (N:Y) (N:Y) S S j S;rw[DP,h1]at this;rw[DE];exact this
def Zk(N:I)(w:Zl)(n:I)(L:I->Bs)(e:Zm)(w':Zl):Prop:=
 ((∃j,j<n/\rq N (L j)=F)/\kZ w w'/\e=.tuple #[nZ,fZ]) \/
 ((∀j,j<n->(rq N (L j)).isSome=H)/\∃k C,Made w k C w'/\Rows 4 n (λj=>wn ((rq N (L j)).getD 0)) n C/\e=.tuple #[sZ k n n,tZ])
def FiL.made{n:I}{f:I->I}(h:FiL 4 w W K n n λj=>wn (f j)):Made w K (tbN f n) W:=⟨h.bl,h.kl,h.lt,λr u k=>by
 have hl:=(Zz.1 k).1;rw[iF]at hl;have e:4*(r/4)+r%4=r:=S;rw[<-e,zA f S n S]at k;rw[Zs,<-e];exact h.at_ (r/4) S _ u k,by rw[iF];exact h.th⟩
section
variable {P:ai}{o:Z4}{ev:oF->Zm}{w:Zl}{x:Zm}
def U1{k:R ZR}{s:Tmp}(hf:∀args W,(callFunc f args).run P W=.ok (.enter f args) W)(ho:o.op=.call ⟨.value (.tmp s),#[.tmp t],k⟩)(hs:ev (.tmp s)=.func (.func f) #[] #[])(hx:ev (.tmp t)=x):(Z0 ev o).run P w=.ok (.enter f #[x]) w:=by
 unfold Z0;rw[ho];have e:(#[yEI t].map ev)=#[x]:=by simp[hx]
 simp only[resolve,hs,yE7,ZK,qj,lp,invoke,e];rw[show(#[]:R Zm)++#[x]=#[x] from Z]<;>exact hf _ _
end
def Xq:∀args W,(callFunc 46 args).run prog W=.ok (.enter 46 args) W:=λ_ _=>kR
def JC(O:Ord N)(n cap:I)(hn:n<=512)(q:GJ Addr)(L:I->Bs)(w:Zl)(hA:Args w q n L):ae prog 54 #[(.func (.func 46) #[] #[]),.slice q n cap] w (Ret λe w'=>Zk N w n L e w'):=by
 obtain⟨C0,t,x⟩:=YC (N:=n) hn;refine hG w.heap.size λK Q=>?_
 refine hG (w.alloc (.cells C0.toArray 93)) λw1 c=>?_
 have mk:=x w;rw[Q.out,c.out]at mk;obtain⟨f,hf⟩:=hE (λj=>(rq N (L j)).getD 0);have F0:=mk1 (FiL.new (C:=λj=>wn (f j)) Q c t);have HA:=mk1 hA;clear x hA t Q c;go_enter func54,ntmps54;refine PW.rg [.slice none 0 0,.bool D] ?_;refine PW.bg [iZ n] ?_;refine PW.ns mk ?_;refine PW.en [sZ K n n] ?_;refine Zq<|PW.rg [iZ n,iZ 0] ?_
 apply ay;go_loopg [16] n (λgk s16 wr=>∃i:I,i+gk=n/\s16=iZ i/\E (FiL 4 w wr K n i (λj=>wn (f j))/\∀j,j<i->(rq N (L j)).isSome=H))
 exact⟨0,S,Z,F0,λj A=>absurd A (uv _)⟩;clear F0;obtain⟨i,h0,rfl,F⟩:=hrel;refine PW.rg [.bool (decide ((i:Y)<(n:Y)))] ?_;by_cases y:i<n
 .have b:(i:Y)<(n:Y):=S;rw[decide_eq_true b];have W:ZN.wrap ((i:Y)+1)=((i+1:I):Y):=by rw[pk];omega
  obtain⟨g,rfl,hg,hc⟩:=HA S;obtain⟨v,hv,s⟩:=hc i y;have o:=(F.1.bl.cell (p:=⟨g,i,none⟩) hg).trans hv;have T:=Ih O (v:=v) (bs:=(L i)) (w:=wr) (s.below F.1.bl);rw[show(rq N (L i)).getD 0=f i by rw[<-hf.out]]at T;obtain⟨q1,n1,c1,rfl,-⟩:=id s;obtain⟨vz,k⟩:=hE (nv (f i));rw[k.out]at T;refine Zq<|Z6 rfl<|aw<|Zq<|ay<|PW.bg [] ?_
  have V:=Y9 g 0 (n:=n) cap (i:=i) y wr;rw[Zs]at V;refine PW.ns V ?_;refine PW.ce o uBb ?_;refine PW.en [iZ i,.slice q1 n1 c1] ?_;clear o hc V;refine PW.bg [] ?_;refine PW.ca T ?_ Z Z (U1 Xq Z Z Z);rintro e M ⟨hb,rfl⟩;have m:=mk2 (F.1.grow hb) F.2;refine hG M.heap.size λk9 u=>?_
  refine hG (M.alloc (.cells (wn 0).toArray 93)) λw3 l=>?_
  refine hG (w3.setCells k9 0 (wn (f i))) λw4 d=>?_
  have M3:=mk1 ((Mp.start M).new u l);have X:=mk1 (M3.put 0 d);refine PW.go [vz,.bool (rq N (L i)).isSome] ?_;refine PW.al u l ?_;refine PW.st d k (M3.th 0) In kR ?_;refine PW.en [.bool (rq N (L i)).isSome] ?_;cases a:(rq N (L i)).isSome with
  | false =>
   refine Zq<|PW.rg [.bool H] ?_
   refine Z6 rfl<|PW.rg [.slice none 0 0,.bool D] ?_
   refine ag<|Zx (jE 4 5 Z Z Z) Z ?_
   exact⟨_,Z,Z5 ⟨⟨i,y,GJ.not_isSome_iff_eq_none.1 (by rw[a];exact Hc.false_ne_true)⟩,m.1.bl.trans (X.bl.mono m.1.bl.size),Z⟩⟩
  | true =>
   refine hG (w4.setCells K (4*i) (wn (f i))) λw5 z=>?_
   obtain⟨th,F5⟩:=(m.1.grow X.bl).put y Z (λ_ _=>rfl) z;have FF:E (FiL 4 w w5 K n (i+1) (λj=>wn (f j))/\∀j,j<i+1->(rq N (L j)).isSome=H):=⟨F5,λj A=>by
    by_cases h:j<i
    .exact m.2 j h
    obtain rfl:j=i:=S;exact a⟩
   clear F5 F m;refine Zq<|PW.rg [.bool D] ?_
   refine Z2 rfl<|aw<|PW.bb [] ?_
   refine PW.ro (X.at_ 0).2.1 k u40 In ?_;have ib:=mM (k:=K) (o:=0) (n:=n) (c:=n) (i:=i) y w4;rw[Zs]at ib;refine PW.ns ib ?_;refine PW.st z k th In kR ?_;refine PW.dn ?_;refine PW.bb [iZ (ZN.wrap ((i:Y)+1))] ?_;rw[W];go_wp2;go_roundg (gk-1);omega;exact⟨i+1,S,Z,FF⟩
 have b:¬(i:Y)<(n:Y):=S;obtain rfl:i=n:=S;rw[decide_eq_false b];refine Zq<|Z2 rfl<|tT<|PW.rg (P:=prog) [sZ K i i,.bool H] ?_
 refine ag<|Zx (jE 4 5 Z Z Z) Z ?_
 rw[<-hf.out]at F;exact⟨_,Z,ZW ⟨F.2,K,_,F.1.made,⟨iF _ _,λj r A a=>zA _ a _ A⟩,Z⟩⟩
def prS(N:I)(a b:I->I):I->I
 | 0=>0
 | i+1=>sPl N (prS N a b i) (sTi N (b i) (a i))
def CN{a b:I->I}(k:0<N):∀i,prS N a b i<N
 | 0=>k
 | _+1=>gD _ k
def bE{o:I}(h:FJ W k vs)(b:k≠K):FJ (W.setCells K o us) k vs:=eR h (by rw[setCells_size];exact Zo _) (aM us o W k b)
def De(O:Ord N)(n:I)(hn:n<=512)(a b:I->I)(ha:∀i,i<n->a i<N)(k:∀i,i<n->b i<N)(va M:Zm)(w:Zl)(h1:SLq Q w va n a)(h2:SLq Q w M n b):
 ae prog 112 #[va,M] w (rZ w λe w'=>e=nv (prS N a b n)):=by
 obtain⟨g1,o1,c1,rfl,-,-,h0,A⟩:=h1;obtain⟨g2,o2,c2,rfl,-,-,h3,t⟩:=h2;refine hG w.heap.size λL m=>?_
 refine hG (w.alloc (.cells (wn 0).toArray 93)) λw1 o=>?_
 refine hG w1.heap.size λT j=>?_
 refine hG (w1.alloc (.cells (wn 0).toArray 93)) λw2 g=>?_
 have K2:E (Mp w w2 [(L,wn 0),(T,wn (prS N a b 0))] []):=((Mp.start w).new m o).new j g;have V:=mk4 ha k A t;clear ha k A t;go_enter func112,ntmps112;refine PW.bg [] ?_;refine PW.al m o ?_;refine PW.dn ?_;refine PW.bg [] ?_;refine PW.al j g ?_;refine PW.dn ?_;refine Zq ?_;refine PW.rg [iZ n,iZ 0] ?_;refine ay ?_;clear o g m j;go_loopg [10] n (λgk s10 wr=>∃i:I,i+gk=n/\s10=iZ i/\E (Mp w wr [(L,wn 0),(T,wn (prS N a b i))] []))
 case atStart=>exact⟨0,S,Z,K2⟩
 case round =>
  clear K2;obtain⟨i,h5,rfl,K⟩:=hrel;refine PW.rg [.bool (decide ((i:Y)<(n:Y)))] ?_;by_cases r:i<n
  .have l:(i:Y)<(n:Y):=S;rw[decide_eq_true l];have h4:ZN.wrap ((i:Y)+1)=((i+1:I):Y):=by rw[pk];omega
   have HT:=kA O (b i) (a i) (V.out.2.1 i r) (V.out.1 i r);have HP:=oS O (prS N a b i) (sTi N (b i) (a i)) (CN O.pos (a:=a) (b:=b) i) (gD _ O.pos);rw[show sPl N (prS N a b i) (sTi N (b i) (a i))=prS N a b (i+1) from Z]at HP;obtain⟨va,f⟩:=hE (nv (a i));obtain⟨M,v⟩:=hE (nv (b i));obtain⟨vt,s⟩:=hE (nv (sTi N (b i) (a i)));obtain⟨vp,d⟩:=hE (nv (prS N a b i));obtain⟨vr,z⟩:=hE (nv (prS N a b (i+1)));rw[v.out,f.out,s.out]at HT;rw[d.out,s.out,z.out]at HP;refine hG wr.heap.size λk7 y=>?_
   refine hG (wr.alloc (.cells (wn 0).toArray 93)) λX c=>?_
   refine hG (X.setCells k7 0 (wn (a i))) λw4 u=>?_
   have q:=mk1 (K.out.new y c);have p:=mk1 (q.out.put 2 u);refine Zq ?_;refine Z6 Z ?_;refine aw ?_;refine Zq ?_;refine ay ?_;refine PW.bg [] ?_;refine PW.ns (mM (k:=g1) (o:=o1) (n:=n) (c:=c1) (i:=i) r wr) ?_;refine PW.ro (aF (V.out.2.2.1 i r) K.out.bl h0) f u40 In ?_;refine PW.al y c ?_;refine PW.go [iZ i] ?_;refine PW.st u f (q.out.th 2) In aK ?_;refine PW.dn ?_;refine AW.begin 10 10 ?_;refine AW.ro 0 (λW k=>((p.out.at_ 1).below k).2.1) d u40 In ?_;refine AW.va 1 (.iface 93 vp) ?_;refine AW.mv 2 ?_;refine AW.mv 3 ?_;refine AW.iv 4 (mM (k:=g2) (o:=o2) (n:=n) (c:=c2) (i:=i) r) ?_;refine AW.ro 5 (λW k=>aF (V.out.2.2.2 i r) (p.out.bl.trans (k.mono p.out.bl.size)) h3) v u40 In ?_;refine AW.va 6 (.iface 93 M) ?_;refine AW.ro 7 (λW k=>((p.out.at_ 2).below k).2.1) f u40 In ?_;refine AW.gi 8 (λ_=>HT _) λW1 _=>?_
   refine AW.gi 9 (λ_=>HP _) λW2 _=>?_
   refine AW.fi (us:=wn (prS N a b (i+1))) z aK In (λk=>?_);have K5:=p.out.grow k;obtain⟨W3,C⟩:=hE (W2.setCells T 0 (wn (prS N a b (i+1))));have K6:=mk1 (Mp.pop (rs:=[(L,wn 0),(T,wn (prS N a b (i+1)))]) (x:=(k7,wn (a i))) (K5.put 1 C));rw[C.out];refine⟨K5.th 1,?_⟩;clear K q p K5 k;refine PW.bb [iZ (ZN.wrap ((i:Y)+1))] ?_;rw[h4];go_wp2;go_roundg (gk-1)
   case measure=>omega
   case rel=>exact⟨i+1,S,Z,K6⟩
  .have l:¬(i:Y)<(n:Y):=S;obtain rfl:i=n:=S;rw[decide_eq_false l];obtain⟨vp,d⟩:=hE (nv (prS N a b i));refine hG (wr.setCells L 0 (wn (prS N a b i))) λX c=>?_
   have q:=mk1 (K.out.put 0 c);refine Zq ?_;refine Z2 Z ?_;refine tT ?_;refine PW.bg (P:=prog) [] ?_;refine PW.ro (K.out.at_ 1).2.1 d u40 In ?_;refine PW.st c d (K.out.th 0) In aK ?_;refine PW.dn ?_;refine ag ?_;refine Zx (aG 4 (T:=93) Z (show FJ X L (wn (prS N a b i)) from q.out.at_ 0) Z u40 In) Z ?_;exact⟨_,Z,q.out.bl,Z⟩
def DL:wZ 124:=wQ
structure CbM(w W:Zl)(v:Zm)(l:LB):Prop where
 bl:kZ w W
 sm:SmZ w.heap.size W v l
def CbM.grow{v:Zm}(h:CbM w W v l)(k:kZ W W'):CbM w W' v l:=⟨h.bl.trans (k.mono h.bl.size),h.sm.grow k⟩
def CbM.drew{v:Zm}(h:CbM w W v l):CbM w W.drew v l:=⟨h.bl.drew,h.sm.grow ⟨Z,Z,Z,Zo _,λ_ _=>rfl⟩⟩
def LW{B:I}{v:Zm}(h:SmZ B W v l):SmZ 0 W v l:=by
 rcases h with h|⟨g,c,h1,k,-,b⟩
 .exact Z5 h
 exact ZW ⟨g,c,h1,k,pj _,b⟩
def Oc(O:Ord N)(n c:Nat)(h8:0<n)(hc:0<c)(hn:n<=512)(h3:c*n<=400)(a:Nat->Nat)(T:Nat->G (Nat × Bs))(ha:∀i,i<n->a i<N)(hT:∀i,i<n->TOk N (T i))(hl:∀i,i<n->(T i).length=c)(va vb:Zm)(w:Zl)(h1:SLq Q w va n a)(h2:GLq Q w vb n T):
 ae prog 174 #[va,vb] w (rZ w λe w'=>Sm w.heap.size w' e (eJ N a T n)):=by
 obtain⟨g1,o1,c1,rfl,-,-,h7,h5⟩:=h1;obtain⟨b,f,c2,rfl,-,-,hm,h0⟩:=h2;have k:E (Ord N/\(∀i,i<n->a i<N)/\(∀i,i<n->TOk N (T i))/\(∀i,i<n->(T i).length=c)/\(∀j,j<n->w.rangeAt g1 (o1+4*j) (wn (a j)))/\(∀j,j<n->∃x,w.cell? ⟨b,f+j,F⟩=J x/\SmQ Q w x (T j))/\g1<w.heap.size/\b<w.heap.size/\0<c/\c*n<=400/\0<n):=⟨O,ha,hT,hl,h5,h0,h7,hm,hc,h3,h8⟩
 obtain⟨d,he,h9⟩:=Zp.1 u40;have HD:E (prog.underlying 93=J d/\d.isRow=H):=⟨he,h9⟩
 go_enter func174,ntmps174;go_wp2;go_loopg [5,10] n (λm s5 s10 W=>∃i:Nat,i+m=n/\s10=iZ i/\E (CbM w W s5 (eJ N a T i)))
 case atStart=>exact⟨0,S,Z,⟨ZF _ _,Z5 ⟨Z,Z⟩⟩⟩
 case round =>
  obtain⟨i,hu,rfl,KM⟩:=hrel;by_cases t:i<n
  .have h4:(i:Y)<(n:Y):=S;have P:=Hid.mk' t;have hr:=mM (k:=g1) (o:=o1) (n:=n) (c:=c1) (i:=i) t;obtain⟨s,r⟩:=hE (wr.heap.size);obtain⟨W1,L⟩:=hE (wr.alloc (.cells #[U 0,U 0,U 0,U 0] 93));obtain⟨W2,K⟩:=hE (W1.setCells s 0 (wn (a i)));have F1:E (FJ W1 s [U 0,U 0,U 0,U 0]/\kZ wr W1):=by rw[<-L.out,<-r.out];exact⟨aE (w:=wr),aD (w:=wr) _⟩
   have F2:E (FJ W2 s (wn (a i))/\CbM w W2 u5 (eJ N a T i)):=by
    rw[<-K.out];exact⟨F1.1.put Z,KM.grow (RG.below_setCells (by rw[r.out];exact Zo _) _ _ _ F1.2)⟩
   obtain⟨va,M⟩:=hE (ZM (wn (a i)).toArray);have HO:E ((wn (a i)).toArray.all (·.oneCell')=H):=aK;go_wp2_with (first|(refine gS Z 93 _ Z g1 (o1+4*i) ?_ (wn (a i)) d ?_ ?_ ?_ ?_ ?_;rfl;exact(mk1 (aF (k.2.2.2.2.1 i t) KM.bl k.2.2.2.2.2.2.1)).out;exact HD.1;exact HD.2;exact In;rw[M.out])|(refine bH (v:=jZ s) (w':=W1) Z (.alloc 93) Z ?_ ?_;(rw[<-L.out,<-r.out];kernel_rfl))|(refine ZZ Z 93 _ _ Z s 0 (wn (a i)).toArray ?_ ?_ ?_ ?_ ?_ ?_;rfl;exact M.symm;exact F1.1.2.2;exact In;exact HO.out;rw[show(wn (a i)).toArray.toList=wn (a i) from Z,K.out])|fail)
   obtain⟨x,hp,hk⟩:=k.2.2.2.2.2.1 i t;have HX:=mk2 hp hk;obtain⟨l,o⟩:=hE (eJ N a T i);have X:eJ N a T (i+1)=l++(T i).map (tmT N (a i)):=by rw[<-o.out];rfl
   have hq:l.length=c*i:=by rw[<-o.out];exact fH N (a:=a) i λj hj=>k.2.2.2.1 j S
   have ht:c*i+c<=c*n:=by have:=yCO c (Nat.succ_le_of_lt t);rwa[CD]at this
   have HB:E (l.length<=500/\(T i).length<=500/\0<(T i).length/\TOk N l):=⟨by have:=k.2.2.2.2.2.2.2.2.2.1;omega,by rw[k.2.2.2.1 i t];have:=k.2.2.2.2.2.2.2.2.2.1;omega,by rw[k.2.2.2.1 i t];exact k.2.2.2.2.2.2.2.2.1,by rw[<-o.out];exact q7 k.1.pos i λj hj=>k.2.2.1 j S⟩
   have HE:E (eJ N a T (i+1)=l++(T i).map (tmT N (a i))):=X;rw[o.out]at F2;refine(gwL [pE u5,pE (.iface 124 u5),pE (.slice (J ⟨b,f,F⟩) n c2),pE (iZ i),pE (.pointer (J ⟨b,f+1*i,F⟩)),pE x,pE (.iface 124 x),pE (nv (a i)),pM (w.heap.size<=·) ((T i).map (tmT N (a i))),pM (w.heap.size<=·) (l++(T i).map (tmT N (a i))),pM (w.heap.size<=·) (l++(T i).map (tmT N (a i)))] (λW=>CbM w W u5 l/\FJ W s (wn (a i))) (λW W' A h=>⟨h.1.grow A,h.2.below A⟩)).draws kR kR ⟨
    RG.gO 5 u5,
    NG 0 15 u5 (.iface 124 u5) (λx W h=>h) (λ_=>rfl),
    RG.gO 1 (.slice (J ⟨b,f,F⟩) n c2),
    RG.gO 6 (iZ i),
    WH 2 17 3 18 (.slice (J ⟨b,f,F⟩) n c2) (iZ i) (e:=(.pointer (J ⟨b,f+1*i,F⟩))) (I:=(iB 122 (.slice (J ⟨b,f,F⟩) n c2) (iZ i))) (atS b f (n:=n) c2 (i:=i) P.out) (λx W h=>h) (λx W h=>h) (λ_=>rfl),
    uI (T:=124) 4 19 b (f+1*i) x DL (λx W h=>h) (λW q=>by rw[tF,q.1.bl.cell (p:=⟨b,f+i,F⟩) k.2.2.2.2.2.2.2.1];exact HX.1) (λ_=>rfl),
    NG 5 20 x (.iface 124 x) (λx W h=>h) (λ_=>rfl),
    I6 (T:=93) 7 s 0 (cs:=(wn (a i))) u40 In Z (λW q=>q.2.2.1) (λ_=>rfl),
    Se 124 6 21 7 22 (pE x) 128 (λx W h=>⟨_,h,Z⟩) (λz y W hx C q=>by
     obtain rfl:z=x:=hx;obtain rfl:y=nv (a i):=C;refine(eO k.1 (k.2.1 i P.out) 0 z (T i) (by have:=HB.2.1;omega) (k.2.2.1 i P.out).szm (k.2.2.1 i P.out).lt W (HX.2.sm.grow q.1.bl)).mono ?_;rintro e W' ⟨u,rfl,A,hs⟩;exact⟨_,Z,A,hs.q.mono λg V=>Zw q.1.bl.size V⟩),
    Se 124 1 16 8 23 (pE u5) 101 (λx W h=>⟨_,h,Z⟩) (λz y W hx C q=>by
     obtain rfl:z=u5:=hx;have C:=C;refine(cY 0 z y l ((T i).map (tmT N (a i))) (by rw[Zv,ZI];have:=HB.2.2.1;omega) HB.1 (by rw[ZI];exact HB.2.1) HB.2.2.2.sz ((k.2.2.1 i P.out).tm k.1.pos (a i)).sz W (LW q.1.sm) (ZW C.sm)).mono ?_;rintro e W' ⟨u,rfl,A,hs⟩;exact⟨_,Z,A,hs.q.mono λg V=>Zw q.1.bl.size V⟩),
    Ky 9 24 id (λx W h=>h),Fs⟩ ⟨F2.2.drew,F2.1⟩ ?_
   intro V W3 C h6;have q:E (CbM w W3 (V 10) (eJ N a T (i+1))):=⟨h6.1.bl,ZW (by rw[HE.out];exact C 10 (yh (qt kR)))⟩
   dsimp only[cD,mi];go_wp2;go_roundg (gk-1)
   case measure=>omega
   case rel=>exact⟨i+1,S,Z,q⟩
  .have h4:¬(i:Y)<(n:Y):=S;obtain rfl:i=n:=S;have q:E (kZ w wr/\Sm w.heap.size wr u5 (eJ N a T i)):=⟨KM.bl,by
    rcases KM.sm with⟨-,h⟩|h
    .exfalso;have:=fH N (a:=a) i k.2.2.2.1;rw[h]at this;have h2:=yFh k.2.2.2.2.2.2.2.2.1 k.2.2.2.2.2.2.2.2.2.2;rw[<-this]at h2;exact absurd h2 (Nat.lt_irrefl _)
    .exact h⟩
   go_wp2;go_ret;exact⟨_,Z,q.1,q.2⟩
def rSc:yZ 93:=u40
def nSc:gZ 93 4:=In
def Bm(N x y n:I)(a:I->I)(i:I):I:=sPl N (sTi N (a i) x) (sTi N (a (n+i)) y)
def SK{a b:I}(h:a+b<4611686018427387904)(w:Zl):(binOp .add 3 (iZ a) (iZ b)).run prog w=.ok (iZ ((a+b:I):Y)) w:=by
 have h1:(a:Y)+(b:Y)<4611686018427387904:=S;have k:-4611686018427387904<(a:Y)+(b:Y):=S;have c:ZN.wrap ((a:Y)+(b:Y))=((a+b:I):Y):=by rw[pk];omega
 go_simp
def NP(O:Ord N)(n:I)(hn:n<=500)(a:I->I)(x y:I)(hx:x<N)(hy:y<N)(ha:∀i,i<n+n->a i<N)(va:Zm)(w:Zl)(h1:SLq Q w va (n+n) a):
 ae prog 184 #[va,nv x,nv y] w (rZ w λe w'=>SLq (w.heap.size<=·) w' e n (Bm N x y n a)):=by
 obtain⟨g,o,c,rfl,-,-,hg,hr⟩:=h1;obtain⟨C0,t,z⟩:=Ex uS4 iS4 n S;refine hG w.heap.size λk4 r=>?_
 refine hG (w.alloc (.cells (wn x).toArray 93)) λw1 l=>?_
 refine hG w1.heap.size λk5 q=>?_
 refine hG (w1.alloc (.cells (wn y).toArray 93)) λV b=>?_
 refine hG V.heap.size λK hK=>?_
 refine hG (V.alloc (.cells C0.toArray 93)) λw3 m=>?_
 have B1:=boxS x (w:=w);have B2:=boxS y (w:=w1);have mk:=z V;rw[r.out,l.out]at B1;rw[q.out,b.out]at B2;rw[hK.out,m.out]at mk;have p:=mk1 (((Mp.start w).new r l).new q b);have F0:=mk1 (FiL.new (C:=λj=>wn (Bm N x y n a j)) hK m t);have h2:ZN.wrap (((n+n:I):Y).tdiv 2)=(n:Y):=by rw[yB8 S,pk];omega
 have X:=mk2 ha hr;obtain⟨vx,f⟩:=hE (nv x);obtain⟨vy,s⟩:=hE (nv y);rw[f.out]at B1⊢;rw[s.out]at B2⊢;clear ha hr z t l b m r q;go_enter func184,ntmps184;refine PW.bg [] ?_;refine PW.ns B1 ?_;refine PW.ns B2 ?_;refine PW.en [.slice none 0 0] ?_;refine PW.bg [iZ ((n+n:I):Y),iZ (ZN.wrap (((n+n:I):Y).tdiv 2))] ?_;rw[h2];refine PW.ns mk ?_;refine PW.en [sZ K n n] ?_;refine Zq ?_;refine PW.rg [iZ n,iZ 0] ?_;refine ay ?_;go_loopg [15] n (λgk s15 wr=>∃i:I,i+gk=n/\s15=iZ i/\E (FiL 4 V wr K n i λj=>wn (Bm N x y n a j)))
 case atStart=>exact⟨0,S,Z,F0⟩
 case round =>
  clear F0;obtain⟨i,h3,rfl,F⟩:=hrel;refine PW.rg [.bool (decide ((i:Y)<(n:Y)))] ?_;by_cases hi:i<n
  .have d:(i:Y)<(n:Y):=S;rw[decide_eq_true d];have h0:ZN.wrap ((i:Y)+1)=((i+1:I):Y):=by rw[pk];omega
   have bl:=mk1 (p.out.bl.trans (F.out.bl.mono p.out.bl.size));have HT:=kA O (a i) x (X.out.1 i S) hx;have HU:=kA O (a (n+i)) y (X.out.1 (n+i) S) hy;have HP:=oS O (sTi N (a i) x) (sTi N (a (n+i)) y) (gD _ O.pos) (gD _ O.pos);rw[show sPl N (sTi N (a i) x) (sTi N (a (n+i)) y)=Bm N x y n a i from Z]at HP;obtain⟨va,A⟩:=hE (nv (a i));obtain⟨vb,M⟩:=hE (nv (a (n+i)));obtain⟨vt,L⟩:=hE (nv (sTi N (a i) x));obtain⟨vu,T⟩:=hE (nv (sTi N (a (n+i)) y));obtain⟨vr,u⟩:=hE (nv (Bm N x y n a i));rw[A.out,f.out,L.out]at HT;rw[M.out,s.out,T.out]at HU;rw[L.out,T.out,u.out]at HP;refine Zq ?_;refine Z6 Z ?_;refine aw ?_;refine Zq ?_;refine ay ?_;refine PW.rg [iZ i] ?_;refine AW.begin 22 22 ?_;refine AW.mv 0 ?_;refine AW.mv 1 ?_;refine AW.mv 2 ?_;refine AW.mv 3 ?_;refine AW.iv 4 (mM (k:=g) (o:=o) (n:=(n+n)) (c:=c) (i:=i) S) ?_;refine AW.ro 5 (λW k=>aF (X.out.2 i S) (bl.out.trans (k.mono bl.out.size)) hg) A rSc nSc ?_;refine AW.va 6 (.iface 93 va) ?_;refine AW.ro 7 (λW k=>(((p.out.at_ 0).below F.out.bl).below k).2.1) f rSc nSc ?_;refine AW.mv 10 ?_;refine AW.mv 11 ?_;refine AW.va 12 (iZ n) ?_;refine AW.mv 13 ?_;refine AW.iv 14 (SK (a:=n) (b:=i) S) ?_;refine AW.iv 15 (mM (k:=g) (o:=o) (n:=(n+n)) (c:=c) (i:=(n+i)) S) ?_;refine AW.ro 16 (λW k=>aF (X.out.2 (n+i) S) (bl.out.trans (k.mono bl.out.size)) hg) M rSc nSc ?_;refine AW.va 17 (.iface 93 vb) ?_;refine AW.ro 18 (λW k=>(((p.out.at_ 1).below F.out.bl).below k).2.1) s rSc nSc ?_;refine AW.gi 8 (λ_=>HT _) λW1 _=>?_
   refine AW.va 9 (.iface 93 vt) ?_;refine AW.gi 19 (λ_=>HU _) λW2 _=>?_
   refine AW.gi 20 (λ_=>HP _) λW3 _=>?_
   refine AW.ns 21 (mM (k:=K) (o:=0) (n:=n) (c:=n) (i:=i) hi W3) (ZF _ _) ?_;rw[Zs];refine AW.fi (us:=wn (Bm N x y n a i)) u aK In (λk=>?_);obtain⟨W4,v⟩:=hE (W3.setCells K (4*i) (wn (Bm N x y n a i)));obtain⟨th,F4⟩:=(F.out.grow k).put hi Z (λ_ _=>rfl) v;have F5:=mk1 F4;rw[v.out];refine⟨th,?_⟩;clear F F4 k bl th;refine PW.bb [iZ (ZN.wrap ((i:Y)+1))] ?_;rw[h0];go_wp2;go_roundg (gk-1)
   case measure=>omega
   case rel=>exact⟨i+1,S,Z,F5⟩
  .have d:¬(i:Y)<(n:Y):=S;obtain rfl:i=n:=S;rw[decide_eq_false d];refine Zq ?_;refine Z2 Z ?_;refine tT ?_;refine PW.rg (P:=prog) [sZ K i i] ?_;refine ag ?_;go_ret;refine⟨_,Z,p.out.bl.trans (F.out.bl.mono p.out.bl.size),K,0,i,Z,Zo _,Zw p.out.bl.size F.out.kl,F.out.lt,λj k=>?_⟩;rw[Zs];exact F.out.at_ j k
section
section
variable {P:ai}{ops:Array Z4}{Q:Exit->Act->Zl->Prop}{p r fuel k off:Nat}{J:Iv}{o:Z4}{listed:Array Bool}{a a':Act}{w:Zl}{u:Zm}{t:Tmp}{T:ZR}{y:oF}
def AW.f1(hv:u.cells=#[u]/\u.oneCell'=H)(j:(P.info? T).map (·.size)=some 1)(h:J.p w->w.there k off 1/\Q .normal a' (w.setCells k off [u]))(ho:ops[p]? = some o:=by(simp only[ZU,ZQ,ZT])<;>rfl)(hd:o.dst=F:=by rfl)(i:o.guard=F:=by rfl)(c:o.op=.store T (.tmp t) y:=by rfl)(hx:a.eval (.tmp t)=oZ k off:=by rfl)(d:a.eval y=u:=by rfl)
 (e:a.put F am=a':=by(simp only[ah])<;>rfl) (b:(ZX .any ops listed,ZX .any ops (listed.setIfInBounds p H),J.b,(listed.setIfInBounds p H).getD p false,(listed.setIfInBounds p H).getD r false)=([p],[],H,H,H):=by kernel_rfl):AW P ops Q p r J (fuel+1) listed a w:=λg=>by
 simp only[an.injEq]at b;let⟨h1,f⟩:=h g
 subst e;exact anyS.sto ho T (.tmp t) y c k off u hv.1 hv.2 h1 j (Z5 b.2.2) (anyS.done b.2.1 f _) hx d b.1 i hd
end
variable {P:Nat}[NeZero P]{N:Nat}
def NQ(O:Ord N)(n:I)(hn:n<=500)(c:I)(hc:c<=200)(h9:0<c)(a:I->G (I × Bs))(x y:I)(hx:x<N)(hy:y<N)(ha:∀i,i<n+n->TOk N (a i)/\(a i).length=c)(va:Zm)(w:Zl)(h1:GLq Q w va (n+n) a):
 ae prog 196 #[va,nv x,nv y] w (rZ w λe w'=>GLq (w.heap.size<=·) w' e n (wJ N x y n a)):=by
 obtain⟨g,o,c1,rfl,-,-,L,hr⟩:=h1;obtain⟨C0,M,T⟩:=Ex uSu iSu n S;refine hG w.heap.size λk4 u=>?_
 refine hG (w.alloc (.cells (wn x).toArray 93)) λw1 l=>?_
 refine hG w1.heap.size λk5 s=>?_
 refine hG (w1.alloc (.cells (wn y).toArray 93)) λz b=>?_
 refine hG z.heap.size λK hK=>?_
 refine hG (z.alloc (.cells C0.toArray 124)) λw3 q=>?_
 have B1:=boxS x (w:=w);have B2:=boxS y (w:=w1);have mk:=T z;rw[u.out,l.out]at B1;rw[s.out,b.out]at B2;rw[hK.out,q.out]at mk;have r:=mk1 (((Mp.start w).new u l).new s b);have A:=FiL.new (C:=λ_=>[]) hK q M;have F0:E (LsI z w3 K n 0 (wJ N x y n a)):=⟨A.bl,A.lt,by have:=A.th;rwa[tF]at this,A.kl,λj hj=>absurd hj (uv _)⟩
 have h7:ZN.wrap (((n+n:I):Y).tdiv 2)=(n:Y):=by rw[yB8 S,pk];omega
 have HX:=mk2 ha hr;obtain⟨vx,f⟩:=hE (nv x);obtain⟨vy,v⟩:=hE (nv y);rw[f.out]at B1⊢;rw[v.out]at B2⊢;clear ha hr T M l b q u s A;go_enter func196,ntmps196;refine PW.bg [] ?_;refine PW.ns B1 ?_;refine PW.ns B2 ?_;refine PW.en [.slice none 0 0] ?_;refine PW.bg [iZ ((n+n:I):Y),iZ (ZN.wrap (((n+n:I):Y).tdiv 2))] ?_;rw[h7];refine PW.ns mk ?_;refine PW.en [sZ K n n] ?_;refine Zq ?_;refine PW.rg [iZ n,iZ 0] ?_;refine ay ?_;go_loopg [15] n (λgk s15 wr=>∃i:I,i+gk=n/\s15=iZ i/\E (LsI z wr K n i (wJ N x y n a)))
 case atStart=>exact⟨0,S,Z,F0⟩
 case round =>
  clear F0;obtain⟨i,he,rfl,F⟩:=hrel;refine PW.rg [.bool (decide ((i:Y)<(n:Y)))] ?_;by_cases hi:i<n
  .have d:(i:Y)<(n:Y):=S;rw[decide_eq_true d];have h5:ZN.wrap ((i:Y)+1)=((i+1:I):Y):=by rw[pk];omega
   have bl:=mk1 (r.out.bl.trans (F.out.bl.mono r.out.bl.size));obtain⟨x1,h8,h6⟩:=HX.out.2 i S;obtain⟨x2,h0,h2⟩:=HX.out.2 (n+i) S;have V:=HX.out.1 i S;have a2:=HX.out.1 (n+i) S;have HT:=mk1 (λ(W:Zl) (hB:kZ w W)=>eO O hx 0 x1 (a i) (by rw[V.2];omega) V.1.szm V.1.lt W (h6.sm.grow hB));have HU:=mk1 (λ(W:Zl) (hB:kZ w W)=>eO O hy 0 x2 (a (n+i)) (by rw[a2.2];omega) a2.1.szm a2.1.lt W (h2.sm.grow hB));rw[f.out]at HT;rw[v.out]at HU;have l1:((a i).map (tmT N x)).length=c:=by rw[ZI];exact V.2
   have l2:((a (n+i)).map (tmT N y)).length=c:=by rw[ZI];exact a2.2
   refine Zq ?_;refine Z6 Z ?_;refine aw ?_;refine Zq ?_;refine ay ?_;refine PW.rg [iZ i] ?_;refine AW.begin 22 22 ?_;refine AW.mv 0 ?_;refine AW.mv 1 ?_;refine AW.mv 2 ?_;refine AW.mv 3 ?_;refine AW.iv 4 (atS g o (n:=(n+n)) c1 (i:=i) S) ?_;rw[tF];refine AW.ce 5 DL (λW k=>((bl.out.trans (k.mono bl.out.size)).cell (p:=⟨g,o+i,none⟩) L).trans h8) ?_;refine AW.va 6 (.iface 124 x1) ?_;refine AW.ro 7 (λW k=>(((r.out.at_ 0).below F.out.bl).below k).2.1) f rSc nSc ?_;refine AW.mv 10 ?_;refine AW.mv 11 ?_;refine AW.va 12 (iZ n) ?_;refine AW.mv 13 ?_;refine AW.iv 14 (SK (a:=n) (b:=i) S) ?_;refine AW.iv 15 (atS g o (n:=(n+n)) c1 (i:=(n+i)) S) ?_;rw[tF];refine AW.ce 16 DL (λW k=>((bl.out.trans (k.mono bl.out.size)).cell (p:=⟨g,o+(n+i),none⟩) L).trans h0) ?_;refine AW.va 17 (.iface 124 x2) ?_;refine AW.ro 18 (λW k=>(((r.out.at_ 1).below F.out.bl).below k).2.1) v rSc nSc ?_;refine AW.ca 8 (λk=>HT.out _ (bl.out.trans (yEC k bl.out.size))) (λe w' h=>h.1) ?_;rintro y1 W1 ⟨X,s1⟩;have s1:Sm _ W1 y1 ((a i).map (tmT N x)):=s1;refine AW.va 9 (.iface 124 y1) ?_;refine AW.ca 19 (λk=>HU.out _ (bl.out.trans (yEC k bl.out.size))) (λe w' h=>h.1) ?_;rintro y2 W2 ⟨m,s2⟩;have s2:Sm _ W2 y2 ((a (n+i)).map (tmT N y)):=s2;refine AW.ca 20 (λ_=>cY 0 y1 y2 _ _ (by rw[Zv];omega) S S (mk1 (V.1.tm O.pos x)).out.sz (mk1 (a2.1.tm O.pos y)).out.sz W2 (ZW (s1.q.sm.grow m)) (ZW s2.q.sm)) (λe w' h=>h.1) ?_;rintro y3 W3 ⟨h4,s3⟩;have s3:Sm W2.heap.size W3 y3 (wJ N x y n a i):=s3;refine AW.ns 21 (atS K 0 (n:=n) n (i:=i) hi W3) (ZF _ _) ?_;rw[Zs,tF];have bb:SmQ (λg=>z.heap.size<=g/\g≠K) W3 y3 (wJ N x y n a i):=s3.q.mono λg L=>by
    have h1:wr.heap.size<=W1.heap.size:=X.size;have:=m.size;have:=F.out.lt;have:=F.out.bl.size;omega
   refine AW.f1 s3.q.one WE (λk=>?_);have F3:=F.out.grow k;have F4:=F3.put hi bb;obtain⟨W4,h3⟩:=hE (W3.setCells K i [y3]);rw[h3.out]at F4⊢;have F5:=mk1 F4;refine⟨λt ht=>?_,?_⟩
   .obtain rfl:t=0:=S;have:=F3.th i hi;rwa[Zs]at this
   clear F F4 F3 k bl bb s1 s2 s3 X m h4 HT HU;refine PW.bb [iZ (ZN.wrap ((i:Y)+1))] ?_;rw[h5];go_wp2;go_roundg (gk-1)
   case measure=>omega
   case rel=>exact⟨i+1,S,Z,F5⟩
  .have d:¬(i:Y)<(n:Y):=S;obtain rfl:i=n:=S;rw[decide_eq_false d];refine Zq ?_;refine Z2 Z ?_;refine tT ?_;refine PW.rg (P:=prog) [sZ K i i] ?_;refine ag ?_;go_ret;exact⟨_,Z,r.out.bl.trans (F.out.bl.mono r.out.bl.size),F.out.gl.mono λg L=>Zw r.out.bl.size L⟩
end
structure GOk(N n c:I)(G H:I->LB)(U:LB):Prop where
 n0:0<n
 c0:0<c
 cn:c*n<=64
 g:∀i,i<n->TOk N (G i)/\(G i).length=c
 h:∀i,i<n->TOk N (H i)/\(H i).length=c
 u:TOk N U
 u0:0<U.length
 u9:U.length<=16
def GOk.nle{n:I}{G H:I->LB}{U:LB}(h:GOk N n c G H U):n<=64:=by
 have h1:=h.cn;have:=z6 n h.c0;omega
def GOk.cle{n:I}{G H:I->LB}{U:LB}(h:GOk N n c G H U):c<=64:=by
 have h1:=h.cn;have:=yCO c h.n0;omega
def Ow{b k c:Zm}:(aj 126 (.agg #[b,k,c])).run prog w=.ok (jZ w.heap.size) (w.alloc (.cells #[b,k,c] 126)):=kR
def uGL:wZ 122:=wQ
def An(O:Ord N)(n c:I)(G H:I->LB)(U:LB)(hG:GOk N n c G H U)(a b:I->I)(ha:∀i,i<n->a i<N)(j:∀i,i<n->b i<N)(v va p:Zm)(w:Zl)(h0:GRq Q w v n G H U)(h1:SLq Q w va n a)(h2:SLq Q w p n b):
 dZ 102 #[v,va,p] w λe w'=>Sm w.heap.size w' e (eJ N a G n++eJ N b H n):=by
 obtain⟨l,m,L,rfl,h3,h4,-⟩:=h0.ex;have q:=λ(W:Zl) (d:kZ w W)=>Oc O n c hG.n0 hG.c0 (oN hG.nle) (oN hG.cn) a G ha (λi f=>(hG.g i f).1) (λi f=>(hG.g i f).2) va l W (h1.keep (Kq.of_below d)) (h3.keep (Kq.of_below d))
 have C:=λ(W:Zl) (d:kZ w W)=>Oc O n c hG.n0 hG.c0 (oN hG.nle) (oN hG.cn) b H j (λi f=>(hG.h i f).1) (λi f=>(hG.h i f).2) p m W (h2.keep (Kq.of_below d)) (h4.keep (Kq.of_below d))
 have l1:(eJ N a G n).length=c*n:=fH N n λi f=>(hG.g i f).2
 have l2:(eJ N b H n).length=c*n:=fH N n λi f=>(hG.h i f).2
 have t1:TOk N (eJ N a G n):=q7 O.pos n λi f=>(hG.g i f).1
 have t2:TOk N (eJ N b H n):=q7 O.pos n λi f=>(hG.h i f).1
 have h6:=yFh hG.c0 hG.n0;have h5:=hG.cn;generalize eJ N a G n=A at q l1 t1⊢;generalize eJ N b H n=lb at C l2 t2⊢;have M:=λ(W:Zl) (u z:Zm) (hu:Sm 0 W u A) (hz:Sm 0 W z lb)=>cY 0 u z A lb (by rw[Zv];omega) S S t1.sz t2.sz W (ZW hu) (ZW hz)
 have P:=Hid.mk' (gF q (gF C M));let⟨K,t⟩:=hE (w.alloc (.cells #[l,m,L] 126))
 let⟨k,T⟩:=hE w.heap.size
 have X:E (FJ K k [l,m,L]/\kZ w K):=by rw[<-t.out,<-T.out];exact⟨aE,aD _⟩
 let⟨v0,s⟩:=hE (ZM #[l,m,L])
 have B1:E ((aj 126 v0).run prog w=.ok (jZ k) K):=s.out▸t.out▸T.out▸Ow;rw[s.out];go_enter func102,ntmps102;go_wp2_with (first|(refine aI (u:=v0) (v:=jZ k) (w':=K) Z 126 (.tmp 0) Z ?_ ?_ ?_;rfl;exact B1)|fail)
 refine(gwL [pE va,pE (jZ k),pE l,pM (w.heap.size<=·) A,pE p,pE (oZ k 1),pE m,pM (w.heap.size<=·) lb,pM (w.heap.size<=·) (A++lb),pM (w.heap.size<=·) (A++lb)] (λW=>FJ W k [l,m,L]/\kZ w W) (λW W' j h=>⟨h.1.below j,h.2.trans (j.mono h.2.size)⟩)).draws kR kR ⟨
  RG.gO 1 va,
  RG.gO 3 (jZ k),
  uI 1 8 k 0 l uGL (λx W h=>h) (λW d=>d.1.2.1 0 _ Z) (λ_=>rfl),
  eT 0 7 2 9 174 (λx y=>#[x,y]) (λx y W hx o d=>by
   obtain rfl:x=va:=hx;obtain rfl:y=l:=o;apply(P.1 W d.2).mono;rintro e W' ⟨u,rfl,j,hs⟩;exact⟨_,Z,j,hs.q.mono λg r=>Zw d.2.size r⟩),
  RG.gO 2 p,
  gP 3 (jZ k) (oZ k 1),
  uI 5 12 k 1 m uGL (λx W h=>h) (λW d=>d.1.2.1 1 _ Z) (λ_=>rfl),
  eT 4 11 6 13 174 (λx y=>#[x,y]) (λx y W hx o d=>by
   obtain rfl:x=p:=hx;obtain rfl:y=m:=o;apply(P.2.1 W d.2).mono;rintro e W' ⟨u,rfl,j,hs⟩;exact⟨_,Z,j,hs.q.mono λg r=>Zw d.2.size r⟩),
  eT 3 10 7 14 101 (λx y=>#[x,y]) (λx y W hx o d=>by
   have hx:=hx;have o:=o;apply(P.2.2 W x y hx.sm o.sm).mono;rintro e W' ⟨u,rfl,j,hs⟩;exact⟨_,Z,j,hs.q.mono λg r=>Zw d.2.size r⟩),
  Ky 8 15 id (λx W h=>h),Fs⟩ ⟨X.1,X.2.drew⟩ ?_
 intro V o hR d;dsimp only[cD,mi];simp only[ah,Zr,Zt,Zu];go_wp2;go_ret;exact⟨_,Z,(mk1 (d.2)).out,(mk1 (hR 9 (yh (qt kR)))).out⟩
def I5(O:Ord N)(n c:I)(G H:I->List (I × Bs))(U:List (I × Bs))(hG:GOk N n c G H U)(a b:I->I)(ha:∀i,i<n->a i<N)(f:∀i,i<n->b i<N)(v va m:Zm)(w:Zl)(h0:GRq Q w v n G H U)(h1:SLq Q w va n a)(h2:SLq Q w m n b):
 ae prog 134 #[v,va,m] w (rZ w λe w'=>Sm w.heap.size w' e (NE N a b (prS N a b n) G H U n)):=by
 have C:=λ(W:Zl) (d:kZ w W)=>An O n c G H U hG a b ha f v va m W (h0.keep (Kq.of_below d)) (h1.keep (Kq.of_below d)) (h2.keep (Kq.of_below d))
 have A:=λ(W:Zl) (d:kZ w W)=>De O n (by have:=hG.nle;omega) a b ha f va m W (h1.keep (Kq.of_below d)) (h2.keep (Kq.of_below d))
 obtain⟨q,s,j,rfl,-,-,h5⟩:=h0.ex;have t1:TOk N (eJ N a G n):=q7 O.pos n λi r=>(hG.g i r).1
 have t2:TOk N (eJ N b H n):=q7 O.pos n λi r=>(hG.h i r).1
 have h6:=yFh hG.c0 hG.n0;have h4:=hG.cn;unfold NE;have pl:=CN O.pos (a:=a) (b:=b) n;have t3:=hG.u.tm O.pos (prS N a b n);have l3:(U.map (tmT N (prS N a b n))).length<=16:=by rw[ZI];exact hG.u9
 generalize prS N a b n=p at A pl t3 l3⊢;have M:=λ(W:Zl) (d:kZ w W)=>eO O pl 0 j U (by have:=hG.u9;omega) hG.u.szm hG.u.lt W (h5.sm.grow d)
 generalize U.map (tmT N p)=L at M t3 l3⊢;have t4:=t1.app t2;have l4:(eJ N a G n++eJ N b H n).length=c*n+c*n:=by rw[Zv,(fH N (a:=a) n λi r=>(hG.g i r).2),(fH N (a:=b) n λi r=>(hG.h i r).2)]
 generalize eJ N a G n++eJ N b H n=l at C t4 l4⊢;have h3:=λ(W:Zl) (u z:Zm) (hu:Sm 0 W u l) (hz:Sm 0 W z L)=>cY 0 u z l L (by rw[Zv];omega) S S t4.sz t3.sz W (ZW hu) (ZW hz)
 have X:=Hid.mk' (gF C (gF A (gF M h3)));obtain⟨T,P⟩:=hE (w.alloc (.cells #[q,s,j] 126));obtain⟨k,hk⟩:=hE (w.heap.size);have K1:E (FJ T k [q,s,j]/\kZ w T):=by rw[<-P.out,<-hk.out];exact⟨aE (w:=w),aD (w:=w) _⟩
 obtain⟨v0,K⟩:=hE (ZM #[q,s,j]);have B1:E ((aj 126 v0).run prog w=.ok (jZ k) T):=by rw[<-K.out,<-P.out,<-hk.out];exact Ow
 rw[K.out];go_enter func134,ntmps134;go_wp2_with (first|(refine aI (u:=v0) (v:=jZ k) (w':=T) Z 126 (.tmp 0) Z ?_ ?_ ?_;rfl;exact B1.out)|fail)
 refine(gwL [pE (.agg #[q,s,j]),pE va,pE m,pM (w.heap.size<=·) l,pE (oZ k 2),pE j,pE va,pE m,pE (nv p),pM (w.heap.size<=·) L,pM (w.heap.size<=·) (l++L),pM (w.heap.size<=·) (l++L)] (λW=>FJ W k [q,s,j]/\kZ w W) (λW W' f h=>⟨h.1.below f,h.2.trans (f.mono h.2.size)⟩)).draws kR kR ⟨
  I6 (T:=126) 3 k 0 (cs:=[q,s,j]) uGr iGr Z (λW d=>d.1.2.1) (λ_=>rfl),
  RG.gO 1 va,
  RG.gO 2 m,
  I7 0 7 1 8 2 9 102 (λx y z=>#[x,y,z]) (λx y z W hx o hz d=>by
   obtain rfl:x=.agg #[q,s,j]:=hx;obtain rfl:y=va:=o;obtain rfl:z=m:=hz;refine(X.1 W d.2).mono ?_;rintro e W' ⟨u,rfl,f,hs⟩;exact⟨_,Z,f,hs.q.mono λg t=>Zw d.2.size t⟩),
  gP 3 (jZ k) (oZ k 2),
  uI (T:=124) 4 11 k 2 j DL (λx W h=>h) (λW d=>d.1.2.1 2 _ Z) (λ_=>rfl),
  RG.gO 1 va,
  RG.gO 2 m,
  eT 6 13 7 14 112 (λx y=>#[x,y]) (λx y W hx o d=>by
   obtain rfl:x=va:=hx;obtain rfl:y=m:=o;refine(X.2.1 W d.2).mono ?_;rintro e W' ⟨u,rfl,f,rfl⟩;exact⟨_,Z,f,Z⟩),
  eT 5 12 8 15 128 (λx y=>#[x,y]) (λx y W hx o d=>by
   obtain rfl:x=j:=hx;obtain rfl:y=nv p:=o;refine(X.2.2.1 W d.2).mono ?_;rintro e W' ⟨u,rfl,f,hs⟩;exact⟨_,Z,f,hs.q.mono λg t=>Zw d.2.size t⟩),
  eT 3 10 9 16 101 (λx y=>#[x,y]) (λx y W hx o d=>by
   have hx:=hx;have o:=o;refine(X.2.2.2 W x y hx.sm o.sm).mono ?_;rintro e W' ⟨u,rfl,f,hs⟩;exact⟨_,Z,f,hs.q.mono λg t=>Zw d.2.size t⟩),
  Ky 10 17 id (λx W h=>h),Fs⟩ ⟨K1.1,K1.2.drew⟩ ?_
 intro V w2 hR d;have t:=mk1 (hR 11 (yh (qt kR)));have o:=mk1 (d.2);dsimp only[cD,mi];simp only[ah,Zr,Zt,Zu];go_wp2;go_ret;exact⟨_,Z,o.out,t.out⟩
def rV{T e:ZR}{P:ai}{m:Func}(t f:Tmp)(r:m.results=#[.cell t T,.cell f e])(h:FJ W k vs)(p:FJ W c us)(o:tmps[t]? = J (jZ k))(i:tmps[f]? = J (jZ c))(j:(P.underlying T).map (·.isRow)=J H)(v:(P.info? T).map (·.size)=J vs.length)(b:(P.underlying e).map (·.isRow)=J H)(g:(P.info? e).map (·.size)=J us.length):(results m tmps).run P W=.ok (.tuple #[.agg vs.toArray,.agg us.toArray]) W:=by
 let⟨d,j,hd⟩:=Zp.1 j
 let⟨s,b,l⟩:=Zp.1 b
 have h1:=um (P:=P) W k 0 T vs d h.2.1 j hd v;have u:=um (P:=P) W c 0 e us s p.2.1 b l g;have n:tmps.getD t am=jZ k:=by rw[ZB,o];rfl
 have q:tmps.getD f am=jZ c:=by rw[ZB,i];rfl
 rw[results,r];simp only[R.mapM_eq_mapM_toList,G.mapM_cons,G.mapM_nil,n,q,asAddr];simp[ZK,h1,u]
section
variable {P:ai}{ops:Array Z4}{rest:List Z4}{op:Z4}{a:Act}{w w':Zl}{v:Zm}{Q:Exit->Act->Zl->Prop}
def cN(k:op.guard=F)(T:ZR)(t:Tmp)(_:op.op=.alloc T)(_:op.dst=J t)(b:(Z0 a.eval op).run P w=.ok (.value v) w')(h:wpList P ops Q rest (a.put op.dst v) w'):wpList P ops Q (op :: rest) a w:=
 sj k λK c=>by
  rw[ao,b];exact c _ _ h
end
def ON(g o j:I):(⟨g,o,F⟩:Addr).add j=⟨g,o+j,F⟩:=by
 unfold Addr.add;by_cases k:j=0
 .subst k;rw[GD Z];rfl
 rw[Id k]
def Mc{b o n:I}(d:k<=c)(w:Zl):(ux 122 (qZ b o n c) F (J (iZ k)) F).run prog w=.ok (qZ b o k c) w:=by
 have h1:¬(k:Y)<0:=S;have e:(k:Y)<=(c:Y):=S;go_simp
def Mb{n:I}(b o k:I)(d:k<n)(i:n<=c)(w:Zl):(ux 122 (qZ b o n c) (J (iZ k)) F F).run prog w=.ok (qZ b (o+k) (n-k) (c-k)) w:=by
 have h1:¬(k:Y)<0:=S;have f:(k:Y)<=(n:Y):=S;have g:¬c=k:=S;have e:=ON b o (1*k);rw[tF]at e;go_simp
def FO(b o n c k:I)(d:k<=c)(w:Zl):(ux 109 (qZ b o n c) F (J (iZ k)) F).run prog w=.ok (qZ b o k c) w:=by
 have h1:¬(k:Y)<0:=S;have e:(k:Y)<=(c:Y):=S;go_simp
def FN{n:I}(b o k:I)(d:k<n)(i:n<=c)(w:Zl):(ux 109 (qZ b o n c) (J (iZ k)) F F).run prog w=.ok (qZ b (o+k*4) (n-k) (c-k)) w:=by
 have h1:¬(k:Y)<0:=S;have f:(k:Y)<=(n:Y):=S;have g:¬c=k:=S;have e:=ON b o (k*4);rw[ax]at e;rw[ax k 4];go_simp
def GLq.high{o n:I}(h:GLq Q W (qZ g o (n+n) c) (n+n) T):GLq Q W (qZ g (o+n) n (c-n)) n (λi=>T (n+i)):=by
 let⟨m,p,c',e,h1,k,f,b⟩:=h
 injection e with e1 e2 e3
 injection e1 with e1
 injection e1 with e1 e4
 subst e1 e3 e4;refine⟨g,o+n,c-n,Z,S,k,f,λj q=>?_⟩;let⟨x,d,l⟩:=b (n+j) S
 exact⟨x,by rw[I.add_assoc];exact d,l⟩
def GLq.low{o n:I}(h:GLq Q W (qZ g o (n+n) c) (n+n) T):GLq Q W (qZ g o n c) n T:=by
 let⟨i,l,c',e,h1,k,d,b⟩:=h
 injection e with e1 e2 e3
 injection e1 with e1
 injection e1 with e1 e4
 subst e1 e3 e4;exact⟨g,o,c,Z,S,k,d,λj f=>b j S⟩
def SLq.high{o n:I}{T:I->I}(h:SLq Q W (qZ g o (n+n) c) (n+n) T):SLq Q W (qZ g (o+n*4) n (c-n)) n (λi=>T (n+i)):=by
 let⟨f,l,c',e,h1,k,d,b⟩:=h
 injection e with e1 e2 e3
 injection e1 with e1
 injection e1 with e1 e4
 subst e1 e3 e4;refine⟨g,o+n*4,c-n,Z,S,k,d,λj m=>?_⟩;have:=b (n+j) S;rw[show o+4*(n+j)=o+n*4+4*j by omega]at this;exact this
def SLq.low{o n:I}{T:I->I}(h:SLq Q W (qZ g o (n+n) c) (n+n) T):SLq Q W (qZ g o n c) n T:=by
 let⟨i,l,c',e,h1,k,d,b⟩:=h
 injection e with e1 e2 e3
 injection e1 with e1
 injection e1 with e1 e4
 subst e1 e3 e4;exact⟨g,o,c,Z,S,k,d,λj f=>b j S⟩
def CrR(Q:I->Prop)(w:Zl)(n:I)(G H:I->LB)(U:LB)(e:Zm)(w':Zl):Prop:=kZ w w'/\∃k b,e=.tuple #[.agg k,.agg b]/\k.size=3/\b.size=3/\k.all (·.oneCell')=true/\b.all (·.oneCell')=true/\GRq Q w' (.agg k) n (λi=>G (n+i)) H U/\GRq Q w' (.agg b) n G (λi=>H (n+i)) U
def KU(n:I)(T:0<n)(hn:n<=500)(G H:I->LB)(U:LB)(v:Zm)(w:Zl)(z:GRq Q w v (n+n) G H U):
 cZ 183 #[v] w (Ret (CrR Q w n G H U)):=by
 obtain⟨vg,vh,vu,rfl,s,p,t⟩:=z.ex;obtain⟨e,d,c1,rfl,y,-⟩:=id s;obtain⟨b,c,c2,rfl,x,-⟩:=id p;obtain⟨g,f,rfl,-⟩:=id t;have i:=mk5 s.high p.low s.low p.high t;have m:=Mb e d (n:=(n+n)) (c:=c1) n S y;have l:=Mb b c (n:=(n+n)) (c:=c2) n S x;rw[CA]at m l;have eq:ZN.wrap (((n+n:I):Y).tdiv 2)=(n:Y):=by rw[show((n+n:I):Y).tdiv 2=(n:Y) by rw[yB8 S];omega,pk];omega
 clear z s p t;go_enter func183,ntmps183;refine PW.bg [] ?_;refine PM.al 126 [qZ e d (n+n) c1,qZ b c (n+n) c2,sZ g U.length f] (mk1 (Mp.start w)) λk X O=>?_
 refine PM.al 126 [nZ,nZ,nZ] O λA w2 N=>?_
 refine PM.al 126 [nZ,nZ,nZ] N λa K q=>?_
 refine PW.dn ?_;refine PW.bg [jZ k] ?_;refine PM.ce 0 0 q ?_;refine PW.en [iZ ((n+n:I):Y),iZ (ZN.wrap (((n+n:I):Y).tdiv 2)),iZ (ZN.wrap (((n+n:I):Y).tdiv 2))] ?_;rw[eq];refine Zq (P:=prog) ?_;refine AW.beg 23 23 (J:=⟨λW=>∃cs,Mp w W [(k,[qZ e d (n+n) c1,qZ b c (n+n) c2,sZ g U.length f]),(A,cs),(a,[nZ,nZ,nZ])] [],λ_ _ M ⟨_,h⟩=>⟨_,h.grow M⟩,true⟩) ⟨_,q.out.drew⟩ ?_;refine AW.va 0 (jZ k) ?_;refine AW.ce 1 uGL (λW ⟨_,h⟩=>(h.at_ 0).2.1 0 _ Z) ?_;refine AW.mv 2 ?_;refine AW.iv 3 m ?_;refine AW.va 4 (oZ k 1) ?_;refine AW.ce 5 uGL (λW ⟨_,h⟩=>(h.at_ 0).2.1 1 _ Z) ?_;refine AW.mv 6 ?_;refine AW.iv 7 (Mc (b:=b) (o:=c) (n:=(n+n)) (c:=c2) (k:=n) S) ?_;refine AW.va 8 (oZ k 2) ?_;refine AW.ce 9 DL (λW ⟨_,h⟩=>(h.at_ 0).2.1 2 _ Z) ?_;refine AW.va 10 (.agg #[qZ e (d+n) n (c1-n),qZ b c n c2,sZ g U.length f]) ?_;refine AW.va 11 (jZ k) ?_;refine AW.ce 12 uGL (λW ⟨_,h⟩=>(h.at_ 0).2.1 0 _ Z) ?_;refine AW.mv 13 ?_;refine AW.iv 14 (Mc (b:=e) (o:=d) (n:=(n+n)) (c:=c1) (k:=n) S) ?_;refine AW.va 15 (oZ k 1) ?_;refine AW.ce 16 uGL (λW ⟨_,h⟩=>(h.at_ 0).2.1 1 _ Z) ?_;refine AW.mv 17 ?_;refine AW.iv 18 l ?_;refine AW.va 19 (oZ k 2) ?_;refine AW.ce 20 DL (λW ⟨_,h⟩=>(h.at_ 0).2.1 2 _ Z) ?_;refine AW.va 21 (.agg #[qZ e d n c1,qZ b (c+n) n (c2-n),sZ g U.length f]) ?_;obtain⟨C,j⟩:=hE (K.drew.setCells A 0 [qZ e (d+n) n (c1-n),qZ b c n c2,sZ g U.length f]);have u:=mk1 (q.out.drew.put 1 j);obtain⟨V,o⟩:=hE (C.setCells a 0 [qZ e d n c1,qZ b (c+n) n (c2-n),sZ g U.length f]);have r:=mk1 (u.out.put 2 o);refine AW.ss 22 aq kR iGr j (λ_=>⟨q.out.drew.th 1,_,u.out⟩) ?_;refine AW.fi (us:=[qZ e d n c1,qZ b (c+n) n (c2-n),sZ g U.length f]) aq kR iGr (λ_=>⟨u.out.th 2,?_⟩);rw[o.out];refine ag ?_;have L:=r.out.at_ 1;have r2:=r.out.at_ 2;refine Zx (rV 2 3 (T:=126) (e:=126) Z L r2 Z Z uGr iGr uGr iGr) Z ?_;have kq:∀ {Q:I->Prop},Kq Q w V:=Kq.of_below r.out.bl;exact⟨_,Z,r.out.bl,_,_,Z,Z,Z,kR,kR,⟨_,_,_,Z,i.1.keep kq,i.2.1.keep kq,i.2.2.2.2.keep kq⟩,⟨_,_,_,Z,i.2.2.1.keep kq,i.2.2.2.1.keep kq,i.2.2.2.2.keep kq⟩⟩
def GRq.ar{v:Zm}{n:I}{G H:I->LB}{U:LB}(h:GRq Q W v n G H U):∃e:Array Zm,v=.agg e/\e.size=3/\e.all (·.oneCell')=true:=by
 obtain⟨c,j,k,rfl,⟨g,f,c1,rfl,-⟩,⟨b,d,c2,rfl,-⟩,⟨l,i,rfl,-⟩⟩:=h.ex;exact⟨_,Z,Z,kR⟩
def Jb(O:Ord N)(n c:I)(h2:0<n)(G H:I->List (I × Bs))(U:List (I × Bs))(hG:GOk N (n+n) c G H U)(x:I)(hx:x<N)(v:Zm)(w:Zl)(hQ:∀g,w.heap.size<=g->Q g)(h0:GRq Q w v (n+n) G H U):
 ae prog 133 #[v,nv x] w (rZ w λe w'=>GRq Q w' e n (wJ N (sIn N x) x n G) (wJ N x (sIn N x) n H) U):=by
 obtain⟨T,vh,vu,rfl,X,h4,a⟩:=h0.ex;have l:sIn N x<N:=gD _ O.pos;have i:=λW=>xZ O x hx W
 have b:=λ(W:Zl) (C:kZ w W)=>NQ O n (by have:=hG.nle;omega) c (by have:=hG.cle;omega) hG.c0 G (sIn N x) x l hx hG.g T W (X.keep (Kq.of_below C))
 have d:=λ(W:Zl) (C:kZ w W)=>NQ O n (by have:=hG.nle;omega) c (by have:=hG.cle;omega) hG.c0 H x (sIn N x) hx l hG.h vh W (h4.keep (Kq.of_below C))
 generalize wJ N (sIn N x) x n G=G' at b⊢;generalize wJ N x (sIn N x) n H=H' at d⊢;generalize sIn N x=xi at i b d;obtain⟨t,s,rfl,-⟩:=id a;have M:=mk3 i b d;have L:=mk2 a hQ;clear h0 X h4 a i b d hQ hG;go_enter func133,ntmps133;refine PW.bg [] ?_;refine PM.al 126 [T,vh,sZ t U.length s] (mk1 (Mp.start w)) λK w1 K1=>?_
 refine PM.al 93 (wn x) K1 λk2 w2 K2=>?_
 refine PM.al 126 [.slice F 0 0,.slice F 0 0,.slice F 0 0] K2 λk3 w3 V=>?_
 refine PW.dn ?_;refine PW.bg [] ?_;refine PM.ro 1 V nq ?_;refine PM.gi V (M.1 w3) λw4 K4=>?_
 refine PM.al 93 (RG.z 4) K4 λk4 w5 K5=>?_
 refine PM.st 3 (wn xi) K5 nq λq u=>?_
 refine PW.dn ?_;refine AM.bg 13 13 u ?_;refine AW.va 0 (jZ K) ?_;refine AM.ce 1 0 0 ?_;refine AM.ro 2 3 nq ?_;refine AM.ro 3 1 nq ?_;refine AW.va 5 (oZ K 1) ?_;refine AM.ce 6 0 1 ?_;refine AM.ro 7 1 nq ?_;refine AM.ro 8 3 nq ?_;refine AW.va 10 (oZ K 2) ?_;refine AM.ce 11 0 2 ?_;refine AW.ca 4 (λz=>M.2.1 _ z.bl) (λe w' h=>h.1) ?_;rintro e1 P ⟨m,h7⟩;refine AW.ca 9 (λz=>M.2.2 _ z.bl) (λe w' h=>h.1) ?_;rintro e2 w8 ⟨j,h8⟩;have K8:=mk1 ((mk1 (u.out.drew.grow m)).out.grow j);have l3:k3<q.heap.size:=(u.out.at_ 2).1;have s6:w.heap.size<=q.heap.size:=u.out.bl.size;have s7:q.heap.size<=P.heap.size:=m.size;obtain⟨ga,y,ca,rfl,-⟩:=id h7;obtain⟨p,o,cb,rfl,-⟩:=id h8;refine AW.va 12 (.agg #[.slice (J ⟨ga,y,F⟩) n ca,.slice (J ⟨p,o,F⟩) n cb,sZ t U.length s]) ?_;obtain⟨w9,k⟩:=hE (w8.setCells k3 0 [.slice (J ⟨ga,y,F⟩) n ca,.slice (J ⟨p,o,F⟩) n cb,sZ t U.length s]);have A:=mk1 (K8.out.put 2 k);refine AW.fi (us:=[.slice (J ⟨ga,y,F⟩) n ca,.slice (J ⟨p,o,F⟩) n cb,sZ t U.length s]) aq kR iGr (λ_=>⟨K8.out.th 2,?_⟩);rw[k.out];refine ag ?_;have r:=A.out.at_ 2;refine Zx (aG 4 (T:=126) Z r Z uGr iGr) Z ?_;have f2:GLq (q.heap.size<=·) w9 (.slice (J ⟨ga,y,F⟩) n ca) n G':=by rw[<-k.out];exact(h7.keep (Kq.of_below j)).keep (Kq.set λg f=>pe (Zn l3 f))
 have f3:GLq (P.heap.size<=·) w9 (.slice (J ⟨p,o,F⟩) n cb) n H':=by rw[<-k.out];exact h8.keep (Kq.set λg f=>pe (Zn (Zn l3 s7) f))
 exact⟨_,Z,A.out.bl,⟨_,_,_,Z,f2.mono λg f=>L.2 g (Zw s6 f),f3.mono λg f=>L.2 g (Zw s6 (Zw s7 f)),L.1.keep (Kq.of_below A.out.bl)⟩⟩
def lgV(r:I):Zm:=.agg #[jZ r]
def uLg:yZ 118:=yQ
def iLg:gZ 118 1:=gQ
def uLp:wZ 114:=wQ
def U2(r:I)(w:Zl):(aj 118 (lgV r)).run prog w=.ok (jZ w.heap.size) (w.alloc (.cells #[jZ r] 118)):=kR
def gU{o:I}{L:Bs}(h:hZ W r 0 L)(k:r≠K):hZ (W.setCells K o vs) r 0 L:=λj b=>by
 have e:=aM (k:=K) vs o W r k;rw[ZP (a:=⟨r,0+j,F⟩) e,sI (a:=⟨r,0+j,F⟩) e];exact h j b
def J7(k:Fd)(w:Zl)(f:k.size<=1048576):dZ 118 #[.string k] w λe w'=>∃r,e=lgV r/\w.heap.size<=r/\r<w'.heap.size/\hZ w' r 0 (newL k.data.toList):=by
 obtain⟨L,q⟩:=hE (newL k.data.toList);rw[q.out];obtain⟨n,c⟩:=hE (w.alloc (.cells #[.pointer F] 118));have j:E (FJ n w.heap.size [.pointer F]/\kZ w n):=by rw[<-c.out];exact⟨aE,aD _⟩
 go_enter func118,ntmps118;go_wp2_with fail
 rw[c.out];refine(JP k n f).mono ?_;rintro e s ⟨u,rfl,d,r,rfl,p,o,i⟩;rw[q.out]at i;have t:=Zn j.1.1 p;have b:=mk4 (j.1.below d) (j.2.trans (d.mono j.2.size)) i o;obtain⟨m,g⟩:=hE (s.setCells w.heap.size 0 [jZ r]);have l:E (FJ m w.heap.size [jZ r]/\kZ w m/\hZ m r 0 L/\r<m.heap.size):=by
  rw[<-g.out];exact⟨b.1.put Z,RG.below_setCells (Zo _) _ _ _ b.2.1,gU b.2.2.1 S,by rw[setCells_size];exact b.2.2.2⟩
 go_wp2_with (refine bH (v:=.agg #[jZ r]) (w':=s) Z (.build 118 _) Z ?_ ?_;kernel_rfl;refine z9 ?_)
 show wpList _ _ _ _ _ _;refine ZZ Z 118 _ _ Z w.heap.size 0 #[jZ r] ?_ ?_ ?_ ?_ ?_ ?_
 .kernel_rfl
 .kernel_rfl
 .exact b.1.2.2
 .exact iLg
 .kernel_rfl
 rw[show(#[jZ r]).toList=[jZ r] from Z,g.out];go_wp2;refine Zx (aG 2 Z l.1 Z uLg iLg) Z ?_;exact⟨_,Z,l.2.1,r,Z,S,l.2.2.2,l.2.2.1⟩
def Bf(O:Ord N)(r:I)(L:Bs)(w:Zl)(t:hZ w r 0 L)(hl:L.size=32):
 cZ 188 #[.agg #[jZ r]] w (Ret λe w'=>SP.Only r 0 32 w w'/\hZ w' r 0 (aS L)/\e=nv (cha N L)):=by
 have u:=Holds.lt t S;obtain⟨k,b⟩:=yH ((w.alloc (.cells #[jZ r] 116)).alloc (.cells #[U 0,U 0,U 0,U 0] 93));have o:E (FJ k (w.heap.size+1) [U 0,U 0,U 0,U 0]/\kZ w k/\hZ k r 0 L/\k.rangeAt w.heap.size 0 [jZ r]):=by
  rw[<-b.out];have c:kZ w ((w.alloc (.cells #[jZ r] 116)).alloc (.cells #[U 0,U 0,U 0,U 0] 93)):=(aD _).alloc (by rw[Zy];omega) _;have hR:=aE (w:=(w.alloc (.cells #[jZ r] 116))) (c:=[U 0,U 0,U 0,U 0]) (T:=93);rw[Zy]at hR;exact⟨hR,c,Holds.below t c u,((aE).alloc _).2.1⟩
 clear t;obtain⟨d,l,f⟩:=Zp.1 u124;have K:E (prog.underlying 116=J d/\d.isRow=H):=⟨l,f⟩
 clear l f;have C:=FQ O r L ⟨#[99,104,97,108,108,101,110,103,101]⟩ k dC o.2.2.1 hl;have j:nW N (xR L (⟨#[99,104,97,108,108,101,110,103,101]⟩:Fd).data.toList 64)=cha N L:=rfl;have g:nP L (⟨#[99,104,97,108,108,101,110,103,101]⟩:Fd).data.toList=aS L:=rfl;rw[j,g]at C;have q:(aS L).size=32:=bC;have a:=Hid.mk' C;obtain⟨m,A⟩:=hE (cha N L);obtain⟨Q,c⟩:=hE (aS L);rw[A.out,c.out]at a;rw[c.out]at q;rw[A.out,c.out];go_enter func188,ntmps188;go_wp2_with (refine gS Z 116 _ Z w.heap.size 0 ?_ [jZ r] d ?_ ?_ ?_ ?_ ?_;kernel_rfl;(rw[b.out];exact o.2.2.2);exact K.1;exact K.2;exact i124;rw[b.out])
 refine a.mono ?_;rintro e M ⟨v,rfl,y,z,rfl⟩;have P:=Holds.lt z S;have p:=mk3 (o.1.only y S) ((SP.Only.of_below o.2.1 Z u).trans y) z;obtain⟨x,n⟩:=hE (M.setCells (w.heap.size+1) 0 (wn m));have s:E (FJ x (w.heap.size+1) (wn m)/\SP.Only r 0 32 w x/\hZ x r 0 Q):=by rw[<-n.out];exact⟨p.1.put Z,bU p.2.1 u S,gU p.2.2 S⟩
 obtain⟨T,i⟩:=hE (nv m);rw[i.out];go_wp2_with (refine ZZ Z 93 _ _ Z (w.heap.size+1) 0 (wn m).toArray ?_ ?_ ?_ ?_ ?_ ?_;rfl;exact i.symm;exact p.1.2.2;exact In;exact aK;rw[show(wn m).toArray.toList=wn m from Z,n.out])
 refine Zx (aG 2 Z s.1 Z u40 In) Z ?_;exact⟨_,Z,s.2.1,s.2.2,Z⟩
def chS(N:I)(L:Bs):I:=jT (cha N L)
def Dh{L:Bs}[NeZero N](h1:1<N)(b:cha N L<N):chS N L=(lB N L).val:=by
 unfold chS lB Qq jT;generalize cha N L=c at b;have hv:(ofF N c).val=c:=ZC b;by_cases k:c=0
 .subst k;rw[GD Z,GD uD];exact(ZC h1).symm
 rw[Id k,Id (λe=>k (by rw[<-hv,e];exact yp N)),hv]
def AV(O:Ord N)(r:I)(L:Bs)(w:Zl)(x:hZ w r 0 L)(hl:L.size=32):
 cZ 121 #[lgV r] w (Ret λe w'=>SP.Only r 0 32 w w'/\hZ w' r 0 (aS L)/\e=nv (chS N L)):=by
 have z:=Holds.lt x S;obtain⟨k,c⟩:=yH ((w.alloc (.cells #[jZ r] 118)).alloc (.cells #[U 0,U 0,U 0,U 0] 93));have p:E (FJ k (w.heap.size+1) [U 0,U 0,U 0,U 0]/\kZ w k/\hZ k r 0 L/\k.rangeAt w.heap.size 0 [jZ r]):=by
  rw[<-c.out];have b:kZ w ((w.alloc (.cells #[jZ r] 118)).alloc (.cells #[U 0,U 0,U 0,U 0] 93)):=(aD _).alloc (by rw[Zy];omega) _;have hR:=aE (w:=(w.alloc (.cells #[jZ r] 118))) (c:=[U 0,U 0,U 0,U 0]) (T:=93);rw[Zy]at hR;exact⟨hR,b,Holds.below x b z,((aE).alloc _).2.1⟩
 clear x;obtain⟨d,n,g⟩:=Zp.1 u124;have X:E (prog.underlying 116=J d/\d.isRow=H):=⟨n,g⟩
 clear n g;have A:cha N L<N:=qP O;have j:=λW=>Qo O A W
 have a:jT (cha N L)=chS N L:=rfl;rw[a]at j;have t:(aS L).size=32:=bC;obtain⟨m,V⟩:=hE (cha N L);obtain⟨q,K⟩:=hE (chS N L);obtain⟨L',f⟩:=hE (aS L);have T:=Hid.mk' (Bf O r L k p.2.2.1 hl);have P:=Hid.mk' j;rw[V.out,f.out]at T;rw[V.out,K.out]at P;rw[f.out]at t;rw[K.out,f.out];unfold lgV;go_enter func121,ntmps121;go_wp2_with (refine gS Z 116 _ Z w.heap.size 0 ?_ [jZ r] d ?_ ?_ ?_ ?_ ?_;kernel_rfl;(rw[c.out];exact p.2.2.2);exact X.1;exact X.2;exact i124;rw[c.out])
 refine T.mono ?_;rintro e w4 ⟨v,rfl,M,Q,rfl⟩;have i:=Holds.lt Q S;have y:=mk3 (p.1.only M S) ((SP.Only.of_below p.2.1 Z z).trans M) Q;go_wp2_with fail
 refine(P w4).mono ?_;rintro e w6 ⟨v6,rfl,b,rfl⟩;have s:=mk3 (y.1.below b) (y.2.1.trans (SP.Only.of_below b Z i)) (Holds.below y.2.2 b i);obtain⟨C,o⟩:=hE (w6.setCells (w.heap.size+1) 0 (wn q));have u:E (FJ C (w.heap.size+1) (wn q)/\SP.Only r 0 32 w C/\hZ C r 0 L'):=by rw[<-o.out];exact⟨s.1.put Z,bU s.2.1 z S,gU s.2.2 S⟩
 obtain⟨vm,l⟩:=hE (nv q);rw[l.out];go_wp2_with (refine ZZ Z 93 _ _ Z (w.heap.size+1) 0 (wn q).toArray ?_ ?_ ?_ ?_ ?_ ?_;rfl;exact l.symm;exact s.1.2.2;exact In;exact aK;rw[show(wn q).toArray.toList=wn q from Z,o.out])
 refine Zx (aG 2 Z u.1 Z u40 In) Z ?_;exact⟨_,Z,u.2.1,u.2.2,Z⟩
structure CaI(w W:Zl)(k r:I)(X Y L:Bs):Prop where
 on:SP.Only r 0 32 w W
 r0:FJ W k [jZ r]
 r1:FJ W (k+1) (aA X)
 r2:FJ W (k+2) (aA Y)
 r3:FJ W (k+3) [U 0,U 0,U 0,U 0]
 lg:hZ W r 0 L
def CaI.grow{X Y L:Bs}(h:CaI w W k r X Y L)(hl:L.size=32)(b:kZ W W'):CaI w W' k r X Y L:=
 have c:=Holds.lt h.lg S
 ⟨h.on.trans (SP.Only.of_below b Z c),h.r0.below b,h.r1.below b,h.r2.below b,h.r3.below b,Holds.below h.lg b c⟩
def CaI.say{X Y L c:Bs}(h:CaI w W k r X Y L)(e:r<k)(b:SP.Only r 0 32 W W')(d:hZ W' r 0 c):CaI w W' k r X Y c:=
 ⟨h.on.trans b,h.r0.only b S,h.r1.only b S,h.r2.only b S,h.r3.only b S,d⟩
def wM(O:Ord N)(r:I)(L X Y:Bs)(l1 l2:Fd)(h1:l1.size<=1048576)(h2:l2.size<=1048576)(hX:X.size=33)(hY:Y.size=33)(w:Zl)(hL:hZ w r 0 L)(hl:L.size=32):
 cZ 120 #[lgV r,.string l1,pvl X,.string l2,pvl Y] w (Ret λe w'=>SP.Only r 0 32 w w'/\hZ w' r 0 (aS (kS l1.data.toList l2.data.toList L X Y))/\e=nv (chS N (kS l1.data.toList l2.data.toList L X Y))):=by
 have hr:=Holds.lt hL S;obtain⟨K,M⟩:=yH (iW L l1.data.toList X.toList);have s1:K.size=32:=by rw[<-M.out];exact dO
 obtain⟨t,P⟩:=yH (iW K l2.data.toList Y.toList);have s2:t.size=32:=by rw[<-P.out];exact dO
 have e2:kS l1.data.toList l2.data.toList L X Y=t:=by unfold kS;rw[M.out,P.out]
 rw[e2];obtain⟨k,T⟩:=yH w.heap.size;obtain⟨b,i⟩:=yH (w.alloc (.cells #[jZ r] 118));obtain⟨c,g⟩:=yH (b.alloc (.cells (aA X).toArray 40));obtain⟨f,j⟩:=yH (c.alloc (.cells (aA Y).toArray 40));obtain⟨Q,a⟩:=yH (f.alloc (.cells #[U 0,U 0,U 0,U 0] 93));have z1:b.heap.size=k+1:=by rw[<-i.out,Zy,T.out]
 have z2:c.heap.size=k+2:=by rw[<-g.out,Zy,z1]
 have z3:f.heap.size=k+3:=by rw[<-j.out,Zy,z2]
 have A:r<k:=by rw[<-T.out];exact hr
 have HK:E (w.heap.size<=k):=by show _<=_;rw[T.out];exact Zo _
 have K4:E (CaI w Q k r X Y L):=by
  have b1:kZ w b:=by rw[<-i.out];exact aD _
  have n:kZ b c:=by rw[<-g.out];exact aD _
  have l:kZ c f:=by rw[<-j.out];exact aD _
  have o:kZ f Q:=by rw[<-a.out];exact aD _
  have s:FJ b k [jZ r]:=by rw[<-i.out,<-T.out];exact aE (w:=w)
  have r2:FJ c (k+1) (aA X):=by rw[<-g.out,<-z1];exact aE (w:=b)
  have p:FJ f (k+2) (aA Y):=by rw[<-j.out,<-z2];exact aE (w:=c)
  have y:FJ Q (k+3) [U 0,U 0,U 0,U 0]:=by rw[<-a.out,<-z3];exact aE (w:=f)
  have bb:kZ w Q:=((b1.trans (n.mono b1.size)).trans (l.mono (Zw b1.size n.size))).trans (o.mono (Zw b1.size (Zw n.size l.size)));exact⟨SP.Only.of_below bb Z hr,((s.below n).below l).below o,(r2.below l).below o,p.below o,y,Holds.below hL bb hr⟩
 obtain⟨vl,h6⟩:=yH (lgV r);obtain⟨vX,h7⟩:=yH (pvl X);obtain⟨vY,h0⟩:=yH (pvl Y);have B1:E ((aj 118 vl).run prog w=.ok (jZ k) b):=by rw[<-h6.out,<-i.out,<-T.out];exact U2 r w
 have B2:E ((aj 40 vX).run prog b=.ok (jZ (k+1)) c):=by rw[<-h7.out,<-g.out,<-z1];exact uP hX b
 have B3:E ((aj 40 vY).run prog c=.ok (jZ (k+2)) f):=by rw[<-h0.out,<-j.out,<-z2];exact uP hY c
 have HZ:E (f.heap.size=k+3):=z3;rw[h6.out,h7.out,h0.out];have HC:E (Ord N/\l1.size<=1048576/\l2.size<=1048576/\X.size=33/\Y.size=33):=⟨O,h1,h2,hX,hY⟩
 clear hL z1 z2 z3 i g j T e2 O h1 h2 hX hY;go_enter func120,ntmps120;go_wp2_with (first|(refine aI (u:=vl) (v:=jZ k) (w':=b) Z 118 (.tmp 0) Z ?_ ?_ ?_;rfl;exact B1.out)|(refine aI (u:=vX) (v:=jZ (k+1)) (w':=c) Z 40 (.tmp 2) Z ?_ ?_ ?_;rfl;exact B2.out)|(refine aI (u:=vY) (v:=jZ (k+2)) (w':=f) Z 40 (.tmp 4) Z ?_ ?_ ?_;rfl;exact B3.out)|(refine cN (v:=jZ (k+3)) (w':=Q) Z 93 10 Z Z ?_ ?_;(rw[<-a.out,<-HZ.out];kernel_rfl))|fail)
 refine(gwL [pE (jZ k),pE (jZ k),pE (jZ r),pE (.string l1),pE (sZ (k+1) 33 33)] (λW=>CaI w W k r X Y L) (λW W' hb h=>h.grow hl hb)).tail2 5 kR kR kR ⟨
  RG.gO 5 (jZ k),
  NG 0 11 (jZ k) (jZ k) (λx W h=>h) (λ_=>rfl),
  uI (T:=114) 1 12 k 0 (jZ r) uLp (λx W h=>h) (λW s=>s.r0.2.1 0 _ Z) (λ_=>rfl),
  RG.gO 1 (.string l1),
  gP 7 (jZ (k+1)) (sZ (k+1) 33 33),Fs⟩ (K4.grow hl ⟨Z,Z,Z,Zo _,λ_ _=>rfl⟩) ?_
 intro V w5 hR s;have o:V 2=jZ r:=hR 2 dC;have l:V 3=.string l1:=hR 3 dC;have n:V 4=sZ (k+1) 33 33:=hR 4 dC;dsimp only[cD,mi,r9,tr];simp only[ah,Zr,Zt,Zu];rw[o,l,n];have y:=Hid.mk' s;clear hR s o l n K4;generalize V 0=s0;generalize V 1=he;go_wp2_with fail
 refine(Dt r L l1 (J ⟨k+1,0,F⟩) 33 33 X.toList w5 HC.2.1 (Tn y.lg) hl (zI HC.2.2.2.1 y.r1)).mono ?_;rintro e w6 ⟨rfl,z,p⟩;rw[M.out]at p;have K6:E (CaI w w6 k r X Y K):=y.say A z (Tk p);clear z p y;go_wp2_with fail
 refine(gwL [pE (jZ k),pE (jZ k),pE (jZ r),pE (.string l2),pE (sZ (k+2) 33 33)] (λW=>CaI w W k r X Y K) (λW W' hb h=>h.grow s1 hb)).tail2 5 kR kR kR ⟨
  RG.gO 5 (jZ k),
  NG 0 17 (jZ k) (jZ k) (λx W h=>h) (λ_=>rfl),
  uI (T:=114) 1 18 k 0 (jZ r) uLp (λx W h=>h) (λW s=>s.r0.2.1 0 _ Z) (λ_=>rfl),
  RG.gO 3 (.string l2),
  gP 9 (jZ (k+2)) (sZ (k+2) 33 33),Fs⟩ (K6.grow s1 ⟨Z,Z,Z,Zo _,λ_ _=>rfl⟩) ?_
 intro V w7 hR s;have o:V 2=jZ r:=hR 2 dC;have l:V 3=.string l2:=hR 3 dC;have n:V 4=sZ (k+2) 33 33:=hR 4 dC;dsimp only[cD,mi,r9,tr];simp only[ah,Zr,Zt,Zu];rw[o,l,n];have y:=Hid.mk' s;clear hR s o l n K6;generalize V 0=ha;generalize V 1=s3;go_wp2_with fail
 refine(Dt r K l2 (J ⟨k+2,0,F⟩) 33 33 Y.toList w7 HC.2.2.1 (Tn y.lg) s1 (zI HC.2.2.2.2 y.r2)).mono ?_;rintro e w8 ⟨rfl,z,p⟩;rw[P.out]at p;have K8:E (CaI w w8 k r X Y t):=y.say A z (Tk p);clear z p y;have HS:=Hid.mk' (AV HC.1 r t w8 K8.lg s2);have h9:(aS t).size=32:=bC;obtain⟨q,hq⟩:=yH (chS N t);obtain⟨L3,C⟩:=yH (aS t);rw[hq.out,C.out]at HS;rw[C.out]at h9;obtain⟨d,h5,h4⟩:=Zp.1 uLg;have HD:E (prog.underlying 118=J d/\d.isRow=H):=⟨h5,h4⟩
 clear h5 h4;go_wp2_with (first|(refine gS Z 118 (.tmp 5) Z k 0 ?_ [jZ r] d ?_ ?_ ?_ ?_ ?_;rfl;exact K8.r0.2.1;exact HD.1;exact HD.2;exact iLg;skip)|fail)
 refine HS.mono ?_;rintro e w9 ⟨v,rfl,z,p,rfl⟩;have K9:E (CaI w w9 k r X Y L3):=K8.say A z p;clear z p K8 HS;obtain⟨wa,h8⟩:=yH (w9.setCells (k+3) 0 (wn q));have KA:E (FJ wa (k+3) (wn q)/\SP.Only r 0 32 w wa/\hZ wa r 0 L3):=by
  have hc:=HZ.out;rw[<-h8.out];exact⟨K9.r3.put Z,bU K9.on hr (oN HK.out),gU K9.lg S⟩
 obtain⟨vm,h3⟩:=yH (nv q);rw[h3.out];go_wp2_with (refine ZZ Z 93 _ _ Z (k+3) 0 (wn q).toArray ?_ ?_ ?_ ?_ ?_ ?_;rfl;exact h3.symm;exact K9.r3.2.2;exact nSc;exact aK (n:=q);rw[show(wn q).toArray.toList=wn q from Z,h8.out])
 refine Zx (aG 10 (T:=93) Z KA.1 Z rSc nSc) Z ?_;exact⟨_,Z,KA.2.1,by rw[C.out];exact KA.2.2,by rw[hq.out];rfl⟩
def Rl{n:I}{v x:Zm}(k:W.ownsRow base 22 1 v n xs)(hx:x.oneCell'=H)(b:W.cell? ⟨ga,0,F⟩=J x)(M:n<=1000)(C:base<=W.heap.size):
 ∃e W',(oT #[23,23] 23 #[v,sZ ga 1 1]).run prog W=.ok e W'/\W'.ownsRow base 22 1 e (n+1) (xs++[x])/\Ap1 W W' v e:=by
 let⟨i,t,y⟩:=Zp.1 Nz
 simp only[an.injEq]at y;let⟨h1,A,L⟩:=y
 let⟨z,s,p⟩:=Zp.1 L
 have r:∀(j:I) u,[x][j]? = J u->W.cell? ((⟨ga,0,F⟩:Addr).add j)=J u:=λj u w=>by
  rw[Cm,Zs];have d:j=0:=by have:=(Zz.1 w).1;simp at this;omega
  subst d;obtain rfl:x=u:=by simpa using w
  exact b
 have f:∀u∈[x],u.oneCell'=H:=λu K=>by
  obtain rfl:u=x:=by simpa using K
  exact hx
 obtain⟨e,W',q,r2,d,-⟩:=run_append_own (P:=prog) W base 23 23 22 i z 1 24 Bv t s h1 A p dC v n xs k (aZ ga) 1 1 [x] Z r f (by unfold maxLen;omega) S C;refine⟨e,W',q,r2,d.os,d.tape,d.output,d.size,λg o hv=>d.block g o (λh=>hv h.symm),?_⟩;rcases(zU (c:=1) Bv t s h1 S k (Src.ofSlice (P:=prog) (size:=1) W Bv (aZ ga) 1 1 [x] Z r f) S q)with h|⟨h,m⟩
 .exact Z5 h
 exact ZW ⟨⟨_,h,Zo _⟩,λg o=>m.block g o⟩
section
variable {Q Q':Nat->Prop}{W:Zl}{v:Zm}{n:Nat}
def SmQ.mono2(h:SmQ Q W v l)(f:∀g,g<W.heap.size->Q g->Q' g):SmQ Q' W v l:=by
 let⟨g,c,h1,b,e,k,d⟩:=h
 exact⟨g,c,h1,b,f g k e,k,d⟩
def SLq.mono2{a:I->I}(h:SLq Q W v n a)(f:∀g,g<W.heap.size->Q g->Q' g):SLq Q' W v n a:=by
 let⟨g,o,c,h1,b,e,k,d⟩:=h
 exact⟨g,o,c,h1,b,f g k e,k,d⟩
def GLq.mono2(h:GLq Q W v n T)(b:∀g,g<W.heap.size->Q g->Q' g):GLq Q' W v n T:=by
 let⟨g,o,c,h1,f,m,k,l⟩:=h
 refine⟨g,o,c,h1,f,b g k m,k,λj e=>?_⟩;let⟨x,d,i⟩:=l j e
 exact⟨x,d,i.mono2 b⟩
def GRq.mono2{G H:I->LB}{U:LB}(h:GRq Q W v n G H U)(k:∀g,g<W.heap.size->Q g->Q' g):GRq Q' W v n G H U:=by
 let⟨c,f,d,h1,b,i,e⟩:=h.ex
 exact⟨c,f,d,h1,b.mono2 k,i.mono2 k,e.mono2 k⟩
end
def ElQ(Q:I->Prop)(m:I)(W:Zl)(x:Zm)(b:Bs):Prop:=∃k c,x=sZ k m c/\m<=c/\b.size=m/\Q k/\k<W.heap.size/\hZ W k 0 b
section
variable {Q Q':Nat->Prop}{W W':Zl}{x:Zm}{m:Nat}{b:Bs}
def ElQ.keep(h:ElQ Q m W x b)(d:Kq Q W W'):ElQ Q m W' x b:=by
 let⟨k,c,h1,n,o,f,g,i⟩:=h
 refine⟨k,c,h1,n,o,f,Zn g d.size,λj l=>?_⟩;have e:=d.block k f g;rw[ZP (a:=⟨k,0+j,F⟩) e,sI (a:=⟨k,0+j,F⟩) e];exact i j l
def ElQ.mono2(h:ElQ Q m W x b)(l:∀g,g<W.heap.size->Q g->Q' g):ElQ Q' m W x b:=by
 let⟨k,c,h1,f,j,i,d,e⟩:=h
 exact⟨k,c,h1,f,j,l k d i,d,e⟩
def ElQ.one(h:ElQ Q m W x b):x.cells=#[x]/\x.oneCell'=H:=by
 obtain⟨k,c,rfl,-⟩:=h;exact⟨Z,Z⟩
end
def r33(g:I):Zm:=sZ g 33 33
def r32(g:I):Zm:=sZ g 32 32
def jH{a:Bs}(f:a.size=33):ae prog 176 #[pvl a] w (rZ w λe w'=>ElQ (w.heap.size<=·) 33 w' e a/\∃g,e=r33 g):=by
 have i:=Hid.mk' (uP f w);obtain⟨c,b⟩:=hE (w.alloc (.cells (aA a).toArray 40));rw[b.out]at i;have K:E (FJ c w.heap.size (aA a)/\kZ w c):=by rw[<-b.out];exact⟨aE,aD _⟩
 obtain⟨va,k⟩:=hE (pvl a);have d:E ((aj 40 va).run prog w=.ok (jZ w.heap.size) c):=by rw[<-k.out];exact i
 rw[k.out];have hs:=VP w.heap.size;go_enter func176,ntmps176;go_wp2_with (first|(refine aI (u:=va) (v:=jZ w.heap.size) (w':=c) Z 40 (.tmp 0) Z ?_ ?_ ?_;rfl;exact d))
 go_ret;exact⟨_,Z,K.2,⟨w.heap.size,33,Z,S,f,Zo _,K.1.1,row_holds K.1⟩,_,Z⟩
structure TlL(Q:I->Prop)(base i:I)(W:Zl)(v:Zm)(B:I->Bs):Prop where
 ex:∃xs,W.ownsRow base 22 1 v i xs/\∀j,j<i->∃x,xs[j]? = J x/\ElQ Q 33 W x (B j)
section
variable {w W W' W1:Zl}{r k iL iR n:Nat}{cL cR vL vR v va vb:Zm}{Lb Rb:Nat->Bs}{L:Bs}{a b:Nat->Nat}{G H:Nat->List (Nat × Bs)}{U:List (Nat × Bs)}
def TlL.lt{i:I}{B:I->Bs}(h:TlL Q base i W v B)(k:v.ownBlock=J g):base<=g/\g<W.heap.size:=by
 obtain⟨xs,h1,-⟩:=h.ex;have:=nG h1 k;exact⟨this.1,this.2.1⟩
def TlL.keep{i:I}{B:I->Bs}(h:TlL Q base i W v B)(k:Kq Q W W')(ho:∀g,v.ownBlock=J g->W'.heap[g]? = W.heap[g]?):TlL Q base i W' v B:=by
 let⟨xs,h1,c⟩:=h.ex
 refine⟨xs,jS h1 ho,λj b=>?_⟩;let⟨x,e,d⟩:=c j b
 exact⟨x,e,d.keep k⟩
def NC{L:Bs}(h:hZ W r 0 L)(e:W'.heap[r]? = W.heap[r]?):hZ W' r 0 L:=λj k=>by
 rw[ZP (a:=⟨r,0+j,F⟩) e,sI (a:=⟨r,0+j,F⟩) e];exact h j k
def DY{o:I}(h:SP.Only r 0 32 w W)(b:w.heap.size=k)(c:r<k)(d:k<=K):SP.Only r 0 32 w (W.setCells K o vs):=bU h S S
end
section
open SPA
variable {P:Nat}[NeZero P]{N:Nat}[NeZero N]
abbrev wP[NeZero P](X:OnP P):Bs:=wr X.1
def lQ(a b:I->B N):∀n,prS N (λi=>(a i).val) (λi=>(b i).val) n=(Md.pr a b n).val
 | 0=>(yp N).symm
 | n+1=>by
  show sPl N (prS N _ _ n) (sTi N (b n).val (a n).val)=(Md.pr a b n+a n*b n).val;rw[lQ a b n,nF,fQ];unfold sTi;rw[ax]
omit [NeZero N] in
theorem EO(x y:B N)(n:I)(a:I->B N)(i:I):Bm N x.val y.val n (λi=>(a i).val) i=(Md.fS x y n a i).val:=by
 show sPl N (sTi N (a i).val x.val) (sTi N (a (n+i)).val y.val)=(x*a i+y*a (n+i)).val;rw[nF,fQ,fQ];unfold sTi;rw[ax (a i).val,ax (a (n+i)).val]
omit [NeZero N] in
theorem wH{n:I}{G H:I->LB}{U:LB}{g h:I->OnP P}{u:OnP P}(m:0<n)(l:0<c)(b:c*n<=64)(hG:Gd N n c G g)(d:Gd N n c H h)(j:Tl N U u)(f:0<U.length)(e:U.length<=16):GOk N n c G H U:=
 ⟨m,l,b,λi k=>⟨(hG.tl i k).ok,hG.len i k⟩,λi k=>⟨(d.tl i k).ok,d.len i k⟩,j.ok,f,e⟩
omit [NeZero N] in
theorem Tl.point(C:IO P)(O:Ord N)(k:∀r:EC.Pt P,On r->mul N r=F){X:OnP P}(hT:Tl N l X)(c:0<l.length)(b:l.length<=512){v:Zm}(h:Sm 0 w v l):
 eZ 103 #[v] w (pvl (wr X.1)):=by
 have:=h.point C O k c b hT.lt hT.pts;rw[hT.sum]at this;exact this
def iCP:gZ 40 33:=gQ
def Me(C:IO P)(O:Ord N)(k:∀r:EC.Pt P,On r->mul N r=F){G H:I->LB}{U:LB}{g h:I->OnP P}{u:OnP P}(t:0<m)(x:0<c)(j:c*m<=64)(hG:Gd N m c G g)(o:Gd N m c H h)(n:Tl N U u)(q:0<U.length)(w:U.length<=16)(a b:I->B N):
 ∃l,(∀(W:Zl) (v va f:Zm),GRq Q W v m G H U->SLq Q W va m (λi=>(a i).val)->SLq Q W f m (λi=>(b i).val)->dZ 134 #[v,va,f] W λe w'=>Sm W.heap.size w' e l) /\
  (∀(W:Zl) (v:Zm),Sm 0 W v l->eZ 103 #[v] W (pvl (wr ((aC C k).hd a b g h u m).1))):=by
 let⟨hT,hl⟩:=ND C k hG o n (d:=U.length) Z a b
 rw[<-lQ]at hT hl;refine⟨_,λW v va f h1 p s=>I5 O m c G H U (wH t x j hG o n q w) _ _ (λi _=>(a i).isLt) (λi _=>(b i).isLt) v va f W h1 p s,λW v hv=>hT.point C O k (by rw[hl];omega) (by rw[hl];omega) hv⟩
end
section
abbrev pqS(v:Zm)(n:I)(a:I->I):Pq:=⟨λQ W=>SLq Q W v n a,λ_ _ _ k h=>h.keep k,λ_ _ _ m h=>h.mono2 m⟩
abbrev pqG(v:Zm)(n:I)(G H:I->LB)(U:LB):Pq:=⟨λQ W=>GRq Q W v n G H U,λ_ _ _ k h=>h.keep k,λ_ _ _ m h=>h.mono2 m⟩
def pG{o B:I}(h:SP.Only r o m w W)(b:B<=w.heap.size)(k:B<=r):Below B w W:=⟨h.os,h.tape,h.output,h.size,λg c=>h.block g S S⟩
namespace Mp
variable {w W W':Zl}{rs rs':List (Nat × List Zm)}{S:List Pq}{r:Nat}{L L':Bs}
def say(h:Mp w W rs S)(i:I)(k:SP.Only r 0 32 W W')(f:hZ W' r 0 L')(c:rs[i]? = J (r,aA L):=by rfl)(e:rs.set i (r,aA L')=rs':=by(simp only[Zt,Zu])<;>rfl):Mp w W' rs' S:=by
 subst e;have b:=h.lt (key c);refine h.turn c (h.bl.trans (pG k h.bl.size b.1)) k.size (λg d hl=>k.block g hl d) (mW f (Zn b.2 k.size))
def log(h:Mp w W rs S)(i:I)(k:rs[i]? = J (r,aA L):=by rfl):hZ W r 0 L:=row_holds (h.at_ i k)
end Mp
def Row.upd{o:I}(h:FJ W k vs)(hl:o+us.length<=vs.length):FJ (W.setCells k o us) k (rep vs o us):=by
 have f:=PutTo.store (after:=rep vs o us) h.2.2 h.2.1 hl λj=>RG.rep_at hl j
 refine⟨by rw[setCells_size];exact h.1,f.range,?_⟩;rw[fU hl];exact f.there
def Row.th2{o n:I}(h:FJ W k vs)(hl:o+n<=vs.length):W.there k o n:=λj b=>by
 have:=h.2.2 (o+j) (by omega);rwa[Zs]at this
section
variable {ι:Type}{V:ι->Zm}{O:ι->Zl->Prop}{w W W':Zl}
def gO(V:ι->Zm)(O:ι->Zl->Prop)(d:∀x W W',O x W->(∀g,(V x).ownBlock=J g->W'.heap[g]? = W.heap[g]?)->O x W'){b:I}(hl:∀x W g,O x W->(V x).ownBlock=J g->b<=g/\g<W.heap.size)(x:ι):Pq:=⟨λQ W=>O x W/\∀g,(V x).ownBlock=J g->Q g,λ_ _ _ k h=>⟨d _ _ _ h.1 λg c=>k.block g (h.2 g c) (hl _ _ _ h.1 c).2,h.2⟩,λ_ _ _ m h=>⟨h.1,λg c=>m g (hl _ _ _ h.1 c).2 (h.2 g c)⟩⟩
def gB(V:ι->Zm)(ls:G ι)(g:I):Prop:=∃x∈ls,(V x).ownBlock=J g
def gN(V:ι->Zm)(ls:G ι)(s:Pq):Pq:=⟨λQ W=>s.p (λg=>Q g/\¬gB V ls g) W,λ_ _ _ k h=>s.kp _ _ _ ⟨k.size,λg b=>k.block g b.1⟩ h,λ_ _ _ m h=>s.mo _ _ _ (λg hl b=>⟨m g hl b.1,b.2⟩) h⟩
def gA(V:ι->Zm)(ls:G ι):Prop:=∀(i j:I) (x y:ι),ls[i]? = J x->ls[j]? = J y->i≠j->∀g,(V x).ownBlock=J g->(V y).ownBlock≠J g
def Sj{S:G Pq}{ls:G ι}{i:I}{x y:ι}(q:∀x W W',O x W->(∀g,(V x).ownBlock=J g->W'.heap[g]? = W.heap[g]?)->O x W')(hl:∀x W g,O x W->(V x).ownBlock=J g->w.heap.size<=g/\g<W.heap.size)(K:Mp w W rs (ls.map (gO V O q hl)++S.map (gN V ls)))(A:gA V ls)(r:ls[i]? = J x)(r2:O y W')(B:Ap1 W W' (V x) (V y)):Mp w W' rs ((ls.set i y).map (gO V O q hl)++S.map (gN V (ls.set i y)))/\gA V (ls.set i y):=by
 have M:=oE r;have hx:(gO V O q hl x).p (Nk rs) W:=K.ob _ (xy _ (Z1.2 ⟨x,M,Z⟩));have n:=(Zz.1 r).1;have v:∀g,(V x).ownBlock=J g->w.heap.size<=g/\g<W.heap.size:=λg k=>hl _ _ _ hx.1 k
 have own:∀y∈ls,(gO V O q hl y).p (Nk rs) W:=λy Q=>K.ob _ (xy _ (Z1.2 ⟨y,Q,Z⟩))
 have t:∀g,(V y).ownBlock=J g->(V x).ownBlock=J g\/W.heap.size<=g:=λg k=>by
  rcases B.mv with m|⟨⟨d,m,c⟩,-⟩
  .exact Z5 (m ▸ k)
  rw[m]at k;exact ZW (ZV.inj k ▸ c)
 have nk:∀g,(V y).ownBlock=J g->Nk rs g:=λg k=>(t g k).elim (hx.2 g) (K.nk g)
 have mem:∀z∈ls.set i y,z=y\/∃j,j≠i/\ls[j]? = J z:=λz c=>by
  let⟨j,d,e⟩:=G.mem_iff_getElem.1 c
  rw[G.length_set]at d;rw[G.getElem_set]at e;by_cases f:i=j
  .rw[GD f]at e;exact Z5 e.symm
  rw[Id f]at e;exact ZW ⟨j,λh=>f h.symm,by rw[<-e];exact ZH d⟩
 refine⟨⟨⟨B.os.trans K.bl.os,B.tape.trans K.bl.tape,B.output.trans K.bl.output,Zw K.bl.size B.size,λg k=>(B.keep g (Zn k K.bl.size) λe=>oN ((v g e).1)).trans (K.bl.block g k)⟩,λz c=>⟨(K.rw z c).1,eR (K.rw z c).2 B.size (B.keep _ (K.rw z c).2.1 λe=>hx.2 _ e (Z1.2 ⟨z,c,Z⟩))⟩,K.nd,λs hs=>?_⟩,?_⟩
 .rcases py.1 hs with hs|hs
  .obtain⟨z,c,rfl⟩:=Z1.1 hs;rcases mem z c with rfl|⟨j,d,c⟩
   .exact⟨r2,nk⟩
   have f:=own z (oE c);exact⟨q _ _ _ f.1 λg k=>B.keep g (hl _ _ _ f.1 k).2 λe=>A i j x z r c (Ne.symm d) g e k,f.2⟩
  obtain⟨f,l,rfl⟩:=Z1.1 hs;have h1:f.p (λg=>Nk rs g/\¬gB V ls g) W:=K.ob _ (xz _ (Z1.2 ⟨f,l,Z⟩));have o:f.p (λg=>Nk rs g/\¬gB V (ls.set i y) g) W:=f.mo _ _ _ (λg hl k=>⟨k.1,λ⟨z,c,e⟩=>by
   rcases mem z c with rfl|⟨j,d,c⟩
   .rcases t g e with h|h
    .exact k.2 ⟨x,M,h⟩
    omega
   exact k.2 ⟨z,oE c,e⟩⟩) h1
  exact f.kp _ _ _ ⟨B.size,λg k hl=>by
   rcases B.mv with m|⟨-,m⟩
   .exact B.keep g hl λe=>k.2 ⟨y,G.mem_iff_getElem?.2 ⟨i,yE3 n⟩,m.trans e⟩
   exact m g hl⟩ o
 have o:∀(j:I) z,(ls.set i y)[j]? = J z->(j=i/\z=y)\/(j≠i/\ls[j]? = J z):=λj z d=>by
  by_cases e:i=j
  .subst e;rw[yE3 n]at d;exact Z5 ⟨Z,(ZV.inj d).symm⟩
  rw[G.getElem?_set_ne e]at d;exact ZW ⟨λh=>e h.symm,d⟩
 intro a b z u X L f g k c;rcases o a z X with⟨N,T⟩|⟨-,p⟩
 .rcases o b u L with⟨C,-⟩|⟨-,l⟩
  .exact f (N.trans C.symm)
  rw[T]at k;rcases t g k with h|h
  .exact A i b x u r l (N ▸ f) g h c
  have:=(hl _ _ _ (own u (oE l)).1 c).2;omega
 rcases o b u L with⟨C,P⟩|⟨-,l⟩
 .rw[P]at c;rcases t g c with h|h
  .exact A a i z x p r (C ▸ f) g k h
  have:=(hl _ _ _ (own z (oE p)).1 k).2;omega
 exact A a b z u p l f g k c
end
structure Gl where
 v:Zm
 xs:G Zm
def pgk{b:I}(x:Gl)(W W':Zl)(h:W.ownsRow b 22 1 x.v x.xs.length x.xs)(k:∀g,x.v.ownBlock=J g->W'.heap[g]? = W.heap[g]?):W'.ownsRow b 22 1 x.v x.xs.length x.xs:=jS h k
def pgl{b:I}(x:Gl)(W:Zl)(g:I)(h:W.ownsRow b 22 1 x.v x.xs.length x.xs)(k:x.v.ownBlock=J g):b<=g/\g<W.heap.size:=⟨(nG h k).1,(nG h k).2.1⟩
def pgO(b:I):Gl->Pq:=gO Gl.v _ (pgk (b:=b)) (pgl (b:=b))
abbrev gbk(ls:G Gl)(g:I):Prop:=gB Gl.v ls g
abbrev pgN(ls:G Gl)(s:Pq):Pq:=gN Gl.v ls s
def gL(b:I)(ls:G Gl)(S:G Pq):G Pq:=ls.map (pgO b)++S.map (pgN ls)
abbrev ApG(ls:G Gl):Prop:=gA Gl.v ls
def pgE(xs:G Zm)(B:I->Bs):Pq:=⟨λQ W=>∀(j:I) x,xs[j]? = J x->ElQ Q 33 W x (B j),λ_ _ _ k h j x hx=>(h j x hx).keep k,λ_ _ _ m h j x hx=>(h j x hx).mono2 m⟩
def pgW(w:Zl)(r:I):Pq:=⟨λQ W=>w.heap.size<=W.heap.size/\∀g,g<w.heap.size->g≠r->Q g/\W.heap[g]? = w.heap[g]?,λ_ _ _ k h=>⟨Zw h.1 k.size,λg b c=>⟨(h.2 g b c).1,(k.block g (h.2 g b c).1 (Zn b h.1)).trans (h.2 g b c).2⟩⟩,λ_ _ _ m h=>⟨h.1,λg b c=>⟨m g (Zn b h.1) (h.2 g b c).1,(h.2 g b c).2⟩⟩⟩
def pqB(v:Zm)(m:I)(X:Bs):Pq:=⟨λQ W=>ElQ Q m W v X,λ_ _ _ k h=>h.keep k,λ_ _ _ m h=>h.mono2 m⟩
def IH{x:Zm}{b:Bs}(h:ElQ Q 33 W x b):(pgE [x] (λ_=>b)).p Q W:=λj y k=>by
 obtain rfl:x=y:=by
  match j,k with
  | 0,k=>exact ZV.inj k
 exact h
def MQ{x:Zm}{B:I->Bs}{n:I}(c:xs.length=n)(h:(pgE xs B).p Q W)(hx:(pgE [x] (λ_=>B n)).p Q W):(pgE (xs++[x]) B).p Q W:=λj y k=>by
 by_cases b:j<xs.length
 .rw[G.getElem?_append_left b]at k;exact h j y k
 obtain rfl:j=n:=by
  have:=(Zz.1 k).1;rw[Zv,G.length_singleton]at this;omega
 rw[G.getElem?_append_right (by omega),c,ww]at k;exact hx 0 y k
def II{l:G I}{n:I}{B:I->Bs}(k:l.length=n)(h:(pgE (l.map r33) B).p Q W)(hx:(pgE [r33 gx] (λ_=>B n)).p Q W):(pgE ((l++[gx]).map r33) B).p Q W:=by
 rw[ty];exact MQ (n:=n) (by rw[ZI];exact k) h hx
def pgB(n:I):Pq:=⟨λ_ W=>n<=W.heap.size,λ_ _ _ k h=>Zw h k.size,λ_ _ _ _ h=>h⟩
def nd2{l:G I}{n b:I}(h:(l++l').Nodup)(hl:∀g∈l++l',g<n)(h1:n<=gx)(c:gx<b):((l++[gx])++(l'++[b])).Nodup:=by
 have e:∀g∈l,g<n:=λg k=>hl g (xy _ k)
 have d:∀g∈l',g<n:=λg k=>hl g (xz _ k)
 simp only[G.nodup_append,py,ur,yEo,ZJ,not_false_eq_true,yF3,and_true,true_and]at *;grind
section
variable {w W:Zl}{rs:List (Nat × List Zm)}{S S':List Pq}{ls:List Gl}{i:Nat}{x y:Gl}
variable {rs':List (Nat × List Zm)}
def Mp.drop(n:I)(h:Mp w W rs S)(e:rs.take n=rs':=by(simp only[DQ,xu])<;>rfl):Mp w W rs' S:=by
 subst e;have hs:∀g,g∈(rs.take n).map (·.1)->g∈rs.map (·.1):=λg k=>by
  obtain⟨x,hx,rfl⟩:=Z1.1 k;exact Z1.2 ⟨x,yDS hx,Z⟩
 exact⟨h.bl,λx hx=>h.rw x (yDS hx),h.nd.sublist ((G.take_sublist n rs).map _),λs b=>s.mo _ _ _ (λg _ k hh=>k (hs g hh)) (h.ob s b)⟩
def Mg.nil{b:I}(h:Mp w W rs S)(f:∀x∈ls,x=⟨nZ,[]⟩):Mp w W rs (gL b ls S)/\ApG ls:=by
 have ho:∀x∈ls,∀g,x.v.ownBlock≠J g:=λx hx g e=>by rw[f x hx]at e;cases e
 refine⟨⟨h.bl,h.rw,h.nd,λs hs=>?_⟩,λi j x y l m _ g c=>absurd c (ho x (oE l) g)⟩;rcases py.1 hs with hs|hs
 .obtain⟨x,hx,rfl⟩:=Z1.1 hs;exact⟨by rw[f x hx];exact⟨Z,Z5 ⟨Z,Z⟩⟩,λg e=>absurd e (ho _ hx g)⟩
 .obtain⟨d,k,rfl⟩:=Z1.1 hs;exact d.mo _ _ _ (λg _ c=>⟨c,λ⟨x,hx,e⟩=>ho x hx g e⟩) (h.ob d k)
def Mg.app(K:Mp w W rs (gL w.heap.size ls S))(A:ApG ls)(k:ls[i]? = J x)(r2:W'.ownsRow w.heap.size 22 1 y.v y.xs.length y.xs)(B:Ap1 W W' x.v y.v):Mp w W' rs (gL w.heap.size (ls.set i y) S)/\ApG (ls.set i y):=
 Sj pgk pgl K A k r2 B
def Mg.get{b:I}(K:Mp w W rs (gL b ls S))(j:I){s:Pq}(k:S[j]? = J s:=by rfl):s.p (λg=>Nk rs g/\¬gbk ls g) W:=K.ob _ (xz _ (Z1.2 ⟨s,oE k,Z⟩))
def Mg.li{b:I}(K:Mp w W rs (gL b ls S))(j:I)(k:ls[j]? = J x:=by rfl):W.ownsRow b 22 1 x.v x.xs.length x.xs:=(K.ob _ (xy _ (Z1.2 ⟨x,oE k,Z⟩))).1
def Mg.has{b:I}(K:Mp w W rs (gL b ls S))(hs:∀s∈S',s.p (λg=>Nk rs g/\¬gbk ls g) W):Mp w W rs (gL b ls S'):=⟨K.bl,K.rw,K.nd,λs h=>by
 rcases py.1 h with h|h
 .exact K.ob s (xy _ h)
 obtain⟨k,c,rfl⟩:=Z1.1 h;exact hs k c⟩
def Mg.ad{b:I}(K:Mp w W rs (gL b ls S))(s:Pq)(hs:s.p (λg=>Nk rs g/\¬gbk ls g) W)(e:S++[s]=S':=by(simp only[qo,sy])<;>rfl):Mp w W rs (gL b ls S'):=e ▸ Mg.has K λx hx=>by
 rcases py.1 hx with hx|hx
 .exact K.ob _ (xz _ (Z1.2 ⟨x,hx,Z⟩))
 rw[ur.1 hx];exact hs
def Mg.q{b:I}(_:Mp w W rs (gL b ls S)):∃Q,Hid ((λg=>Nk rs g/\¬gbk ls g)=Q):=⟨_,Z⟩
def Mg.lb{b:I}(K:Mp w W rs (gL b ls S))(hx:x∈ls)(g:I)(k:x.v.ownBlock=J g):Nk rs g:=(K.ob _ (xy _ (Z1.2 ⟨x,hx,Z⟩)):(pgO b x).p _ _).2 g k
def Mg.nk{b:I}(K:Mp w W rs (gL b ls S))(g:I)(k:W.heap.size<=g):Nk rs g/\¬gbk ls g:=⟨K.nk g k,λ⟨x,hx,e⟩=>by
 have:=(nG (K.ob _ (xy _ (Z1.2 ⟨x,hx,Z⟩)):(pgO b x).p _ _).1 e).2.1;omega⟩
end
section
variable {P:ai}{ops:Array Z4}{Q:Exit->Act->Zl->Prop}{p r fuel:Nat}{o:Z4}{listed:Array Bool}{a a':Act}{w w':Zl}{u:Zm}{t:Tmp}{T:ZR}{k off:Nat}{J:Iv}
def AW.s1(i:I)(m:u.cells=#[u])(h1:u.oneCell'=H)(n:(P.info? T).map (·.size)=some 1)(g:Hid (w.setCells k off [u]=w'))(h:J.p w->w.there k off 1/\J.p w')(q:AW P ops Q p r J fuel (listed.setIfInBounds i H) a' w')(ho:ops[i]? = some o:=by(simp only[ZU,ZQ,ZT])<;>rfl)(hd:o.dst=F:=by rfl)(f:o.guard=F:=by rfl)(b:o.op=.store T (.tmp t) y:=by rfl)(hx:a.eval (.tmp t)=oZ k off:=by rfl)(j:a.eval y=u:=by rfl)
 (s:a.put F am=a':=by(simp only[ah])<;>rfl) (l:ZX .any ops listed=[i]:=by kernel_rfl):AW P ops Q p r J (fuel+1) listed a w:=λe=>by
 let⟨d,c⟩:=h e
 obtain rfl:=g;subst s;exact anyS.sto ho T (.tmp t) y b k off u m h1 d n (ZW c) (q c) hx j l f hd
end
def IU{k b:Zl}{T:ZR}(c:E (w.heap.size=g))(h1:E (w.alloc (.cells z.toArray T)=k))(d:E (k.setCells g 0 vs=b))(hl:vs.length=z.length):E (k.there g 0 vs.toArray.size/\kZ w b/\FJ b g vs):=by
 have h:=(aN c h1).out;rw[<-d.out];exact⟨by rw[kI,hl];exact h.2.2.2,RG.below_setCells (c.out▸Zo _) _ _ _ h.1,h.2.put hl⟩
structure Kz(Z:I->Prop)(w w':Zl):Prop where
 os:w'.os=w.os
 tape:w'.tape=w.tape
 output:w'.output=w.output
 size:w.heap.size<=w'.heap.size
 block:∀g,g<w.heap.size->Z g->w'.heap[g]? = w.heap[g]?
section
variable {Z:Nat->Prop}{w w' W:Zl}{k o:Nat}{vs:List Zm}
def Kz.of(h:kZ w w'):Kz Z w w':=⟨h.os,h.tape,h.output,h.size,λg k _=>h.block g k⟩
def Kz.trans(h:Kz Z w w')(k:Kz Z w' W):Kz Z w W:=⟨k.os.trans h.os,k.tape.trans h.tape,k.output.trans h.output,Zw h.size k.size,λg b c=>(k.block g (Zn b h.size) c).trans (h.block g b c)⟩
def Kz.bel(h:Kz Z w w')(b:∀g,Z g):kZ w w':=⟨h.os,h.tape,h.output,h.size,λg k=>h.block g k (b g)⟩
def Kz.kq(h:Kz Z w w')(c:∀g,Q g->Z g):Kq Q w w':=⟨h.size,λg k b=>h.block g b (c g k)⟩
def Kz.set(h:Kz Z w W)(b:w.heap.size<=k\/¬Z k):Kz Z w (W.setCells k o vs):=by
 let⟨h1,d,e⟩:=oP k vs o W
 refine⟨h1.trans h.os,d.trans h.tape,e.trans h.output,by rw[setCells_size];exact h.size,λg f c=>?_⟩;rw[aM (k:=k) vs o W g (by rintro rfl;rcases b with b|b;omega;exact b c)];exact h.block g f c
def Kz.range(h:Kz Z w w')(d:Z k)(b:k<w.heap.size)(c:w.rangeAt k o vs):w'.rangeAt k o vs:=(h.kq λ_ h=>h).range d b c
end
structure LsS(Z:I->Prop)(w W:Zl)(K n i:I)(a:I->I):Prop where
 kz:Kz Z w W
 lt:K<W.heap.size
 th:W.there K 0 (4*n)
 rw:∀j,j<i->W.rangeAt K (4*j) (wn (a j))
def Fy{w':Zl}{o n:I}(h:w.there k o n)(e:w'.heap[k]? = w.heap[k]?):w'.there k o n:=λj b=>by
 have:=h j b;rw[ZP (a:=⟨k,o+j,F⟩) e,sI (a:=⟨k,o+j,F⟩) e];exact this
def LsS.grow{Z:I->Prop}{n i:I}{a:I->I}(h:LsS Z w W K n i a)(b:Z K)(k:Kz Z W W'):LsS Z w W' K n i a:=
 ⟨h.kz.trans k,Zn h.lt k.size,Fy h.th (k.block K h.lt b),λj c=>k.range b h.lt (h.rw j c)⟩
def LsS.put{Z:I->Prop}{n i:I}{a:I->I}(h:LsS Z w W K n i a)(b:w.heap.size<=K)(d:i<n):LsS Z w (W.setCells K (4*i) (wn (a i))) K n (i+1) a:=by
 refine⟨h.kz.set (Z5 b),by rw[setCells_size];exact h.lt,ym h.th _ _ _,λj c=>?_⟩;by_cases e:j=i
 .subst e;exact yj W K _ _ λt k=>by
   have k:t<4:=k;have:=h.th (4*j+t) S;rwa[Zs]at this
 exact su (h.rw j S) K _ _ (ZW (by
  show 4*j+4<=4*i\/4*i+4<=4*j;omega))
def BV(n:Nat)(hn:n<=512)(f:ph)(cap:R Zm)(hf:∀args W,(callFunc f args).run prog W=.ok (.enter f args) W)(a:Nat->Nat)(Z:Nat->Prop)(I:Nat->Zl->Prop)(w:Zl)(V:∀g,w.heap.size<=g->Z g)(s:∀W,kZ w W->I 0 W)(x:∀i W K o vs,w.heap.size<=K->I i W->I i (C8 W K o vs))
 (X:∀i W,i<n->Kz Z w W->I i W->ae prog f (#[iZ i]++cap) W (Ret λe W'=>Kz Z W W'/\I (i+1) W'/\e=nv (a i))) :
 ae prog 170 #[iZ n,.func (.func f) #[] cap] w (Ret λe w'=>Kz Z w w'/\I n w'/\SLq (w.heap.size<=·) w' e n a/\∃g c,e=sZ g n c):=by
 obtain⟨C0,p,y⟩:=Ex uS4 iS4 n hn;have k:=y w;obtain⟨K,l⟩:=hE (w.heap.size);obtain⟨z,d⟩:=hE (w.alloc (.cells C0.toArray 93));have u:Ar w z K 4 n 0 (λ_=>[]):=Ar.new _ p d.out l.out;rw[d.out,l.out]at k;have K1:E (LsS Z w z K n 0 a/\I 0 z):=⟨⟨Kz.of u.bl,u.lt,u.th,λj O=>absurd O (uv _)⟩,s z u.bl⟩
 have HC:=mk1 X;have HF:=mk1 hf;have A:E (Z K/\w.heap.size<=K/\∀i W o vs,I i W->I i (C8 W K o vs)):=⟨V K (CK l.out),CK l.out,λi W o vs=>x i W K o vs (CK l.out)⟩
 obtain⟨fv,q⟩:=hE (yEw (.func f) #[] cap);rw[q.out];clear u p y X hf d l s x V;go_enter func170,ntmps170;go_wp2;clear k;go_loopg [11] n (λm s11 W=>∃i:Nat,i+m=n/\s11=iZ i/\E (LsS Z w W K n i a/\I i W))
 case atStart=>exact⟨0,S,rfl,K1⟩
 case round =>
  obtain⟨i,h0,rfl,b⟩:=hrel;by_cases N:i<n
  .have M:(i:Y)<(n:Y):=S;have C:=mM (k:=K) (o:=0) (n:=n) (c:=n) (i:=i) N;rw[Zs]at C;go_wp2_with (first|(refine vE rfl 16 17 rfl (f:=f) (cap:=cap) (x:=(iZ i)) ?_ ?_ HF.out (HC i wr (mk1 N).out b.1.kz b.2) ?_;exact q.symm;rfl;intro e W' hR;refine z9 ?_)|fail)
   obtain⟨P,Q,rfl⟩:=hR;have L:=b.1.grow A.1 P;obtain⟨T,r⟩:=hE (W'.setCells K (4*i) (wn (a i)));have K4:E (LsS Z w T K n (i+1) a/\I (i+1) T):=by rw[<-r.out];exact⟨L.put A.2.1 N,A.2.2 _ _ _ _ Q⟩
   have HT:E (W'.there K (4*i) 4):=λt ht=>by
    have:=L.th (4*i+t) S;rwa[Zs]at this
   obtain⟨vq,v⟩:=hE (nv (a i));rw[v.out];clear P Q L b;show wpList _ _ _ _ _ _;go_wp2_with (first|(refine ZZ rfl 93 _ _ rfl K (4*i) (wn (a i)).toArray ?_ ?_ ?_ ?_ ?_ ?_;rfl;exact v.symm;exact HT.out;exact In;exact aK;rw[show(wn (a i)).toArray.toList=wn (a i) from rfl,r.out])|fail)
   go_roundg (gk-1)
   case measure=>omega
   case rel=>exact⟨i+1,S,rfl,K4⟩
  .have M:¬(i:Y)<(n:Y):=S;obtain rfl:i=n:=S;have r:E (Kz Z w wr/\I i wr/\SLq (w.heap.size<=·) wr (sZ K i i) i a):=⟨b.1.kz,b.2,K,0,i,rfl,Zo _,A.2.1,b.1.lt,λj O=>by rw[Zs];exact b.1.rw j O⟩
   go_wp2;go_ret;exact⟨_,rfl,r.1,r.2.1,r.2.2,_,_,rfl⟩
def Kn{n:Nat}{a:Nat->Nat}{Z:Nat->Prop}{I:Nat->Zl->Prop}(l:n<=512)(hf:∀args W,(callFunc f args).run prog W=.ok (.enter f args) W)(j:∀g,w.heap.size<=g->Z g)(k:∀W,kZ w W->I 0 W)(b:∀i W K o vs,w.heap.size<=K->I i W->I i (C8 W K o vs))(m:∀i W,i<n->Kz Z w W->I i W->cZ f (#[iZ i]++cap) W (Ret λe W'=>Kz Z W W'/\I (i+1) W'/\e=nv (a i))):
 cZ 170 #[iZ n,.func (.func f) #[] cap] w (Ret λe w'=>Kz Z w w'/\I n w'/\SLq (w.heap.size<=·) w' e n a):=
 (BV n l f cap hf a Z I w j k b m).mono λ_ _ ⟨v,h,h1,c,d,_⟩=>⟨v,h,h1,c,d⟩
def kN(n:Nat)(d:n<=512)(f:ph)(hf:∀args W,(callFunc f args).run prog W=.ok (.enter f args) W)(a:Nat->Nat)(w:Zl)(g:∀i W,i<n->kZ w W->ae prog f (#[iZ i]++cap) W (rZ W λe W'=>e=nv (a i))):
 ae prog 170 #[iZ n,.func (.func f) #[] cap] w (rZ w λe w'=>SLq (w.heap.size<=·) w' e n a):=by
 refine(Kn (n:=n) d (f:=f) (cap:=cap) hf (a:=a) (Z:=(λ_=>True)) (I:=(λ_ _=>True)) (w:=w) (λ_ _=>trivial) (λ_ _=>trivial) (λ_ _ _ _ _ _ _=>trivial) λi W c b _=>?_).mono ?_
 .refine(g i W c (b.bel λ_=>trivial)).mono ?_;rintro e w' ⟨v,rfl,h1,k⟩;exact⟨v,rfl,Kz.of h1,trivial,k⟩
 rintro e w' ⟨v,rfl,h1,-,k⟩;exact⟨v,rfl,h1.bel λ_=>trivial,k⟩
end
abbrev w1c(x:I):G Zm:=[U x,U 0,U 0,U 0]
def S5{x:I}(hx:x<18446744073709551616):wn x=w1c x:=by
 rw[wn,ZC hx,qv hx,qv (by omega:x<340282366920938463463374607431768211456),qv (by omega:x<6277101735386680763835789423207666416102355444464034512896)];rfl
def BU(x:I)(hx:x<18446744073709551616):FL 105 #[U x] (nv x):=by
 rw[nv,S5 hx];intro w;go_enter func105,ntmps105;refine RG.M.enter [(0,.v (U x))] 6 kR λa0 b=>?_
 refine Zq <| b.T [.m 0] [(0,RG.z 4)] [] [0,2] ⟨mk 0 93,Fs⟩ λk f e d=>?_
 refine Zq <| d.T [.x (U x),.x (.agg (w1c x).toArray),.x (.agg (w1c x).toArray),.u 0] [] [(0,3,w1c x)] [2] ⟨st,st,st,RG.pt In,Fs⟩ λa2 g c=>?_
 exact ag (c.rr 0 Z u40 In)
def QF{v i:I}(hv:v<18446744073709551616):v/2^i<18446744073709551616:=I.lt_of_le_of_lt (I.div_le_self _ _) hv
def vN{b:Zl}{x:I}(c:E (w.heap.size=k))(h1:E (w.alloc (.cells (RG.z 4).toArray 93)=b))(e:kZ b W)(f:E (W.setCells k 0 (wn x)=W')):E (W.there k 0 4/\kZ w W'/\FJ W' k (wn x)):=by
 have h:=(aN c h1).out;have d:=h.2.below e;rw[<-f.out];exact⟨d.2.2,RG.below_setCells (CK c.out) _ _ _ (h.1.trans (e.mono h.1.size)),d.put Z⟩
def Nw(v i k:I)(hv:v<18446744073709551616)(a:i<64)(w:Zl)(m:k<w.heap.size)(o:w.cell? ⟨k,0,F⟩=J (U v)):eZ 168 #[iZ i,jZ k] w (nv (v/2^i%2)):=by
 obtain⟨q,f⟩:=hE (w.heap.size);obtain⟨l,b⟩:=hE (lZ w (RG.z 4) 93);have t:l.cell? ⟨k,0,F⟩=J (U v):=by rw[(aN f b).1.cell (p:=⟨k,0,F⟩) m];exact o
 have j:bits .and .u64 ((v:Y)/2^i) 1=((v/2^i%2:I):Y):=by
  rw[<-and_one (QF hv),Y.natCast_ediv,Y.natCast_pow];rfl
 have n:=mk1 (BU (v/2^i%2) S);generalize v/2^i%2=x at j n⊢;have s:=mk1 j;clear o m j;go_enter func168,ntmps168;go_wp2_with (first|(refine alR 3 f b ?_)|fail)
 rw[s.out];refine(n l).mono ?_;rintro e r ⟨z,rfl,g,rfl⟩;obtain⟨u,c⟩:=hE (r.setCells q 0 (wn x));have R:=vN f b g c;obtain⟨y,d⟩:=hE (nv x);rw[d.out];go_wp2_with (first|(refine stR 3 c d R.1 In aK ?_)|fail)
 refine Zx (aG 3 Z R.2.2 Z u40 In) Z ?_;exact⟨_,Z,R.2.1,Z⟩
def Uq(O:Ord N)(v i k g:I)(hv:v<18446744073709551616)(M:i<64)(w:Zl)(z:k<w.heap.size)(m:g<w.heap.size)(P:w.cell? ⟨k,0,F⟩=J (U v))(r:w.cell? ⟨g,0,F⟩=J (.func (.func 168) #[] #[jZ k])):eZ 169 #[iZ i,jZ g] w (nv (sMi N (v/2^i%2) 1)):=by
 obtain⟨q,n⟩:=hE (w.heap.size);obtain⟨u,b⟩:=hE (lZ w (RG.z 4) 93);have o:=aN n b;have t:u.cell? ⟨g,0,F⟩=J (.func (.func 168) #[] #[jZ k]):=by rw[o.1.cell (p:=⟨g,0,F⟩) m];exact r
 have a:=mk1 (Nw v i k hv M u (Zn z o.1.size) (by rw[o.1.cell (p:=⟨k,0,F⟩) z];exact P));have y:=mk1 (FS O (v/2^i%2) 1 (by have:=O.n2;omega) (by have:=O.n2;omega));generalize v/2^i%2=x at a y⊢;obtain⟨vf,c⟩:=hE (yEw (.func 168) #[] #[jZ k]);rw[c.out]at t;go_enter func169,ntmps169;go_wp2_with (first|(refine alR 3 n b ?_)|(refine vE Z 4 5 Z (f:=168) (cap:=#[jZ k]) (x:=(iZ i)) ?_ ?_ (λ_ _=>kR) a.out ?_;exact c.symm;rfl;intro e W' hR;refine z9 ?_)|fail)
 obtain⟨f,rfl⟩:=hR;show wpList _ _ _ _ _ _;go_wp2_with fail
 refine((mk1 (BU 1 dC)) W').mono ?_;rintro e K ⟨L,rfl,l,rfl⟩;go_wp2_with fail
 refine(y K).mono ?_;rintro e C ⟨L,rfl,s,rfl⟩;obtain⟨T,j⟩:=hE (C.setCells q 0 (wn (sMi N x 1)));have R:=vN n b (f.trans ((l.trans (s.mono l.size)).mono f.size)) j;obtain⟨Q,d⟩:=hE (nv (sMi N x 1));rw[d.out];go_wp2_with (first|(refine stR 3 j d R.1 In aK ?_)|fail)
 refine Zx (aG 3 (T:=93) Z R.2.2 Z u40 In) Z ?_;exact⟨_,Z,R.2.1,Z⟩
namespace RG
inductive Hq where
 | v (x:Zm)
 | n (c:G Zm)
 | p (s:S1)
def Hq.s(b:I):Hq->S1
 | .v x=>pE x
 | .n c=>pN b c
 | .p s=>s
def isV(hs:G Hq)(k:I):Hc:=match hs[k]? with|some (.v _)=>H|_=>D
def vq(hs:G Hq)(U:I->Zm)(k:I):Zm:=match hs[k]? with|some (.v x)=>x|_=>U k
def elo(b:R Z4)(a0:Act)(hs:G Hq)(U:I->Zm)(k:I)(o:Z4)(t:Tmp):GJ Zm:=
 match (G.range k).find? (λj=>bV o j && aP b j == J t) with
 | some j=>J (vq hs U j)
 | none=>bif nU b k t then J (a0.eval (.tmp t)) else F
def el(b:R Z4)(a0:Act)(hs:G Hq)(U:I->Zm)(k:I)(o:Z4):G (Tmp × Zm):=o.op.operands.toList.filterMap λx=>match x with | .tmp t=>(elo b a0 hs U k o t).map λv=>(t,v)|_=>F
def dU(k:R Z4)(a:Act)(j:I):Zm:=match aP k j with|some t=>a.eval (.tmp t)|none=>am
def uE(b:I):∀(hs:G Hq) (j:I) (q:Hq),hs[j]? = J q->nth (hs.map (Hq.s b)) j=q.s b
 | [],_,_,h=>by simp at h
 | x :: r,0,q,h=>by
  obtain rfl:x=q:=by simpa using h
  rfl
 | x :: r,j+1,q,h=>uE b r j q (by simpa using h)
abbrev gQ(hs:G Hq)(b:I)(B:Zl->Prop)(k:∀w w',kZ w w'->B w->B w'):Gw:=gwL (hs.map (Hq.s b)) B k
variable {P:ai}{ops:Array Z4}{Q:Exit->Act->Zl->Prop}{w W:Zl}{a0 a:Act}{k b:Nat}{o:Z4}{hs:List Hq}{B:Zl->Prop}{hB:∀w w',Below w.heap.size w w'->B w->B w'}
def Rq{U:I->Zm}{x:Zm}(h:(nth (hs.map (Hq.s b)) j).p x W)(hx:U j=x):vq hs U j=x:=by
 unfold vq;split
 .rename_i y e
  rw[uE b hs j _ e]at h;exact(show x=y from h).symm
 exact hx
def OK{a:Act}:∀(k:G (Tmp × Zm)),(∀x∈k,a.eval (.tmp x.1)=x.2)->AllE a k
 | [],_=>trivial
 | x :: r,h=>⟨h x pw,OK r λy b=>h y (ps _ b)⟩
def GX(c:PreG (gQ hs b B hB) ops a0 k o a W):AllE a (el ops a0 hs (dU ops a) k o):=OK _ λx hx=>by
 let⟨y,d,e⟩:=G.mem_filterMap.1 hx
 cases y with
 | tmp t =>
  dsimp only at e;obtain⟨v,hv,rfl⟩:=Zp.1 e;unfold elo at hv;split at hv
  .rename_i j hj
   have h1:=G.find?_some hj;simp only[ZD,beq_iff_eq]at h1;obtain rfl:=ZV.inj hv;exact(Rq (c.n j t h1.1 h1.2) (by unfold dU;rw[h1.2])).symm
  cases hf:nU ops k t with
  | false=>rw[hf]at hv;cases hv
  | true =>
   rw[hf]at hv;obtain rfl:=ZV.inj hv;exact c.o t hf
 | const v=>cases e
 | global g=>cases e
 | func f=>cases e
def RD{U:I->Zm}(h:isV hs k=H):(nth (hs.map (Hq.s b)) k).p (vq hs U k) W:=by
 unfold isV at h;split at h
 .rename_i x e
  rw[uE b hs k _ e];rw[vq,e];rfl
 cases h
def gv(h:∀U W,((isV hs k,bZ ((el ops a0 hs U k o).map (·.1)) o),(Z0 (evo (evl (el ops a0 hs U k o))) o).run P W)=((H,H),.ok (.value (vq hs U k)) W):=by intro _ _;kernel_rfl):bG P Q (gQ hs b B hB).flow ops a0 k o:=bK λa W c=>by
 have e:=h (dU ops a) W;simp only[an.injEq]at e;exact⟨_,_,W,GX c,by rw[e.1.2,e.2],ZF _ _,RD e.1.1⟩
def gl{T:ZR}{off:I}{cs:G Zm}(m:∀W,B W->W.rangeAt g off cs)(ho:o.op=.load T (.tmp t):=by rfl)(f:(P.underlying T).map (·.isRow)=J H:=by kernel_rfl)(i:(P.info? T).map (·.size)=J cs.length:=by kernel_rfl)(h:∀U,((isV hs k,((el ops a0 hs U k o).map (·.1)).contains t),evl (el ops a0 hs U k o) t,vq hs U k)=((H,H),oZ g off,.agg cs.toArray):=by intro _;kernel_rfl):bG P Q (gQ hs b B hB).flow ops a0 k o:=jO t ho f λa W c=>by
 have e:=h (dU ops a);simp only[an.injEq]at e;let⟨⟨j,d⟩,e3,l⟩:=e
 exact⟨g,off,cs,by rw[(GX c).ev t (by simpa using d),e3],m W c.b,i,by rw[<-l];exact RD j⟩
def gm{d c:Zl}{S:G Pq}{l:∀w w',kZ w w'->kZ c w->kZ c w'}{T:ZR}{cs:G Zm}(K:E (Mp d c rs S))(j:I)(i:rs[j]? = J (g,cs):=by rfl)(ho:o.op=.load T (.tmp t):=by rfl)(e:(P.underlying T).map (·.isRow)=J H:=by kernel_rfl)(f:(P.info? T).map (·.size)=J cs.length:=by kernel_rfl)(h:∀U,((isV hs k,((el ops a0 hs U k o).map (·.1)).contains t),evl (el ops a0 hs U k o) t,vq hs U k)=((H,H),jZ g,.agg cs.toArray):=by intro _;kernel_rfl):bG P Q (gQ hs b (λW=>kZ c W) l).flow ops a0 k o:=
 gl (λW h=>((K.grow h).at_ j i).2.1) ho e f h
def gC{args:(I->Zm)->R Zm}(i:∀U W,(∀j,bV o j=H->(aP ops j).isSome=H->(nth (hs.map (Hq.s b)) j).p (U j) W)->B W->ae P f (args U) W (rZ W λe W'=>(nth (hs.map (Hq.s b)) k).p e W'))(h:∀U W,(bZ ((el ops a0 hs U k o).map (·.1)) o,(Z0 (evo (evl (el ops a0 hs U k o))) o).run P W)=(H,.ok (.enter f (args U)) W):=by intro _ _;kernel_rfl):bG P Q (gQ hs b B hB).flow ops a0 k o:=fM λa W c=>by
 have e:=h (dU ops a) W;simp only[an.injEq]at e;refine⟨_,f,_,GX c,by rw[e.1,e.2],i _ W (λj h1 g=>?_) c.b⟩;let⟨t,d⟩:=Z8.1 g
 have:=c.n j t h1 d;rw[dU,d];exact this
def gn(T:ZR){c:G Zm}(f:∀W,B W->b<=W.heap.size)(e:hs[k]? = J (.n c):=by rfl)(h:∀W,(bZ [] o,(Z0 (evo (evl [])) o).run P W)=(H,.ok (.value (jZ W.heap.size)) (W.alloc (.cells c.toArray T))):=by intro _;kernel_rfl):bG P Q (gQ hs b B hB).flow ops a0 k o:=
 Au c T (λW W' hR d=>by
  show(nth (hs.map (Hq.s b)) k).p _ W';rw[uE b hs k _ e];exact⟨_,Z,f W d,hR⟩) h
def JX(hs:G Hq)(U:I->Zm):G Z4->I->Act->Act
 | [],_,a=>a
 | o :: r,i,a=>JX hs U r (i+1) (a.put o.dst (vq hs U i))
def IC(V U:I->Zm):∀(l:G Z4) (i:I) (a:Act),(∀j,i<=j->j<i+l.length->V j=vq hs U j)->cD V l i a=JX hs U l i a
 | [],_,_,_=>rfl
 | o :: r,i,a,h=>by
  show cD V r (i+1) _=JX hs U r (i+1) _;rw[h i (Zo _) (by rw[Z9];omega)];exact IC V U r (i+1) _ λj h1 k=>h j (by omega) (by rw[Z9];omega)
def Mq.st{id:I}{S:List Pq}{o:Z4}{c:List Zm}{G:I->(I->Zm)->Act}{F:I->List (I × List Zm)}(hs:List Hq)(n al:I)(K:Hid (Mp w W rs S))
 (h:kC P Q (gQ hs W.heap.size (λW'=>kZ W W') (λ_ _ g h=>h.trans (g.mono h.size))).flow ops a0 0 (ops.toList.take n))
 (x:∀U k d,(∀i,i<n->(nth (hs.map (Hq.s W.heap.size)) i).p (vq hs (λi=>if i=al then jZ k else U i) i) d)->kZ W d->Hid (Mp w d (F k) S)->wpList P ops Q [o] (G k U) d)
 (f:hs[al]? = J (.n c):=by rfl) (hd:ops.toList.drop n=[o]:=by rfl) (v:∀k,rs++[(k,c)]=F k:=by intro _;(simp only[qo,sy])<;>rfl) (hG:∀k U,JX hs (λi=>if i=al then jZ k else U i) (ops.toList.take n) 0 a0=G k U:=by(intro _ _;rfl))
 (m:(decide (n<ops.size) && mB ops n && decide (al<n))=H:=by kernel_rfl) (y:P.follows .mixedOrders=H:=by kernel_rfl) (z:Df ops a0.tmps.size=H:=by kernel_rfl):(Code.region id ops H).wp P Q a0 W:=by
 rw[ZD,decide_eq_true_eq]at m;refine Gw.tail2 _ n m.1 y z h (ZF _ _).drew λV d hR s=>?_
 rw[hd];let⟨k,u,l,g⟩:(pN W.heap.size c).p (V al) d:=by
  have e:(nth (hs.map (Hq.s W.heap.size)) al).p (V al) d:=hR al m.2;rw[uE _ hs al _ f]at e;exact e
 have t:(λi=>if i=al then jZ k else V i)=V:=funext λi=>by
  split
  .rename_i e;rw[e,u]
  rfl
 have f:∀j,j<n->V j=vq hs V j:=λj p=>(Rq (b:=W.heap.size) (hR j p) Z).symm
 rw[IC (hs:=hs) V V (ops.toList.take n) 0 a0 λj _ p=>f j (by rw[List.length_take]at p;omega)];have q:=hG k V;rw[t]at q;rw[q];exact x V k d (λi r=>by rw[t,<-f i r];exact hR i r) s (K.add s g l (v k))
end RG
section
open SPA
variable {P:Nat}[NeZero P]{N:Nat}[NeZero N]
def Ta:yZ 25:=yQ
def Uv:gZ 25 4:=gQ
def DjF(B:I)(W:Zl)(t:I)(c d k b:Zm):Prop:=∃gA gB l m,k=r32 gA/\b=r32 gB/\(gA :: gB :: (l++m)).Nodup/\W.ownsRow 0 22 1 c t (l.map r33)/\W.ownsRow 0 22 1 d t (m.map r33)/\∀g,g∈gA :: gB :: (l++m)->B<=g/\g<W.heap.size
structure OnB(r:I)(w W:Zl):Prop where
 os:W.os=w.os
 tape:W.tape=w.tape
 output:W.output=w.output
 size:w.heap.size<=W.heap.size
 block:∀g,g<w.heap.size->g≠r->W.heap[g]? = w.heap[g]?
def OnB.new{B:I}(h:OnB r w W)(b:B<=w.heap.size)(k:B<=r):Below B w W:=⟨h.os,h.tape,h.output,h.size,λg c=>h.block g S S⟩
def Mp.sayB{k:G (I × G Zm)}{S:G Pq}{L c:Bs}(h:Mp w W rs S)(i:I)(b:OnB r W W')(l:hZ W' r 0 c)(f:rs[i]? = J (r,aA L):=by rfl)(e:rs.set i (r,aA c)=k:=by(simp only[Zt,Zu])<;>rfl):Mp w W' k S:=by
 subst e;have d:=h.lt (key f);exact h.turn f (h.bl.trans (b.new h.bl.size d.1)) b.size (λg j hl=>b.block g hl j) (mW l (Zn d.2 b.size))
structure PhR(w:Zl)(r t:I)(Lb Rb:I->Bs)(L:Bs)(A B:Bs)(e:Zm)(w':Zl):Prop where
 on:OnB r w w'
 ex:∃vL vR vA vB,e=.agg #[vL,vR,vA,vB]/\TlL (λ_=>True) w.heap.size t w' vL Lb/\TlL (λ_=>True) w.heap.size t w' vR Rb/\ElQ (w.heap.size<=·) 32 w' vA A/\ElQ (w.heap.size<=·) 32 w' vB B
 lg:hZ w' r 0 L
 dj:∀vL vR vA vB,e=.agg #[vL,vR,vA,vB]->DjF w.heap.size w' t vL vR vA vB
def uLL:wZ 23:=wQ
def iLL:gZ 23 1:=gQ
def Od{A B:OnP P}{X Y:Bs}(O:Ord N)(j:IsP N)(r:I)(L:Bs)(f:X=wP A)(i:Y=wP B):∃(s:Bs) (c:Fin N),E (chF N L A B=(s,c)/\s.size=32)/\E (∀W:Zl,hZ W r 0 L->L.size=32->cZ 120 #[lgV r,.string ⟨#[108,101,102,116]⟩,pvl X,.string ⟨#[114,105,103,104,116]⟩,pvl Y] W (Ret λe w'=>SP.Only r 0 32 W w'/\hZ w' r 0 s/\e=nv c.val)):=by
 subst f i;have e:chF N L A B=(aS (kS [108,101,102,116] [114,105,103,104,116] L (wP A) (wP B)),lB N (kS [108,101,102,116] [114,105,103,104,116] L (wP A) (wP B))):=by unfold chF;dsimp only
 refine⟨_,_,⟨e,bC⟩,λW h1 d=>?_⟩;have k:=wM O r L (wP A) (wP B) ⟨#[108,101,102,116]⟩ ⟨#[114,105,103,104,116]⟩ dC dC (aR A.1) (aR B.1) W h1 d;have g:kS (⟨#[108,101,102,116]⟩:Fd).data.toList (⟨#[114,105,103,104,116]⟩:Fd).data.toList L (wP A) (wP B)=kS [108,101,102,116] [114,105,103,104,116] L (wP A) (wP B):=rfl;rw[g]at k;have b:∀M,cha N M<N:=λM=>qP O
 generalize kS [108,101,102,116] [114,105,103,104,116] L (wP A) (wP B)=M at k;rw[Dh j.1 (b M)]at k;exact k
def own_base{b n:I}{e:ZR}{v:Zm}(h:W.ownsRow base e k v n xs)(f:b<=base):W.ownsRow b e k v n xs:=by
 rcases h with⟨c,h1|⟨g,cap,cur,rfl,d,i⟩⟩
 .exact⟨c,Z5 h1⟩
 exact⟨c,ZW ⟨g,cap,cur,Z,Zw f d,i⟩⟩
omit [NeZero N] in
theorem jC(O:Ord N){a:I}(c:a<N)(w:Zl):dZ 130 #[nv a] w λe w'=>ElQ (w.heap.size<=·) 32 w' e (bx a)/\∃g,e=r32 g:=by
 apply(tI O c w).mono;rintro e w' ⟨v,rfl,k,b,rfl⟩;exact⟨_,Z,b.bel,⟨k,32,Z,Zo _,dJ a,b.le,b.lt,cb_holds b.range b.there⟩,k,Z⟩
def iB1:gZ 22 1:=gQ
def XA{n:I}:(pg 23 1 #[(0,sZ k n c)]).run prog w=.ok (sZ w.heap.size 1 1) (w.alloc (.cells #[sZ k n c] 22)):=kR
def TlL.one{i:I}{v:Zm}{B:I->Bs}(h:TlL Q base i W v B):v.cells=#[v]/\v.oneCell'=H:=by
 obtain⟨xs,⟨-,⟨rfl,-⟩|⟨g,cap,cur,rfl,-⟩⟩,-⟩:=h.ex<;>exact⟨Z,Z⟩
def anyS.fin{P:ai}{c:Array Z4}{Q:Exit->Act->Zl->Prop}{S:Array Hc->Zl->Prop}{k:Array Hc}{a:Act}(d:ZX .any c k=[])(h:∀W,W=w->Q .normal a W)(b:I):anyS P c Q S b k a w:=anyS.done d (h w Z) b
def nfB{b:Hc}(h:b=H):¬b=D:=λe=>by rw[h]at e;cases e
def TP:((m+m:I):Y).tdiv 2=(m:Y):=by rw[yB8 S];omega
structure Rnd(r m:I)(G H G' H':I->LB)(U l1 l2:LB)(a b a' b':I->I)(s s' X Y:Bs)(x xi:I):Prop where
 m0:0<m
 m5:m<=500
 sX:X.size=33
 sY:Y.size=33
 ss:s'.size=32
 hl:∀(W:Zl) (v va vb:Zm),GRq (λ_=>True) W v m (λj=>G (m+j)) H U->SLq (λ_=>True) W va m a->SLq (λ_=>True) W vb m (λj=>b (m+j))->dZ 134 #[v,va,vb] W λe w'=>Sm W.heap.size w' e l1
 pl:∀(W:Zl) (v:Zm),Sm 0 W v l1->eZ 103 #[v] W (pvl X)
 hr:∀(W:Zl) (v va vb:Zm),GRq (λ_=>True) W v m G (λj=>H (m+j)) U->SLq (λ_=>True) W va m (λj=>a (m+j))->SLq (λ_=>True) W vb m b->dZ 134 #[v,va,vb] W λe w'=>Sm W.heap.size w' e l2
 pr:∀(W:Zl) (v:Zm),Sm 0 W v l2->eZ 103 #[v] W (pvl Y)
 ch:∀W:Zl,hZ W r 0 s->s.size=32->cZ 120 #[lgV r,.string ⟨#[108,101,102,116]⟩,pvl X,.string ⟨#[114,105,103,104,116]⟩,pvl Y] W (Ret λe w'=>SP.Only r 0 32 W w'/\hZ w' r 0 s'/\e=nv x)
 iv:∀W:Zl,eZ 125 #[nv x] W (nv xi)
 fa:∀(W:Zl) (v:Zm),SLq (λ_=>True) W v (m+m) a->dZ 184 #[v,nv x,nv xi] W λe w'=>SLq (W.heap.size<=·) w' e m a'
 fb:∀(W:Zl) (v:Zm),SLq (λ_=>True) W v (m+m) b->dZ 184 #[v,nv xi,nv x] W λe w'=>SLq (W.heap.size<=·) w' e m b'
 fg:∀(Q:I->Prop) (W:Zl) (v:Zm),(∀g,W.heap.size<=g->Q g)->GRq Q W v (m+m) G H U->dZ 133 #[v,nv x] W λe w'=>GRq Q w' e m G' H' U
def KT(w:Zl)(r:I):Zl:={ w with heap:=w.heap.extract 0 r }
omit [NeZero P] [NeZero N] in
theorem wL(h:r<=w.heap.size):(KT w r).heap.size=r:=by
 show(w.heap.extract 0 r).size=r;rw[R.size_extract];omega
omit [NeZero P] [NeZero N] in
theorem N9(h:r<=w.heap.size):Below (KT w r).heap.size (KT w r) w:=⟨Z,Z,Z,by rw[wL h];exact h,λg k=>by
 rw[wL h]at k;show w.heap[g]? = (w.heap.extract 0 r)[g]?;rw[R.getElem?_extract];simp;omega⟩
omit [NeZero P] [NeZero N] in
theorem Nq{c:Zl}{S:G Pq}{ls:G Gl}{i:I}{v:Zm}{l:G I}(K:Mp c W rs (gL c.heap.size ls S))(A:ApG ls)(d:ls[i]? = J ⟨v,l.map r33⟩)(n:l.length<=900)(j:W.cell? ⟨ga,0,F⟩=J (r33 gx)):∃k W',(oT #[23,23] 23 #[v,sZ ga 1 1]).run prog W=.ok k W'/\Mp c W' rs (gL c.heap.size (ls.set i ⟨k,(l++[gx]).map r33⟩) S)/\ApG (ls.set i ⟨k,(l++[gx]).map r33⟩)/\W.heap.size<=W'.heap.size/\k.cells=#[k]/\k.oneCell'=H:=by
 let⟨k,W',e,r2,B⟩:=Rl (x:=r33 gx) (Mg.li K i d) Z j (by rw[ZI];omega) K.bl.size
 have b:W'.ownsRow c.heap.size 22 1 k ((l++[gx]).map r33).length ((l++[gx]).map r33):=by
  rw[ty,Zv,ZI]at *;exact r2
 let⟨m,f⟩:=Mg.app (y:=⟨k,(l++[gx]).map r33⟩) K A d b B
 refine⟨k,W',e,m,f,B.size,?_⟩;rcases r2 with⟨-,⟨rfl,-⟩|⟨g,cc,cur,rfl,-⟩⟩<;>exact⟨Z,Z⟩
def S7(k g f:I)(e b:Zm)(c d:G Zm)(l:R Hc)(W:Zl):Prop:=(l.getD 13 D=D->W.cell? ⟨k,0,F⟩=J e)/\(l.getD 15 D=D->W.cell? ⟨k,1,F⟩=J b)/\W.rangeAt g 0 c/\W.rangeAt f 0 d
omit [NeZero P] [NeZero N] in
theorem S7.i{k j g:I}{f b:Zm}{c d:G Zm}{i:I}(h1:i≠13)(m:i≠15)(l:Array Hc)(W:Zl)(h:S7 k j g f b c d (l.setIfInBounds i H) W):S7 k j g f b c d l W:=⟨λe=>h.1 (by rw[getD_set_ne false h1];exact e),λe=>h.2.1 (by rw[getD_set_ne false m];exact e),h.2.2⟩
omit [NeZero P] [NeZero N] in
theorem MU{b B n:I}{T:ZR}{v:Zm}(h:W.ownsRow b T 1 v n xs)(c:∀g,v.ownBlock=J g->B<=g):W.ownsRow B T 1 v n xs:=by
 rcases h with⟨k,h1|⟨g,cap,cur,rfl,e,d⟩⟩
 .exact⟨k,Z5 h1⟩
 exact⟨k,ZW ⟨g,cap,cur,Z,c g Z,d⟩⟩
omit [NeZero P] [NeZero N] in
theorem MW{b n:I}{T:ZR}{v:Zm}(h:W.ownsRow b T 1 v n xs):v.oneCell'=H:=by
 rcases h with⟨-,⟨rfl,-⟩|⟨g,cap,cur,rfl,-⟩⟩<;>rfl
omit [NeZero P] [NeZero N] in
theorem Sr{n B:I}{A:Bs}(h:ElQ Q m W (sZ g n n) A)(f:B<=g):ElQ (B<=·) m W (sZ g n n) A:=by
 obtain⟨k,c,b,i,e3,-,d,e⟩:=h;obtain rfl:=ZV.inj (congrArg AR b);exact⟨g,c,b,i,e3,f,d,e⟩
omit [NeZero P] [NeZero N] in
theorem TZ{t n gA gB:I}{l:G I}{f i:Zm}{L A B:Bs}{z Rb:I->Bs}{s1 s2 s3:Pq}(K:Mp (KT w r) W ((r,aA L) :: rs) (gL (KT w r).heap.size [⟨f,l.map r33⟩,⟨i,l'.map r33⟩] [pgW w r,s1,s2,s3,pgE (l.map r33) z,pgE (l'.map r33) Rb,pqB (r32 gA) 32 A,pqB (r32 gB) 32 B]))(h1:l.length=t)(u:l'.length=t)(M:(l++l').Nodup)(p:∀g∈l++l',w.heap.size<=g/\g<n)(T:n<=gA)(h6:gA<gB)(O:gB<W.heap.size)(V:w.heap.size<=n):PhR w r t z Rb L A B (.agg #[f,i,r32 gA,r32 gB]) W:=by
 have q:w.heap.size<=W.heap.size/\∀g,g<w.heap.size->g≠r->(Nk ((r,aA L) :: rs) g/\¬gbk [⟨f,l.map r33⟩,⟨i,l'.map r33⟩] g)/\W.heap[g]? = w.heap[g]?:=Mg.get K 0;have up:∀x∈([⟨f,l.map r33⟩,⟨i,l'.map r33⟩]:G Gl),∀g,x.v.ownBlock=J g->w.heap.size<=g:=λx hx g k=>Decidable.byContradiction λC=>by
  have c:g≠r:=λe=>Mg.lb K hx g k (by rw[e];simp)
  exact(q.2 g (by omega) c).1.2 ⟨x,hx,k⟩
 have s:=MU (Mg.li K 0) (up _ pw);have o:=MU (Mg.li K 1) (up _ (ps _ pw));rw[ZI,h1]at s;rw[ZI,u]at o;have y:∀ {m:G I}{v:Zm}{X:I->Bs}{Q:I->Prop},m.length=t->W.ownsRow w.heap.size 22 1 v t (m.map r33)->(pgE (m.map r33) X).p Q W->TlL (λ_=>True) w.heap.size t W v X:=λ{m v X Q} hm ho c=>⟨m.map r33,ho,λj hj=>by
  have e:(m.map r33)[j]? = J (r33 m[j]):=by rw[G.getElem?_map,ZH (by omega)];rfl
  exact⟨_,e,(c j _ e).mono2 λ_ _ _=>trivial⟩⟩
 refine⟨⟨K.bl.os,K.bl.tape,K.bl.output,q.1,λg k C=>(q.2 g k C).2⟩,⟨f,i,r32 gA,r32 gB,Z,y h1 s (Mg.get K 4),y u o (Mg.get K 5),Sr (Mg.get K 6) (by omega),Sr (Mg.get K 7) (by omega)⟩,K.log 0,λa b d e c=>?_⟩;injection c with c
 simp only[R.mk.injEq,G.cons.injEq,and_true]at c;obtain⟨rfl,rfl,rfl,rfl⟩:=c;refine⟨gA,gB,l,l',Z,Z,?_,own_base s (pj _),own_base o (pj _),λg k=>?_⟩
 .rw[yEo,yEo];refine⟨λe=>?_,λe=>?_,M⟩
  .rcases fT.1 e with e|e
   .omega
   have:=(p _ e).2;omega
  have:=(p _ e).2;omega
 rcases fT.1 k with rfl|k
 .omega
 rcases fT.1 k with rfl|k
 .omega
 have:=p _ k;omega
omit [NeZero P] [NeZero N] in
theorem P8{I:Nat->(Nat->List (Nat × Bs))->(Nat->List (Nat × Bs))->Prop}(O:Ord N)(t:Nat)(ht:t<=6)(A B:Nat->Nat->Nat)(S u Rb:Nat->Bs)(U:List (Nat × Bs))(r:Nat)(kr:∀i G H,i<t->I i G H->∃m l1 l2 G' H' x xi,2^(t-i)=m+m/\2^(t-(i+1))=m/\Rnd r m G H G' H' U l1 l2 (A i) (B i) (A (i+1)) (B (i+1)) (S i) (S (i+1)) (u i) (Rb i) x xi/\I (i+1) G' H')(hA:A t 0<N)(k:B t 0<N)(v0 kf kl:Zm)(w:Zl)(hL:FE encB w r 0 (S 0))(kk:(S 0).size=32){G0 H0:Nat->List (Nat × Bs)}(hI:I 0 G0 H0)(hv:GRq (·≠r) w v0 (2^t) G0 H0 U)(ha:SLq (·≠r) w kf (2^t) (A 0))(C:SLq (·≠r) w kl (2^t) (B 0)):
 ae prog 116 #[lgV r,v0,kf,kl] w (Ret (PhR w r t u Rb (S t) (bx (A t 0)) (bx (B t 0)))):=by
 have hr:=Holds.lt hL (by rw[kk];decide);obtain⟨x1,x2,x3,rfl,-⟩:=id hv.ex;obtain⟨c,hc⟩:=hE (KT w r);have bj:E (c.heap.size=r):=by rw[<-hc.out];exact wL (qx hr)
 have nk:∀g,Nk [(r,aA (S 0))] g↔g≠r:=λg=>by simp[Nk]
 have K0:E (Mp c w [(r,aA (S 0))] [pgW w r,pqG (.agg #[x1,x2,x3]) (2^t) G0 H0 U,pqS kf (2^t) (A 0),pqS kl (2^t) (B 0),pgE (([]:List Nat).map r33) u,pgE (([]:List Nat).map r33) Rb]):=by
  refine⟨by rw[<-hc.out];exact N9 (qx hr),λx hx=>?_,by simp,λs hs=>?_⟩
  .obtain rfl:=ur.1 hx;exact⟨CK bj.out,mW hL hr⟩
  .simp only[fT,ZJ,or_false]at hs;rcases hs with rfl|rfl|rfl|rfl|rfl|rfl
   .exact⟨Zo _,λg o f=>⟨(nk g).2 f,Z⟩⟩
   .exact hv.mono2 λg _ o=>(nk g).2 o
   .exact ha.mono2 λg _ o=>(nk g).2 o
   .exact C.mono2 λg _ o=>(nk g).2 o
   .exact λj x hx=>by cases hx
   .exact λj x hx=>by cases hx
 have HS:=mk4 kr hA k ht;have kh:=mk2 hI kk;clear kr hA k ht hI hL kk hv ha C;go_enter func116,ntmps116;refine PW.bg [] ?_;refine PM.al 118 [jZ r] K0 λk1 w1 K1=>?_
 refine PM.al 126 [x1,x2,x3] K1 λk2 w2 K2=>?_
 refine PM.al 25 [.slice F 0 0,.slice F 0 0,.slice F 0 0,.slice F 0 0] K2 λk3 w3 K3=>?_
 refine PW.dn ?_;refine PW.bg [] ?_;refine PM.al 25 [.slice F 0 0,.slice F 0 0,.slice F 0 0,.slice F 0 0] K3 λf w4 K4=>?_
 refine PW.dn ?_;refine Zq ?_;refine ay ?_;have KL:=mk1 (Mg.nil (ls:=[⟨.slice F 0 0,[]⟩,⟨.slice F 0 0,[]⟩]) (b:=c.heap.size) K4.out (by simp));go_loopg [2,3] t (λmm s2 s3 wr=>∃i:Nat,i+mm=t/\E (∃(l l':List Nat) (z y x1 x2 x3:Zm) (G H:Nat->List (Nat × Bs)),I i G H/\(l.length=i/\l'.length=i/\(l++l').Nodup/\(∀g∈l++l',w.heap.size<=g/\g<wr.heap.size))/\(S i).size=32/\ApG [⟨z,l.map r33⟩,⟨y,l'.map r33⟩]/\Mp c wr [(r,aA (S i)),(k1,[jZ r]),(k2,[x1,x2,x3]),(k3,[.slice F 0 0,.slice F 0 0,.slice F 0 0,.slice F 0 0]),(f,[z,y,.slice F 0 0,.slice F 0 0])] (gL c.heap.size [⟨z,l.map r33⟩,⟨y,l'.map r33⟩] [pgW w r,pqG (.agg #[x1,x2,x3]) (2^(t-i)) G H U,pqS s2 (2^(t-i)) (A i),pqS s3 (2^(t-i)) (B i),pgE (l.map r33) u,pgE (l'.map r33) Rb])))
 case atStart=>exact⟨0,oM,[],[],_,_,x1,x2,x3,_,_,kh.1,⟨Z,Z,yF3,λg o=>(ZJ o).elim⟩,kh.2,KL.2,KL.1⟩
 case round =>
  clear K0 K1 K2 K3 K4 KL kh;obtain⟨i,bo,KM⟩:=hrel;by_cases hi:i<t
  .obtain⟨l,l',z,y,y1,y2,y3,G,H,hI,hN,ku,hk,hK⟩:=KM.out;obtain⟨m,l1,l2,G',H',x,xi,e1,e2,R,b2⟩:=HS.1 i G H hi hI;rw[e1]at hK;obtain⟨ga,X,ca,rfl,b9,-⟩:=(Mg.get hK 2:SLq _ wr _ _ _)
   obtain⟨K,Q,cb,rfl,bi,-⟩:=(Mg.get hK 3:SLq _ wr _ _ _)
   have K0:=mk1 (Mg.ad hK (pgB wr.heap.size) (Zo _));have q:=mk6 hN ku hk e2 b2 hi;have he:=Mg.get K0.out 0;have kj:w.heap.size<=wr.heap.size:=he.1;clear he;have bc:=R.m0;have ba:=R.m5;have R:=mk1 R;have bh:(1:Y)<((m+m:Nat):Y):=oM;have eq:ZN.wrap (((m+m:Nat):Y).tdiv 2)=(m:Y):=by rw[TP,pk];omega
   have kz:=FO ga X (m+m) ca m oM;have kg:=FN K Q (n:=(m+m)) (c:=cb) m oM bi;have ke:=FN ga X (n:=(m+m)) (c:=ca) m oM b9;have kw:=FO K Q (m+m) cb m oM;rw[CA]at kg ke;clear KM hK hI hN ku hk e1 e2 b2;refine Zq ?_;refine PW.rg [iZ ((m+m:Nat):Y),.bool (decide ((1:Y)<((m+m:Nat):Y)))] ?_;rw[decide_eq_true bh];refine Z6 Z ?_;refine aw ?_;refine ay ?_;refine PW.rg [iZ ((m+m:Nat):Y),iZ (ZN.wrap (((m+m:Nat):Y).tdiv 2)),iZ (ZN.wrap (((m+m:Nat):Y).tdiv 2))] ?_;rw[eq];refine PW.bg [] ?_;refine PM.ro 2 K0 aq ?_;refine PW.ca (KU m bc ba G H U (.agg #[y1,y2,y3]) wr (Mg.get K0.out 1)) ?_;rintro e W1 ⟨b8,f1,f2,rfl,-,-,kn,b6,ki,km⟩;obtain⟨p1,p2,p3,ef,-⟩:=id ki.ex;obtain⟨q1,q2,q3,eg,-⟩:=id km.ex;obtain rfl:=ZM.inj ef;obtain rfl:=ZM.inj eg;have K1:=mk1 (Mg.ad (Mg.ad (K0.out.grow b8) (pqG (.agg #[p1,p2,p3]) m (λj=>G (m+j)) H U) ki) (pqG (.agg #[q1,q2,q3]) m G (λj=>H (m+j)) U) km);clear K0 b8 ki km ef eg;refine PW.go [.agg #[p1,p2,p3],.agg #[q1,q2,q3]] ?_;refine PM.al 126 [.slice F 0 0,.slice F 0 0,.slice F 0 0] K1 λk5 w5 a=>?_
   refine PM.al 126 [.slice F 0 0,.slice F 0 0,.slice F 0 0] a λk6 w6 K6=>?_
   refine PM.st 5 [p1,p2,p3] K6 aq (λw7 K7=>?_) (h1:=kn);refine PM.st 6 [q1,q2,q3] K7 aq (λw8 M=>?_) (h1:=b6);clear K1 a K6 K7;refine PW.dn ?_;refine Zq ?_;refine Mq.st [.v (.agg #[p1,p2,p3]),.v (.slice (some ⟨ga,X,F⟩) (m+m) ca),.v (iZ m),.v (.slice (some ⟨ga,X,F⟩) m ca),.v (.slice (some ⟨K,Q,F⟩) (m+m) cb),.v (iZ m),.v (.slice (some ⟨K,Q+m*4,F⟩) m (cb-m)),.p (pM (λ_=>True) l1),.v (pvl (u i)),.n z33] 10 9 M ⟨gm M 5,gv,gv,RG.gX 1 29 2 30 kz,gv,gv,RG.gX 4 32 5 33 kg,
    RG.gC (λU W _ k=>(R.out.hl W (.agg #[p1,p2,p3]) (.slice (some ⟨ga,X,F⟩) m ca) (.slice (some ⟨K,Q+m*4,F⟩) m (cb-m)) ((Mg.get (M.out.grow k) 7:GRq _ _ _ _ _ _ _).mono λ_ _=>trivial) ((Mg.get (M.out.grow k) 2:SLq _ _ _ _ _).low.mono λ_ _=>trivial) ((Mg.get (M.out.grow k) 3:SLq _ _ _ _ _).high.mono λ_ _=>trivial)).mono (by
     rintro e W' ⟨v,rfl,C,hs⟩;exact⟨_,Z,C,hs.q.mono λ_ _=>trivial⟩)),
    RG.gC (args:=λU=>#[U 7]) (λU W h k=>R.out.pl W (U 7) (h 7 kR kR).sm),gn 40 (λW k=>k.size),Fs⟩ (λV k7 L hR k K9=>?_)
   clear hR k;dsimp only[JX,vq,ZQ,ZT,mi,r9,ZU,yFP,reduceIte];simp only[ah,Zr,Zt,Zu];have sX:=R.out.sX;have sY:=R.out.sY;have lX:(aA (u i)).length=z33.length:=aB sX;have lY:(aA (Rb i)).length=z33.length:=aB sY;refine PM.st 7 (aA (u i)) K9 hQr (λwa Ka=>?_) (hl:=lX) (hT:=by rw[aB sX];exact iCP) (h1:=bW);refine PW.dn ?_;clear M K9;refine Zq ?_;refine Mq.st [.v (.agg #[q1,q2,q3]),.v (.slice (some ⟨ga,X,F⟩) (m+m) ca),.v (iZ m),.v (.slice (some ⟨ga,X+m*4,F⟩) m (ca-m)),.v (.slice (some ⟨K,Q,F⟩) (m+m) cb),.v (iZ m),.v (.slice (some ⟨K,Q,F⟩) m cb),.p (pM (λ_=>True) l2),.v (pvl (Rb i)),.n z33] 10 9 Ka ⟨gm Ka 6,gv,gv,RG.gX 1 38 2 39 ke,gv,gv,RG.gX 4 41 5 42 kw,
    RG.gC (λU W _ k=>(R.out.hr W (.agg #[q1,q2,q3]) (.slice (some ⟨ga,X+m*4,F⟩) m (ca-m)) (.slice (some ⟨K,Q,F⟩) m cb) ((Mg.get (Ka.out.grow k) 8:GRq _ _ _ _ _ _ _).mono λ_ _=>trivial) ((Mg.get (Ka.out.grow k) 2:SLq _ _ _ _ _).high.mono λ_ _=>trivial) ((Mg.get (Ka.out.grow k) 3:SLq _ _ _ _ _).low.mono λ_ _=>trivial)).mono (by
     rintro e W' ⟨v,rfl,C,hs⟩;exact⟨_,Z,C,hs.q.mono λ_ _=>trivial⟩)),
    RG.gC (args:=λU=>#[U 7]) (λU W h k=>R.out.pr W (U 7) (h 7 kR kR).sm),gn 40 (λW k=>k.size),Fs⟩ (λV k8 L hR k Kb=>?_)
   clear hR k;dsimp only[JX,vq,ZQ,ZT,mi,r9,ZU,yFP,reduceIte];simp only[ah,Zr,Zt,Zu];refine PM.st 8 (aA (Rb i)) Kb hQr (λwc Kc=>?_) (hl:=lY) (hT:=by rw[aB sY];exact iCP) (h1:=bW);refine PW.dn ?_;clear Ka Kb kz kg ke kw kn b6;have Kd:=mk1 (Mg.has (S':=[pgW w r,pqG (.agg #[y1,y2,y3]) (m+m) G H U,pqS (.slice (some ⟨ga,X,F⟩) (m+m) ca) (m+m) (A i),pqS (.slice (some ⟨K,Q,F⟩) (m+m) cb) (m+m) (B i),pgE (l.map r33) u,pgE (l'.map r33) Rb,pgB wr.heap.size]) Kc.out.drew (λs hs=>by
    simp only[fT,ZJ,or_false]at hs;rcases hs with rfl|rfl|rfl|rfl|rfl|rfl|rfl
    .exact Mg.get Kc.out.drew 0
    .exact Mg.get Kc.out.drew 1
    .exact Mg.get Kc.out.drew 2
    .exact Mg.get Kc.out.drew 3
    .exact Mg.get Kc.out.drew 4
    .exact Mg.get Kc.out.drew 5
    .exact Mg.get Kc.out.drew 6))
   clear Kc;obtain⟨dP,kd,kc⟩:=Zp.1 uCP;have iX:(prog.info? 40).map (·.size)=some (aA (u i)).length:=by rw[aB sX];exact iCP
   have iY:(prog.info? 40).map (·.size)=some (aA (Rb i)).length:=by rw[aB sY];exact iCP
   refine Zq ?_;refine anyS.begin (S7 f k7 k8 z y (aA (u i)) (aA (Rb i))) kR ?_;have L:∀(ll:Array Hc) (W:Zl) (S0:List Pq),Mp c W [(r,aA (S i)),(k1,[jZ r]),(k2,[y1,y2,y3]),(k3,[.slice F 0 0,.slice F 0 0,.slice F 0 0,.slice F 0 0]),(f,[z,y,.slice F 0 0,.slice F 0 0]),(k5,[p1,p2,p3]),(k6,[q1,q2,q3]),(k7,aA (u i)),(k8,aA (Rb i))] S0->S7 f k7 k8 z y (aA (u i)) (aA (Rb i)) ll W:=λll W S0 h=>⟨λ_=>(h.at_ 4).2.1 0 _ Z,λ_=>(h.at_ 4).2.1 1 _ Z,(h.at_ 7).2.1,(h.at_ 8).2.1⟩
   have bS:∀p,Bef (S7 f k7 k8 z y (aA (u i)) (aA (Rb i))) p wc.drew:=λp=>⟨#[],by simp,L _ _ _ Kd.out⟩
   have hd:=L;refine anyS.val (i:=0) (d:=some 46) (x:=jZ f) Z 13 (S7.i dC dC) (bS 13) (L _ _ _ Kd.out) ?_;refine anyS.cel (i:=1) (d:=some 47) (x:=z) Z 13 (S7.i dC dC) 23 46 f 0 Z uLL (λW ⟨l,e,h⟩=>h.1 e) (bS 13) (L _ _ _ Kd.out) ?_;refine anyS.row (i:=2) (d:=some 48) (cs:=aA (u i)) Z 13 (S7.i dC dC) 40 13 k7 0 dP Z kd kc iX (λW ⟨l,e,h⟩=>h.2.2.1) (bS 13) (L _ _ _ Kd.out) ?_;refine anyS.val (i:=6) (d:=some 52) (x:=oZ f 1) Z 13 (S7.i dC dC) (bS 13) (L _ _ _ Kd.out) ?_;refine anyS.cel (i:=7) (d:=some 53) (x:=y) Z 15 (S7.i dC dC) 23 52 f 1 Z uLL (λW ⟨l,e,h⟩=>h.2.1 e) (bS 15) (L _ _ _ Kd.out) ?_;refine anyS.row (i:=8) (d:=some 54) (cs:=aA (Rb i)) Z 14 (S7.i dC dC) 40 14 k8 0 dP Z kd kc iY (λW ⟨l,e,h⟩=>h.2.2.2) (bS 14) (L _ _ _ Kd.out) ?_;refine anyS.cal (i:=3) (d:=some 49) Z (jH sX (w:=wc.drew)) (λxa we hm=>?_);obtain⟨gx,rfl⟩:=hm.2.2;have Ke:=mk1 (Mg.ad (Kd.out.grow hm.1) (pgE [r33 gx] (λ_=>u i)) (IH (hm.2.1.mono2 λg _ o=>Mg.nk Kd.out g o)));refine⟨L _ _ _ Ke.out,?_⟩;have Kf:=mk1 (Ke.out.grow (aD (w:=we) (.cells #[r33 gx] 22)));refine anyS.ins (i:=4) (d:=some 50) (v:=sZ we.heap.size 1 1) (w':=we.alloc (.cells #[r33 gx] 22)) (I:=pg 23 1 #[(0,r33 gx)]) Z (XA (k:=gx) (n:=33) (c:=33) (w:=we)) (L _ _ _ Kf.out) ?_;obtain⟨h8,wg,kp,Kg,Ag,zg,oL⟩:=Nq Kf.out q.2.2.1 (i:=0) Z (by have:=q.1.1;have:=HS.2.2.2;have:=q.2.2.2.2.2;omega) (ga:=we.heap.size) (gx:=gx) ((aE (w:=we) (c:=[r33 gx]) (T:=22)).2.1 0 _ Z);refine anyS.ins (i:=5) (d:=some 51) (v:=h8) (w':=wg) (I:=oT #[23,23] 23 #[z,sZ we.heap.size 1 1]) Z kp (L _ _ _ Kg) ?_;refine anyS.val (i:=12) (d:=some 58) (x:=jZ f) Z 13 (S7.i dC dC) ⟨#[],by simp,L _ _ _ Kg⟩ (L _ _ _ Kg) ?_;refine anyS.cal (i:=9) (d:=some 55) Z (jH sY (w:=wg)) (λxd wh hq=>?_);obtain⟨T,rfl⟩:=hq.2.2;have Kh:=mk1 (Mg.ad (Kg.grow hq.1) (pgE [r33 T] (λ_=>Rb i)) (IH (hq.2.1.mono2 λg _ o=>Mg.nk Kg g o)));refine⟨L _ _ _ Kh.out,?_⟩;have Ki:=mk1 (Kh.out.grow (aD (w:=wh) (.cells #[r33 T] 22)));refine anyS.ins (i:=10) (d:=some 56) (v:=sZ wh.heap.size 1 1) (w':=wh.alloc (.cells #[r33 T] 22)) (I:=pg 23 1 #[(0,r33 T)]) Z (XA (k:=T) (n:=33) (c:=33) (w:=wh)) (L _ _ _ Ki.out) ?_;obtain⟨k0,wj,b3,Kj,Aj,zj,oR⟩:=Nq Ki.out Ag (i:=1) Z (by have:=q.1.2.1;have:=HS.2.2.2;have:=q.2.2.2.2.2;omega) (ga:=wh.heap.size) (gx:=T) ((aE (w:=wh) (c:=[r33 T]) (T:=22)).2.1 0 _ Z);refine anyS.ins (i:=11) (d:=some 57) (v:=k0) (w':=wj) (I:=oT #[23,23] 23 #[y,sZ wh.heap.size 1 1]) Z b3 (L _ _ _ Kj) ?_;have h4:=Kj.at_ 4;obtain⟨wk,h9⟩:=hE (wj.setCells f 0 [h8]);have Kk:=mk1 (Kj.upd 4 h9 (h4.upd (qt Z)));simp only[rep,DQ,xu,yCJ,yDr,qo,sy,Z9,uh,mi,Zt,Zu,yDV]at Kk;have sk:∀l,l.getD 13 D=true->S7 f k7 k8 z y (aA (u i)) (aA (Rb i)) l (wj.setCells f 0 [h8]):=λl e=>by
    rw[h9.out];exact⟨λh=>(by rw[e]at h;cases h),λ_=>(Kk.out.at_ 4).2.1 1 _ Z,(Kk.out.at_ 7).2.1,(Kk.out.at_ 8).2.1⟩
   refine anyS.sto (i:=13) (d:=F) Z 23 (.tmp 58) (.tmp 51) Z f 0 h8 oL.1 oL.2 (h4.th2 (qt Z)) iLL (sk _ kR) ?_;refine anyS.nxt (i:=14) (d:=some 59) (x:=oZ f 1) Z (sk _ kR) ?_;have h5:=Kk.out.at_ 4;obtain⟨wl,hu⟩:=hE (wk.setCells f 1 [k0]);have Kl:=mk1 (Kk.out.upd 4 hu (h5.upd (qt Z)));simp only[rep,DQ,xu,yCJ,yDr,qo,sy,Z9,uh,mi,Zt,Zu,yDV]at Kl;rw[h9.out];refine anyS.sto (i:=15) (d:=F) Z 23 (.tmp 59) (.tmp 57) Z f 1 k0 oR.1 oR.2 (h5.th2 (qt Z)) iLL ?_ ?_
   .rw[hu.out];exact⟨λe=>absurd e (nfB kR),λe=>absurd e (nfB kR),(Kl.out.at_ 7).2.1,(Kl.out.at_ 8).2.1⟩
   rw[hu.out];simp only[ah,Zr,Zt,Zu];refine anyS.done kR ?_ _;obtain⟨kx,cx,ex,-,-,h6,hp,-⟩:=hm.2.1;obtain⟨ky,cy,ey,-,-,hw,hj,-⟩:=hq.2.1;obtain rfl:=ZV.inj (congrArg AR ex);obtain rfl:=ZV.inj (congrArg AR ey);have zw:E (wr.heap.size<=gx/\gx<T/\T<wl.heap.size):=by
    have a1:wr.heap.size<=wc.drew.heap.size:=Mg.get Kd.out 6;have a2:gx<we.heap.size:=hp;have a3:wc.drew.heap.size<=gx:=h6;have a4:wg.heap.size<=T:=hw;have a5:T<wh.heap.size:=hj;have a6:(we.alloc (.cells #[r33 gx] 22)).heap.size<=wg.heap.size:=zg;have a7:(wh.alloc (.cells #[r33 T] 22)).heap.size<=wj.heap.size:=zj;have a8:wl.heap.size=wj.heap.size:=by rw[<-hu.out,<-h9.out,setCells_size,setCells_size]
    rw[Zy]at a6 a7;show _/\_/\_;omega
   have Kp:=mk1 (Mg.has (S':=[pgW w r,pqG (.agg #[y1,y2,y3]) (m+m) G H U,pqS (.slice (some ⟨ga,X,F⟩) (m+m) ca) (m+m) (A i),pqS (.slice (some ⟨K,Q,F⟩) (m+m) cb) (m+m) (B i),pgE ((l++[gx]).map r33) u,pgE ((l'++[T]).map r33) Rb,pgB wl.heap.size]) Kl.out (λs hs=>by
    simp only[fT,ZJ,or_false]at hs;rcases hs with rfl|rfl|rfl|rfl|rfl|rfl|rfl
    .exact Mg.get Kl.out 0
    .exact Mg.get Kl.out 1
    .exact Mg.get Kl.out 2
    .exact Mg.get Kl.out 3
    .exact II q.1.1 (Mg.get Kl.out 4) (Mg.get Kl.out 7)
    .exact II q.1.2.1 (Mg.get Kl.out 5) (Mg.get Kl.out 8)
    .exact Zo _))
   have HM:=mk3 Aj kj (nd2 q.1.2.2.1 (λg o=>(q.1.2.2.2 g o).2) zw.1 zw.2.1);clear Kd Ke Kf Kg Kh Ki Kj Kk Kl Ag Aj hm hq oL oR zg zj h4 h5 h9 hu sk L hd bS kp b3 h6 hp hw hj ex ey;refine PW.bg [] ?_;refine PM.ro 1 Kp aq ?_;refine PM.ro 7 Kp (v:=pvl (u i)) hQr ?_ (hT:=iX);refine PM.ro 8 Kp (v:=pvl (Rb i)) hQr ?_ (hT:=iY);refine PW.ca (R.out.ch wl (Kp.out.log 0) q.2.1) ?_;rintro e wm ⟨hO,hH,rfl⟩;have Kq:=mk1 (Kp.out.say 0 hO hH);clear Kp hO hH;refine PM.al 93 (RG.z 4) Kq λk9 bn Kr=>?_
   refine PM.st 9 (wn x) Kr nq λwo Ks=>?_
   refine PW.dn ?_;refine PW.bg [] ?_;refine PM.ro 9 Ks nq ?_;refine PM.gi Ks (R.out.iv wo) λwp Kt=>?_
   refine PM.al 93 (RG.z 4) Kt λbm wq Ku=>?_
   refine PM.st 10 (wn xi) Ku nq λwu Kv=>?_
   refine PW.dn ?_;clear Kq Kr Ks Kt Ku;obtain⟨Qn,ka⟩:=Mg.q Kv.out;have hy:∀ {W:Zl},kZ wu W->∀g,W.heap.size<=g->Qn g:=λk g o=>by rw[<-ka.out];exact Mg.nk (Kv.out.grow k) g o
   refine(RG.gQ [.v (.slice (some ⟨ga,X,F⟩) (m+m) ca),.v (nv x),.v (nv xi),.p (RG.pS Qn m (A (i+1))),.v (.slice (some ⟨K,Q,F⟩) (m+m) cb),.v (nv xi),.v (nv x),.p (RG.pS Qn m (B (i+1))),.v (.agg #[y1,y2,y3]),.v (nv x),.p (pR Qn m G' H' U)] wu.heap.size (λW=>kZ wu W) (λ_ _ C h=>h.trans (C.mono h.size))).tail2 11 kR kR kR ⟨gv,gm Kv 9,gm Kv 10,
    RG.gC (λU W _ k=>(R.out.fa W (.slice (some ⟨ga,X,F⟩) (m+m) ca) ((Mg.get (Kv.out.grow k) 2:SLq _ _ _ _ _).mono λ_ _=>trivial)).mono (by
     rintro e W' ⟨v,rfl,C,hs⟩;exact⟨_,Z,C,hs.mono (hy k)⟩)),
    gv,gm Kv 10,gm Kv 9,
    RG.gC (λU W _ k=>(R.out.fb W (.slice (some ⟨K,Q,F⟩) (m+m) cb) ((Mg.get (Kv.out.grow k) 3:SLq _ _ _ _ _).mono λ_ _=>trivial)).mono (by
     rintro e W' ⟨v,rfl,C,hs⟩;exact⟨_,Z,C,hs.mono (hy k)⟩)),
    gm Kv 2,gm Kv 9,
    RG.gC (λU W _ k=>R.out.fg Qn W (.agg #[y1,y2,y3]) (hy k) (by rw[<-ka.out];exact Mg.get (Kv.out.grow k) 1)),Fs⟩ (ZF _ _).drew ?_
   intro V wv hR k;have h3:SLq Qn wv (V 3) m (A (i+1)):=hR 3 dC;have h7:SLq Qn wv (V 7) m (B (i+1)):=hR 7 dC;have h0:GRq Qn wv (V 10) m G' H' U:=hR 10 dC;obtain⟨ef,kb,-,bf⟩:=h0.ar;obtain⟨z1,z2,z3,b4,-⟩:=id h0.ex;obtain rfl:=ZM.inj (kb.symm.trans b4);rw[kb]at h0;dsimp only[cD,mi,r9,tr];simp only[ah,Zr,Zt,Zu];rw[kb];generalize V 3=na at h3⊢;generalize V 7=nb at h7⊢;rw[<-ka.out]at h3 h7 h0;have Kw:=mk1 (Mg.ad (Mg.ad (Mg.ad (Kv.out.grow k) (pqS na m (A (i+1))) h3) (pqS nb m (B (i+1))) h7) (pqG (.agg #[z1,z2,z3]) m G' H' U) h0);clear hR k h3 h7 h0 kb b4 ka hy Kv;refine PW.go [na,nb] ?_;refine PM.st 2 [z1,z2,z3] Kw aq (λwz Kz=>?_) (h1:=bf);refine PW.dn ?_;have a:=mk1 (Mp.drop 5 Kz.out);have hz:wl.heap.size<=wz.heap.size:=Mg.get a.out 6;have KE:E (∃(l l':List Nat) (z y x1 x2 x3:Zm) (G H:Nat->List (Nat × Bs)),I (i+1) G H/\(l.length=i+1/\l'.length=i+1/\(l++l').Nodup/\(∀g∈l++l',w.heap.size<=g/\g<wz.heap.size))/\(S (i+1)).size=32/\ApG [⟨z,l.map r33⟩,⟨y,l'.map r33⟩]/\Mp c wz [(r,aA (S (i+1))),(k1,[jZ r]),(k2,[x1,x2,x3]),(k3,[.slice F 0 0,.slice F 0 0,.slice F 0 0,.slice F 0 0]),(f,[z,y,.slice F 0 0,.slice F 0 0])] (gL c.heap.size [⟨z,l.map r33⟩,⟨y,l'.map r33⟩] [pgW w r,pqG (.agg #[x1,x2,x3]) (2^(t-(i+1))) G H U,pqS na (2^(t-(i+1))) (A (i+1)),pqS nb (2^(t-(i+1))) (B (i+1)),pgE (l.map r33) u,pgE (l'.map r33) Rb])):=by
    show ∃l l' z y x1 x2 x3 G H,_;rw[q.2.2.2.1];refine⟨l++[gx],l'++[T],h8,k0,z1,z2,z3,G',H',q.2.2.2.2.1,⟨by rw[Zv,q.1.1];rfl,by rw[Zv,q.1.2.1];rfl,HM.2.2,λg o=>?_⟩,R.out.ss,HM.1,Mg.has a.out λs hs=>?_⟩
    .have h1:g∈l++l'\/g=gx\/g=T:=by
      simp only[py,fT,ZJ,or_false]at o⊢;grind
     have h2:=zw.out;have h3:=HM.2.1;rcases h1 with h1|rfl|rfl
     .have:=q.1.2.2.2 g h1;omega
     .omega
     .omega
    .simp only[fT,ZJ,or_false]at hs;rcases hs with rfl|rfl|rfl|rfl|rfl|rfl
     .exact Mg.get a.out 0
     .exact Mg.get a.out 9
     .exact Mg.get a.out 7
     .exact Mg.get a.out 8
     .exact Mg.get a.out 4
     .exact Mg.get a.out 5
   have bk:=q.2.2.2.2.2;clear Kw Kz a hz zw HM;go_wp2;go_roundg (gk-1)
   case measure=>omega
   case rel=>exact⟨i+1,by omega,KE⟩
  .obtain rfl:i=t:=oM;obtain⟨l,l',z,y,y1,y2,y3,G,H,-,hN,-,hk,hK⟩:=KM.out;rw[ww,rx]at hK;obtain⟨ga,X,ca,rfl,-,qa,kt,V⟩:=(Mg.get hK 2:SLq _ wr _ _ _)
   obtain⟨K,Q,cb,rfl,-,qb,b7,b5⟩:=(Mg.get hK 3:SLq _ wr _ _ _)
   have na:ga≠f:=λe=>qa.1 (by rw[e];simp)
   have nb:K≠f:=λe=>qb.1 (by rw[e];simp)
   have J0:=mk1 (gF kt (gF b7 (gF (V 0 dC) (b5 0 dC))));have K0:=mk1 hK;have he:=Mg.get hK 0;have kj:w.heap.size<=wr.heap.size:=he.1;clear he;have q:=mk2 hN hk;clear KM hK hN hk qa qb kt b7 V b5;refine Zq ?_;refine PW.rg [iZ 1,.bool D] ?_;refine Z2 Z ?_;refine tT ?_;refine Zq (P:=prog) ?_;refine AW.beg 9 11 (J:=⟨λW=>ga<W.heap.size/\K<W.heap.size/\W.rangeAt ga (X+4*0) (wn (A i 0))/\W.rangeAt K (Q+4*0) (wn (B i 0)),λW W' C h=>⟨Zn h.1 C.size,Zn h.2.1 C.size,aF h.2.2.1 C h.1,aF h.2.2.2 C h.2.1⟩,D⟩) J0.out ?_;refine AW.mv 0 ?_;refine AW.iv 1 (mM (k:=ga) (o:=X) (n:=1) (c:=ca) (i:=0) dC) ?_;refine AW.ro 2 (λW h=>h.2.2.1) nq rSc nSc ?_;refine AW.mv 4 ?_;refine AW.iv 5 (mM (k:=K) (o:=Q) (n:=1) (c:=cb) (i:=0) dC) ?_;refine AW.ro 6 (λW h=>h.2.2.2) nq rSc nSc ?_;refine AW.ca 3 (λ_=>jC O HS.2.1 _) (λe w' h=>h.1) ?_;rintro e w2 ⟨bd,kv,gA,rfl⟩;have K2:=mk1 (Mg.ad (K0.out.drew.grow bd) (pqB (r32 gA) 32 (bx (A i 0))) (kv.mono2 λg _ o=>Mg.nk K0.out.drew g o));refine AW.va 8 (oZ f 2) ?_;refine AW.ca 7 (λ_=>jC O HS.2.2.1 _) (λe w' h=>h.1) ?_;rintro e w3 ⟨be,ko,gB,rfl⟩;have K3:=mk1 (Mg.ad (K2.out.grow be) (pqB (r32 gB) 32 (bx (B i 0))) (ko.mono2 λg _ o=>Mg.nk K2.out g o));have h4:=K3.out.at_ 4;obtain⟨w4,L⟩:=hE (w3.setCells f 2 [r32 gA]);have K4:=mk1 (K3.out.upd 4 L (h4.upd (qt Z)));simp only[rep,DQ,xu,yCJ,yDr,qo,sy,Z9,uh,mi,Zt,Zu,yDV]at K4;have h5:=K4.out.at_ 4;obtain⟨w5,T⟩:=hE (w4.setCells f 3 [r32 gB]);have a:=mk1 (K4.out.upd 4 T (h5.upd (qt Z)));simp only[rep,DQ,xu,yCJ,yDr,qo,sy,Z9,uh,mi,Zt,Zu,yDV]at a;refine AW.s1 9 Z Z iB1 L (λh=>⟨h4.th2 (qt Z),?_⟩) ?_
   .obtain⟨j1,j2,j3,j4⟩:=h;rw[<-L.out];exact⟨by rw[setCells_size];exact j1,by rw[setCells_size];exact j2,su j3 _ _ _ (Z5 na),su j4 _ _ _ (Z5 nb)⟩
   refine AW.nx 10 (oZ f 3) ?_;refine AW.s1 11 Z Z iB1 T (λh=>⟨h5.th2 (qt Z),?_⟩) ?_
   .obtain⟨j1,j2,j3,j4⟩:=h;rw[<-T.out];exact⟨by rw[setCells_size];exact j1,by rw[setCells_size];exact j2,su j3 _ _ _ (Z5 na),su j4 _ _ _ (Z5 nb)⟩
   refine AW.dn λ_=>?_
   obtain⟨kx,cx,ex,-,-,h6,hp,-⟩:=kv;obtain⟨ky,cy,ey,-,-,hw,hj,-⟩:=ko;obtain rfl:=ZV.inj (congrArg AR ex);obtain rfl:=ZV.inj (congrArg AR ey);have z5:w5.heap.size=w3.heap.size:=by rw[<-T.out,<-L.out,setCells_size,setCells_size]
   have h6:wr.heap.size<=gA:=h6;have hp:gA<w2.heap.size:=hp;have hw:w2.heap.size<=gB:=hw;have hj:gB<w3.heap.size:=hj;have K6:=mk1 (Mg.ad a.out (pgB w5.heap.size) (Zo _));have o1:=MW (Mg.li a.out 0);have o2:=MW (Mg.li a.out 1);clear K2 K3 K4 h4 h5 L T ex ey J0 K0 a;refine PW.bg [] ?_;refine PM.ro 4 K6 aq ?_;refine PM.st 3 [z,y,r32 gA,r32 gB] K6 aq (λw6 K7=>?_) (h1:=by simp[o1,o2,show ∀g,(r32 g).oneCell'=true from λ_=>rfl]);refine PW.dn ?_;refine ag ?_;have Kr:=K7.out.at_ 3;refine Zx (aG 8 (T:=25) Z Kr Z Ta Uv) Z ?_;have zz:w5.heap.size<=w6.heap.size:=Mg.get K7.out 8;have M:=K7.out;rw[<-hc.out]at M;refine⟨_,Z,TZ (n:=wr.heap.size) (s1:=pgW w r) (s2:=pgW w r) (s3:=pgW w r) (Mg.has M λs hs=>?_) q.1.1 q.1.2.1 q.1.2.2.1 q.1.2.2.2 h6 (by omega) (by omega) kj⟩;simp only[fT,ZJ,or_false]at hs;rcases hs with rfl|rfl|rfl|rfl|rfl|rfl|rfl|rfl
   .exact Mg.get M 0
   .exact Mg.get M 0
   .exact Mg.get M 0
   .exact Mg.get M 0
   .exact Mg.get M 4
   .exact Mg.get M 5
   .exact Mg.get M 6
   .exact Mg.get M 7
def VY{u:OnP P}{U:LB}{q:Md.Ps Bs (Fin N) (OnP P)}(C:IO P)(O:Ord N)(k:∀r:EC.Pt P,On r->mul N r=F)(L:IsP N)(t:Tl N U u)(i:0<U.length)(g:U.length<=16)(e:0<m)(d:0<c)(p:c*(m+m)<=64){G H:I->LB}(hG:Gd N (m+m) c G q.g)(o:Gd N (m+m) c H q.h):
 ∃l1 l2 b f x l,Rnd r m G H b f U l1 l2 (λj=>(q.a j).val) (λj=>(q.b j).val) (λj=>(((aC C k).nT (chF N) ivF u m q).a j).val) (λj=>(((aC C k).nT (chF N) ivF u m q).b j).val) q.s ((aC C k).nT (chF N) ivF u m q).s (wP ((aC C k).pL u m q)) (wP ((aC C k).pT u m q)) x l/\Gd N m (c+c) b ((aC C k).nT (chF N) ivF u m q).g/\Gd N m (c+c) f ((aC C k).nT (chF N) ivF u m q).h:=by
 have f:c*m<=64:=oN (yCO c (show m<=m+m by omega));have A:m<=64:=oN (z6 m d);let⟨l1,y,w⟩:=Me (Q:=λ_=>True) C O k e d f hG.high o.low t i g q.a (λj=>q.b (m+j))
 let⟨l2,a,s⟩:=Me (Q:=λ_=>True) C O k e d f hG.low o.high t i g (λj=>q.a (m+j)) q.b
 let⟨sx,b,n,z⟩:=Od O L r q.s (A:=((aC C k).pL u m q)) (B:=((aC C k).pT u m q)) Z Z
 have l:(aC C k).nT (chF N) ivF u m q=⟨sx,Md.fS b (ivF b) m q.a,Md.fS (ivF b) b m q.b,(aC C k).fP (ivF b) b m q.g,(aC C k).fP b (ivF b) m q.h⟩:=by
  rw[Md.nT,n.1]
 rw[l];refine⟨l1,l2,_,_,b.val,(ivF b).val,⟨e,by omega,aR _,aR _,n.2,y,w,a,s,z,λW=>xZ O b.val b.isLt W,λW v h=>?_,λW v h=>?_,λQ W v K h=>Jb O m c e G H U (wH (by omega) d p hG o t i g) b.val b.isLt v W K h⟩,hG.fold C k (ivF b) b,o.fold C k b (ivF b)⟩
 .have:=NP O m (by omega) _ b.val (ivF b).val b.isLt (ivF b).isLt (λj _=>(q.a j).isLt) v W h;rw[show Bm N b.val (ivF b).val m (λj=>(q.a j).val)=_ from funext (EO b (ivF b) m q.a)]at this;exact this
 have:=NP O m (by omega) _ (ivF b).val b.val (ivF b).isLt b.isLt (λj _=>(q.b j).isLt) v W h;rw[show Bm N (ivF b).val b.val m (λj=>(q.b j).val)=_ from funext (EO (ivF b) b m q.b)]at this;exact this
def P9{t:Nat}{u:OnP P}{m Rb:Nat->Bs}(C:IO P)(O:Ord N)(k:∀r:EC.Pt P,On r->mul N r=F)(X:IsP N)(A:t<=6)(q:Md.Ps Bs (B N) (OnP P))(K a:Nat->LB)(U:LB)(g:Gd N (2^t) 1 K q.g)(n:Gd N (2^t) 1 a q.h)(V:Tl N U u)(y:0<U.length)(o:U.length<=16)(f:∀j,m j=wP ((aC C k).pLi (chF N) ivF u t q j))(l:∀j,Rb j=wP ((aC C k).pTi (chF N) ivF u t q j))(v0 c b:Zm)(w:Zl)(W:hZ w r 0 q.s)(z:q.s.size=32)(hv:GRq (·≠r) w v0 (2^t) K a U)(ha:SLq (·≠r) w c (2^t) (λi=>(q.a i).val))(Q:SLq (·≠r) w b (2^t) (λi=>(q.b i).val)):
 cZ 116 #[lgV r,v0,c,b] w (Ret (PhR w r t m Rb ((aC C k).pst (chF N) ivF u t q t).s (bx (((aC C k).pst (chF N) ivF u t q t).a 0).val) (bx (((aC C k).pst (chF N) ivF u t q t).b 0).val))):=by
 refine P8 (I:=λi G H=>Gd N (2^(t-i)) (2^i) G ((aC C k).pst (chF N) ivF u t q i).g/\Gd N (2^(t-i)) (2^i) H ((aC C k).pst (chF N) ivF u t q i).h) O t A (λi j=>(((aC C k).pst (chF N) ivF u t q i).a j).val) (λi j=>(((aC C k).pst (chF N) ivF u t q i).b j).val) (λi=>((aC C k).pst (chF N) ivF u t q i).s) m Rb U r (λi G H hi p=>?_) (B.isLt _) (B.isLt _) v0 c b w W z ⟨g,n⟩ hv ha Q;have s:t-i=t-(i+1)+1:=by omega
 have d:2^(t-i)=2^(t-(i+1))+2^(t-(i+1)):=by rw[s,oB,yGy]
 have v:2^(i+1)=2^i+2^i:=by rw[oB,yGy]
 have e:2^i*(2^(t-(i+1))+2^(t-(i+1)))<=64:=by
  rw[<-d,<-Nat.pow_add,show i+(t-i)=t by omega];exact Zw (Nat.pow_le_pow_right dC A) dC
 rw[d]at p;obtain⟨l1,l2,L,H',x,T,R,h1,M⟩:=VY C O k X (r:=r) (u:=u) (U:=U) V y o (rj dC) (rj dC) e p.1 p.2;refine⟨_,l1,l2,L,H',x,T,d,Z,?_,?_⟩
 .rw[f,l];exact R
 rw[v];exact⟨h1,M⟩
end
section
open SPA
def hvA(n:I):Zm:=if n=1 then .tuple #[iZ 0,tZ] else if n=2 then .tuple #[iZ 1,tZ] else if n=4 then .tuple #[iZ 2,tZ] else if n=8 then .tuple #[iZ 3,tZ] else if n=16 then .tuple #[iZ 4,tZ] else if n=32 then .tuple #[iZ 5,tZ] else if n=64 then .tuple #[iZ 6,tZ] else .tuple #[iZ 0,fZ]
def Uz(n:I)(c:n=1\/n=2\/n=4\/n=8\/n=16\/n=32\/n=64\/n=128)(w:Zl):eZ 51 #[iZ n] w (hvA n):=by
 let⟨b,k⟩:∃b,b=n:=⟨_,Z⟩
 rcases c with rfl|rfl|rfl|rfl|rfl|rfl|rfl|rfl
 all_goals
  go_enter func51,ntmps51;go_wp2;go_loopg [5] 7 (λm s5 W=>W=w/\((m=7/\s5=iZ 0)\/(m=6/\s5=iZ 1/\1<b)\/(m=5/\s5=iZ 2/\2<b)\/(m=4/\s5=iZ 3/\4<b)\/(m=3/\s5=iZ 4/\8<b)\/(m=2/\s5=iZ 5/\16<b)\/(m=1/\s5=iZ 6/\32<b)\/(m=0/\s5=iZ 7/\64<b)))
  exact⟨Z,Z5 ⟨Z,Z⟩⟩;obtain⟨rfl,h⟩:=hrel;rcases h with⟨rfl,rfl⟩|⟨rfl,rfl,hl⟩|⟨rfl,rfl,hl⟩|⟨rfl,rfl,hl⟩|⟨rfl,rfl,hl⟩|⟨rfl,rfl,hl⟩|⟨rfl,rfl,hl⟩|⟨rfl,rfl,hl⟩
  all_goals
   first
    | (exfalso;omega)
    | skip
  all_goals
   go_wp2;first
    | (go_ret2;exact⟨_,Z,ZF _ _,Z⟩)
    | (go_roundg 6;(case measure=>omega);(case rel=>exact⟨Z,by simp[k]⟩))
    | (go_roundg 5;(case measure=>omega);(case rel=>exact⟨Z,by simp[k]⟩))
    | (go_roundg 4;(case measure=>omega);(case rel=>exact⟨Z,by simp[k]⟩))
    | (go_roundg 3;(case measure=>omega);(case rel=>exact⟨Z,by simp[k]⟩))
    | (go_roundg 2;(case measure=>omega);(case rel=>exact⟨Z,by simp[k]⟩))
    | (go_roundg 1;(case measure=>omega);(case rel=>exact⟨Z,by simp[k]⟩))
    | (go_roundg 0;(case measure=>omega);(case rel=>exact⟨Z,by simp[k]⟩))
end
section
open SPA
variable {P:Nat}[NeZero P]{N:Nat}[NeZero N]
noncomputable def gPt (C:IO P) (lb:Fd) (i:I):OnP P:=⟨.some (hpt P lb (fG i).toList),Aq C⟩
noncomputable def lPt (C:IO P) (lb:Fd) (x:G Fk):OnP P:=⟨.some (hpt P lb x),Aq C⟩
noncomputable def uPt (C:IO P):OnP P:=lPt C ⟨#[105,110,110,101,114]⟩ []
omit [NeZero N] in
theorem Ry(C:IO P)(h1:1<N)(lb:Fd)(i:I):Tl N [(1,hpN P lb i)] (gPt C lb i):=Tl.one C h1 (gPt C lb i)
omit [NeZero N] in
theorem VH(C:IO P)(h1:1<N)(lb:Fd)(x:G Fk):Tl N [(1,wr (.some (hpt P lb x):EC.Pt P))] (lPt C lb x):=Tl.one C h1 (lPt C lb x)
omit [NeZero N] in
theorem yF(C:IO P)(h1:1<N)(n:I):Gd N n 1 (gGT P) (gPt C ⟨#[108,101,102,116]⟩):=⟨λi _=>Ry C h1 _ i,λ_ _=>rfl⟩
omit [NeZero N] in
theorem pY(C:IO P)(h1:1<N)(n:I):Gd N n 1 (hGT P) (gPt C ⟨#[114,105,103,104,116]⟩):=⟨λi _=>Ry C h1 _ i,λ_ _=>rfl⟩
omit [NeZero N] in
theorem oC(C:IO P)(h1:1<N):Tl N (uGT P) (uPt C):=VH C h1 _ _
def Uw{t:I}(k:t<=6):hvA (2^t)=.tuple #[iZ t,tZ]:=by
 match t,k with
 | 0,_=>rfl
 | 1,_=>rfl
 | 2,_=>rfl
 | 3,_=>rfl
 | 4,_=>rfl
 | 5,_=>rfl
 | 6,_=>rfl
 | n+7,h=>omega
def TV{t:I}(k:t<=6):2^t=1\/2^t=2\/2^t=4\/2^t=8\/2^t=16\/2^t=32\/2^t=64\/2^t=128:=by
 match t,k with
 | 0,_=>decide
 | 1,_=>decide
 | 2,_=>decide
 | 3,_=>decide
 | 4,_=>decide
 | 5,_=>decide
 | 6,_=>decide
 | n+7,h=>omega
def ElQ.off{x:Zm}{b:Bs}(h:ElQ Q m W x b)(p:0<m)(l:FJ W k (nZ :: vs)):ElQ (·≠k) m W x b:=by
 let⟨g,c,h1,i,n,o,j,f⟩:=h
 refine⟨g,c,h1,i,n,?_,j,f⟩;rintro rfl;have d:=(f 0 S).1;have e:=l.2.1 0 _ Z;rw[show(0+0:I)=0 from Z]at d e;rw[e]at d;cases d
end
abbrev Iv.only{k:Zl}(b:r<k.heap.size):Iv:=⟨λW=>SP.Only r 0 32 k W,λ_ _ c h=>h.trans (SP.Only.of_below c Z (Zn b h.size)),false⟩
def uBy:wZ 22:=wQ
def YY{q:GJ Addr}{n:I}:(pg 23 2 #[(0,.slice q n c),(1,sZ k 4 4)]).run prog w=.ok (sZ w.heap.size 2 2) (w.alloc (.cells #[.slice q n c,sZ k 4 4] 22)):=kR
def T8{T:ZR}{u v:Zm}{x y:G Fk}(h1:PartOk w u x)(d:PartOk w v y):PartsOk (w.alloc (.cells #[u,v] T)) (J (aZ w.heap.size)) [x,y]:=by
 have b:=aD (w:=w) (.cells #[u,v] T);refine ZW ⟨_,_,Z,λj k=>?_⟩;have c:=(aE (w:=w) (c:=[u,v]) (T:=T)).2.1 j;match j,k with
 | 0,_=>exact⟨u,c u Z,h1.below b⟩
 | 1,_=>exact⟨v,c v Z,d.below b⟩
def UV(O:Ord N)(b:Fd)(A:b.size<=1000)(l:G Fk)(q:GJ Addr)(n c i j s:I)(P:i<4294967296)(w:Zl)(h1:j<w.heap.size)(z:s<w.heap.size)(c1:w.cell? ⟨j,0,F⟩=J (.string b))(c2:w.cell? ⟨s,0,F⟩=J (.slice q n c))(L:PartOk w (.slice q n c) l):
 eZ 212 #[iZ i,jZ j,jZ s] w (nv (chL N b.data.toList [l,(fG i).toList])):=by
 obtain⟨k,u⟩:=hE (w.heap.size);obtain⟨K,d⟩:=hE (lZ w (RG.z 4) 93);have g:=aN u d;have y:=λ(W:Zl) (C:GJ Addr) (h:PartsOk W C [l,(fG i).toList])=>EU O b C 2 2 [l,(fG i).toList] W S Z dC h
 generalize chL N b.data.toList [l,(fG i).toList]=x at y⊢;have a:=mk1 y;obtain⟨X,m⟩:=hE (nv x);rw[m.out]at a;go_enter func212,ntmps212;go_wp2_with (first|(refine alR 4 u d ?_)|fail)
 refine AW.begin 6 6 ?_;refine AW.ce 0 u9s (λW f=>by rw[f.cell (p:=⟨j,0,F⟩) (Zn h1 g.1.size),g.1.cell (p:=⟨j,0,F⟩) h1];exact c1) ?_;refine AW.ce 1 uBy (λW f=>by rw[f.cell (p:=⟨s,0,F⟩) (Zn z g.1.size),g.1.cell (p:=⟨s,0,F⟩) z];exact c2) ?_;refine AW.mv 2 ?_;refine AW.ca 3 (λ_=>Ad i P _) (λe w' h=>h.1) ?_;rintro e T ⟨v,r,rfl,Q,t⟩;refine AW.ns 4 (YY (q:=q) (n:=n) (c:=c) (k:=r) (w:=T)) (aD _) ?_;refine AW.gi 5 (λf=>a _ _ (T8 (L.below (g.1.trans (((ZF _ K).drew.trans v).mono g.1.size))) (MR t))) ?_;intro M V;refine AW.fi (us:=wn x) m (aK (n:=x)) In (λf=>?_);obtain⟨W5,o⟩:=hE (M.setCells k 0 (wn x));have R:=vN u d f o;rw[o.out];refine⟨R.1,?_⟩;go_wp2_with fail
 refine Zx (aG 4 (T:=93) Z R.2.2 Z u40 In) Z ?_;exact⟨_,Z,R.2.1,Z⟩
def Xp(O:Ord N)(k:Fd)(f:k.size<=1000)(l:G Fk)(q:GJ Addr)(n c m:I)(a:m<=64)(w:Zl)(u:PartOk w (.slice q n c) l):
 dZ 171 #[.string k,iZ m,.slice q n c] w λe w'=>SLq (w.heap.size<=·) w' e m (λi=>chL N k.data.toList [l,(fG i).toList]):=by
 let⟨x,d⟩:=hE ((w.alloc (.cells #[.string k] 9)).alloc (.cells #[.slice q n c] 22))
 have b1:=aD (w:=w) (.cells #[.string k] 9);have s:=aD (w:=(w.alloc (.cells #[.string k] 9))) (.cells #[.slice q n c] 22);have o:=(aE (w:=w) (c:=[.string k]) (T:=9)).below s;have r2:=aE (w:=(w.alloc (.cells #[.string k] 9))) (c:=[.slice q n c]) (T:=22);have b:=b1.trans (s.mono b1.size);rw[Zy]at r2;simp only[d.out]at o r2 b;have p:=mk1 b;go_enter func171,ntmps171;go_wp2_with fail
 rw[d.out];apply(mk1 (kN m S 212 (cap:=#[jZ w.heap.size,jZ (w.heap.size+1)]) (λ_ _=>kR) (λi=>chL N k.data.toList [l,(fG i).toList]) x (λi W z j=>UV O k f l q n c i _ _ S W (Zn o.1 j.size) (Zn r2.1 j.size) ((o.below j).2.1 0 _ Z) ((r2.below j).2.1 0 _ Z) ((u.below b).below j)))).mono;rintro e y ⟨v,rfl,r,hG⟩;go_wp2;go_ret;exact⟨_,Z,(mk2 (p.trans (r.mono p.size)) (hG.mono λg t=>Zw p.size t)).out⟩
def uLi:yZ 175:=yQ
def iLi:gZ 175 2:=gQ
structure Ln(Q:I->Prop)(W:Zl)(v:Zm)(n:I)(a b:I->I):Prop where
 ex:∃x y,v=.agg #[x,y]/\SLq Q W x n a/\SLq Q W y n b
section
variable {Q Q':Nat->Prop}{W W':Zl}{v:Zm}{n:Nat}{a b:Nat->Nat}
def Ln.keep(h:Ln Q W v n a b)(k:Kq Q W W'):Ln Q W' v n a b:=by
 let⟨x,y,h1,c,d⟩:=h.ex
 exact⟨x,y,h1,c.keep k,d.keep k⟩
def Ln.mono(h:Ln Q W v n a b)(k:∀g,Q g->Q' g):Ln Q' W v n a b:=by
 let⟨x,y,h1,c,d⟩:=h.ex
 exact⟨x,y,h1,c.mono k,d.mono k⟩
end
def cG{x:Zm}{n:I}{a:I->I}(h:SLq Q W x n a):x.oneCell'=H/\∃g o c,x=qZ g o n c:=by
 obtain⟨g,o,c,rfl,-⟩:=h;exact⟨Z,_,_,_,Z⟩
def Ww(O:Ord N)(v:I)(hv:v<2^64)(m:I)(hm:m<=64)(u:G Fk)(q:GJ Addr)(n c:I)(w:Zl)(hp:PartOk w (.slice q n c) u):
 dZ 98 #[U v,iZ m,.slice q n c] w λe w'=>∃x y,e=.tuple #[x,y]/\Ln (w.heap.size<=·) w' x m (λi=>v/2^i%2) (λi=>chL N [115,108] [u,(fG i).toList])/\Ln (w.heap.size<=·) w' y m (λi=>sMi N (v/2^i%2) 1) (λi=>chL N [115,114] [u,(fG i).toList]):=by
 let⟨vf,d⟩:=hE (yEw (.func 168) #[] #[jZ w.heap.size])
 let⟨k,P⟩:=hE w.heap.size
 let⟨wa,h7⟩:=hE (w.alloc (.cells [U v].toArray 37))
 let⟨k6,C⟩:=hE wa.heap.size
 let⟨wb,h0⟩:=hE (wa.alloc (.cells [nZ,nZ].toArray 175))
 let⟨M,z⟩:=hE wb.heap.size
 let⟨wc,h4⟩:=hE (wb.alloc (.cells [nZ,nZ].toArray 175))
 let⟨t,p⟩:=hE wc.heap.size
 let⟨wd,K⟩:=hE (wc.alloc (.cells [.nilFunc].toArray 240))
 let⟨s,X⟩:=hE (wd.setCells t 0 [vf])
 have Fa:=aN P h7;have Fb:=aN C h0;have Fc:=aN z h4;have Fe:=IU p K X Z;rw[P.out]at d;have bc:=Fb.1.trans (Fc.1.mono Fb.1.size);have be:=bc.trans (Fe.2.1.mono bc.size);have b:=mk6 (Fa.1.trans (be.mono Fa.1.size)) (Fa.2.below be) (Fb.2.below (Fc.1.trans (Fe.2.1.mono Fc.1.size))) (Fc.2.below Fe.2.1) Fe.2.2 (show k<k6/\k6<M/\M<t from⟨C.out▸Fa.2.1,z.out▸Fb.2.1,p.out▸Fc.2.1⟩);have h9:=b.2.2.2.2.1.2.1 0 _ Z;have H1:E (∀W,kZ s W->dZ 170 #[iZ m,vf] W λe w'=>SLq (W.heap.size<=·) w' e m (λi=>v/2^i%2)):=λW f=>by
  rw[<-d.out];exact kN m S 168 (λ_ _=>kR) _ W λi V o j=>Nw v i k hv S V (Zn b.2.1.1 (Zw f.size j.size)) (((b.2.1.below f).below j).2.1 0 _ Z)
 have H2:E (∀W,kZ s W->dZ 170 #[iZ m,.func (.func 169) #[] #[jZ t]] W λe w'=>SLq (W.heap.size<=·) w' e m (λi=>sMi N (v/2^i%2) 1)):=λW f =>
  kN m S 169 (λ_ _=>kR) _ W λi V o j=>Uq O v i k t hv S V (Zn b.2.1.1 (Zw f.size j.size)) (Zn b.2.2.2.2.1.1 (Zw f.size j.size)) (((b.2.1.below f).below j).2.1 0 _ Z) (by rw[((b.2.2.2.2.1.below f).below j).2.1 0 _ Z,d.out])
 have HC:E (∀(l:Fd) W,l.size<=1000->kZ s W->dZ 171 #[.string l,iZ m,.slice q n c] W λe w'=>SLq (W.heap.size<=·) w' e m (λi=>chL N l.data.toList [u,(fG i).toList])):=λl W hl f=>Xp O l hl u q n c m hm W ((hp.below b.1).below f)
 go_enter func98,ntmps98;go_wp2_with (first|(refine alR 3 P h7 ?_)|(refine alR 6 C h0 ?_)|(refine alR 7 z h4 ?_)|(refine alR 8 p K ?_)|(refine yT Z 240 Z vf ?_ ?_ ?_ ?_ (mk1 (aN p K).2.2.2).out kR ?_;rfl;exact d;(rw[<-d.out];rfl);(rw[<-d.out];rfl);rw[X.out])|fail)
 apply(H1 s (ZF _ _)).mono;rintro e w1 ⟨x1,rfl,r,h6⟩;go_wp2_with fail
 apply(HC _ w1 dC r).mono;rintro e w2 ⟨x2,rfl,j,h3⟩;have b2:=r.trans (j.mono r.size);obtain⟨-,g1,o1,c1,e1⟩:=cG h6;obtain⟨-,g2,o2,c2,e2⟩:=cG h3;subst e1 e2;go_wp2_with fail
 apply(H2 w2 b2).mono;rintro e w3 ⟨x3,rfl,o,V⟩;have b3:=b2.trans (o.mono b2.size);go_wp2_with fail
 apply(HC _ w3 dC b3).mono;rintro e w4 ⟨x4,rfl,L,h5⟩;have b4:=b3.trans (L.mono b3.size);obtain⟨-,g3,o3,c3,e3⟩:=cG V;obtain⟨-,g4,o4,c4,e4⟩:=cG h5;subst e3 e4;let⟨w5,h2⟩:=hE (w4.setCells k6 0 [qZ g1 o1 m c1,qZ g2 o2 m c2])
 let⟨A,T⟩:=hE (w5.setCells M 0 [qZ g3 o3 m c3,qZ g4 o4 m c4])
 let⟨he,ha,hc⟩:=b.2.2.2.2.2
 have hj:=b.2.2.2.2.1.1;have s1:=r.size;have s2:=j.size;have s3:=o.size;have R4:=mk2 (b.2.2.1.below b4) (b.2.2.2.1.below b4);have K6:E (kZ w A/\FJ A k6 [qZ g1 o1 m c1,qZ g2 o2 m c2]/\FJ A M [qZ g3 o3 m c3,qZ g4 o4 m c4]/\w5.there M 0 2/\Kq (t < ·) w4 A):=by
  rw[<-T.out,<-h2.out];have Q:FJ (w4.setCells k6 0 [qZ g1 o1 m c1,qZ g2 o2 m c2]) M _:=bE R4.2 S;refine⟨RG.below_setCells (by rw[P.out];omega) _ _ _ (RG.below_setCells (by rw[P.out];omega) _ _ _ (b.1.trans (b4.mono b.1.size))),bE (R4.1.put Z) S,Q.put Z,Q.2.2,?_⟩;exact⟨by rw[setCells_size,setCells_size];exact Zo _,λg hg _=>by rw[aM _ _ _ g S,aM _ _ _ g S]⟩
 have hq:∀ {W:Zl}{x:Zm}{a:I->I},s.heap.size<=W.heap.size->SLq (W.heap.size<=·) w4 x m a->SLq (w.heap.size<=·) A x m a:=λhW h=>((h.mono (Q':=(t < ·)) λg hg=>S).keep K6.2.2.2.2).mono λg hg=>by rw[P.out];omega
 have Q:=o.trans (L.mono o.size);have h8:=j.trans (Q.mono j.size);have KR:E (Ln (w.heap.size<=·) A (.agg #[qZ g1 o1 m c1,qZ g2 o2 m c2]) m (λi=>v/2^i%2) (λi=>chL N [115,108] [u,(fG i).toList])/\Ln (w.heap.size<=·) A (.agg #[qZ g3 o3 m c3,qZ g4 o4 m c4]) m (λi=>sMi N (v/2^i%2) 1) (λi=>chL N [115,114] [u,(fG i).toList])):=
  ⟨⟨_,_,Z,hq (Zo _) (h6.keep (Kq.of_below h8)),hq s1 (h3.keep (Kq.of_below Q))⟩,⟨_,_,Z,hq S (V.keep (Kq.of_below L)),hq S h5⟩⟩
 go_wp2_with (first|(refine stR 6 h2 (Hid.mk' Z) R4.1.2.2 iLi kR ?_)|(refine stR 7 T (Hid.mk' Z) K6.2.2.2.1 iLi kR ?_)|fail)
 refine Zx (rV 6 7 Z K6.2.1 K6.2.2.1 Z Z uLi iLi uLi iLi) Z ?_;exact⟨_,Z,K6.1,_,_,Z,KR⟩
end Go.Proofs.YtndpeoebngkhmaaGreat
