import Derived.Deep.RegionHeld3
import Derived.Deep.LoopGhost
import Derived.Great.BuildSlice
import Derived.Lib.LazyBuf
import Derived.Laws.AppendOwn
import Derived.Laws.IdiomCopy
import Derived.Lib.AppendZeros
import Derived.Deep.AppendSrc
import Derived.Test.YtndpeoebngkhmaaGreatsv4
set_option linter.unusedVariables false
set_option linter.defProp false
set_option linter.constructorNameAsVariable false
set_option linter.unusedSimpArgs false
set_option maxRecDepth 1000000
set_option maxHeartbeats 4000000
namespace Go.Proofs.YtndpeoebngkhmaaGreat
open _root_ renaming Array->R,Bool->Hc,ByteArray->Fd,Fin->B,Int->Y,List->G,Nat->I,Option->GJ,UInt8->Fk,rfl->Z
open Go.Proofs.YtndpeoebngkhmaaGreat renaming Fld->IO,Four->GS,Gives->FL,Kept->IS,Row->FJ,i40->In,oM->S,uZ->U,yGP->GD,yGQ->Id,yGR->Fs
open Go.RowKit renaming Hid->E
open Go.Sort renaming Holds->FE
open _root_.Bool renaming false->D,true->H
open _root_.Option renaming none->F,some->J
open EC RG SP
open _root_.Array renaming all_eq_true'->ul,getD_eq_getD_getElem?->ZB,getElem?_eq_getElem->ZS,getElem?_eq_some_iff->ZO,getElem?_toList->qi,length_toList->ZE,map_id->yGh,size->yFt,size_append->pq,size_extract->yq,size_setIfInBounds->rh
open _root_.ByteArray renaming data_append->yDj,data_extract->yEz,mk->yDP,size_append->yDs
open _root_.Classical renaming byContradiction->xD
open _root_.Fin renaming ext_iff->yFO,ofNat->rz
open _root_.Go renaming Addr->gE,Calls->ae,Oper->Z4,Operand->oF,Program->ai,TypeId->ZR,Value->Zm,World->Zl,bodyPost_ret->Zx,execOp->Z0,run_append_own->yDJ,run_loadVar_mid->um,run_make_row'->yD2,run_underlying->yw,wpList_load_mid->gS,wpList_plain->sj,wpList_store_mid->ZZ,wp_block->ay,wp_cond_false->Z2,wp_cond_true->Z6,wp_loop_ghost->DM,wp_ret->ag,wp_seq->Zq,wp_skip->aw
open _root_.Go.Addr renaming add->ts
open _root_.Go.Builtin renaming append_->oT,clear_->yFr,zeroCells->wy
open _root_.Go.ByteArray renaming toList_eq->yEO
open _root_.Go.Exit renaming inBlock->yr
open _root_.Go.Instr renaming arrayAt->yGb,box->aj,build->CI,buildSlice->pg,findAsking->yFB,findKey->yGa,indexAt->iB,lookup->yEZ,makeSlice->ue,mapUpdate->yDG,sliceAt->ux
open _root_.Go.IntKind renaming i64->ZN,u64->cW,wrap_i64->pk
open _root_.Go.IntWalk renaming i64_in->po
open _root_.Go.Lib renaming run_append_nil_zeros->yEX,wpList_append_run->uy
open _root_.Go.Next renaming value->pi
open _root_.Go.Oper renaming semAt_some->yED,wp->ao
open _root_.Go.Result renaming andThen_ok->lp
open _root_.Go.RowKit.Below renaming heap_alloc->yFA,refl->ZF
open _root_.Go.RowKit.Hid renaming out->z9
open _root_.Go.Sem renaming run->yGt,run_bind->ZK,run_pure->qj
open _root_.Go.Value renaming agg->ZM,string->yGd
open _root_.Go.World renaming alloc->pn,block_lt_of_cell?->vj,cell?->yy,cell?_of_block->ZP,frozen?->yDW,frozen?_of_block->sI,ownsRow_made->yFj,ownsRow_nil->yD5,putObj->yEU,rangeAt_setCells_apart->su,rangeAt_setCells_same->yj,size_alloc->Zy,size_setCell->yFi,there->yGi
open _root_.Int renaming natCast_add->yEv,tmod_eq_emod_of_nonneg->yDx
open _root_.List renaming append_assoc->uk,append_nil->ug,cons_append->qo,ext_getElem?->yDB,flatMap_append->yCI,flatMap_cons->yEb,getElem?_append_left->uo,getElem?_append_right->xS,getElem?_eq_getElem->ZH,getElem?_eq_none->zl,getElem?_eq_some_iff->Zz,getElem?_map->rm,getElem?_of_mem->zb,getElem?_range->yD0,getElem?_take->xp,getElem?_toArray->ZU,getElem_cons_succ->yE2,getElem_mem->qs,length_append->Zv,length_cons->Z9,length_filter_le->yFa,length_map->ZI,length_range->yCp,length_replicate->z8,length_set->yFR,length_take->zc,map_append->ty,map_cons->uz,mem_append->py,mem_cons->fT,mem_cons_of_mem->ps,mem_cons_self->pw,mem_map->Z1,mem_of_mem_take->yDS,mem_range->p9,mem_toArray->yCD,not_mem_nil->ZJ,prefix_rfl->yFQ,range->fo,range_succ->yDd,set_cons_succ->Zt,size_toArray->kI,take_add_one->yFv,take_length->yEg,take_zero->xu
open _root_.Nat renaming add_mod->yn,add_sub_cancel_left->xV,add_zero->qg,le_add_right->yDc,le_of_ble_eq_true->qt,le_refl->Zo,le_trans->Zw,lt_of_lt_of_le->Zn,lt_of_succ_le->yh,lt_or_ge->tE,lt_succ_self->BT,mod_eq_of_lt->ZC,mod_lt->gD,mul_comm->ax,mul_le_mul_right->z6,mul_mod->tn,mul_succ->CD,mul_zero->xe,reduceAdd->mi,sub_self->ww,sub_zero->wt,succ_mul->yGn,zero_add->Zs,zero_le->pj
open _root_.Option renaming map_eq_some_iff->Zp,some->ZV
open _root_.Or renaming inl->Z5,inr->ZW
open _root_.Prod renaming mk->an
open _root_.UInt8 renaming ofNat->ZG
open Go.Proofs.Tryz
open Go.RowKit Go.Sort Go.Deep
variable {P:Nat}[NeZero P]{N:Nat}
variable {M base c cap g i j m n r s y:Nat}{T e t:ZR}{W W' w w':Zl}{a p q:Option gE}{b:List UInt8}{cur tmps:Array Zm}{l:LB}{o:ByteArray}{rs:List (Nat × List Zm)}{u:Zm}{vs xs ys:List Zm}{z:Nat × Nat}
namespace SP
attribute [local go_sem] dD eE dW sN rN Cs RS
theorem oU(s:Fd)(w:Zl)(hs:s.size=200):
 ae prog 221 #[.string s] w λe w'=>e=.returned (.string ⟨mJ s.data⟩)/\Below w.heap.size w w':=by
 have a:∀w:Zl,(ue 287 (.int .i64 25) (.int .i64 25)).run prog w=.ok (.slice (J ⟨w.heap.size,0,F⟩) 25 25) (w.alloc (.cells (madeCells #[.int .u64 0] 25) 37)):=
  yD2 (P:=prog) 287 37 (.int .u64 0) 8 Cz GN Z .i64 .i64 25 S S
 have d:∀w:Zl,(ue 22 (.int .i64 200) (.int .i64 200)).run prog w=.ok (.slice (J ⟨w.heap.size,0,F⟩) 200 200) (w.alloc (.cells (madeCells #[.int .u8 0] 200) 5)):=
  yD2 (P:=prog) 22 5 (.int .u8 0) 1 slice22 info5 Z .i64 .i64 200 S S
 have p:E _:=d;clear d;go_enter func221,ntmps221;go_wp2;clear a;have z:FE enc (w.alloc (.cells (madeCells #[.int .u64 0] 25) 37)) w.heap.size 0 (sH s.data 0):=Holds.made (enc:=enc) w 37 25 0;have A:Below w.heap.size w (w.alloc (.cells (madeCells #[.int .u64 0] 25) 37)):=(ZF _ _).alloc (Zo _) _;generalize Q:(w.alloc _)=W1 at z A⊢;have V:w.heap.size<W1.heap.size:=by rw[<-Q];simp
 clear Q;go_loopg [4] 200 (λg s4 wr=>∃(i:I) (b:St),i+g=200/\s4=.int .i64 i/\FE enc wr w.heap.size 0 b/\Only w.heap.size 0 25 W1 wr/\E (b=sH s.data i))
 case atStart=>exact⟨0,_,Z,Z,z,Only.refl _ _ _ _,Z⟩
 case round =>
  obtain⟨i,b,hi,rfl,f,m,n⟩:=hrel;have v:b.size=25:=by rw[n.out,mK]
  by_cases j:i<200
  .obtain⟨x,hx⟩:∃x,b[i/8]! = x:=⟨_,Z⟩
   obtain⟨c0,f0⟩:=aX f (i:=(i/8)) S hx;rw[Zs]at c0 f0;have HX:E (b[i/8]! = x):=hx;clear hx;have L:(i:Y)<200:=S;have p0:0<=(i:Y)/8:=S;have p1:(i:Y)/8<25:=S;have p2:((i:Y)/8).toNat=i/8:=S;have s1:ZN.wrap ((i:Y)/8)=(i:Y)/8:=po _ S;have s2:ZN.wrap (8*((i:Y)%8))=8*((i:Y)%8):=po _ S;have s3:0<=8*((i:Y)%8):=S;have s4:8*((i:Y)%8)<=64:=S;have s5:(8*((i:Y)%8)).toNat=8*(i%8):=S;have q:(i:Y)<(s.size:Y):=S;have c:i<s.size:=S;have tm:(i:Y).tmod 8=(i:Y)%8:=yDx S;obtain⟨y,l⟩:∃y,wide s.data[i]! = y:=⟨_,Z⟩
   have t:cW.wrap (s[i].toNat:Y)=u y:=by
    have e:s.data[i]! = s[i]:=getElem!_pos s.data i c;rw[<-l,e];exact Cs s[i]
   have C:E (wide s.data[i]! = y):=l;clear l;have sh:=BG y (8*(i%8));go_wp2_with fail
   go_still_tail 18,mixed;go_wp2;go_roundg (gk-1)
   case measure=>omega
   case rel =>
    refine⟨i+1,b.setIfInBounds (i/8) (x ||| y <<< (8*(i%8))),S,by go_num,?_,?_,?_⟩
    .have:=Holds.set f (i:=i/8) S (x ||| y <<< (8*(i%8)));rw[Zs]at this;exact Holds.drew this
    .exact(m.setCell (o:=i/8) S S _).drew
    .show _=(sH s.data i).setIfInBounds (i/8) ((sH s.data i)[i/8]! ||| wide s.data[i]! <<< (8*(i%8)));rw[C.out,<-n.out,HX.out]
  .have c:i=200:=S;subst c;have O:Below w.heap.size w wr:=A.trans (m.below S (Zo _));have h2:w.heap.size<wr.heap.size:=Zn V m.size;clear j hi z A V m;go_wp2_with fail
   refine(Eu _).mono ?_;rintro e w3 ⟨rfl,t,hT⟩;have W:=Holds.below f t h2;have X:=O.trans (t.mono S);have h8:wr.heap.size<w3.heap.size:=Holds.lt hT (by rw[nH];omega);generalize hg:wr.heap.size=TB at *;clear O t f;go_wp2;go_loopg [3,6] 24 (λg s3 s6 wr=>∃(k M:I) (b:St),k+g=24/\s6=.int .i64 k/\s3=.slice (J ⟨M,0,F⟩) 25 25/\FE enc wr M 0 b/\w.heap.size<=M/\FE encI wr TB 0 cU/\Below w.heap.size w wr/\E (b=Eb (sH s.data 200) k))
   case atStart=>exact⟨0,w.heap.size,b,Z,Z,Z,W,Zo _,hT,X,n⟩
   case round =>
    clear hT X W n v b;obtain⟨k,M,b,hk,rfl,rfl,f,he,hT,K,n⟩:=hrel;have v:b.size=25:=by
     rw[n.out];cases k with
     | zero=>exact mK
     | succ k=>exact Bh
    by_cases j:k<24
    .have C:(k:Y)<24:=S;go_wp2_with fail
     refine(Dc k _ j).mono ?_;rintro e T ⟨rfl,rfl⟩;go_wp2_with fail
     refine(JQ M TB b cU (G8 k) _ v nH f hT GA).mono ?_;rintro e w5 ⟨r,rfl,hr,l,hR⟩;have q:=Holds.lt hT (by rw[nH];omega);have N:=K.size;go_wp2;go_roundg (gk-1)
     case measure=>omega
     case rel =>
      refine⟨k+1,r,fE b cU (G8 k),S,by go_num,Z,hR,S,Holds.below hT l q,K.trans (l.mono S),?_⟩;rw[n.out];rfl
    .have N:k=24:=S;subst N;have h4:=p.out;go_wp2;clear h4;have h3:=Holds.lt f S;have T:FE encB (wr.alloc (.cells (madeCells #[.int .u8 0] 200) 5)) wr.heap.size 0 (eY b 200 0):=Holds.made (enc:=encB) wr 5 200 0;have l:Below wr.heap.size wr (wr.alloc (.cells (madeCells #[.int .u8 0] 200) 5)):=(ZF _ _).alloc (Zo _) _;generalize C:(wr.alloc _)=W6 at T l⊢;have h9:wr.heap.size<W6.heap.size:=by rw[<-C];simp
     have h5:=Holds.below f l h3;have h7:=K.trans (l.mono K.size);clear C l K f hT;generalize ha:wr.heap.size=FB at *;go_loopg [8] 200 (λg s8 wr=>∃(i:I) (bs:Bs),i+g=200/\s8=.int .i64 i/\FE encB wr FB 0 bs/\Only FB 0 200 W6 wr/\E (bs=eY b 200 i))
     case atStart=>exact⟨0,_,Z,Z,T,Only.refl _ _ _ _,Z⟩
     case round =>
      obtain⟨i,bs,hi,rfl,hB,m,q⟩:=hrel;have h0:bs.size=200:=by rw[q.out,kK]
      by_cases j:i<200
      .have h6:=Holds.other h5 m S S;obtain⟨x,hx⟩:∃x,b[i/8]! = x:=⟨_,Z⟩
       obtain⟨c0,f0⟩:=aX h6 (i:=(i/8)) S hx;obtain⟨c1,f1⟩:=hB i S;rw[Zs]at c0 c1 f1;have HX:E (byteOf b i=low (x >>> (8*(i%8)))):=by show low _=_;rw[hx]
       clear hx f0;have p1:(i:Y)/8<25:=S;have L:(i:Y)<200:=S;have hc:=Ik x (8*(i%8));go_wp2;go_roundg (gk-1)
       case measure=>omega
       case rel =>
        refine⟨i+1,bs.setIfInBounds i (low (x >>> (8*(i%8)))),S,by go_num,?_,?_,?_⟩
        .have:=Holds.set hB (i:=i) S (low (x >>> (8*(i%8))));rw[Zs]at this;exact this
        .exact m.setCell (o:=i) S S _
        .show _=(eY b 200 i).setIfInBounds i (byteOf b i);rw[HX.out,q.out]
      .have c:i=200:=S;subst c;have kc:=conv_str prog 22 9 5 slice22 int5 str9 wr FB 0 200 200 bs hB h0;go_wp2;go_ret;have L:bs=mJ s.data:=by rw[q.out,n.out];exact JR (bs:=s.data)
       rw[L];exact⟨Z,h7.trans (m.below S S)⟩
end SP
namespace SP
attribute [local go_sem] Cg
def holds_one(w:Zl)(x:Fk):FE encB (w.alloc (.cells #[.int .u8 (ub x)] 5)) w.heap.size 0 #[x]:=by
 have h:=Holds.new (enc:=encB) w 5 #[x];have e:R.map encB #[x]=#[.int .u8 (ub x)]:=by simp[encB]
 rw[e]at h;exact h
def v7(l:G Fk)(e:Fk)(k:I):G Fk:=l++e :: G.replicate k 0
def xE(l:G Fk)(e:Fk)(k:I):(v7 l e k).length=l.length+1+k:=by
 rw[v7,Zv,Z9,z8];omega
def J4(l:G Fk)(e:Fk)(k:I):v7 l e k++[0]=v7 l e (k+1):=by
 unfold v7;rw[uk,qo,G.replicate_succ']
def Gv(l:G Fk)(e:Fk):(v7 l e (135-l.length%136)).set (l.length+(135-l.length%136)) ((v7 l e (135-l.length%136))[l.length+(135-l.length%136)]! ^^^ 128)=total l e:=by
 unfold v7 total jM;rw[G.set_append_right _ _ S,xV,rM S (by rw[Z9,z8];omega),xV]
def EB{l:G Fk}{x:Fk}(k:j<l.length):(l.set i x)[j]! = if i=j then x else l[j]!:=by
 rw[getElem!_pos (l.set i x) j (by rw[yFR];exact k),G.getElem_set,getElem!_pos l j k]
def LI{l:G Fk}{e:Fk}{cur:Bs}{L k:I}(b:k=135-l.length%136)(g:L=l.length+1+k)(f:L<=cur.size)(hT:∀j,j<L->cur[j]! = (v7 l e k)[j]!):
 ∀j,j<L->(cur.setIfInBounds (L-1) (cur[L-1]! ^^^ 128))[j]! = (total l e)[j]!:=by
 intro j c;have d:=xE l e k;rw[<-Gv,<-b,EB S,show l.length+k=L-1 by omega];by_cases h:j=L-1
 .rw[GD h.symm,h,getElem!_set_same _ _ _ S,hT _ S]
 rw[Id S,getElem!_set_other _ _ _ _ h,hT _ c]
def Cy{d:St}(n:I)(ho:o.size=136*m)(c:n<=136*m)(h:∀j,j<136*m->o.data[j]! = dM d j):o.extract 0 n=⟨iK d n⟩:=by
 apply Fd.ext;have hs:o.data.size=136*m:=ho;rw[yEz];refine Do (by rw[yq,hs];omega) iJ (λj b=>?_);have h1:j<(o.data.extract 0 n).size:=by rw[yq,hs];omega
 have k:=h j S;rw[getElem!_pos o.data j S]at k;rw[rS _ b,<-k,getElem!_pos (o.data.extract 0 n) j h1,R.getElem_extract];simp only[Zs]
def MX{d:St}{p:Bs}(e:p.size=136)(k:∀j,j<136->p[j]! = byteOf (dX d m) j)(ho:o.size=136*m)(h:∀j,j<136*m->o.data[j]! = dM d j):
 (o++⟨p⟩).size=136*(m+1)/\∀j,j<136*(m+1)->(o++(⟨p⟩:Fd)).data[j]! = dM d j:=by
 have hd:(o++(⟨p⟩:Fd)).data=o.data++p:=yDj;have hs:o.data.size=136*m:=ho;refine⟨?_,λj f=>?_⟩
 .show(o++(⟨p⟩:Fd)).data.size=_;rw[hd,pq,e,hs];omega
 rw[hd];by_cases h1:j<136*m
 .have b:j<o.data.size:=S;have c:=h j h1;rw[getElem!_pos o.data j b]at c;rw[app_front _ _ j b,c]
 rw[app_back _ _ j S S,hs,k _ S];rw[dM,show j/136=m by omega,show j%136=j-136*m by omega]
def Jk{p:Bs}(w:Zl)(h:p.size=200):
 ∃sc w',(convert 9 22 (.string ⟨p⟩)).run prog w=.ok (.slice (J ⟨w.heap.size,0,F⟩) 200 sc) w'/\200<=sc/\FE encB w' w.heap.size 0 p/\Below w.heap.size w w':=by
 let⟨v,w',k,own,e,hv⟩:=nN (w:=w) (B:=0) ⟨p⟩ (pj _)
 have b:(yDP p).size=200:=h;rw[hv]at k own;rw[b]at k own;let⟨_,_,d,c⟩:=own.holds
 exact⟨_,_,k,S,by simpa using c,e⟩
def EM(d:St):yFt (front d 136)<=yFt (front d 200)/\∀j,j<(front d 136).size->(front d 136)[j]! = (front d 200)[j]!:=by
 refine⟨by rw[aW,aW];omega,λj k=>?_⟩;rw[aW]at k;rw[kW k,kW S]
theorem rK(s:Fd)(e:Fk)(n:Nat)(w:Zl)(hs:s.size<=1048576)(hn:n<=16384):
 ae prog 197 #[.string s,.int .u8 (ub e),.int .i64 n] w λr w'=>r=.returned (.string ⟨iK (lC s.data.toList e) n⟩)/\Below w.heap.size w w':=by
 obtain⟨v0,w0,ke,N,hq,kl⟩:=nN (w:=w) (B:=w.heap.size) s (Zo _);rw[kl]at ke N;have kh:w.heap.size<=w0.heap.size:=hq.size;have hX:=holds_one w0 e;have u:Below w0.heap.size w0 (w0.alloc (.cells #[.int .u8 (ub e)] 5)):=(ZF _ _).alloc (Zo _) _;have hl:s.data.toList.length=s.size:=ZE;obtain⟨v1,w1,h0,ha,ko⟩:=A8 (c:=1) (N.below u) hX (by rw[Zy];omega) (by rw[hl];simp;omega) 1 Z;have h9:Below w.heap.size w w1:=(hq.trans (u.mono kh)).trans ko;have A:Own w.heap.size w1 v1 (v7 s.data.toList e 0):=ha;clear kl N hX ha ko u;have q:∀w:Zl,(ue 22 (.int .i64 200) (.int .i64 200)).run prog w=.ok (.slice (J ⟨w.heap.size,0,none⟩) 200 200) (w.alloc (.cells (madeCells #[.int .u8 0] 200) 5)):=
  yD2 (P:=prog) 22 5 (.int .u8 0) 1 slice22 info5 Z .i64 .i64 200 S S
 have hp:E _:=q;clear q;go_enter func197,ntmps197;go_wp2_with (at_builtin;refine uy _ Z _ _ 22 22 Z _ _ Z Z _ _ h0 ?_)
 clear h0 ke hq;obtain⟨h,hh⟩:=vH (s.data.toList.length%136);have bd:h<136:=by rw[<-hh];exact gD _ dC
 have Hh:E (s.data.toList.length%136=h):=hh;clear hh;go_loopg [7] (135-h) (λg s7 wr=>∃k,k+g=135-h/\Own w.heap.size wr s7 (v7 s.data.toList e k)/\Below w.heap.size w wr)
 case atStart=>exact⟨0,S,A,h9⟩
 case round =>
  clear A h9;obtain⟨k,hk,own,t⟩:=hrel;have kg:=own;obtain⟨g,cap,cur,rfl,hg,kv,bj,bm,hH,hT⟩:=kg;have hL:=xE s.data.toList e k;generalize kj:(v7 s.data.toList e k).length=L at *;have ki:L=s.size+1+k:=by rw[hL,hl]
  have bk:E (L=s.size+1+k):=ki;have bn:L<=1048900:=S;have bi:1<=L:=S;have tm:(L:Y).tmod 136=(L:Y)%136:=yDx S;by_cases k5:k<135-h
  .have kd:((L:Y)%136 != 0)=H:=by rw[bne_iff_ne];have:=Hh.out;rw[hl]at this;omega
   have hX:=holds_one wr 0;have u:Below wr.heap.size wr (wr.alloc (.cells #[.int .u8 (ub 0)] 5)):=(ZF _ _).alloc (Zo _) _;obtain⟨v2,v,h0,f,l⟩:=A8 (c:=1) (own.below u) hX (by rw[Zy];have:=t.size;omega) (by rw[kj];simp;omega) 1 Z;have b:Own w.heap.size v v2 (v7 s.data.toList e (k+1)):=by rw[<-J4];exact f
   go_wp2_with (at_builtin;refine uy _ Z _ _ 22 22 Z _ _ Z Z _ _ h0 ?_)
   go_roundg (gk-1)
   case measure=>omega
   case rel=>exact⟨k+1,S,b,(t.trans (u.mono t.size)).trans l⟩
  .have kd:((L:Y)%136 != 0)=D:=by
    rw[bne_eq_false_iff_eq];have:=Hh.out;rw[hl]at this;omega
   have k8:k=135-s.data.toList.length%136:=oN Hh.out;obtain⟨x,hx⟩:∃x,cur[L-1]! = x:=⟨_,Z⟩
   obtain⟨c0,f0⟩:=uR hH (L-1) S hx;rw[Zs]at c0 f0;have k9:=Ro x;have K:=LI (l:=s.data.toList) (e:=e) (cur:=cur) (L:=L) (k:=k) k8 hL S hT;rw[hx]at K;have ht:=Holds.set hH (i:=L-1) S (x ^^^ 128);rw[Zs]at ht;have a:(total s.data.toList e).length=L:=by rw[tC];omega
   have v:FE encB (wr.setCell ⟨g,L-1,none⟩ (.int .u8 (ub (x ^^^ 128)))) g 0 (total s.data.toList e).toArray:=
    Holds.front ht (by rw[rh,kI,a];omega) (λj hj=>by rw[pP];exact(K j (by simpa[a]using hj)).symm)
   have T:Below w.heap.size w (wr.setCell ⟨g,L-1,none⟩ (.int .u8 (ub (x ^^^ 128)))):=t.setCell (p:=⟨g,L-1,none⟩) hg _;have h3:g<(wr.setCell ⟨g,L-1,none⟩ (.int .u8 (ub (x ^^^ 128)))).heap.size:=by rw[yFi];exact kv
   obtain⟨M,hM⟩:=vH (s.data.toList.length/136+1);have kp:L=136*M:=oN Hh.out;have k0:=mk1 (kp);have HM:=mk1 (hM);have ky:=hp.out;clear hM kp K ht hH hT hx hL ki kj own k8;go_wp2;clear ky c0 f0 kd tm k9;have hu:(wr.setCell ⟨g,L-1,none⟩ (.int .u8 (ub (x ^^^ 128)))).heap.size=wr.heap.size:=by rw[yFi]
   generalize wr.setCell ⟨g,L-1,none⟩ (.int .u8 (ub (x ^^^ 128)))=W2 at v T h3 hu⊢;have hm:FE encB (W2.alloc (.cells (madeCells #[.int .u8 0] 200) 5)) W2.heap.size 0 (mE (total s.data.toList e) 0):=Holds.made (enc:=encB) W2 5 200 0;have O:Below W2.heap.size W2 (W2.alloc (.cells (madeCells #[.int .u8 0] 200) 5)):=(ZF _ _).alloc (Zo _) _;have k6:W2.heap.size<(W2.alloc (.cells (madeCells #[.int .u8 0] 200) 5)).heap.size:=by simp
   have h7:=Holds.below v O h3;have b:=T.trans (O.mono T.size);have b8:=T.size;rw[hu]at hm k6 h3 b8;generalize kt:wr.heap.size=SG at *;generalize (W2.alloc _)=W3 at hm b k6 h7⊢;clear v T O kt hu;go_loopg [8,9] M (λg2 s8 s9 wr=>∃(i l sc:Nat),i+g2=M/\s9=.int .i64 ((136*i:Nat):Y)/\s8=.slice (J ⟨l,0,none⟩) 200 sc/\200<=sc/\w.heap.size<=l/\l≠g/\FE encB wr l 0 (mE (total s.data.toList e) i)/\FE encB wr g 0 (total s.data.toList e).toArray/\Below w.heap.size w wr)
   case atStart=>exact⟨0,SG,200,S,Z,Z,Zo _,S,S,hm,h7,b⟩
   case round =>
    obtain⟨i,l,sc,hi,rfl,rfl,k4,kx,kr,hS,v,t⟩:=hrel;have b5:(mE (total s.data.toList e) i).size=200:=by
     cases i with
     | zero=>rw[mE,Array.size_replicate]
     | succ i=>rw[mE,mJ,aW]
    have bq:=Holds.lt v (by rw[kI,a];omega);by_cases k5:i<M
    .have kk:((136*i:Nat):Y)<(L:Y):=oN k0.out;have bt:136*i+136<=L:=oN k0.out;generalize hI:136*i=I at *;have HI:E (136*i=I):=hI;go_wp2;generalize hR:mE (total s.data.toList e) i=R at *;have HR:E (R=mE (total s.data.toList e) i):=hR.symm;go_loopg [10] 136 (λg3 s10 wq=>∃(k:Nat) (st:Bs),k+g3=136/\s10=.int .i64 k/\FE encB wq l 0 st/\Only l 0 200 wr wq/\E (st=uY R (total s.data.toList e) I k))
     case atStart=>exact⟨0,_,Z,Z,hS,Only.refl _ _ _ _,Z⟩
     case round =>
      obtain⟨k,st,hk,rfl,h6,hO,HE⟩:=hrel;have h8:st.size=200:=by rw[HE.out,Br];exact b5
      have h2:=Holds.other v hO (Ne.symm kr) (by rw[kI,a];omega);by_cases bc:k<136
      .obtain⟨y,C⟩:∃y,(total s.data.toList e)[I+k]! = y:=⟨_,Z⟩
       obtain⟨c0,f0⟩:=uR (x:=y) h2 (I+k) (by rw[kI,a];omega) (by rw[pP];exact C);obtain⟨z,f⟩:∃z,st[k]! = z:=⟨_,Z⟩
       obtain⟨c1,f1⟩:=uR h6 k S f;rw[Zs]at c0 c1 f1;have HY:=mk1 (C);have HZ:E (st[k]! = z):=f;have W:(k:Y)<136:=S;have V:(k:Y)<200:=S;have bu:(0:Y)<=(I:Y)+(k:Y):=S;have br:(I:Y)+(k:Y)<(L:Y):=S;have X:((I:Y)+(k:Y)).toNat=I+k:=S;have bo:ZN.wrap ((I:Y)+(k:Y))=(I:Y)+(k:Y):=po _ S;clear C f f0 h2;go_wp2_with fail
       go_still_tail 14,mixed;go_wp2;go_roundg (gk-1)
       case measure=>omega
       case rel =>
        refine⟨k+1,st.setIfInBounds k (z ^^^ y),S,by go_num,?_,?_,?_⟩
        .have:=Holds.set h6 (i:=k) S (z ^^^ y);rw[Zs]at this;exact Holds.drew this
        .exact(hO.setCell (o:=k) S S _).drew
        .show _=(uY R (total s.data.toList e) I k).setIfInBounds k ((uY R (total s.data.toList e) I k)[k]! ^^^ (total s.data.toList e)[I+k]!);rw[<-HE.out,HZ.out,HY.out]
      .have hr:k=136:=S;subst hr;have bf:=Holds.lt h6 S;have kc:=conv_str prog 22 9 5 slice22 int5 str9 _ l 0 200 sc st h6 h8;have h4:=t.trans (hO.below t.size kx);obtain⟨V,f⟩:=vH (mJ st);have W:V.size=200:=by rw[<-f,mJ,aW]
       have b9:E (V=mE (total s.data.toList e) (i+1)):=by
        show V=mJ (uY (mE (total s.data.toList e) i) (total s.data.toList e) (136*i) 136);rw[<-HR.out,HI.out,<-HE.out,f]
       have hw:=mk1 (f.symm);go_wp2_with fail
       refine(oU ⟨st⟩ _ h8).mono ?_;rintro r w5 ⟨rfl,b⟩;have e5:=congrArg yDP hw.symm;rw[e5];obtain⟨he,w6,k7,C,h5,X⟩:=Jk w5 (p:=V) W;have k1:=Holds.lt h2 (by rw[kI,a];omega);have ba:=Zn k1 b.size;have kz:=Holds.below (Holds.below h2 b k1) X ba;have hc:=(h4.trans (b.mono h4.size)).trans (X.mono (by have:=b.size;have:=h4.size;omega));rw[b9.out]at h5;have kw:w.heap.size<=w5.heap.size:=by have:=b.size;have:=h4.size;omega
       go_wp2;go_roundg (M-(i+1))
       case measure=>omega
       case rel=>exact⟨i+1,w5.heap.size,he,S,by rw[<-HI.out];go_num,Z,C,kw,S,h5,kz,hc⟩
    .have ku:i=M:=S;have b3:(L:Y)<=((136*i:Nat):Y):=oN k0.out;obtain⟨d,hd⟩:=vH (lC s.data.toList e);obtain⟨F,hF⟩:=vH (front (dX d 0) 200);have b7:FE encB wr l 0 F:=by
      have:=Ec (l:=s.data.toList) (e:=e);rw[HM.out,<-ku,hd]at this;rw[this]at hS;rw[<-hF,dX];exact hS
     have b4:d.size=25:=by rw[<-hd];exact qJ (l:=s.data.toList) (e:=e)
     have b6:=mk1 (hd.symm);have k3:=mk1 (hF.symm);generalize hI:136*i=I at *;have b2:decide (I<L)=D:=decide_eq_false S;go_wp2;go_loopg [8,11] (n+136) (λg4 s8 s11 wq=>∃(m l sc:Nat) (o:Fd) (Fm:Bs),136*m+g4=n+136/\1<=g4/\s11=.string o/\o.size=136*m/\s8=.slice (J ⟨l,0,none⟩) 200 sc/\200<=sc/\FE encB wq l 0 Fm/\Fm.size=200/\Below w.heap.size w wq/\E (Fm=front (dX d m) 200)/\E (∀j,j<136*m->o.data[j]! = dM d j))
     case atStart=>exact⟨0,l,sc,Fd.empty,F,S,S,Z,Z,Z,k4,b7,by rw[k3.out,aW],t,k3,λj hj=>S⟩
     case round =>
      obtain⟨m,l,sc,o,Fm,h3,be,rfl,ho,rfl,k4,hF,ka,t,HF,HO⟩:=hrel;have Ho:=mk1 (ho);by_cases k5:o.size<n
      .have kk:(o.size:Y)<(n:Y):=S;obtain⟨Q,hQ⟩:=vH (front (dX d m) 136);have k2:Q.size=136:=by rw[<-hQ,aW]
       have km:∀j,j<136->Q[j]! = byteOf (dX d m) j:=λj hj=>by rw[<-hQ,kW hj]
       have kn:FE encB wr l 0 Q:=by
        have h1:=EM (dX d m);rw[<-HF.out,hQ]at h1;exact Holds.front hF h1.1 h1.2
       have kb:=MX (o:=o) (d:=d) (m:=m) (p:=Q) k2 km ho HO;have kf:=mk1 (kb);obtain⟨V,f⟩:=vH (mJ Fm);have W:V.size=200:=by rw[<-f,mJ,aW]
       have HN:E (V=front (dX d (m+1)) 200):=by
        show V=front (perm (dX d m)) 200;rw[<-f,HF.out,Eo (dA (d:=d) b4 m)]
       have hw:=mk1 (f.symm);have bh:=conv_str prog 22 9 5 slice22 int5 str9 wr l 0 136 sc Q kn k2;have bp:=conv_str prog 22 9 5 slice22 int5 str9 wr l 0 200 sc Fm hF ka;clear hQ km kn kb f HO ho;go_wp2_with fail
       refine(oU ⟨Fm⟩ _ ka).mono ?_;rintro r w5 ⟨rfl,b⟩;have e5:=congrArg yDP hw.symm;rw[e5];clear e5;obtain⟨he,w6,k7,C,h5,X⟩:=Jk w5 (p:=V) W;have hc:Below w.heap.size w w6:=(t.trans (b.mono t.size)).trans (X.mono (by have:=b.size;have:=t.size;omega));go_wp2;go_roundg (gk-136)
       case measure=>have:=Ho.out;omega
       case rel=>exact⟨m+1,w5.heap.size,he,o++(yDP Q),V,oN Ho.out,oN Ho.out,Z,kf.1,Z,C,h5,W,hc,HN,kf.2⟩
      .have b3:(n:Y)<=(o.size:Y):=S;have f:=Cy (o:=o) (d:=d) n (m:=m) ho S HO;have C:E (o.extract 0 n=⟨iK d n⟩):=f;clear f ho HO;go_wp2;go_ret;rw[<-b6.out,<-C.out];exact⟨Z,t⟩
end SP
namespace SP
def Ed(s:Fd)(w:Zl)(hs:s.size<=1048576):
 ae prog 141 #[.string s] w λr w'=>r=.returned (.string ⟨BZ s.data.toList⟩)/\Below w.heap.size w w':=by
 go_enter func141,ntmps141;go_wp2_with fail
 apply(rK s 6 32 _ hs dC).mono;rintro r b ⟨rfl,k⟩;rw[<-EK];go_wp2;go_ret;exact⟨Z,k⟩
def Bg(s:Fd)(n:I)(w:Zl)(hs:s.size<=1048576)(b:n<=16384):
 ae prog 198 #[.string s,.int .i64 n] w λr w'=>r=.returned (.string ⟨oH s.data.toList n⟩)/\Below w.heap.size w w':=by
 go_enter func198,ntmps198;go_wp2_with fail
 apply(rK s 31 n _ hs b).mono;rintro r c ⟨rfl,k⟩;go_wp2;go_ret;exact⟨Z,k⟩
def zJ(b:Fd)(O:GJ gE)(u:I)(c:G Fd)(w:Zl)(v:b.size<=1048576)(W:c.length<=1048576)
 (l:c.length=0\/∃i f,O=J ⟨i,f,F⟩/\∀j,j<c.length->w.cell? ⟨i,f+j,F⟩=J (.string c[j]!)) (K:∀j,j<c.length->(c[j]!).size<=1048576)
 (d:(bR b.data.toList (c.map λs=>s.data.toList)).length<=1048576) :
 ae prog 69 #[.string b,.slice O c.length u] w λe w'=>e=.returned (.string ⟨kH b.data.toList (c.map λs=>s.data.toList)⟩)/\Below w.heap.size w w':=by
 obtain⟨n,Q⟩:=vH c.length;rw[Q];have m:E (c.length=n):=Q;go_enter func69,ntmps69;go_wp2_with fail
 apply(Cp b _ v).mono;rintro e w1 ⟨X,rfl,L,N⟩;go_wp2;go_loopg [5,6] n (λg s5 s6 wr=>∃(k:I) (o:Fd),k+g=n/\s6=.int .i64 k/\s5=.string o/\Below w.heap.size w wr/\E (o.data.toList=bR b.data.toList ((c.map λs=>s.data.toList).take k)))
 case atStart =>
  refine⟨0,X,S,Z,Z,N,?_⟩;rw[xu];rw[bR,G.flatMap_nil,ug];exact L
 case round =>
  obtain⟨k,o,hk,rfl,rfl,t,A⟩:=hrel;by_cases V:k<n
  .obtain⟨i,f,rfl,z⟩:∃i f,O=J ⟨i,f,F⟩/\∀j,j<c.length->w.cell? ⟨i,f+j,F⟩=J (.string c[j]!):=by
    rcases l with h|h
    .have:=m;omega
    .exact h
   have d:=z k (oN m);have l:=K k (oN m);obtain⟨s,hs⟩:∃s,c[k]! = s:=⟨_,Z⟩
   rw[hs]at d l;have HS:=mk1 (hs.symm);have T:wr.cell? ⟨i,f+k,F⟩=J (.string s):=by rw[t.cell (p:=⟨i,f+k,F⟩) (vj _ _ d)];exact d
   have l1:(k:Y)<(n:Y):=S;clear hs d z;go_wp2_with fail
   apply(Cp s _ l).mono;rintro e w2 ⟨a,rfl,y,M⟩;have C:=mk1 (y);have x:o.size<=1048576:=by
    have h1:o.data.toList.length=o.size:=ZE;rw[A.out]at h1;have:=C6 (b:=b.data.toList) (c:=(c.map λs=>s.data.toList)) (k:=k);omega
   have P:a.size<=1048580:=by
    have h1:a.data.toList.length=a.size:=ZE;have q:s.data.toList.length=s.size:=ZE;rw[y,jP]at h1;omega
   go_wp2;go_roundg (gk-1)
   case measure=>omega
   case rel =>
    refine⟨k+1,o++a,S,by go_num,Z,t.trans (M.mono t.size),?_⟩;have q:k<(c.map λs=>s.data.toList).length:=by rw[ZI];have:=m;omega
    have r:k<c.length:=oN m;rw[oD _ k q,uJ,yDj,R.toList_append,A.out,C.out,getElem!_pos (c.map λs=>s.data.toList) k q,G.getElem_map,HS.out,getElem!_pos c k r];rfl
  .have l1:(n:Y)<=(k:Y):=S;have d:E (o.data.toList=bR b.data.toList (c.map λs=>s.data.toList)):=by
    have f:(c.map λs=>s.data.toList).take k=c.map λs=>s.data.toList:=G.take_of_length_le (by rw[ZI];have:=m;omega)
    rw[f]at A;exact A
   have x:o.size<=1048576:=by
    have h1:o.data.toList.length=o.size:=ZE;rw[d.out]at h1;omega
   go_wp2_with fail
   apply(Ed o _ x).mono;rintro e i ⟨rfl,f⟩;rw[d.out];go_wp2;go_ret;exact⟨Z,t.trans (f.mono t.size)⟩
def RLog(w:Zl)(y:I)(L:Bs):Prop:=w.cell? ⟨y,0,F⟩=J (.string ⟨L⟩)/\w.frozen? ⟨y,0,F⟩=D
def LN{vs:R Zm}{k:G Fd}(hl:vs.size=k.length)(h:∀j,j<k.length->vs[j]! = .string k[j]!):
 ∀j,j<k.length->(W.alloc (.cells vs t)).cell? ⟨W.heap.size,0+j,F⟩=J (.string k[j]!):=by
 intro j c;have b:vs.map AE=vs:=by
  have:AE=id:=rfl;rw[this,yGh]
 have:=(Holds.new (enc:=AE) W t vs j S).1;rw[b,h j c]at this;exact this
def C5{k:G Fk}{b:G (G Fk)}(hl:k.length<=M)(c:∀p∈b,p.length<=M):(bR k b).length<=(b.length+1)*(M+4):=by
 rw[bR,Zv,jP];have:(b.flatMap jI).length<=b.length*(M+4):=by
  induction b with
  | nil=>simp
  | cons p b ih =>
   rw[yEb,Zv,jP,Z9,yGn];have h1:=c p (pw ..);have e:=ih (λq d=>c q (ps _ d));omega
 rw[yGn];omega
def rW{vs:R Zm}{k:G Fd}(b:Fd)(n:I)(W:Zl)(g:k.length=n)(hv:vs.size=k.length)(h:∀j,j<k.length->vs[j]! = .string k[j]!)(c:b.size<=16384)(i:n<=8)(hs:∀p∈k,p.size<=16384):
 cZ 69 #[.string b,sZ W.heap.size n n] (W.alloc (.cells vs 9)) λe w'=>e=.returned (.string ⟨kH b.data.toList (k.map λs=>s.data.toList)⟩)/\Below (W.alloc (.cells vs 9)).heap.size (W.alloc (.cells vs 9)) w':=by
 subst g;refine zJ b (J (aZ W.heap.size)) k.length k (W.alloc (.cells vs 9)) S S (ZW ⟨W.heap.size,0,Z,LN hv h⟩) (λj d=>?_) ?_
 .rw[getElem!_pos k j d];have:=hs _ (qs d);omega
 have:=C5 (by rw[ZE];exact c) (λp f=>by
  obtain⟨s,h1,rfl⟩:=Z1.1 f;rw[ZE];exact hs s h1)
 rw[ZI]at this;omega
def Mv{N:Bs}:RLog (w.alloc (.cells #[.string ⟨N⟩] t)) w.heap.size N:=by
 have:=Holds.new (enc:=AE) w t #[.string ⟨N⟩] 0 (by simp);have k:(#[yGd ⟨N⟩]).map AE=#[yGd ⟨N⟩]:=by
  have:AE=id:=rfl;rw[this,yGh]
 rw[k]at this;exact⟨this.1,this.2⟩
def F6(k:Fd)(w:Zl)(d:k.size<=16384):
 ae prog 68 #[.string k] w λe w'=>∃y,e=.returned (.pointer (J ⟨y,0,F⟩))/\w.heap.size<=y/\Below w.heap.size w w'/\RLog w' y (newL k.data.toList):=by
 have hT:=rW ⟨#[108,111,103]⟩ (vs:=#[.string k]) (k:=[k]) 1 w Z Z (λj i=>by
  have b:j=0:=by simpa using i
  subst b;rfl) dC dC (λp c=>by
  have:p=k:=by simpa using c
  rw[this];exact d)
 go_enter func68,ntmps68;go_wp2_with fail
 refine hT.mono ?_;rintro e l ⟨rfl,f⟩;have m:kH (⟨#[108,111,103]⟩:Fd).data.toList ([k].map λs=>s.data.toList)=newL k.data.toList:=rfl;rw[m];let⟨N,c⟩:∃N,newL k.data.toList=N:=⟨_,Z⟩
 rw[c];have b:=((ZF _ _).alloc (Zo _) _).trans (f.mono (by simp));have g:=b.size;go_wp2;go_ret;rw[<-(mk1 c.symm).out];exact⟨l.heap.size,Z,S,b.alloc S _,Mv⟩
def RLog.lt{L:Bs}(h:RLog w y L):y<w.heap.size:=vj _ _ h.1
def RLog.below{c:Zl}{L:Bs}(h:RLog w y L)(k:Below w.heap.size w c):RLog c y L:=by
 have d:=(Only.of_below (b:=w.heap.size) (off:=0) (n:=0) (B:=w.heap.size) k Z)
 have e:=k.block y h.lt;unfold RLog yy yDW at *;simp only at *;rw[e];exact h
def RLog.set{L:Bs}(h:RLog w y L)(M:Bs):RLog (w.setCell (aZ y) (.string ⟨M⟩)) y M:=by
 have h1:FE AE w y 0 #[.string ⟨L⟩]:=by
  intro j b;have k:j=0:=by simpa using b
  subst k;exact⟨h.1,h.2⟩
 have:=Holds.set h1 (i:=0) (by simp) (.string ⟨M⟩);have k:=this 0 (by simp);simp only[qg]at k;exact⟨by simpa[AE]using k.1,k.2⟩
def rX(y:I)(L:Bs)(k b:Fd)(w:Zl)(g:k.size<=16384)(q:b.size<=16384)(hl:L.size=32)(n:RLog w y L):
 ae prog 19 #[.pointer (J ⟨y,0,F⟩),.string k,.string b] w λe w'=>e=.returned (.tuple #[])/\Only y 0 1 w w'/\RLog w' y (iW L k.data.toList b.data.toList):=by
 have s:=n.lt;have hT:=rW ⟨#[115,97,121]⟩ (vs:=#[.string ⟨L⟩,.string k,.string b]) (k:=[⟨L⟩,k,b]) 3 w Z Z (λj t=>by
  match j,t with
  | 0,_=>rfl
  | 1,_=>rfl
  | 2,_=>rfl) dC dC (λp c=>by
  simp only[fT,ZJ,or_false]at c;rcases c with rfl|rfl|rfl
  .show L.size<=16384;omega
  .exact g
  exact q)
 let⟨N,d⟩:∃N,iW L k.data.toList b.data.toList=N:=⟨_,Z⟩
 have f:ae prog 69 #[.string ⟨#[115,97,121]⟩,.slice (J ⟨w.heap.size,0,F⟩) 3 3] (w.alloc (.cells #[.string ⟨L⟩,.string k,.string b] 9)) λe w'=>e=.returned (.string ⟨N⟩)/\Below (w.alloc (.cells #[.string ⟨L⟩,.string k,.string b] 9)).heap.size (w.alloc (.cells #[.string ⟨L⟩,.string k,.string b] 9)) w':=by
  rw[<-d];exact hT
 rw[d];have v:E (ae prog 69 #[.string ⟨#[115,97,121]⟩,.slice (J ⟨w.heap.size,0,F⟩) 3 3] (w.alloc (.cells #[.string ⟨L⟩,.string k,.string b] 9)) λe w'=>e=.returned (.string ⟨N⟩)/\Below (w.alloc (.cells #[.string ⟨L⟩,.string k,.string b] 9)).heap.size (w.alloc (.cells #[.string ⟨L⟩,.string k,.string b] 9)) w'):=f;have i:Below w.heap.size w (w.alloc (.cells #[.string ⟨L⟩,.string k,.string b] 9)):=(ZF _ _).alloc (Zo _) _;let⟨u,r⟩:=n
 clear hT f d;go_enter func19,ntmps19;go_wp2_with fail
 apply(v).mono;rintro e o ⟨rfl,m⟩;have c:Below w.heap.size w o:=i.trans (m.mono i.size);have l:Only y 0 1 w o:=Only.of_below c Z s;let⟨c2,f2⟩:=RLog.below ⟨u,r⟩ c
 go_wp2
 go_end0
 exact⟨Z,l.setCell S S _,RLog.set ⟨c2,f2⟩ N⟩
def Io{L:Bs}{k:Fd}(b:Fd)(c:b.size<=16384)(hl:L.size=32)(hs:k.size<=16384)(w:Zl):
 cZ 69 #[.string b,sZ w.heap.size 2 2] (w.alloc (.cells #[.string ⟨L⟩,.string k] 9)) λe w'=>e=.returned (.string ⟨kH b.data.toList [L.toList,k.data.toList]⟩)/\Below (w.alloc (.cells #[.string ⟨L⟩,.string k] 9)).heap.size (w.alloc (.cells #[.string ⟨L⟩,.string k] 9)) w':=
 rW b 2 w Z Z (λj f=>by
  match j,f with
  | 0,_=>rfl
  | 1,_=>rfl) c dC (λp d=>by
  simp only[fT,ZJ,or_false]at d;rcases d with rfl|rfl
  .show L.size<=16384;omega
  exact hs)
def Gc(y:I)(L:Bs)(k:Fd)(n:I)(w:Zl)(g:k.size<=16384)(hn:n<=1024)(hl:L.size=32)(C:RLog w y L):
 ae prog 143 #[.pointer (J ⟨y,0,F⟩),.string k,.int .i64 n] w λe w'=>e=.returned (.string ⟨xR L k.data.toList n⟩)/\Only y 0 1 w w'/\RLog w' y (nP L k.data.toList):=by
 have P:=C.lt;have hT:=Io ⟨#[97,115,107]⟩ dC hl g w;let⟨T,c⟩:∃T,kH [97,115,107] [L.toList,k.data.toList]=T:=⟨_,Z⟩
 have h0:T.size=32:=by rw[<-c,eG]
 let⟨N,j⟩:∃N,nP L k.data.toList=N:=⟨_,Z⟩
 let⟨A,l⟩:∃A,xR L k.data.toList n=A:=⟨_,Z⟩
 have O:E (oH T.toList n=A):=by
  show _=_;rw[<-l,<-c];rfl
 have W:E (kH [97,115,107,101,100] [L.toList,k.data.toList]=N):=j;have K:E (ae prog 69 #[.string ⟨#[97,115,107]⟩,.slice (J ⟨w.heap.size,0,F⟩) 2 2] (w.alloc (.cells #[.string ⟨L⟩,.string k] 9)) λe w'=>e=.returned (.string ⟨T⟩)/\Below (w.alloc (.cells #[.string ⟨L⟩,.string k] 9)).heap.size (w.alloc (.cells #[.string ⟨L⟩,.string k] 9)) w'):=by
  show ae _ _ _ _ _;rw[<-c];exact hT
 rw[j,l];have m:Below w.heap.size w (w.alloc (.cells #[.string ⟨L⟩,.string k] 9)):=(ZF _ _).alloc (Zo _) _;let⟨c0,M⟩:=C
 clear hT j l c;go_enter func143,ntmps143;go_wp2_with fail
 apply(K).mono;rintro e w2 ⟨rfl,p⟩;have i:Below w.heap.size w w2:=m.trans (p.mono m.size);clear K m p;go_wp2_with fail
 refine(Bg ⟨T⟩ n _ (by show T.size<=1048576;omega) S).mono ?_;rintro e b ⟨rfl,a⟩;rw[O.out];have f:Below w.heap.size w b:=i.trans (a.mono i.size);have o:=RLog.below ⟨c0,M⟩ f;have t:Only y 0 1 w b:=Only.of_below f Z P;have s:=o.lt;let⟨V,f3⟩:=o
 have v:=Io ⟨#[97,115,107,101,100]⟩ dC hl g b;have z:E (ae prog 69 #[.string ⟨#[97,115,107,101,100]⟩,.slice (J ⟨b.heap.size,0,F⟩) 2 2] (b.alloc (.cells #[.string ⟨L⟩,.string k] 9)) λe w'=>e=.returned (.string ⟨N⟩)/\Below (b.alloc (.cells #[.string ⟨L⟩,.string k] 9)).heap.size (b.alloc (.cells #[.string ⟨L⟩,.string k] 9)) w'):=by
  show ae _ _ _ _ _;rw[<-W.out];exact v
 have q:Below b.heap.size b (b.alloc (.cells #[.string ⟨L⟩,.string k] 9)):=(ZF _ _).alloc (Zo _) _;go_wp2_with fail
 apply(z).mono;rintro e w5 ⟨rfl,u⟩;have d:=q.trans (u.mono q.size);have x:=RLog.below ⟨V,f3⟩ d;have r:=t.trans (Only.of_below d Z s);let⟨X,Q⟩:=x
 go_wp2;go_ret;exact⟨Z,r.setCell S S _,RLog.set ⟨X,Q⟩ N⟩
end SP
def yE{k b p0 p1 p2 c1 c2 d x1 x2 f e l:I}(h:IS w k [⟨k,0,p0,p1,p2,c⟩,⟨k,4,m,c1,c2,i⟩,⟨b,0,d,x1,x2,f⟩,⟨b,4,e,j,l,g⟩,⟨n,0,0,0,0,0⟩] W):W.cell? ⟨k,0,F⟩=J (U p0)/\W.cell? ⟨k,1,F⟩=J (U p1)/\W.cell? ⟨k,2,F⟩=J (U p2)/\W.cell? ⟨k,3,F⟩=J (U c)/\W.cell? ⟨k,4,F⟩=J (U m)/\W.cell? ⟨k,5,F⟩=J (U c1)/\W.cell? ⟨k,6,F⟩=J (U c2)/\W.cell? ⟨k,7,F⟩=J (U i)/\W.cell? ⟨b,0,F⟩=J (U d)/\W.cell? ⟨b,1,F⟩=J (U x1)/\W.cell? ⟨b,2,F⟩=J (U x2)/\W.cell? ⟨b,3,F⟩=J (U f)/\W.cell? ⟨b,4,F⟩=J (U e)/\W.cell? ⟨b,5,F⟩=J (U j)/\W.cell? ⟨b,6,F⟩=J (U l)/\W.cell? ⟨b,7,F⟩=J (U g)/\IS w k [⟨k,0,p0,p1,p2,c⟩,⟨k,4,m,c1,c2,i⟩,⟨b,0,d,x1,x2,f⟩,⟨b,4,e,j,l,g⟩,⟨n,0,0,0,0,0⟩] W:=
 ⟨h.head.c0,h.head.c1,h.head.c2,h.head.c3,h.tail.head.c0,h.tail.head.c1,h.tail.head.c2,h.tail.head.c3,h.tail.tail.head.c0,h.tail.tail.head.c1,h.tail.tail.head.c2,h.tail.tail.head.c3,h.tail.tail.tail.head.c0,h.tail.tail.tail.head.c1,h.tail.tail.tail.head.c2,h.tail.tail.tail.head.c3,h⟩
def J8{v:Zm}{B:I}(c:GS v n)(d:B<256):n*val 256 0 0 0+(val B 0 0 0+top*val 0 0 0 0)<top*top:=by
 have h1:=c.lt;have k:val 256 0 0 0=256:=rfl;have b:val B 0 0 0=B:=by unfold val;omega
 have e3:val 0 0 0 0=0:=rfl;have e:(top-1)*256+256<=top*top:=by unfold top;decide
 rw[k,b,e3];omega
def Nj{P k:I}{s:Fd}(b:k<s.size):
 (beV (s.data.extract 0 k).toList%P*val 256 0 0 0+(val s[k].toNat 0 0 0+top*val 0 0 0 0))%P=beV (s.data.extract 0 (k+1)).toList%P:=by
 have e:(s.data.extract 0 (k+1)).toList=(s.data.extract 0 k).toList++[s[k]]:=by
  rw[R.extract_succ_right S b,R.toList_push];rfl
 have c:val 256 0 0 0=256:=rfl;have d:val s[k].toNat 0 0 0=s[k].toNat:=by unfold val;omega
 have e3:val 0 0 0 0=0:=rfl;rw[e,gI,c,d,e3,xe,qg,yn,tn,I.mod_mod,<-tn,<-yn];simp[beV]
theorem MG(p0 p1 p2 i l c1 c2 j P:I)(s:Fd)(hR:RefP p0 p1 p2 i l c1 c2 j P)(hs:s.size<=1048576)(w:Zl):
 ae prog 142 #[.agg #[.int .u64 p0,.int .u64 p1,.int .u64 p2,.int .u64 i,.int .u64 l,.int .u64 c1,.int .u64 c2,.int .u64 j],.string s] w (Ret λe w'=>Below w.heap.size w w'/\GS e (beV s.data.toList%P)):=by
 have p:E (RefP p0 p1 p2 i l c1 c2 j P):=hR;clear hR;go_enter func142,ntmps142;go_wp2;have FR:=((At8.made w 54 p0 p1 p2 i l c1 c2 j Z).alloc (.cells #[.int .u64 0,.int .u64 0,.int .u64 0,.int .u64 0] 46)).alloc (.cells #[.int .u64 0,.int .u64 0,.int .u64 0,.int .u64 0] 46);have RE:=(At4.made (w.alloc (.cells #[.int .u64 p0,.int .u64 p1,.int .u64 p2,.int .u64 i,.int .u64 l,.int .u64 c1,.int .u64 c2,.int .u64 j] 54)) 46 0 0 0 0 (Zy _ _)).alloc (.cells #[.int .u64 0,.int .u64 0,.int .u64 0,.int .u64 0] 46);have NN:=At4.made ((w.alloc (.cells #[.int .u64 p0,.int .u64 p1,.int .u64 p2,.int .u64 i,.int .u64 l,.int .u64 c1,.int .u64 c2,.int .u64 j] 54)).alloc (.cells #[.int .u64 0,.int .u64 0,.int .u64 0,.int .u64 0] 46)) 46 0 0 0 0 (k:=w.heap.size+1+1) (by simp);have f:=((((Kept.mk1 (below3 (w:=w) (.cells #[.int .u64 p0,.int .u64 p1,.int .u64 p2,.int .u64 i,.int .u64 l,.int .u64 c1,.int .u64 c2,.int .u64 j] 54) (.cells #[.int .u64 0,.int .u64 0,.int .u64 0,.int .u64 0] 46) (.cells #[.int .u64 0,.int .u64 0,.int .u64 0,.int .u64 0] 46)) (below3 (w:=w) (.cells #[.int .u64 p0,.int .u64 p1,.int .u64 p2,.int .u64 i,.int .u64 l,.int .u64 c1,.int .u64 c2,.int .u64 j] 54) (.cells #[.int .u64 0,.int .u64 0,.int .u64 0,.int .u64 0] 46) (.cells #[.int .u64 0,.int .u64 0,.int .u64 0,.int .u64 0] 46)).size).cons RE.blk).cons NN.blk).cons (x:=⟨w.heap.size,4,l,c1,c2,j⟩) ⟨FR.c4,FR.c5,FR.c6,FR.c7,FR.fz⟩).cons (x:=⟨w.heap.size,0,p0,p1,p2,i⟩) ⟨FR.c0,FR.c1,FR.c2,FR.c3,FR.fz⟩;clear FR RE NN;generalize pn _ _=W0 at f⊢;go_loopg [6] s.size (λgk s6 wr=>∃(k a b c d:I),k+gk=s.size/\s6=.int .i64 k/\IS w w.heap.size [⟨w.heap.size,0,p0,p1,p2,i⟩,⟨w.heap.size,4,l,c1,c2,j⟩,⟨w.heap.size+1+1,0,a,b,c,d⟩,⟨w.heap.size+1,0,0,0,0,0⟩] wr /\
  E (GS (.agg #[.int .u64 a,.int .u64 b,.int .u64 c,.int .u64 d]) (beV (s.data.extract 0 k).toList%P)))
 case atStart =>
  refine⟨0,0,0,0,0,Zs _,Z,f,?_⟩;have:beV (s.data.extract 0 0).toList=0:=by simp[beV]
  rw[this,I.zero_mod];exact Four.mk dC dC dC dC Z
 case round =>
  clear f;obtain⟨k,a,b,c,d,hk,rfl,f,HF⟩:=hrel;generalize h2:w.heap.size+1+1=X at f⊢;generalize h1:w.heap.size+1=k1 at f⊢;have H:E (w.heap.size+1=k1/\w.heap.size+1+1=X):=⟨h1,h2⟩
  have Q1:E (w.heap.size<=k1):=by unfold E;omega
  have Q2:E (w.heap.size<=X):=by unfold E;omega
  have n12:X≠k1:=S;have L:X≠w.heap.size:=S;generalize h0:w.heap.size=g at f Q1 Q2 L⊢;have H0:E (w.heap.size=g):=h0;clear h0 h1 h2;obtain⟨hj,hb,ha,hc,nf⟩:=f.tail.tail.head.at4;have z2:=f.tail.tail.head.lt;by_cases hg:k<s.size
  .have hr:(k:Y)<(s.size:Y):=S;go_wp2_with fail
   apply(mV _ _ _ _ HF (Four.mk (a:=256) (b:=0) (c:=0) (d:=0) dC dC dC dC Z) _).mono;rintro r V ⟨v,rfl,h9,y⟩;obtain⟨q,x1,x2,N,t,C,W,u,rfl,k6,ki,hu,k9,hz,k4,kd,kf,hi⟩:=id y;clear hi hj hb ha hc nf z2;replace f:=f.call h9;clear h9;have o:=At8.made V 141 q x1 x2 N t C W u Z;have n:=f.tail.tail.head.at4.alloc (.cells #[.int .u64 q,.int .u64 x1,.int .u64 x2,.int .u64 N,.int .u64 t,.int .u64 C,.int .u64 W,.int .u64 u] 141);have h5:IS w g [⟨g,0,p0,p1,p2,i⟩,⟨g,4,l,c1,c2,j⟩,⟨V.heap.size,0,q,x1,x2,N⟩,⟨V.heap.size,4,t,C,W,u⟩,⟨k1,0,0,0,0,0⟩] _:=
    ((((f.alloc _).tail.tail.tail.cons (x:=⟨V.heap.size,4,t,C,W,u⟩) ⟨o.c4,o.c5,o.c6,o.c7,o.fz⟩).cons (x:=⟨V.heap.size,0,q,x1,x2,N⟩) ⟨o.c0,o.c1,o.c2,o.c3,o.fz⟩).cons (x:=⟨g,4,l,c1,c2,j⟩) (f.alloc _).tail.head).cons (x:=⟨g,0,p0,p1,p2,i⟩) (f.alloc _).head
   have z:X≠V.heap.size:=I.ne_of_lt f.tail.tail.head.lt;clear o f;have f:=h5;clear h5;have z0:=f.head.lt;go_wp2_with fail
   generalize pn _ _=W7 at f n⊢;generalize V.heap.size=m at f z⊢;have O:∀x∈([⟨g,0,p0,p1,p2,i⟩,⟨g,4,l,c1,c2,j⟩,⟨m,0,q,x1,x2,N⟩,⟨m,4,t,C,W,u⟩,⟨k1,0,0,0,0,0⟩]:G Blk),X≠x.k:=by simp only[fT,ZJ,or_false];rintro x (rfl|rfl|rfl|rfl|rfl);exact L;exact L;exact z;exact z;exact n12
   have hn:E (nV _ _):=y;obtain⟨B,hB⟩:=vH (s[k].toNat);have T:B<256:=hB ▸ s[k].toNat_lt;have ke:cW.wrap (s[k].toNat:Y)=(B:Y):=by rw[hB];exact wrapN S
   have h6:E _:=Nj (P:=P) (s:=s) (k:=k) hg;have HB:E (s[k].toNat=B):=hB;clear y hB z0;obtain⟨h7,h4,h8,h3,tf⟩:=id n;have zt:=n.lt;go_region_held3 (λw'=>w'.cell? ⟨g,0,F⟩=J (.int .u64 p0)/\w'.cell? ⟨g,1,F⟩=J (.int .u64 p1)/\w'.cell? ⟨g,2,F⟩=J (.int .u64 p2)/\w'.cell? ⟨g,3,F⟩=J (.int .u64 i)/\w'.cell? ⟨g,4,F⟩=J (.int .u64 l)/\w'.cell? ⟨g,5,F⟩=J (.int .u64 c1)/\w'.cell? ⟨g,6,F⟩=J (.int .u64 c2)/\w'.cell? ⟨g,7,F⟩=J (.int .u64 j)/\w'.cell? ⟨m,0,F⟩=J (.int .u64 q)/\w'.cell? ⟨m,1,F⟩=J (.int .u64 x1)/\w'.cell? ⟨m,2,F⟩=J (.int .u64 x2)/\w'.cell? ⟨m,3,F⟩=J (.int .u64 N)/\w'.cell? ⟨m,4,F⟩=J (.int .u64 t)/\w'.cell? ⟨m,5,F⟩=J (.int .u64 C)/\w'.cell? ⟨m,6,F⟩=J (.int .u64 W)/\w'.cell? ⟨m,7,F⟩=J (.int .u64 u)/\IS w g [⟨g,0,p0,p1,p2,i⟩,⟨g,4,l,c1,c2,j⟩,⟨m,0,q,x1,x2,N⟩,⟨m,4,t,C,W,u⟩,⟨k1,0,0,0,0,0⟩] w') (first|exact yE f|exact yE f.drew|exact yE (f.set4' Q2 O _ _ _ _)|exact yE (f.set4' Q2 O _ _ _ _).drew) (first|(go_at_call 76;apply(vM _ _ _ _ hn ⟨B,0,0,0,0,0,0,0,Z,S,dC,dC,dC,dC,dC,dC,dC,Z⟩ (J8 HF T) _).mono;rintro r w2 ⟨v,rfl,A,K⟩;obtain⟨y0,y1,y2,y3,y4,y5,y6,y7,rfl,kg,hw,ka,kh,hy,k3,k5,ht,he⟩:=id K;clear he;have hp:E (nV _ _):=K;clear K;replace f:=f.cl A;replace n:=n.cl A;clear A;obtain⟨h7,h4,h8,h3,tf⟩:=id n;have zt:=n.lt)|(go_at_call 72;apply(vQ p0 p1 p2 i l c1 c2 j P _ _ p.hp0 p.hp1 p.hp2 p.hp3 p.hc0 p.hc1 p.hc2 p.hc3 p.eP p.hP p.hP2 hp _).mono;rintro r w3 ⟨v,rfl,M,Q⟩;obtain⟨a',b',c',d',rfl,kj,kc,kb,k8,hm⟩:=id Q;clear hm;have hq:E (GS _ _):=Q;clear Q;replace f:=f.cl M;replace n:=n.cl M;clear M;obtain⟨h7,h4,h8,h3,tf⟩:=id n;have zt:=n.lt))
   go_wp2;obtain⟨q1,q2⟩:=H;have q0:=H0;subst q1 q2 q0;go_roundg (gk-1)
   case measure=>omega
   case rel =>
    refine⟨k+1,a',b',c',d',S,Z,?_,?_⟩
    .have K3:=f.set4' Q2 O (.int .u64 a') (.int .u64 b') (.int .u64 c') (.int .u64 d');exact(((K3.tail.tail.tail.tail).cons (n.self4 a' b' c' d').blk).cons K3.tail.head).cons K3.head
    .have h1:=hq;rw[HB.out]at h6;rw[E,<-h6.out];exact h1
  .have m:k=s.size:=S;have z:¬((k:Y)<(s.size:Y)):=S;obtain⟨o,u,q,y,C⟩:=f.tail.tail.tail.head.at4;have A:=f.tail.tail.tail.head.lt;have t:E (k=s.size):=m;clear m;go_wp2;have n:=f.tail.tail.tail.head.at4.self4 a b c d;unfold set4 at n;refine Zx (by simp[results,Tryz.results142,go_sem,n.c0,n.c1,n.c2,n.c3];rfl) Z ?_;refine⟨_,Z,?_,?_⟩
   .rw[H0.out];exact aH f.bl Q1
   .have:=HF;rw[t.out,show s.size=s.data.size from Z,R.extract_size]at this;exact this
def rl0:G Zm:=[U 18446744069414583343,U 18446744073709551615,U 18446744073709551615,U 18446744073709551615,U 4294968273,U 0,U 0,U 0]
def rv0:Zm:=.agg rl0.toArray
structure Fl3(P:I)[NeZero P]:Prop extends IO P where
 ref:RefP 18446744069414583343 18446744073709551615 18446744073709551615 18446744073709551615 4294968273 0 0 0 P
def P5:FL 67 #[iZ 0] rv0:=λw=>(TK w).mono (by rintro e w' ⟨v,rfl,k,rfl⟩;exact⟨_,Z,k,Z⟩)
def sF{x y:B P}(h:Fl3 P):FL 25 #[rv0,fv x,fv y] (fv (x+y)):=λw =>
 (MK h.ref (h.four x) (h.four y)).mono (by rintro e w' ⟨v,rfl,k,b⟩;exact⟨_,Z,k,b.nv⟩)
def bD{x y:B P}(h:Fl3 P):FL 21 #[rv0,fv x,fv y] (fv (x*y)):=λw =>
 (vP h.ref (h.four x) (h.four y)).mono (by rintro e w' ⟨v,rfl,k,b⟩;exact⟨_,Z,k,b.nv⟩)
def mZ{x y:B P}(h:Fl3 P):FL 27 #[rv0,fv x,fv y] (fv (x-y)):=λw =>
 (Eh _ _ _ _ _ _ _ _ P _ _ x.val y.val h.ref (h.four x) (h.four y) y.isLt w).mono (by rintro e w' ⟨v,rfl,b,k⟩;rw[mT]at k;exact⟨_,Z,b,k.nv⟩)
def TI{x:B P}(h:Fl3 P):FL 26 #[rv0,fv x] (fv (0-x)):=λw =>
 (tW _ _ _ _ _ _ _ _ P _ x.val h.ref (h.four x) x.isLt w).mono (by
  rintro e w' ⟨v,rfl,b,k⟩;rw[show(P-x.val)%P=(0-x:B P).val by rw[<-mT,val_zero,Zs]]at k;exact⟨_,Z,b,k.nv⟩)
def PZ(h:Fl3 P){x:B P}(e:x=0):FL 71 #[fv x] tZ:=λw =>
 (qR _ _ (h.four x) w).mono (by
  rintro e w' ⟨v,rfl,k,rfl⟩;refine⟨_,Z,k,?_⟩;rw[decide_eq_true (by rw[e,val_zero])])
def Ix(h:Fl3 P){x:B P}(e:¬x=0):FL 71 #[fv x] fZ:=λw =>
 (qR _ _ (h.four x) w).mono (by
  rintro e w' ⟨v,rfl,k,rfl⟩;refine⟨_,Z,k,?_⟩;rw[decide_eq_false (λh=>e (B.ext (by rw[val_zero];exact h)))])
def vO(h:Fl3 P):FL 24 #[U 1] (fv (1:B P)):=λw =>
 (kT dC).mono (by rintro e w' ⟨v,rfl,k,rfl⟩;exact⟨_,Z,k,CQ h.toFld⟩)
def BJ(h:Fl3 P):FL 24 #[U 7] (fv (7:B P)):=λw =>
 (kT dC).mono (by rintro e w' ⟨v,rfl,k,rfl⟩;exact⟨_,Z,k,zF h.toFld⟩)
def eqR(h:IO P)(x y:B P)(w:Zl):(binOp .eql 46 (fv x) (fv y)).run prog w=.ok (.bool (decide (x=y))) w:=by
 have h1:(binOp .eql 46 (fv x) (fv y)).run prog w=.ok (.bool (decide (x.val%18446744073709551616=y.val%18446744073709551616/\x.val/18446744073709551616%18446744073709551616=y.val/18446744073709551616%18446744073709551616/\x.val/340282366920938463463374607431768211456%18446744073709551616=y.val/340282366920938463463374607431768211456%18446744073709551616/\x.val/6277101735386680763835789423207666416102355444464034512896%18446744073709551616=y.val/6277101735386680763835789423207666416102355444464034512896%18446744073709551616))) w:=by
  show(binOp .eql 46 (.agg _) (.agg _)).run prog w=_;rw[run_eql_struct];have k:=Sk 9998 (x.val%18446744073709551616) (x.val/18446744073709551616%18446744073709551616) (x.val/340282366920938463463374607431768211456%18446744073709551616) (x.val/6277101735386680763835789423207666416102355444464034512896%18446744073709551616) (y.val%18446744073709551616) (y.val/18446744073709551616%18446744073709551616) (y.val/340282366920938463463374607431768211456%18446744073709551616) (y.val/6277101735386680763835789423207666416102355444464034512896%18446744073709551616) w;unfold wn;rw[k,lp]
 rw[h1];simp only[vF (h.top x) (h.top y),<-yFO]
def WT(h:IO P){x y:B P}(e:x=y)(w:Zl):(binOp .eql 46 (fv x) (fv y)).run prog w=.ok tZ w:=by rw[eqR h,decide_eq_true e]
def WU(h:IO P){x y:B P}(e:¬x=y)(w:Zl):(binOp .eql 46 (fv x) (fv y)).run prog w=.ok fZ w:=by rw[eqR h,decide_eq_false e]
def neR(h:IO P)(x y:B P)(w:Zl):(binOp .neq 46 (fv x) (fv y)).run prog w=.ok (.bool (!decide (x=y))) w:=by
 have h1:(binOp .neq 46 (fv x) (fv y)).run prog w=.ok (.bool (!decide (x.val%18446744073709551616=y.val%18446744073709551616/\x.val/18446744073709551616%18446744073709551616=y.val/18446744073709551616%18446744073709551616/\x.val/340282366920938463463374607431768211456%18446744073709551616=y.val/340282366920938463463374607431768211456%18446744073709551616/\x.val/6277101735386680763835789423207666416102355444464034512896%18446744073709551616=y.val/6277101735386680763835789423207666416102355444464034512896%18446744073709551616))) w:=Ui;rw[h1];simp only[vF (h.top x) (h.top y),<-yFO]
def Wl(h:IO P){x y:B P}(e:x=y)(w:Zl):(binOp .neq 46 (fv x) (fv y)).run prog w=.ok fZ w:=by rw[neR h,decide_eq_true e];rfl
def Wk(h:IO P){x y:B P}(e:¬x=y)(w:Zl):(binOp .neq 46 (fv x) (fv y)).run prog w=.ok tZ w:=by rw[neR h,decide_eq_false e];rfl
def O3:ZM #[U 0,U 0,U 0,U 0,U 1,U 0,U 0,U 0,U 0,U 0,U 0,U 0]=.agg (([U 0,U 0,U 0,U 0]:G Zm)++(([U 1,U 0,U 0,U 0]:G Zm)++([U 0,U 0,U 0,U 0]:G Zm))).toArray:=rfl
def Hp(h:IO P)(w:Zl):(CI 48 #[(1,fv (1:B P))]).run prog w=.ok (rv (0:B P) 1 0) w:=by
 rw[rv,<-xW,<-S3 h,<-CQ h,<-O3];kernel_rfl
def P0(h:Fl3 P){m y:B P}(e:rt m=J y):FL 138 #[rv0,fv m] (.tuple #[fv y,tZ]):=λw =>
 (BI _ _ _ _ _ _ _ _ P _ m.val h.ref h.p4 (h.four m) w).mono (by rintro e' w' ⟨v,rfl,k,b⟩;exact⟨_,Z,k,b.val.1 y e⟩)
def P3(h:Fl3 P){m:B P}(e:rt m=F):FL 138 #[rv0,fv m] (.tuple #[fv (0:B P),fZ]):=λw =>
 (BI _ _ _ _ _ _ _ _ P _ m.val h.ref h.p4 (h.four m) w).mono (by rintro e' w' ⟨v,rfl,k,b⟩;exact⟨_,Z,k,b.val.2 e⟩)
def u33:yZ 46:=yQ
def i33:gZ 46 4:=gQ
def u56:yZ 48:=yQ
def i56:gZ 48 12:=gQ
def u35:yZ 54:=yQ
def i35:gZ 54 8:=gQ
def bP:FL 64 #[] rv0:=by
 intro w;go_enter func64,ntmps64;refine RG.M.enter [] 2 kR λa0 k=>?_
 refine Zq <| k.T [.m 0] [(0,RG.z 8)] [] [0] ⟨mk 0 54,Fs⟩ λf e d c=>?_
 refine Zq <| c.T [.c rv0,.u 0] [] [(0,1,rl0)] [0] ⟨cl P5,RG.pt i35,Fs⟩ λa2 g b=>?_
 exact ag (b.rr 0 Z u35 i35)
def Du(C:Fl3 P):FL 63 #[] (rv (0:B P) 1 0):=by
 intro w;go_enter func63,ntmps63;refine RG.M.enter [] 3 kR λa0 k=>?_
 refine Zq <| k.T [.m 0] [(0,RG.z 12)] [] [0] ⟨mk 0 48,Fs⟩ λf e d c=>?_
 refine Zq <| c.T [.c (fv (1:B P)),.x (rv (0:B P) (1:B P) (0:B P)),.u 0] [] [(0,2,ws (0:B P)++(ws (1:B P)++(ws (0:B P))))] [0] ⟨cl (vO C),EX Z Z Z sx (Hp C.toFld),RG.pt i56,Fs⟩ λa2 g b=>?_
 exact ag (b.rr 0 Z u56 i56)
def wU(C:Fl3 P)(x y z:B P)(d:z=0):FL 77 #[(rv x y z)] tZ:=by
 intro w;go_enter func77,ntmps77;refine RG.M.enter [(0,.v (rv x y z))] 6 kR λa0 k=>?_
 refine Zq <| k.T [.m 0,.x fZ] [(0,ws x++(ws y++(ws z)))] [] [1,2] ⟨mk 0 48,st,Fs⟩ λg f e c=>?_
 refine Zq <| c.U [.s (.p 0 8),.x (fv z),.c tZ,.x tZ] [2] ⟨st,ld u33 i33,cl (PZ C d),st,Fs⟩ λa2 i b=>?_
 exact ag b.rt
def wV(C:Fl3 P)(x y z:B P)(d:¬z=0):FL 77 #[(rv x y z)] fZ:=by
 intro w;go_enter func77,ntmps77;refine RG.M.enter [(0,.v (rv x y z))] 6 kR λa0 k=>?_
 refine Zq <| k.T [.m 0,.x fZ] [(0,ws x++(ws y++(ws z)))] [] [1,2] ⟨mk 0 48,st,Fs⟩ λg f e c=>?_
 refine Zq <| c.U [.s (.p 0 8),.x (fv z),.c fZ,.x fZ] [2] ⟨st,ld u33 i33,cl (Ix C d),st,Fs⟩ λa2 i b=>?_
 exact ag b.rt
def JS(C:Fl3 P)(x y z:B P):FL 78 #[(rv x y z)] (rv ((fdE y z)*(fdT x y z)) ((fdD x)*(x*((fdE y z)*(fdE y z))-(fdT x y z))-y*((fdE y z)*(fdE y z)*(fdE y z))) ((fdE y z)*(fdE y z)*(fdE y z)*z)):=by
 intro w;let⟨c1,h5⟩:∃c,c=x*x:=⟨_,Z⟩
 let⟨c2,W⟩:∃c,c=c1+c1:=⟨_,Z⟩
 let⟨e,h2⟩:∃c,c=c2+c1:=⟨_,Z⟩
 let⟨c4,T⟩:∃c,c=y+y:=⟨_,Z⟩
 let⟨b,h4⟩:∃c,c=c4*z:=⟨_,Z⟩
 let⟨f,h0⟩:∃c,c=b*b:=⟨_,Z⟩
 let⟨i,O⟩:∃c,c=f*b:=⟨_,Z⟩
 let⟨Q,X⟩:∃c,c=e*e:=⟨_,Z⟩
 let⟨N,V⟩:∃c,c=Q*z:=⟨_,Z⟩
 let⟨l,L⟩:∃c,c=x+x:=⟨_,Z⟩
 let⟨p,a⟩:∃c,c=l*f:=⟨_,Z⟩
 let⟨k,M⟩:∃c,c=N-p:=⟨_,Z⟩
 let⟨g,K⟩:∃c,c=b*k:=⟨_,Z⟩
 let⟨j,A⟩:∃c,c=x*f:=⟨_,Z⟩
 let⟨q,v⟩:∃c,c=j-k:=⟨_,Z⟩
 let⟨m,t⟩:∃c,c=e*q:=⟨_,Z⟩
 let⟨n,s⟩:∃c,c=y*i:=⟨_,Z⟩
 let⟨d,u⟩:∃c,c=m-n:=⟨_,Z⟩
 let⟨o,r⟩:∃c,c=i*z:=⟨_,Z⟩
 go_enter func78,ntmps78;refine RG.M.enter [(0,.v (rv x y z))] 91 kR λa0 M0=>?_
 refine Zq <| M0.T [.m 0,.m 1] [(0,ws x++(ws y++(ws z))),(1,RG.z 12)] [] [1,2] ⟨mk 0 48,mk 1 48,Fs⟩ λj1 i1 a1 w1 M1=>?_
 refine Zq <| M1.D [.c rv0,.s (.p 0 0),.x (fv x),.s (.p 0 0),.x (fv x),.c (fv c1),.m 2,.u 2] [(6,RG.z 4)] [(2,7,ws c1)] [1,2,3] ⟨cl bP,st,ld u33 i33,st,ld u33 i33,cl ((bD C).e h5),mk 2 46,RG.pt i33,Fs⟩ λj2 a2 w2 M2=>?_
 refine Zq <| M2.D [.c rv0,.c rv0,.x (fv c1),.x (fv c1),.c (fv c2),.x (fv c1),.c (fv e),.m 3,.u 3] [(7,RG.z 4)] [(3,8,ws e)] [1,2,4] ⟨cl bP,cl bP,ld u33 i33,ld u33 i33,cl ((sF C).e W),ld u33 i33,cl ((sF C).e h2),mk 3 46,RG.pt i33,Fs⟩ λj3 a3 w3 M3=>?_
 refine Zq <| M3.D [.c rv0,.c rv0,.s (.p 0 4),.x (fv y),.s (.p 0 4),.x (fv y),.c (fv c4),.s (.p 0 8),.x (fv z),.c (fv b),.m 4,.u 4] [(10,RG.z 4)] [(4,11,ws b)] [1,2,4,5] ⟨cl bP,cl bP,st,ld u33 i33,st,ld u33 i33,cl ((sF C).e T),st,ld u33 i33,cl ((bD C).e h4),mk 4 46,RG.pt i33,Fs⟩ λj4 a4 w4 M4=>?_
 refine Zq <| M4.D [.c rv0,.x (fv b),.x (fv b),.c (fv f),.m 5,.u 5] [(4,RG.z 4)] [(5,5,ws f)] [1,2,4,5,6] ⟨cl bP,ld u33 i33,ld u33 i33,cl ((bD C).e h0),mk 5 46,RG.pt i33,Fs⟩ λj5 a5 w5 M5=>?_
 refine Zq <| M5.D [.c rv0,.x (fv f),.x (fv b),.c (fv i),.m 6,.u 6] [(4,RG.z 4)] [(6,5,ws i)] [1,2,4,5,6,7] ⟨cl bP,ld u33 i33,ld u33 i33,cl ((bD C).e O),mk 6 46,RG.pt i33,Fs⟩ λj6 a6 w6 M6=>?_
 refine Zq <| M6.D [.c rv0,.c rv0,.c rv0,.x (fv e),.x (fv e),.c (fv Q),.s (.p 0 8),.x (fv z),.c (fv N),.c rv0,.c rv0,.s (.p 0 0),.x (fv x),.s (.p 0 0),.x (fv x),.c (fv l),.x (fv f),.c (fv p),.c (fv k),.m 7,.u 7] [(19,RG.z 4)] [(7,20,ws k)] [1,2,4,5,6,7,8] ⟨cl bP,cl bP,cl bP,ld u33 i33,ld u33 i33,cl ((bD C).e X),st,ld u33 i33,cl ((bD C).e V),cl bP,cl bP,st,ld u33 i33,st,ld u33 i33,cl ((sF C).e L),ld u33 i33,cl ((bD C).e a),cl ((mZ C).e M),mk 7 46,RG.pt i33,Fs⟩ λj7 a7 w7 M7=>?_
 refine Zq <| M7.D [.c rv0,.x (fv b),.x (fv k),.c (fv g),.m 8,.u 8] [(4,RG.z 4)] [(8,5,ws g)] [1,2,4,6,7,8,9] ⟨cl bP,ld u33 i33,ld u33 i33,cl ((bD C).e K),mk 8 46,RG.pt i33,Fs⟩ λj8 a8 w8 M8=>?_
 refine Zq <| M8.D [.c rv0,.c rv0,.x (fv e),.c rv0,.c rv0,.s (.p 0 0),.x (fv x),.x (fv f),.c (fv j),.x (fv k),.c (fv q),.c (fv m),.c rv0,.s (.p 0 4),.x (fv y),.x (fv i),.c (fv n),.c (fv d),.m 9,.u 9] [(18,RG.z 4)] [(9,19,ws d)] [1,2,7,9,10] ⟨cl bP,cl bP,ld u33 i33,cl bP,cl bP,st,ld u33 i33,ld u33 i33,cl ((bD C).e A),ld u33 i33,cl ((mZ C).e v),cl ((bD C).e t),cl bP,st,ld u33 i33,ld u33 i33,cl ((bD C).e s),cl ((mZ C).e u),mk 9 46,RG.pt i33,Fs⟩ λj9 a9 w9 M9=>?_
 refine Zq <| M9.D [.x (fv g),.x (fv d),.c rv0,.x (fv i),.s (.p 0 8),.x (fv z),.c (fv o),.x (rv g d o),.u 1] [] [(1,8,ws g++(ws d++(ws o)))] [2] ⟨ld u33 i33,ld u33 i33,cl bP,ld u33 i33,st,ld u33 i33,cl ((bD C).e r),st,RG.pt i56,Fs⟩ λh6 h7 h3=>?_
 exact ag (h3.rr 1 Z u56 i56)
def CH(C:Fl3 P)(x y z:B P):FL 34 #[(rv x y z)] (rv x (0-y) z):=by
 intro w;let⟨c1,k⟩:∃c,c=0-y:=⟨_,Z⟩
 go_enter func34,ntmps34;refine RG.M.enter [(0,.v (rv x y z))] 12 kR λa0 b=>?_
 refine Zq <| b.T [.m 0,.m 1] [(0,ws x++(ws y++(ws z))),(1,RG.z 12)] [] [1,2] ⟨mk 0 48,mk 1 48,Fs⟩ λj f i g e=>?_
 refine Zq <| e.D [.s (.p 0 0),.x (fv x),.c rv0,.s (.p 0 4),.x (fv y),.c (fv c1),.s (.p 0 8),.x (fv z),.x (rv x c1 z),.u 1] [] [(1,9,ws x++(ws c1++(ws z)))] [2] ⟨st,ld u33 i33,cl bP,st,ld u33 i33,cl ((TI C).e k),st,ld u33 i33,st,RG.pt i56,Fs⟩ λa2 l d=>?_
 exact ag (d.rr 1 Z u56 i56)
theorem Gg(C:Fl3 P)(x1 d k x2 e b:B P)(R:Zm)(ha:k=0->R=(rv x2 e b))(hb:¬k=0->b=0->R=(rv x1 d k))(hd:¬k=0->¬b=0->x2*k=x1*b->(¬e*k=d*b/\R=(rv (0:B P) 1 0))\/(e*k=d*b/\¬e*k=0/\R=(rv ((fdE d k)*(fdT x1 d k)) ((fdD x1)*(x1*((fdE d k)*(fdE d k))-(fdT x1 d k))-d*((fdE d k)*(fdE d k)*(fdE d k))) ((fdE d k)*(fdE d k)*(fdE d k)*k))))(he:¬k=0->¬b=0->¬x2*k=x1*b->R=(rv ((x2*k-x1*b)*frT (e*k-d*b) (x2*k-x1*b) (k*b) (x1*b)) ((e*k-d*b)*(x1*b*((x2*k-x1*b)*(x2*k-x1*b))-frT (e*k-d*b) (x2*k-x1*b) (k*b) (x1*b))-d*b*((x2*k-x1*b)*(x2*k-x1*b)*(x2*k-x1*b))) ((x2*k-x1*b)*(x2*k-x1*b)*(x2*k-x1*b)*(k*b)))):FL 28 #[(rv x1 d k),(rv x2 e b)] R:=by
 intro w;obtain⟨c1,k7⟩:∃c,c=e*k:=⟨_,Z⟩
 obtain⟨c2,k0⟩:∃c,c=x2*k:=⟨_,Z⟩
 obtain⟨p,k2⟩:∃c,c=d*b:=⟨_,Z⟩
 obtain⟨i,hy⟩:∃c,c=x1*b:=⟨_,Z⟩
 go_enter func28,ntmps28;refine RG.M.enter [(0,.v (rv x1 d k)),(1,.v (rv x2 e b))] 127 kR λa0 M0=>?_
 refine Zq <| M0.T [.m 0,.m 1,.m 2] [(0,ws x1++(ws d++(ws k))),(1,ws x2++(ws e++(ws b))),(2,RG.z 12)] [] [2,3,4] ⟨mk 0 48,mk 1 48,mk 2 48,Fs⟩ λj1 i1 m1 a1 w1 M1=>?_
 repeat refine Zq ?_
 by_cases o:k=0
 .obtain rfl:=ha o;refine M1.U [.x (rv x1 d k),.c (.bool H),.x (.bool H)] [3,4,5] ⟨ld u56 i56,cl (wU C x1 d k o),st,Fs⟩ λa2 w2 M2=>?_
  refine Zq <| Zq <| M2.U [.x (.bool H)] [3,4,18] ⟨st,Fs⟩ λa3 w3 M3=>?_
  refine Z6 M3.ev ?_;refine Zq <| M3.T [.x (rv x2 e b),.u 2] [] [(2,1,ws x2++(ws e++(ws b)))] [4] ⟨ld u56 i56,RG.pt i56,Fs⟩ λa4 w4 M4=>?_
  exact ag (M4.rr 2 Z u56 i56)
 refine M1.U [.x (rv x1 d k),.c (.bool D),.x (.bool D)] [2,3,4,5] ⟨ld u56 i56,cl (wV C x1 d k o),st,Fs⟩ λa2 w2 M2=>?_
 refine Zq <| Zq <| M2.U [.x (.bool D)] [2,3,4,5,18] ⟨st,Fs⟩ λa3 w3 M3=>?_
 refine Z2 M3.ev ?_;refine aw ?_;repeat refine Zq ?_
 by_cases u:b=0
 .obtain rfl:=hb o u;refine M3.U [.x (rv x2 e b),.c (.bool H),.x (.bool H)] [2,4,5] ⟨ld u56 i56,cl (wU C x2 e b u),st,Fs⟩ λa4 w4 M4=>?_
  refine Zq <| Zq <| M4.U [.x (.bool H)] [2,4,22] ⟨st,Fs⟩ λa5 w5 M5=>?_
  refine Z6 M5.ev ?_;refine Zq <| M5.T [.x (rv x1 d k),.u 2] [] [(2,1,ws x1++(ws d++(ws k)))] [4] ⟨ld u56 i56,RG.pt i56,Fs⟩ λa6 w6 M6=>?_
  exact ag (M6.rr 2 Z u56 i56)
 refine M3.U [.x (rv x2 e b),.c (.bool D),.x (.bool D)] [2,3,4,5] ⟨ld u56 i56,cl (wV C x2 e b u),st,Fs⟩ λa4 w4 M4=>?_
 refine Zq <| Zq <| M4.U [.x (.bool D)] [2,3,4,22] ⟨st,Fs⟩ λa5 w5 M5=>?_
 refine Z2 M5.ev ?_;refine aw ?_;refine Zq <| M5.D [.c rv0,.s (.p 1 4),.x (fv e),.s (.p 0 8),.x (fv k),.c (fv c1),.m 3,.u 3] [(6,RG.z 4)] [(3,7,ws c1)] [2,3,4,6] ⟨cl bP,st,ld u33 i33,st,ld u33 i33,cl ((bD C (x:=e) (y:=k)).e k7),mk 3 46,RG.pt i33,Fs⟩ λj6 a6 w6 M6=>?_
 refine Zq <| M6.D [.c rv0,.s (.p 1 0),.x (fv x2),.s (.p 0 8),.x (fv k),.c (fv c2),.m 4,.u 4] [(6,RG.z 4)] [(4,7,ws c2)] [2,3,4,6,7] ⟨cl bP,st,ld u33 i33,st,ld u33 i33,cl ((bD C (x:=x2) (y:=k)).e k0),mk 4 46,RG.pt i33,Fs⟩ λj7 a7 w7 M7=>?_
 refine Zq <| M7.D [.c rv0,.s (.p 0 4),.x (fv d),.s (.p 1 8),.x (fv b),.c (fv p),.m 5,.u 5] [(6,RG.z 4)] [(5,7,ws p)] [2,3,4,6,7,8] ⟨cl bP,st,ld u33 i33,st,ld u33 i33,cl ((bD C (x:=d) (y:=b)).e k2),mk 5 46,RG.pt i33,Fs⟩ λj8 a8 w8 M8=>?_
 refine Zq <| M8.D [.c rv0,.s (.p 0 0),.x (fv x1),.s (.p 1 8),.x (fv b),.c (fv i),.m 6,.u 6] [(6,RG.z 4)] [(6,7,ws i)] [2,3,4,6,7,8,9] ⟨cl bP,st,ld u33 i33,st,ld u33 i33,cl ((bD C (x:=x1) (y:=b)).e hy),mk 6 46,RG.pt i33,Fs⟩ λj9 a9 w9 M9=>?_
 repeat refine Zq ?_
 by_cases hv:x2*k=x1*b
 .have hR:=hd o u hv;refine M9.U [.x (fv c2),.x (fv i),.x (.bool H)] [2,4,6,8,50] ⟨ld u33 i33,ld u33 i33,aT Z .eql (T:=46) 46 (t1:=48) (t2:=49) (v1:=(fv c2)) (v2:=(fv i)) (v:=(.bool H)) Z Z sx sx (λw=>kR) (WT C.toFld (by subst_vars;exact hv)),Fs⟩ λht k4 n=>?_
  refine Z6 n.ev ?_;repeat refine Zq ?_
  rcases hR with⟨j,rfl⟩|⟨j,r,hR⟩
  .refine n.u [.x 51 [] (fv c1),.x 52 [] (fv p),.x 53 [(51,0),(52,1)] (.bool H),.x 54 [(53,2)] (.bool H),⟨J 55,[],.v undef,.pass⟩,⟨J 56,[],.v undef,.pass⟩,.x 57 [(54,3),(56,5)] (.bool H)] [(4,.p 2 0),(57,.v (.bool H))] ⟨ld u33 i33,ld u33 i33,aT Z .neq (T:=46) 46 (t1:=51) (t2:=52) (v1:=(fv c1)) (v2:=(fv p)) (v:=(.bool H)) Z Z sx sx (λw=>kR) (Wk C.toFld (by subst_vars;exact j)),st,aO Z Z,aO Z Z,st,Fs⟩ ?_;intro h9 hg l;refine Z6 l.ev ?_;refine Zq <| l.T [.c (rv (0:B P) (1:B P) (0:B P)),.u 2] [] [(2,1,ws (0:B P)++(ws (1:B P)++(ws (0:B P))))] [4] ⟨cl (Du C),RG.pt i56,Fs⟩ λh6 hq s=>?_
   exact ag (s.rr 2 Z u56 i56)
  obtain⟨m,T⟩:∃c,c=(fdE d k)*(fdT x1 d k):=⟨_,Z⟩
  obtain⟨g,M⟩:∃c,c=(fdD x1)*(x1*((fdE d k)*(fdE d k))-(fdT x1 d k))-d*((fdE d k)*(fdE d k)*(fdE d k)):=⟨_,Z⟩
  obtain⟨q,K⟩:∃c,c=(fdE d k)*(fdE d k)*(fdE d k)*k:=⟨_,Z⟩
  obtain rfl:R=rv m g q:=hR.trans (by subst_vars;rfl);refine n.U [.x (fv c1),.x (fv p),.x (.bool D),.x (.bool D),.x (fv c1),.c (.bool D),.x (.bool D)] [2,4,57] ⟨ld u33 i33,ld u33 i33,aT Z .neq (T:=46) 46 (t1:=51) (t2:=52) (v1:=(fv c1)) (v2:=(fv p)) (v:=(.bool D)) Z Z sx sx (λw=>kR) (Wl C.toFld (by subst_vars;exact j)),st,ld u33 i33,cl (f:=71) (args:=#[fv c1]) (v:=(.bool D)) (Ix C (by subst_vars;exact r)),st,Fs⟩ λh9 hg l=>?_
  refine Z2 l.ev ?_;refine aw ?_;refine Zq <| l.T [.x (rv x1 d k),.c (rv m g q),.u 2] [] [(2,2,ws m++(ws g++(ws q)))] [4] ⟨ld u56 i56,cl ((JS C x1 d k).e3 T M K),RG.pt i56,Fs⟩ λh6 hq s=>?_
  exact ag (s.rr 2 Z u56 i56)
 have hR:=he o u hv;obtain⟨m,T⟩:∃c,c=c1-p:=⟨_,Z⟩
 obtain⟨g,M⟩:∃c,c=c2-i:=⟨_,Z⟩
 obtain⟨q,K⟩:∃c,c=k*b:=⟨_,Z⟩
 obtain⟨t,k1⟩:∃c,c=g*g:=⟨_,Z⟩
 obtain⟨r,hz⟩:∃c,c=t*g:=⟨_,Z⟩
 obtain⟨A,hk⟩:∃c,c=m*m:=⟨_,Z⟩
 obtain⟨V,hc⟩:∃c,c=A*q:=⟨_,Z⟩
 obtain⟨N,hp⟩:∃c,c=V-r:=⟨_,Z⟩
 obtain⟨W,hj⟩:∃c,c=i+i:=⟨_,Z⟩
 obtain⟨a,hi⟩:∃c,c=W*t:=⟨_,Z⟩
 obtain⟨j,h8⟩:∃c,c=N-a:=⟨_,Z⟩
 obtain⟨y,h4⟩:∃c,c=g*j:=⟨_,Z⟩
 obtain⟨O,h2⟩:∃c,c=i*t:=⟨_,Z⟩
 obtain⟨L,h7⟩:∃c,c=O-j:=⟨_,Z⟩
 obtain⟨Q,h0⟩:∃c,c=m*L:=⟨_,Z⟩
 obtain⟨X,h3⟩:∃c,c=p*r:=⟨_,Z⟩
 obtain⟨z,h5⟩:∃c,c=Q-X:=⟨_,Z⟩
 obtain⟨x,hm⟩:∃c,c=r*q:=⟨_,Z⟩
 obtain rfl:R=rv y z x:=hR.trans (by subst_vars;rfl);refine M9.U [.x (fv c2),.x (fv i),.x (.bool D)] [2,3,4,6,7,8,9,50] ⟨ld u33 i33,ld u33 i33,aT Z .eql (T:=46) 46 (t1:=48) (t2:=49) (v1:=(fv c2)) (v2:=(fv i)) (v:=(.bool D)) Z Z sx sx (λw=>kR) (WU C.toFld (by subst_vars;exact hv)),Fs⟩ λht k4 n=>?_
 refine Z2 n.ev ?_;refine aw ?_;refine Zq <| n.D [.c rv0,.x (fv c1),.x (fv p),.c (fv m),.m 7,.u 7] [(4,RG.z 4)] [(7,5,ws m)] [2,3,4,7,8,9,10] ⟨cl bP,ld u33 i33,ld u33 i33,cl ((mZ C (x:=c1) (y:=p)).e T),mk 7 46,RG.pt i33,Fs⟩ λki h9 hg l=>?_
 refine Zq <| l.D [.c rv0,.x (fv c2),.x (fv i),.c (fv g),.m 8,.u 8] [(4,RG.z 4)] [(8,5,ws g)] [2,3,4,8,9,10,11] ⟨cl bP,ld u33 i33,ld u33 i33,cl ((mZ C (x:=c2) (y:=i)).e M),mk 8 46,RG.pt i33,Fs⟩ λkb h6 hq s=>?_
 refine Zq <| s.D [.c rv0,.s (.p 0 8),.x (fv k),.s (.p 1 8),.x (fv b),.c (fv q),.m 9,.u 9] [(6,RG.z 4)] [(9,7,ws q)] [4,8,9,10,11,12] ⟨cl bP,st,ld u33 i33,st,ld u33 i33,cl ((bD C (x:=k) (y:=b)).e K),mk 9 46,RG.pt i33,Fs⟩ λkm kn kg k3=>?_
 refine Zq <| k3.D [.c rv0,.x (fv g),.x (fv g),.c (fv t),.m 10,.u 10] [(4,RG.z 4)] [(10,5,ws t)] [4,8,9,10,11,12,13] ⟨cl bP,ld u33 i33,ld u33 i33,cl ((bD C (x:=g) (y:=g)).e k1),mk 10 46,RG.pt i33,Fs⟩ λkc k8 kh k6=>?_
 refine Zq <| k6.D [.c rv0,.x (fv t),.x (fv g),.c (fv r),.m 11,.u 11] [(4,RG.z 4)] [(11,5,ws r)] [4,8,9,10,11,12,13,14] ⟨cl bP,ld u33 i33,ld u33 i33,cl ((bD C (x:=t) (y:=g)).e hz),mk 11 46,RG.pt i33,Fs⟩ λke kl ka hw=>?_
 refine Zq <| hw.D [.c rv0,.c rv0,.c rv0,.c rv0,.x (fv m),.x (fv m),.c (fv A),.x (fv q),.c (fv V),.x (fv r),.c (fv N),.c rv0,.c rv0,.x (fv i),.x (fv i),.c (fv W),.x (fv t),.c (fv a),.c (fv j),.m 12,.u 12] [(19,RG.z 4)] [(12,20,ws j)] [4,8,9,10,11,12,13,14,15] ⟨cl bP,cl bP,cl bP,cl bP,ld u33 i33,ld u33 i33,cl ((bD C (x:=m) (y:=m)).e hk),ld u33 i33,cl ((bD C (x:=A) (y:=q)).e hc),ld u33 i33,cl ((mZ C (x:=V) (y:=r)).e hp),cl bP,cl bP,ld u33 i33,ld u33 i33,cl ((sF C (x:=i) (y:=i)).e hj),ld u33 i33,cl ((bD C (x:=W) (y:=t)).e hi),cl ((mZ C (x:=N) (y:=a)).e h8),mk 12 46,RG.pt i33,Fs⟩ λkd k9 kj k5=>?_
 refine Zq <| k5.D [.c rv0,.x (fv g),.x (fv j),.c (fv y),.c rv0,.c rv0,.x (fv m),.c rv0,.c rv0,.x (fv i),.x (fv t),.c (fv O),.x (fv j),.c (fv L),.c (fv Q),.c rv0,.x (fv p),.x (fv r),.c (fv X),.c (fv z),.c rv0,.x (fv r),.x (fv q),.c (fv x),.x (rv y z x),.u 2] [] [(2,25,ws y++(ws z++(ws x)))] [4] ⟨cl bP,ld u33 i33,ld u33 i33,cl ((bD C (x:=g) (y:=j)).e h4),cl bP,cl bP,ld u33 i33,cl bP,cl bP,ld u33 i33,ld u33 i33,cl ((bD C (x:=i) (y:=t)).e h2),ld u33 i33,cl ((mZ C (x:=O) (y:=j)).e h7),cl ((bD C (x:=m) (y:=L)).e h0),cl bP,ld u33 i33,ld u33 i33,cl ((bD C (x:=p) (y:=r)).e h3),cl ((mZ C (x:=Q) (y:=X)).e h5),cl bP,ld u33 i33,ld u33 i33,cl ((bD C (x:=r) (y:=q)).e hm),st,RG.pt i56,Fs⟩ λkf kk hr=>?_
 exact ag (hr.rr 2 Z u56 i56)
theorem CC(C:Fl3 P)(x y:B P)(j:rt (x*x*x+7)=J y):FL 66 #[(fv x)] (.tuple #[rv x y 1,tZ]):=by
 intro w;let⟨c1,d⟩:∃c,c=x*x:=⟨_,Z⟩
 let⟨c2,k⟩:∃c,c=c1*x:=⟨_,Z⟩
 let⟨e,b⟩:∃c,c=c2+(7:B P):=⟨_,Z⟩
 go_enter func66,ntmps66;refine RG.M.enter [(0,.v (fv x))] 26 kR λa0 m=>?_
 refine Zq <| m.T [.m 0,.m 1,.x fZ] [(0,ws x),(1,RG.z 12)] [] [1,2,3] ⟨mk 0 46,mk 1 48,st,Fs⟩ λo r s n g=>?_
 refine Zq <| g.D [.c rv0,.c rv0,.c rv0,.c rv0,.x (fv x),.x (fv x),.c (fv c1),.x (fv x),.c (fv c2),.c (fv (7:B P)),.c (fv e),.c (.tuple #[fv y,tZ]),.x (.tuple #[fv y,tZ]),.x (fv y),.x tZ,.m 2,.u 2,.x tZ] [(15,RG.z 4)] [(2,16,ws y)] [1,2,3,4,5] ⟨cl bP,cl bP,cl bP,cl bP,ld u33 i33,ld u33 i33,cl ((bD C).e d),ld u33 i33,cl ((bD C).e k),cl (BJ C),cl ((sF C).e b),cl (f:=138) (args:=#[rv0,fv e]) (v:=(.tuple #[fv y,tZ])) (P0 C (by subst_vars;exact j)),st,st,st,mk 2 46,RG.pt i33,st,Fs⟩ λu a2 t l=>?_
 refine Zq <| l.D [.x (fv x),.x (fv y),.c (fv (1:B P)),.x (rv x y (1:B P)),.x tZ,.u 1,.x tZ] [] [(1,5,ws x++(ws y++(ws (1:B P))))] [2,3] ⟨ld u33 i33,ld u33 i33,cl (vO C),st,st,RG.pt i56,st,Fs⟩ λq p i=>?_
 exact ag (i.r2 1 Z u56 i56)
theorem Iw(C:Fl3 P)(x:B P)(j:rt (x*x*x+7)=F):FL 66 #[(fv x)] (.tuple #[rv x 0 1,fZ]):=by
 intro w;let⟨c1,d⟩:∃c,c=x*x:=⟨_,Z⟩
 let⟨c2,k⟩:∃c,c=c1*x:=⟨_,Z⟩
 let⟨e,b⟩:∃c,c=c2+(7:B P):=⟨_,Z⟩
 go_enter func66,ntmps66;refine RG.M.enter [(0,.v (fv x))] 26 kR λa0 m=>?_
 refine Zq <| m.T [.m 0,.m 1,.x fZ] [(0,ws x),(1,RG.z 12)] [] [1,2,3] ⟨mk 0 46,mk 1 48,st,Fs⟩ λo r s n g=>?_
 refine Zq <| g.D [.c rv0,.c rv0,.c rv0,.c rv0,.x (fv x),.x (fv x),.c (fv c1),.x (fv x),.c (fv c2),.c (fv (7:B P)),.c (fv e),.c (.tuple #[fv (0:B P),fZ]),.x (.tuple #[fv (0:B P),fZ]),.x (fv (0:B P)),.x fZ,.m 2,.u 2,.x fZ] [(15,RG.z 4)] [(2,16,ws (0:B P))] [1,2,3,4,5] ⟨cl bP,cl bP,cl bP,cl bP,ld u33 i33,ld u33 i33,cl ((bD C).e d),ld u33 i33,cl ((bD C).e k),cl (BJ C),cl ((sF C).e b),cl (f:=138) (args:=#[rv0,fv e]) (v:=(.tuple #[fv (0:B P),fZ])) (P3 C (by subst_vars;exact j)),st,st,st,mk 2 46,RG.pt i33,st,Fs⟩ λu a2 t l=>?_
 refine Zq <| l.D [.x (fv x),.x (fv (0:B P)),.c (fv (1:B P)),.x (rv x (0:B P) (1:B P)),.x fZ,.u 1,.x fZ] [] [(1,5,ws x++(ws (0:B P)++(ws (1:B P))))] [2,3] ⟨ld u33 i33,ld u33 i33,cl (vO C),st,st,RG.pt i56,st,Fs⟩ λq p i=>?_
 exact ag (i.r2 1 Z u56 i56)
def TR{s:Bs}(O:Ord N)(hs:s.size<=1048576):FL 142 #[rv1,.string ⟨s⟩] (nv (nW N s)):=λw =>
 (MG _ _ _ _ _ _ _ _ N ⟨s⟩ O.ref hs w).mono (by rintro e w' ⟨v,rfl,k,b⟩;exact⟨_,Z,k,b.nv⟩)
def z12:R Zm:=#[U 0,U 0,U 0,U 0,U 0,U 0,U 0,U 0,U 0,U 0,U 0,U 0]
def WB5(w:Zl):Zl:=(w.alloc (.cells z12 48)).alloc (.cells (madeCells #[.int .u8 0] 33) 5)
def sQ(w:Zl):RG.St w w.heap.size [] [z12.toList] [w.heap.size] (WB5 w):=(RG.St.new w z12.toList 48).more (aD _)
def AN(w:Zl):(convert 22 9 (sZ (w.heap.size+1) 33 33)).run prog (WB5 w)=.ok (.string ⟨uW⟩) (WB5 w):=
 conv_str prog 22 9 5 slice22 int5 str9 _ _ 0 33 33 _ (Nt w _) dC
def str_eq(a:Bs):((⟨a⟩:Fd).toList == (⟨a⟩:Fd).toList)=H:=by simp
def xX{a b:Bs}(h:¬a=b):((⟨a⟩:Fd).toList == (⟨b⟩:Fd).toList)=D:=by
 rw[yEO,yEO];simp only[beq_eq_false_iff_ne,ne_eq];exact λe=>h (R.toList_inj.1 e)
def slS{bs:Bs}(hs:bs.size=33)(w:Zl):(ux 9 (.string ⟨bs⟩) (J (iZ 1)) F F).run prog w=.ok (.string ⟨kG bs⟩) w:=by
 go_simp;have k:((⟨bs⟩:Fd).extract 1 33).data=kG bs:=by rw[yEz];rfl
 rw[<-k]
def Qz{bs:Bs}(hs:bs.size=33)(k:0<(⟨bs⟩:Fd).size):(((⟨bs⟩:Fd)[0]'k).toNat:Y)=ub bs[0]!:=by
 rw[getElem!_pos bs 0 S];rfl
def ixS{bs:Bs}{m:Y}(hs:bs.size=33)(b:ub bs[0]! = m)(w:Zl):(Instr.index 9 (.string ⟨bs⟩) (iZ 0)).run prog w=.ok (.int .u8 m) w:=by
 have h:=hs;have c:∀k,(((⟨bs⟩:Fd)[0]'k).toNat:Y)=m:=λk=>by rw[Qz hs,b]
 go_simp
def BK{bs:Bs}(C:Fl3 P)(hs:bs.size=32){x:B P}(hx:beV bs.toList=x.val):FL 65 #[rv0,.string ⟨bs⟩] (.tuple #[fv x,tZ]):=λw =>
 (oV _ _ _ _ _ _ _ _ P ⟨bs⟩ C.ref w).mono (by
  rintro e w' ⟨v,rfl,g,a,b,c,d,ok,rfl,h1,f,i,-⟩;cases ok with
  | false=>exact absurd ⟨hs,by rw[hx];exact x.isLt⟩ (f Z)
  | true =>
   have k:=(h1 Z).2;rw[hx]at k;refine⟨_,Z,g,?_⟩;rw[C.toFld.four x |>.inj k])
def BM{bs:Bs}(C:Fl3 P)(hs:bs.size=32)(hx:¬beV bs.toList<P):FL 65 #[rv0,.string ⟨bs⟩] (.tuple #[nv (beV bs.toList),fZ]):=λw =>
 (oV _ _ _ _ _ _ _ _ P ⟨bs⟩ C.ref w).mono (by
  rintro e w' ⟨v,rfl,k,a,b,c,d,ok,rfl,h1,g,f,-⟩;cases ok with
  | true=>exact absurd (h1 Z).1.2 hx
  | false =>
   refine⟨_,Z,k,?_⟩;rw[(f hs).nv])
def n12(P:I)[NeZero P]:G Zm:=ws (0:B P)++(ws (1:B P)++ws (0:B P))
def PG(C:Fl3 P)(w:Zl):eZ 15 #[.string ⟨uW⟩] w (.tuple #[rv (0:B P) 1 0,tZ]):=by
 have l:=J9;have f:=AN w;have j:=str_eq uW;unfold WB5 z12 at f;have d:=Du C;have c:rv (0:B P) 1 0=.agg (n12 P).toArray:=rfl;rw[c]at d⊢;have k:(n12 P).length=12:=rfl;have b:(n12 P).all (·.oneCell')=H:=rfl;generalize n12 P=N at d k b⊢;go_enter func15,ntmps15;go_wp2_with fail
 apply(d _).mono;rintro e m ⟨v,rfl,i,rfl⟩;let⟨n,s0,s1,s2,g⟩:=(RG.St.more (sQ w) i).store1 (P:=prog) 48 (D:=N) k (by rw[k];exact i56) b
 go_wp2;refine Zx (v:=.tuple #[.agg N.toArray,tZ]) (jF g 2 3 Z 0 Z Z Z u56 (by rw[k];exact i56)) Z ?_;exact⟨_,Z,g.bel.below,Z⟩
def TA(C:Fl3 P)(bs:Bs)(hs:¬bs.size=33)(w:Zl):eZ 15 #[.string ⟨bs⟩] w (.tuple #[rv (0:B P) 0 0,fZ]):=by
 have d:=J9;have k:=AN w;have c:=xX (a:=bs) (b:=uW) (λh=>hs (by rw[h];rfl));unfold WB5 z12 at k;rw[<-xU];go_enter func15,ntmps15;go_wp2;refine Zx (v:=.tuple #[.agg z12,fZ]) (jF (sQ w) 2 3 Z 0 Z Z Z u56 i56) Z ?_;exact⟨_,Z,(sQ w).bel.below,Z⟩
def PH(C:Fl3 P)(bs:Bs)(hs:bs.size=33)(l:¬bs=uW)(m:Y)(d:ub bs[0]! = m)(b:¬m=2)(g:¬m=3)(w:Zl):eZ 15 #[.string ⟨bs⟩] w (.tuple #[rv (0:B P) 0 0,fZ]):=by
 have j:=J9;have k:=AN w;have f:=xX l;unfold WB5 z12 at k;have i:=hs;have c:=ixS hs d;have n:(m != 2)=H:=by simpa using b
 rw[<-xU];go_enter func15,ntmps15;go_wp2;refine Zx (v:=.tuple #[.agg z12,fZ]) (jF (sQ w) 2 3 Z 0 Z Z Z u56 i56) Z ?_;exact⟨_,Z,(sQ w).bel.below,Z⟩
def Ty(C:Fl3 P)(m:I)(bs:Bs)(w:Zl)(hs:bs.size=33)(q:¬bs=uW)(c:ub bs[0]! = 2\/ub bs[0]! = 3)(b:FL 65 #[rv0,.string ⟨kG bs⟩] (.tuple #[nv m,fZ])):eZ 15 #[.string ⟨bs⟩] w (.tuple #[rv (0:B P) 0 0,fZ]):=by
 rcases c with c|c
 all_goals
  have s:=J9;have f:=AN w;have j:=xX q;unfold WB5 z12 at f;have r:=hs;have i:=ixS hs c;have k:=sQ w;unfold WB5 z12 at k;go_enter func15,ntmps15;go_wp2_with fail
  rename_i hK
  refine Wt (v0:=.string ⟨bs⟩) (v1:=jZ w.heap.size) (v2:=fZ) (n:=48) 0 2 3 Z Z Z Z Z ?_;intro a0 d o f2 f3;have t:RG.M w w.heap.size [] 48 [RG.z 12] [w.heap.size] [(0,.v (.string ⟨bs⟩)),(2,.p 0 0),(3,.v fZ)] a0 _:=⟨k,d,⟨o,f2,f3,Fs⟩⟩
  repeat apply Zq
  refine t.D [.c rv0,.x (.string ⟨bs⟩),.x (.string ⟨kG bs⟩),.c (.tuple #[nv m,fZ]),.x (.tuple #[nv m,fZ]),.x (nv m),.x fZ,.m 1,.u 1,.x fZ] [(7,RG.z 4)] [(1,8,wn m)] [2,3,5] ⟨cl bP,st,lS Z Z Z sx (slS hs),cl b,st,st,st,mk 1 46,RG.pt i33,st,Fs⟩ λv z u l=>?_
  refine hK _ _ ?_;repeat apply Zq
  refine l.U [.x fZ,.x tZ] [2,3,34] ⟨st,st,Fs⟩ λa2 a g=>Z6 g.ev ?_
  repeat apply Zq
  refine g.T [.x (rv (0:B P) (0:B P) (0:B P)),.u 0,.x fZ] [] [(0,1,ws (0:B P)++(ws (0:B P)++(ws (0:B P))))] [2,3] ⟨se (xU (P:=P)),RG.pt i56,st,Fs⟩ λy x p=>?_
  exact ag (p.r2 0 Z u56 i56)
def Im(C:Fl3 P)(bs:Bs)(x y:B P)(b:Hc)(w:Zl)(hs:bs.size=33)(z:¬bs=uW)(k:ub bs[0]! = 2\/ub bs[0]! = 3)(hx:beV (kG bs).toList=x.val)(m:FL 66 #[(fv x)] (.tuple #[rv x y 1,.bool b])):eZ 15 #[.string ⟨bs⟩] w (.tuple #[rv x (if ub bs[0]! = 3 then 0-y else y) 1,.bool b]):=by
 rcases k with k|k
 case' inl=>rw[Id (by rw[k];decide)]
 case' inr =>
  rw[GD k];generalize o:0-y=d
 all_goals
  have q:=J9;have g:=AN w;have l:=xX z;unfold WB5 z12 at g;have p:(⟨bs⟩:Fd).size=33:=hs;have j:=ixS hs k;have c:=sQ w;unfold WB5 z12 at c;go_enter func15,ntmps15;go_wp2_with fail
  rename_i hK
  clear q g l p j;generalize (w.alloc _).alloc _=O at c⊢;refine Wt (v0:=.string ⟨bs⟩) (v1:=jZ w.heap.size) (v2:=fZ) (n:=48) 0 2 3 Z Z Z Z Z ?_;intro a0 i u f2 f3;have a:RG.M w w.heap.size [] 48 [RG.z 12] [w.heap.size] [(0,.v (.string ⟨bs⟩)),(2,.p 0 0),(3,.v fZ)] a0 _:=⟨c,i,⟨u,f2,f3,Fs⟩⟩
  repeat apply Zq
  refine a.D [.c rv0,.x (.string ⟨bs⟩),.x (.string ⟨kG bs⟩),.c (.tuple #[fv x,tZ]),.x (.tuple #[fv x,tZ]),.x (fv x),.x tZ,.m 1,.u 1,.x tZ] [(7,RG.z 4)] [(1,8,ws x)] [0,2,3,4,5] ⟨cl bP,st,lS Z Z Z sx (slS hs),cl (BK C (jA hs) hx),st,st,st,mk 1 46,RG.pt i33,st,Fs⟩ λK Q A t=>?_
  refine hK _ _ ?_;repeat apply Zq
  refine t.U [.x tZ,.x fZ] [0,2,3,4,5,34] ⟨st,st,Fs⟩ λa2 T s=>Z2 s.ev<|aw ?_
  repeat apply Zq
  refine s.T [.x (fv x),.c (.tuple #[rv x y (1:B P),.bool b]),.x (.tuple #[rv x y (1:B P),.bool b]),.x (rv x y (1:B P)),.x (.bool b),.m 2,.u 2,.x (.bool b)] [(5,RG.z 12)] [(2,6,ws x++(ws y++(ws (1:B P))))] [0,2,3,5,6] ⟨ld u33 i33,cl m,st,st,st,mk 2 48,RG.pt i56,st,Fs⟩ λM N L r=>?_
  repeat apply Zq
 .repeat apply Zq
  refine r.U [.x (.string ⟨bs⟩),.x (.int .u8 3),.x tZ] [2,3,5,6,43] ⟨st,A0 Z Z Z sx (ixS hs k),st,Fs⟩ ?_;intro l i c;repeat apply Zq
  refine Z6 c.ev ?_;repeat apply Zq
  refine c.T [.x (rv x y (1:B P)),.c (rv x d (1:B P)),.u 2] [] [(2,2,ws x++(ws d++(ws (1:B P))))] [2,3,5,6] ⟨ld u56 i56,cl (f:=34) (args:=#[rv x y (1:B P)]) (v:=(rv x d (1:B P))) (o ▸ CH C x y 1),RG.pt i56,Fs⟩ λj q g=>?_
  repeat apply Zq
  refine g.T [.x (rv x d (1:B P)),.x (.bool b),.u 0,.x (.bool b)] [] [(0,2,ws x++(ws d++(ws (1:B P))))] [2,3] ⟨ld u56 i56,st,RG.pt i56,st,Fs⟩ λt s p=>?_
  exact ag (p.r2 0 Z u56 i56)
 repeat apply Zq
 refine r.U [.x (.string ⟨bs⟩),.x (.int .u8 2),.x fZ] [2,3,5,6,43] ⟨st,A0 Z Z Z sx (ixS hs k),st,Fs⟩ λl i c=>?_
 repeat apply Zq
 refine Z2 c.ev<|aw ?_
 repeat apply Zq
 refine c.T [.x (rv x y (1:B P)),.x (.bool b),.u 0,.x (.bool b)] [] [(0,2,ws x++(ws y++(ws (1:B P))))] [2,3] ⟨ld u56 i56,st,RG.pt i56,st,Fs⟩ λj q g=>?_
 exact ag (g.r2 0 Z u56 i56)
def FracT(t:T3 P)(p:EC.Pt P):Prop:=Frac t.1 t.2.1 t.2.2 p/\On p
def dbF(t:T3 P):T3 P:=(fdE t.2.1 t.2.2*fdT t.1 t.2.1 t.2.2,fdD t.1*(t.1*(fdE t.2.1 t.2.2*fdE t.2.1 t.2.2)-fdT t.1 t.2.1 t.2.2)-t.2.1*(fdE t.2.1 t.2.2*fdE t.2.1 t.2.2*fdE t.2.1 t.2.2),fdE t.2.1 t.2.2*fdE t.2.1 t.2.2*fdE t.2.1 t.2.2*t.2.2)
def plF(a b : T3 P): T3 P :=
  if a.2.2 = 0 then b else if b.2.2 = 0 then a else
  if b.1 * a.2.2 = a.1 * b.2.2 then(if b.2.1 * a.2.2 = a.2.1 * b.2.2 then dbF a else(0, 1, 0)) else
  ((b.1 * a.2.2 - a.1 * b.2.2) * frT (b.2.1 * a.2.2 - a.2.1 * b.2.2) (b.1 * a.2.2 - a.1 * b.2.2) (a.2.2 * b.2.2) (a.1 * b.2.2),
   (b.2.1 * a.2.2 - a.2.1 * b.2.2) * (a.1 * b.2.2 * ((b.1 * a.2.2 - a.1 * b.2.2) * (b.1 * a.2.2 - a.1 * b.2.2)) - frT (b.2.1 * a.2.2 - a.2.1 * b.2.2) (b.1 * a.2.2 - a.1 * b.2.2) (a.2.2 * b.2.2) (a.1 * b.2.2)) - a.2.1 * b.2.2 * ((b.1 * a.2.2 - a.1 * b.2.2) * (b.1 * a.2.2 - a.1 * b.2.2) * (b.1 * a.2.2 - a.1 * b.2.2)),
   (b.1 * a.2.2 - a.1 * b.2.2) * (b.1 * a.2.2 - a.1 * b.2.2) * (b.1 * a.2.2 - a.1 * b.2.2) * (a.2.2 * b.2.2))
def FracT.plus(C:Fl3 P){a b:T3 P}{p q:EC.Pt P}(h:FracT a p)(g:FracT b q):FL 28 #[tv a,tv b] (tv (plF a b))/\FracT (plF a b) (EC.add p q):=by
 have ho:=C.cur.on h.2 g.2;let⟨x1,m,j⟩:=a
 let⟨x2,n,i⟩:=b
 refine⟨Gg C x1 m j x2 n i _ (λk=>by unfold plF;rw[GD k]) (λk f=>by unfold plF;rw[Id k,GD f]) (λk f e=>?_) (λk f c=>by unfold plF;rw[Id k,Id f,Id c]),?_⟩
 .rcases h.1.plus C.cur h.2 g.1 g.2 k f with⟨c,d,e3⟩|⟨c,d,e3,l⟩|⟨c,d⟩
  .exact .inl ⟨d,by unfold plF;rw[Id k,Id f,GD c,Id d]⟩
  .exact .inr ⟨d,e3,by unfold plF;rw[Id k,Id f,GD c,GD d];rfl⟩
  exact absurd e c
 unfold plF;by_cases k:j=0
 .rw[GD k];obtain rfl:=h.1.zero k;exact g
 rw[Id k];by_cases f:i=0
 .rw[GD f];obtain rfl:=g.1.zero f;rw[bO];exact h
 rw[Id f];rcases h.1.plus C.cur h.2 g.1 g.2 k f with⟨c,d,e3⟩|⟨c,d,e3,l⟩|⟨c,d⟩
 .rw[GD c,Id d];refine⟨?_,ho⟩;rw[e3];exact Z
 .rw[GD c,GD d];refine⟨?_,ho⟩;rw[l];exact h.1.double C.cur h.2 k
 rw[Id c];exact⟨d,ho⟩
def FracT.none:FracT ((0,1,0):T3 P) .none:=⟨Z,kJ⟩
def FracT.neg{t:T3 P}{p:EC.Pt P}(h:FracT t p):FracT ((t.1,0-t.2.1,t.2.2):T3 P) (neg p):=⟨h.1.neg,dQ h.2⟩
def tmF(n:I)(t:T3 P):I->T3 P
 | 0=>(0,1,0)
 | m+1=>if n/2^(255-m)%2=1 then plF (plF (tmF n t m) (tmF n t m)) t else plF (tmF n t m) (tmF n t m)
def yY(C:Fl3 P){n:I}{t:T3 P}{p:EC.Pt P}(d:n<2^256)(h:FracT t p):∀m,m<=256->FracT (tmF n t m) (mul (n/2^(256-m)) p)
 | 0,_=>by
  rw[wt,I.div_eq_of_lt d];exact FracT.none
 | m+1,hm=>by
  have c:=yY C d h m S;have e:256-m=255-m+1:=S;rw[show 256-(m+1)=255-m by omega,C9 n (255-m),<-e];unfold tmF;have k:=(FracT.plus C c c).2;rw[<-mul_add C.cur h.2,<-I.two_mul]at k;by_cases b:n/2^(255-m)%2=1
  .rw[GD b,b];exact(FracT.plus C k h).2
  rw[Id b,show n/2^(255-m)%2=0 by omega];exact k
def kX{x y:B P}(C:IO P):Frac x y 1 (.some (x,y):EC.Pt P):=⟨λh=>C.cur.two (by grobner),by grobner,by grobner⟩
def gxB:Bs:=#[121,190,102,126,249,220,187,172,85,160,98,149,206,135,11,7,2,155,252,219,45,206,40,217,89,242,129,91,22,248,23,152]
def YA(C:IO P):FL 136 #[.string ⟨gxB⟩] (fv (gX P)):=λw=>(Iy ⟨gxB⟩ Z w).mono (by
 rintro e w' ⟨v,rfl,k,b⟩;refine⟨_,Z,k,?_⟩;rw[b.nv];show nv _=nv _;rw[GQ C];exact congrArg nv (by decide +kernel:beV gxB.toList=55066263022277343669578718895168534326250603453777594175500187360389116729240))
def UG(C:IO P):rt (gX P*gX P*gX P+7)=J (gY P):=by
 have h:=B6 C;have h1:gY P^2=gX P^3+7:=h;have k:gY P*gY P=gX P*gX P*gX P+7:=by
  generalize gX P=x at *;generalize gY P=y at *;clear h C
  grobner
 rw[Ml C k,Id];rw[GP C];decide
def gT(P:I)[NeZero P]:T3 P:=(gX P,gY P,1)
def C4(C:IO P):FracT (gT P) (gG P):=⟨kX C,B6 C⟩
def TM(C:Fl3 P):FL 81 #[] (tv (gT P)):=by
 intro w;go_enter func81,ntmps81;refine RG.M.enter [] 11 kR λa0 d=>?_
 refine Zq <| d.T [.m 0] [(0,RG.z 12)] [] [0] ⟨mk 0 48,Fs⟩ λi o g k=>?_
 refine Zq <| k.T [.c (fv (gX P)),.m 1,.u 1] [(1,RG.z 4)] [(1,2,ws (gX P))] [0,1] ⟨cl (YA C.toFld),mk 1 46,RG.pt i33,Fs⟩ λq a2 p c=>?_
 refine Zq <| c.T [.x (fv (gX P)),.c (.tuple #[rv (gX P) (gY P) (1:B P),tZ]),.x (.tuple #[rv (gX P) (gY P) (1:B P),tZ]),.x (rv (gX P) (gY P) (1:B P)),.x tZ,.m 2,.u 2,.x tZ] [(5,RG.z 12)] [(2,6,ws (gX P)++(ws (gY P)++(ws (1:B P))))] [0,2] ⟨ld u33 i33,cl (CC C (gX P) (gY P) (UG C.toFld)),st,st,st,mk 2 48,RG.pt i56,st,Fs⟩ λl m j b=>?_
 refine Zq <| b.T [.x (rv (gX P) (gY P) (1:B P)),.u 0] [] [(0,1,ws (gX P)++(ws (gY P)++(ws (1:B P))))] [0] ⟨ld u56 i56,RG.pt i56,Fs⟩ λn f e=>?_
 exact ag (e.rr 0 Z u56 i56)
def WM(w:Zl):(binOp .geq 3 (iZ i) (iZ 0)).run prog w=.ok tZ w:=by
 go_simp
def VN(k:i<1000)(w:Zl):(binOp .sub 3 (iZ i) (iZ 1)).run prog w=.ok (iZ ((i:Y)-1)) w:=by
 have h:=po ((i:Y)-1) S;go_simp
def TN(d:n<top)(c:i<256)(h:n/2^i%2=1):FL 79 #[nv n,iZ i] (U 1):=λw =>
 (tX _ n i (fN d) c w).mono (by rintro e w' ⟨v,rfl,b,t,rfl,k⟩;exact⟨_,Z,b,by rw[k,h];rfl⟩)
def TO(d:n<top)(c:i<256)(h:¬n/2^i%2=1):FL 79 #[nv n,iZ i] (U 0):=λw =>
 (tX _ n i (fN d) c w).mono (by rintro e w' ⟨v,rfl,b,t,rfl,k⟩;exact⟨_,Z,b,by rw[k,show n/2^i%2=0 by omega];rfl⟩)
def mG(C:Fl3 P)(n:I)(x:n<top)(t:T3 P){p:EC.Pt P}(h:FracT t p):FL 29 #[nv n,tv t] (tv (tmF n t 256)):=by
 intro w;go_enter func29,ntmps29;refine RG.M.enter [(0,.v (nv n)),(1,.v (tv t))] 23 kR λa0 b=>?_
 refine Zq <| b.T [.m 0,.m 1,.m 2] [(0,wn n),(1,tw t),(2,RG.z 12)] [] [2,3,4] ⟨mk 0 46,mk 1 48,mk 2 48,Fs⟩ λK Q N y u c=>?_
 refine Zq <| c.T [.c (tv ((0,1,0):T3 P)),.m 3,.u 3] [(1,RG.z 12)] [(3,2,tw ((0,1,0):T3 P))] [2,3,4,5] ⟨cl (Du C),mk 3 48,RG.pt i56,Fs⟩ λT a2 z f=>?_
 refine Zq <| Zq <| f.U [.x (iZ 255)] [2,3,4,5,6] ⟨st,Fs⟩ λM L e=>?_
 repeat apply Zq
 apply ay;refine DM (λm a wr=>m<=256/\RG.M w w.heap.size [] 23 [wn n,tw t,RG.z 12,tw (tmF n t (256-m))] [K,Q,N,T] [(2,.p 0 0),(3,.p 1 0),(4,.p 2 0),(5,.p 3 0),(6,.v (iZ ((m:Y)-1)))] a wr) 256 ⟨Zo _,?_⟩ ?_
 .rw[ww,tmF];exact e.cv
 intro m a wr;rintro⟨hm,b⟩;have v:n<2^256:=x;generalize K=k2 at b;generalize Q=k3 at b;generalize N=k4 at b;generalize T=k5 at b;by_cases hz:m=0
 .subst hz;have k:tmF n t (256-0)=tmF n t 256:=rfl;rw[k]at b;obtain⟨s,hs⟩:=vH (tmF n t 256);rw[hs]at b⊢;refine Zq <| Zq <| b.U [.x (iZ (-1)),.x fZ] [4,5,9] ⟨st,st,Fs⟩ λy u c=>?_
  refine Z2 c.ev<|wp_exit ?_
  dsimp only[Exit.then,yr];rw[GD Z];refine Zq <| c.T [.x (tv s),.u 2] [] [(2,1,tw s)] [4] ⟨ld u56 i56,RG.pt i56,Fs⟩ λa2 z f=>?_
  exact ag (f.rr 2 Z u56 i56)
 obtain⟨i,rfl⟩:∃i,m=i+1:=⟨m-1,S⟩
 have O:i<256:=S;rw[show((i+1:I):Y)-1=i by omega]at b;have q:=yY C v h (256-(i+1)) S;obtain⟨s,hs⟩:=vH (tmF n t (256-(i+1)));rw[hs]at b q;obtain⟨s2,l⟩:∃s2,s2=plF s s:=⟨_,Z⟩
 have d:=(q.plus C q).1;have o:=(q.plus C q).2;rw[<-l]at d o;obtain⟨s3,g⟩:∃s3,s3=plF s2 t:=⟨_,Z⟩
 have j:=(o.plus C h).1;rw[<-g]at j;have k:tmF n t (256-i)=if n/2^i%2=1 then s3 else s2:=by
  rw[show 256-i=256-(i+1)+1 by omega];show(if n/2^(255-(256-(i+1)))%2=1 then plF (plF (tmF n t (256-(i+1))) (tmF n t (256-(i+1)))) t else plF (tmF n t (256-(i+1))) (tmF n t (256-(i+1))))=_;rw[show 255-(256-(i+1))=i by omega,hs,<-l,<-g]
 by_cases r:n/2^i%2=1
 .rw[GD r]at k;refine Zq <| Zq <| b.U [.x (iZ i),.x tZ] [2,3,4,5,6,9] ⟨st,aJ Z .geq (T:=3) 3 (t1:=8) (v1:=(iZ i)) (v2:=(iZ 0)) (v:=tZ) Z Z sx (λw=>kR) (WM (i:=i)),Fs⟩ λy u c=>?_
  refine Z6 c.ev<|aw<|Zq<|ay<|Zq <| c.T [.x (tv s),.x (tv s),.c (tv s2),.u 3] [] [(3,3,tw s2)] [2,3,4,5,6] ⟨ld u56 i56,ld u56 i56,cl d,RG.pt i56,Fs⟩ λa2 z f=>?_
  refine Zq <| f.U [.x (nv n),.x (iZ i),.c (U 1),.x tZ] [2,3,4,5,6,18] ⟨ld u33 i33,st,cl (TN x O r),st,Fs⟩ λM L e=>?_
  refine Z6 e.ev<|e.T [.x (tv s2),.x (tv t),.c (tv s3),.u 3] [] [(3,3,tw s3)] [2,3,4,5,6] ⟨ld u56 i56,ld u56 i56,cl j,RG.pt i56,Fs⟩ λa4 V A=>?_
  refine A.U [.x (iZ i),.x (iZ ((i:Y)-1)),.x (iZ ((i:Y)-1))] [2,3,4,5,6] ⟨st,aJ Z .sub (T:=3) 3 (t1:=10) (v1:=(iZ i)) (v2:=(iZ 1)) (v:=(iZ ((i:Y)-1))) Z Z sx (λw=>kR) (VN (i:=i) S),st,Fs⟩ λa5 w5 X=>?_
  show ∃W,_;exact⟨i,BT i,S,by rw[k];exact X.cv⟩
 rw[Id r]at k;refine Zq <| Zq <| b.U [.x (iZ i),.x tZ] [2,3,4,5,6,9] ⟨st,aJ Z .geq (T:=3) 3 (t1:=8) (v1:=(iZ i)) (v2:=(iZ 0)) (v:=tZ) Z Z sx (λw=>kR) (WM (i:=i)),Fs⟩ λy u c=>?_
 refine Z6 c.ev<|aw<|Zq<|ay<|Zq <| c.T [.x (tv s),.x (tv s),.c (tv s2),.u 3] [] [(3,3,tw s2)] [2,3,4,5,6] ⟨ld u56 i56,ld u56 i56,cl d,RG.pt i56,Fs⟩ λa2 z f=>?_
 refine Zq <| f.U [.x (nv n),.x (iZ i),.c (U 0),.x fZ] [2,3,4,5,6,18] ⟨ld u33 i33,st,cl (TO x O r),st,Fs⟩ λM L e=>?_
 refine Z2 e.ev<|aw<|e.U [.x (iZ i),.x (iZ ((i:Y)-1)),.x (iZ ((i:Y)-1))] [2,3,4,5,6] ⟨st,aJ Z .sub (T:=3) 3 (t1:=10) (v1:=(iZ i)) (v2:=(iZ 1)) (v:=(iZ ((i:Y)-1))) Z Z sx (λw=>kR) (VN (i:=i) S),st,Fs⟩ λa4 V A=>?_
 show ∃W,_;exact⟨i,BT i,S,by rw[k];exact A.cv⟩
def Zi(n:I):G It:=[.x 3 [] (nv n),.c 4 [] (tv (gT P)),.c 5 [(3,0),(4,1)] (tv (tmF n (gT P) 256)),.u [(5,2)] 1]
def IA(C:Fl3 P)(n:I)(d:n<top):FL 35 #[nv n] (tv (tmF n (gT P) 256)):=by
 intro w;go_enter func35,ntmps35;refine RG.M.enter [(0,.v (nv n))] 6 kR λa0 k=>?_
 refine Zq <| k.T [.m 0,.m 1] [(0,wn n),(1,RG.z 12)] [] [1,2] ⟨mk 0 46,mk 1 48,Fs⟩ λi e g f b=>?_
 refine Zq <| b.d (Zi (P:=P) n) [] [(1,3,tw (tmF n (gT P) 256))] [wn n,tw (tmF n (gT P) 256)] [(2,.p 1 0)] ⟨ld u33 i33,cl (TM C),cl (mG C n d (gT P) (C4 C.toFld)),RG.pt i56,Fs⟩ λa2 j c=>?_
 exact ag (c.rr 1 Z u56 i56)
def bs1(m:Y)(w:Zl):(pg 22 1 #[(0,.int .u8 m)]).run prog w=.ok (sZ w.heap.size 1 1) (w.alloc (.cells #[.int .u8 m] 5)):=by
 let⟨d,k,c⟩:=Zp.1 GM
 simp only[an.injEq]at c;obtain⟨h1,b,-⟩:=c;exact run_buildSlice w 22 5 1 _ #[.int .u8 m] d (.int .u8 0) LD k h1 (by rw[b];omega) (by rw[b];omega) (by rw[b];kernel_rfl)
def str1(m:Fk)(w:Zl)(k:I)(h:w.rangeAt k 0 [.int .u8 (ub m)]):(convert 22 9 (sZ k 1 1)).run prog w=.ok (.string ⟨#[m]⟩) w:=by
 have d:=run_convert_bytes_back (P:=prog) w 22 9 5 (aZ k) 1 [m] slice22 int5 str9 (λj c=>by
  obtain rfl:j=0:=by simpa using c
  have e:=h 0 _ Z;have b:(⟨k,0,F⟩:gE).add 0=⟨k,0,F⟩:=rfl;rw[b,e];simp[ub])
 simpa using d
def Oz(l:G Fk):beV l<256^l.length:=by
 induction l with
 | nil=>decide
 | cons x r ih =>
  have h:=gI [x] r;rw[show [x]++r=x :: r from Z]at h;have hx:beV [x]=x.toNat:=by simp[beV]
  have k:=x.toNat_lt;rw[h,hx,Z9,I.pow_succ,ax (256^r.length)];have:=z6 (256^r.length) (show x.toNat+1<=256 by omega);rw[I.add_mul,I.one_mul]at this;omega
def Rr:prog.underlying 40=J (.array 33 5):=kR
def dV{b:Bs}(h:b.size=33):aA b=[.int .u8 (ub b[0]!),.int .u8 (ub b[1]!),.int .u8 (ub b[2]!),.int .u8 (ub b[3]!),.int .u8 (ub b[4]!),.int .u8 (ub b[5]!),.int .u8 (ub b[6]!),.int .u8 (ub b[7]!),.int .u8 (ub b[8]!),.int .u8 (ub b[9]!),.int .u8 (ub b[10]!),.int .u8 (ub b[11]!),.int .u8 (ub b[12]!),.int .u8 (ub b[13]!),.int .u8 (ub b[14]!),.int .u8 (ub b[15]!),.int .u8 (ub b[16]!),.int .u8 (ub b[17]!),.int .u8 (ub b[18]!),.int .u8 (ub b[19]!),.int .u8 (ub b[20]!),.int .u8 (ub b[21]!),.int .u8 (ub b[22]!),.int .u8 (ub b[23]!),.int .u8 (ub b[24]!),.int .u8 (ub b[25]!),.int .u8 (ub b[26]!),.int .u8 (ub b[27]!),.int .u8 (ub b[28]!),.int .u8 (ub b[29]!),.int .u8 (ub b[30]!),.int .u8 (ub b[31]!),.int .u8 (ub b[32]!)]:=by
 apply yDB;intro i;by_cases k:i<33
 .rw[uQ (bs:=b) (i:=i) S];match i,k with
  | 0,_=>rfl
  | 1,_=>rfl
  | 2,_=>rfl
  | 3,_=>rfl
  | 4,_=>rfl
  | 5,_=>rfl
  | 6,_=>rfl
  | 7,_=>rfl
  | 8,_=>rfl
  | 9,_=>rfl
  | 10,_=>rfl
  | 11,_=>rfl
  | 12,_=>rfl
  | 13,_=>rfl
  | 14,_=>rfl
  | 15,_=>rfl
  | 16,_=>rfl
  | 17,_=>rfl
  | 18,_=>rfl
  | 19,_=>rfl
  | 20,_=>rfl
  | 21,_=>rfl
  | 22,_=>rfl
  | 23,_=>rfl
  | 24,_=>rfl
  | 25,_=>rfl
  | 26,_=>rfl
  | 27,_=>rfl
  | 28,_=>rfl
  | 29,_=>rfl
  | 30,_=>rfl
  | 31,_=>rfl
  | 32,_=>rfl
  | n+33,h=>exact absurd h S
 rw[zl (by rw[aB h];omega),zl (by show 33<=i;omega)]
def bytes_eq{a b:Bs}(c:a.size=33)(f:b.size=33):(∀i∈fo 33,ub a[i]! = ub b[i]!)↔a=b:=by
 constructor
 .intro h;apply R.ext (by rw[c,f]);intro i h1 d;have k:=h i (p9.2 S);rw[getElem!_pos a i h1,getElem!_pos b i d]at k;have e:a[i].toNat=b[i].toNat:=by unfold ub at k;omega
  exact Fk.toNat_inj.1 e
 rintro rfl i _;rfl
def WW{a b:Bs}(d:a.size=33)(e:b.size=33)(w:Zl):(Op.equal 40 (.agg (aA a).toArray) (.agg (aA b).toArray)).run prog w=.ok (decide (a=b)) w:=by
 have c:(prog.info? 5).isSome=H:=kR;let⟨f,k⟩:=GJ.isSome_iff_exists.1 c
 show(Op.equalIn 10000 40 _ _).run prog w=_;rw[run_equalIn_array w 9999 _ _ Rr k,cells5,
  eqI _ _ w (fo 33) (λi c=>by
   rw[ZU];exact uQ (by rw[d];exact p9.1 c)) (λi c=>by
   rw[ZU];exact uQ (by rw[e];exact p9.1 c))]
 rw[decide_eq_decide.2 (bytes_eq d e)]
def Jn{b:Bs}(k:b.size=33)(e:Hc)(w:Zl):(Instr.checkKey e 10000 40 (.agg (aA b).toArray)).run prog w=.ok () w:=by
 rw[dV k];kernel_rfl
def at?(b:Bs):G Bs->I->GJ I
 | [],_=>F
 | k :: r,i=>if b=k then J i else at? b r (i+1)
def ents:G Bs->I->G MapEntry
 | [],_=>[]
 | k :: r,i=>{ key:=.agg (aA k).toArray,val:=iZ i,born:=i } :: ents r (i+1)
def EP{b:Bs}(d:b.size=33)(w:Zl):∀(D:G Bs) (i:I),(∀k∈D,k.size=33)->(yFB 40 (.agg (aA b).toArray) (ents D i) i).run prog w=.ok ((at? b D i).map λj=>(j,iZ j)) w
 | [],i,_=>rfl
 | k :: r,i,h=>by
  have e:=EP d w r (i+1) (λx hx=>h x (ps _ hx));have f:=WW d (h k pw) w;unfold ents yFB at?;simp only[ZK,f,lp];by_cases c:b=k
  .simp only[c,decide_true,if_true,qj,GJ.map_some]
  simp only[c,decide_false,Hc.false_eq_true,if_false,e]
def IZ{D:G Bs}{b:Bs}(c:b.size=33)(h:∀k∈D,k.size=33)(w:Zl):(yGa 40 (.agg (aA b).toArray) (ents D 0)).run prog w=.ok ((at? b D 0).map λj=>(j,iZ j)) w:=by
 rw[yGa,ZK,yw Rr w,lp];cases D with
 | nil=>rfl
 | cons k r =>
  have h1:Instr.findNow (.array 33 5) (.agg (aA b).toArray) (ents (k :: r) 0) 0=F:=rfl;simp only[h1];exact EP c w (k :: r) 0 h
def at?_none{b:Bs}:∀ {D:G Bs}{i:I},at? b D i=F↔b ∉ D
 | [],i=>by simp[at?]
 | k :: r,i=>by
  unfold at?;by_cases h:b=k
  .simp[h]
  simp[h,at?_none (D:=r) (i:=i+1)]
section
section
variable {P:ai}{ops:Array Z4}{rest:List Z4}{op:Z4}{a:Act}{w w':Zl}{v u:Zm}{Q:Exit->Act->Zl->Prop}
def aI(k:op.guard=F)(T:ZR)(x:oF)(ho:op.op=.box T x)(hx:a.eval x=u)(b:(aj T u).run P w=.ok v w')(h:wpList P ops Q rest (a.put op.dst v) w'):wpList P ops Q (op :: rest) a w:=
 sj k λK c=>by
  unfold ao Z0;simp only[ho,hx,ZK,b,lp,qj];exact c _ _ h
end
variable {N:Nat}
def dB:gZ 40 33:=gQ
def uCP:yZ 40:=yQ
def uP{a:Bs}(k:a.size=33)(w:Zl):(aj 40 (.agg (aA a).toArray)).run prog w=.ok (jZ w.heap.size) (w.alloc (.cells (aA a).toArray 40)):=by
 rw[dV k];kernel_rfl
def VP(k:I)(w:Zl):(ux 40 (jZ k) F F F).run prog w=.ok (sZ k 33 33) w:=kR
theorem row_holds{k:I}{a:Bs}(h:FJ W k (aA a)):hZ W k 0 a:=cb_holds h.2.1 h.2.2
def zI{k:I}{a:Bs}(b:a.size=33)(h:FJ W k (aA a)):PartOk W (sZ k 33 33) a.toList:=
 ⟨_,k,0,33,a,by rw[b],Z,S,S,ZW ⟨Z,row_holds h⟩⟩
def Tn{L:Bs}(h:hZ W r 0 L):FE SP.encB W r 0 L:=h
def Tk{L:Bs}(h:FE SP.encB W r 0 L):hZ W r 0 L:=h
end
def JB(g k:I)(w:Zl):(yGb 40 (sZ g 33 k)).run prog w=.ok (jZ g) w:=kR
def mW{k:I}{a:Bs}(b:hZ W k 0 a)(c:k<W.heap.size):FJ W k (aA a):=⟨c,(uO b).1,(uO b).2⟩
def bW{a:Bs}:(aA a).toArray.all (·.oneCell')=H:=by
 rw[ul];intro v hv;obtain⟨x,-,rfl⟩:=Z1.1 (yCD.1 hv);rfl
def pvl(a:Bs):Zm:=.agg (aA a).toArray
def Si(C:IO P):FL 99 #[] (pvl (wr (gG P))):=by
 intro w;let⟨T,hT⟩:∃T,E (wr (gG P)=T):=⟨_,Z⟩
 have s:T.size=33:=hT.out▸aR _;rw[hT.out];let⟨f,b⟩:∃f,E (w.alloc (.cells z33.toArray 40)=f):=⟨_,Z⟩
 have r:E (FJ f w.heap.size z33/\kZ w f):=by rw[<-b.out];exact⟨aE,aD _⟩
 let⟨d,m,i⟩:=Zp.1 uCP
 have a:E (prog.underlying 40=J d/\d.isRow=H):=⟨m,i⟩
 clear m i;go_enter func99,ntmps99;go_wp2_with (refine bH (v:=jZ w.heap.size) (w':=f) Z (.alloc 40) Z ?_ ?_;(rw[<-b.out];kernel_rfl))
 apply(Vm C f).mono;rintro e n ⟨L,rfl,c,g,A,rfl,-,K,u,t⟩;rw[hT.out]at t;have p:E (FJ n w.heap.size z33/\kZ w n/\FJ n g (aA T)):=⟨r.1.below c,r.2.trans (c.mono r.2.size),mW t u⟩
 clear c K u t r b;have y:=JB g A;let⟨o,l⟩:∃o,E (n.setCells w.heap.size 0 (aA T)=o):=⟨_,Z⟩
 have k:(aA T).length=33:=aB s;have x:E (FJ o w.heap.size (aA T)/\kZ w o):=by rw[<-l.out];exact⟨p.1.put (by rw[k];rfl),RG.below_setCells (Zo _) _ _ _ p.2.1⟩
 let⟨z,j⟩:∃z,E (ZM (aA T).toArray=z):=⟨_,Z⟩
 have q:E (gZ 40 (aA T).length/\n.there w.heap.size 0 (aA T).toArray.size/\gZ 40 (aA T).toArray.size):=by
  have e:(aA T).toArray.size=33:=by rw[kI];exact k
  refine⟨by rw[k];exact dB,by rw[e];exact p.1.2.2,by rw[e];exact dB⟩
 clear k;go_wp2_with (first|(refine gS Z 40 _ Z g 0 ?_ (aA T) d ?_ ?_ ?_ ?_ ?_;rfl;exact p.2.2.2.1;exact a.1;exact a.2;exact q.1;rw[j.out])|(refine ZZ Z 40 _ _ Z w.heap.size 0 (aA T).toArray ?_ ?_ ?_ ?_ ?_ ?_;rfl;exact j.symm;exact q.2.1;exact q.2.2;exact bW;rw[show(aA T).toArray.toList=aA T from Z,l.out]))
 refine Zx (aG 0 Z x.1 Z uCP q.1) Z ?_;exact⟨_,Z,x.2,Z⟩
section
section
variable {P:ai}{ops:Array Z4}{rest:List Z4}{op:Z4}{a:Act}{w w':Zl}{v:Zm}{Q:Exit->Act->Zl->Prop}
def fO(b:op.guard=F)(T:ZR)(k:R (I × oF))(ho:op.op=.build T k)(vs:R (I × Zm))(hx:(k.map λ(i,x)=>(i,a.eval x))=vs)(c:(CI T vs).run P w=.ok v w')(h:wpList P ops Q rest (a.put op.dst v) w'):wpList P ops Q (op :: rest) a w:=
 sj b λK d=>by
  unfold ao Z0;simp only[ho,hx,ZK,c,lp,qj];exact d _ _ h
def kO(b:op.guard=F)(T:ZR)(n:I)(k:R (I × oF))(ho:op.op=.buildSlice T n k)(vs:R (I × Zm))(hx:(k.map λ(i,x)=>(i,a.eval x))=vs)(c:(pg T n vs).run P w=.ok v w')(h:wpList P ops Q rest (a.put op.dst v) w'):wpList P ops Q (op :: rest) a w:=
 sj b λK d=>by
  unfold ao Z0;simp only[ho,hx,ZK,c,lp,qj];exact d _ _ h
end
def XF{a:Bs}(k:a.size=33)(n:I)(w:Zl):(CI 244 #[(0,nv n),(1,pvl a)]).run prog w=.ok (.agg (wn n++aA a).toArray) w:=by
 rw[pvl,dV k];kernel_rfl
def Xv{a:Bs}(k:a.size=33)(n:I)(w:Zl):(pg 124 1 #[(0,.agg (wn n++aA a).toArray)]).run prog w=.ok (sZ w.heap.size 1 1) (w.alloc (.cells (wn n++aA a).toArray 244)):=by
 rw[dV k];kernel_rfl
def boxS(n:I):(aj 93 (nv n)).run prog w=.ok (jZ w.heap.size) (w.alloc (.cells (wn n).toArray 93)):=kR
def mI(a:Bs)(q:a.size=33)(n:I)(w:Zl):ae prog 100 #[pvl a,nv n] w (rZ w λe w'=>∃k,e=sZ k 1 1/\w.heap.size<=k/\FJ w' k (wn n++aA a)):=by
 have P:=Hid.mk' (uP q w);obtain⟨c,j⟩:=hE (w.alloc (.cells (aA a).toArray 40));rw[j.out]at P;have A:c.heap.size=w.heap.size+1:=by rw[<-j.out,Zy]
 have M:=Hid.mk' (boxS n (w:=c));obtain⟨b,f⟩:=hE (c.alloc (.cells (wn n).toArray 93));rw[f.out,A]at M;have N:b.heap.size=w.heap.size+2:=by rw[<-f.out,Zy,A]
 have O:=Hid.mk' (XF q n b);have L:=Hid.mk' (Xv q n b);obtain⟨o,l⟩:=hE (b.alloc (.cells (wn n++aA a).toArray 244));rw[l.out,N]at L;have K:E (FJ b w.heap.size (aA a)/\FJ b (w.heap.size+1) (wn n)/\kZ w o/\FJ o (w.heap.size+2) (wn n++aA a)):=by
  have m:FJ c w.heap.size (aA a):=by rw[<-j.out];exact aE (w:=w)
  have r:FJ b (w.heap.size+1) (wn n):=by rw[<-f.out,<-A];exact aE (w:=c)
  have p:FJ o (w.heap.size+2) (wn n++aA a):=by rw[<-l.out,<-N];exact aE (w:=b)
  have b1:kZ w c:=by rw[<-j.out];exact aD (w:=w) _
  have g:kZ c b:=by rw[<-f.out];exact aD (w:=c) _
  have i:kZ b o:=by rw[<-l.out];exact aD (w:=b) _
  exact⟨m.below g,r,(b1.trans (g.mono S)).trans (i.mono S),p⟩
 have T:E ((prog.info? 40).map (·.size)=J (aA a).length):=by show _=_;rw[aB q];exact dB
 obtain⟨d,x,r⟩:=Zp.1 uCP;obtain⟨y,s,C⟩:=Zp.1 u40;have p:E ((prog.underlying 40=J d/\d.isRow=H)/\prog.underlying 93=J y/\y.isRow=H):=⟨⟨x,r⟩,s,C⟩
 obtain⟨va,g⟩:=hE (pvl a);obtain⟨z,i⟩:=hE (nv n);obtain⟨Q,m⟩:=hE (ZM (wn n++aA a).toArray);have t:E ((aj 40 va).run prog w=.ok (jZ w.heap.size) c):=by rw[<-g.out];exact P
 rw[i.out]at M;rw[g.out,i.out,m.out]at O;rw[m.out]at L;rw[g.out,i.out];go_enter func100,ntmps100;go_wp2_with (first|(refine aI (u:=va) (v:=jZ w.heap.size) (w':=c) Z 40 (.tmp 0) Z ?_ ?_ ?_;rfl;exact t)|(refine aI (u:=z) (v:=jZ (w.heap.size+1)) (w':=b) Z 93 (.tmp 1) Z ?_ ?_ ?_;rfl;exact M)|(refine gS Z 93 _ Z (w.heap.size+1) 0 ?_ (wn n) y ?_ ?_ ?_ ?_ ?_;rfl;exact K.2.1.2.1;exact p.2.1;exact p.2.2;exact In;rw[show ZM (wn n).toArray=z from i.out])|(refine gS Z 40 _ Z w.heap.size 0 ?_ (aA a) d ?_ ?_ ?_ ?_ ?_;rfl;exact K.1.2.1;exact p.1.1;exact p.1.2;exact T;rw[show ZM (aA a).toArray=va from g.out])|(refine fO (v:=Q) (w':=b) Z 244 _ Z #[(0,z),(1,va)] ?_ ?_ ?_;kernel_rfl;exact O)|(refine kO (v:=sZ (w.heap.size+2) 1 1) (w':=o) Z 124 1 _ Z #[(0,Q)] ?_ ?_ ?_;kernel_rfl;exact L))
 go_ret;exact⟨_,Z,K.2.2.1,w.heap.size+2,Z,S,K.2.2.2⟩
end
def Y1{a:Bs}(k:a.size=33)(n:I)(w:Zl):(aj 244 (.agg (wn n++aA a).toArray)).run prog w=.ok (jZ w.heap.size) (w.alloc (.cells (wn n++aA a).toArray 244)):=by
 rw[dV k];kernel_rfl
def Y3:(CI 93 #[]).run prog w=.ok (nv 0) w:=kR
def tvl(n:I)(a:Bs):Zm:=.agg (wn n++aA a).toArray
def lM{k:I}(h:W.rangeAt k 0 (xs++ys)):W.rangeAt k 0 xs:=λj v b=>h j v (by rw[uo (Zz.1 b).1];exact b)
def mY{k:I}(h:W.rangeAt k 0 (xs++ys)):W.rangeAt k xs.length ys:=λj v b=>by
 have:=h (xs.length+j) v (by rw[xS (yDc _ _),xV];exact b);rwa[Zs]at this
def Nf(s:n<top){a:Bs}(t:a.size=33):FL 215 #[tvl n a] (.bool (decide (n=0))):=by
 intro w;have j:=Hid.mk' (Y1 t n w);obtain⟨k,e⟩:=hE (w.alloc (.cells (wn n++aA a).toArray 244));rw[e.out]at j;have K:E (FJ k w.heap.size (wn n++aA a)/\kZ w k):=by rw[<-e.out];exact⟨aE (w:=w),aD (w:=w) _⟩
 obtain⟨r,f,l⟩:=Zp.1 u40;have p:=mk2 f l;obtain⟨va,d⟩:=hE (tvl n a);obtain⟨o,b⟩:=hE (nv n);obtain⟨v0,c⟩:=hE (nv 0);have g:E ((aj 244 va).run prog w=.ok (jZ w.heap.size) k):=by rw[<-d.out];exact j
 have x:E ((CI 93 #[]).run prog k=.ok v0 k):=by rw[<-c.out];exact Y3 (w:=k)
 have i:=Hid.mk' (eqS s (show 0<top by unfold top;omega) (w:=k));rw[b.out,c.out]at i;have q:=i.out;obtain⟨z,m⟩:=hE (decide (n=0));rw[m.out]at q;have y:(eqGuard .eql 93 (.tmp 4) (.tmp 5) o v0).run prog k=.ok () k:=by rw[<-b.out,<-c.out];kernel_rfl
 rw[d.out,m.out];clear j i;go_enter func215,ntmps215;go_wp2_with (first|(refine aI (u:=va) (v:=jZ w.heap.size) (w':=k) Z 244 (.tmp 0) Z ?_ ?_ ?_;rfl;exact g.out)|(refine gS Z 93 _ Z w.heap.size 0 ?_ (wn n) r ?_ ?_ ?_ ?_ ?_;rfl;exact lM K.1.2.1;exact p.1;exact p.2;exact In;rw[show ZM (wn n).toArray=o from b.out])|(refine fO (v:=v0) (w':=k) Z 93 _ Z #[] ?_ ?_ ?_;kernel_rfl;exact x.out))
 go_wp2;go_ret;exact⟨_,Z,K.2,Z⟩
def uT:yZ 244:=yQ
def iT:gZ 244 37:=gQ
def atT(k o c:I)(b:i<n)(w:Zl):(iB 124 (qZ k o n c) (iZ i)).run prog w=.ok (oZ k (o+37*i)) w:=by
 go_simp
def mA(ns:I->I):I->I->Y
 | _,0=>-1
 | i,m+1=>if ns i=0 then(i:Y) else mA ns (i+1) m
def SU(b:Hc):G It:=[.x 9 [] (.bool b)]
def SS(g k c i n:I)(a:Bs)(z:Hc):G It:=[.x 11 [] (.func (.func 215) #[] #[]),.x 12 [] (sZ g k c),.x 13 [] (iZ i),.x 14 [(12,1),(13,2)] (oZ g (0+37*i)),.x 15 [(14,3)] (tvl n a),.c 16 [(11,0),(15,4)] (.bool z)]
def I1(g k c:I)(hk:k<=1000000)(ns:I->I)(P:I->Bs)(hn:∀j,j<k->ns j<top)(ha:∀j,j<k->(P j).size=33)(w:Zl)(hg:g<w.heap.size)(hr:∀j,j<k->w.rangeAt g (37*j) (wn (ns j)++aA (P j))):
 eZ 229 #[sZ g k c,.func (.func 215) #[] #[]] w (iZ (mA ns 0 k)):=by
 obtain⟨R,hR⟩:=vH (mA ns 0 k);rw[hR];go_enter func229,ntmps229;refine RG.M.enter [(0,.v (sZ g k c)),(1,.v (.func (.func 215) #[] #[]))] 19 kR λa0 M0=>?_
 refine Zq <| M0.U [.x (iZ 0)] [0,1] ⟨st,Fs⟩ λa1 w1 M1=>?_
 refine Zq <| Zq <| M1.U [.x (sZ g k c),.x (iZ k),.x (iZ 0)] [0,1,7,8] ⟨st,st,st,Fs⟩ λa2 w2 M2=>?_
 repeat apply Zq
 refine ay<|DM (λm a wr=>∃i:I,i+m=k/\mA ns i m=R/\RG.M w w.heap.size [] 19 [] [] [(0,.v (sZ g k c)),(1,.v (.func (.func 215) #[] #[])),(7,.v (iZ k)),(8,.v (iZ i))] a wr) k ⟨0,S,hR,M2⟩ ?_
 intro T a wr;rintro⟨i,h2,hf,x⟩;by_cases s:i<k
 .obtain⟨n,u⟩:=vH (ns i);obtain⟨b,X⟩:=vH (P i);have y:=hn i s;have r:=ha i s;have t:=hr i s;rw[u]at y t;rw[X]at r t;have q:w.rangeAt g (0+37*i) (wn n++aA b):=by rw[Zs];exact t
  have p:gZ 244 (wn n++aA b).length:=by rw[Zv,aB r];exact iT
  have A:=Nf y r;obtain⟨C,rfl⟩:∃C,T=C+1:=⟨T-1,S⟩
  unfold mA at hf;rw[u]at hf;refine Zq <| x.u (SU H) [(0,.v (sZ g k c)),(1,.v (.func (.func 215) #[] #[])),(7,.v (iZ k)),(8,.v (iZ i)),(9,.v tZ)] ⟨aT Z .lss (T:=3) 3 (t1:=8) (t2:=7) (v1:=(iZ i)) (v2:=(iZ k)) (v:=tZ) Z Z sx sx (λw=>kR) (pO s),Fs⟩ λQ N o=>?_
  refine Zq <| Z6 o.ev ?_
  refine aw<|Zq<|ay<|Zq <| o.U [.x (iZ i),.x (iZ i)] [0,1,7,8,5] ⟨st,st,Fs⟩ λV W d=>?_
  repeat apply Zq
  by_cases z:n=0
  .rw[decide_eq_true z]at A;rw[GD z]at hf;refine d.u (SS g k c i n b H) [(0,.v (sZ g k c)),(1,.v (.func (.func 215) #[] #[])),(7,.v (iZ k)),(8,.v (iZ i)),(5,.v (iZ i)),(16,.v tZ)] ⟨st,st,st,cJ Z 124 (t:=12) (u:=13) Z (.v (sZ g k c)) (iv:=(iZ i)) sx sx (λμ w=>atT _ 0 _ (i:=i) s w),eU Z (k:=g) (off:=(0+37*i)) hg ZJ (T:=244) (t:=14) Z (cs:=(wn n++aA b)) Z sx q uT p,clB (λ_ _=>kR) (λw' _=>A w'),Fs⟩ λL M f=>?_
   refine Z6 f.ev<|Zq <| f.U [.x (iZ i),.x (iZ i)] [4] ⟨st,st,Fs⟩ λO K l=>?_
   refine ag<|Zx (v:=iZ i) (mD (t:=4) Z (v:=(iZ i)) l.av) l.sl.defers ?_
   exact⟨_,Z,l.st.bel.below,by rw[hf]⟩
  rw[decide_eq_false z]at A;rw[Id z]at hf;refine d.u (SS g k c i n b D) [(0,.v (sZ g k c)),(1,.v (.func (.func 215) #[] #[])),(7,.v (iZ k)),(8,.v (iZ i)),(16,.v fZ)] ⟨st,st,st,cJ Z 124 (t:=12) (u:=13) Z (.v (sZ g k c)) (iv:=(iZ i)) sx sx (λμ w=>atT _ 0 _ (i:=i) s w),eU Z (k:=g) (off:=(0+37*i)) hg ZJ (T:=244) (t:=14) Z (cs:=(wn n++aA b)) Z sx q uT p,clB (λ_ _=>kR) (λw' _=>A w'),Fs⟩ λL M f=>?_
  refine Z2 f.ev<|aw<|f.U [.x (iZ ((i+1:I):Y)),.x (iZ ((i+1:I):Y))] [0,1,7,8] ⟨aJ Z .add (T:=3) 3 (t1:=8) (v1:=(iZ i)) (v2:=(iZ 1)) (v:=(iZ ((i+1:I):Y))) Z Z sx (λw=>kR) (Ba (a:=i) (b:=1) S S),st,Fs⟩ λO K l=>?_
  show ∃n',_;exact⟨C,S,i+1,S,hf,l⟩
 have f:T=0:=S;rw[f]at hf;unfold mA at hf;refine Zq <| x.u (SU D) [(9,.v fZ)] ⟨aT Z .lss (T:=3) 3 (t1:=8) (t2:=7) (v1:=(iZ i)) (v2:=(iZ k)) (v:=fZ) Z Z sx sx (λw=>kR) (wG s),Fs⟩ λQ N o=>?_
 refine Zq <| Z2 o.ev ?_
 apply wp_exit;dsimp only[Exit.then,yr];rw[GD Z];refine Zq <| o.U [.x (iZ (-1))] [4] ⟨st,Fs⟩ λV W d=>?_
 refine ag<|Zx (v:=iZ (-1)) (mD (t:=4) Z (v:=(iZ (-1))) d.av) d.sl.defers ?_
 exact⟨_,Z,d.st.bel.below,by rw[<-hf]⟩
def xJ{ns:I->I}:∀(m i:I),(∀j,i<=j->j<i+m->ns j≠0)->mA ns i m = -1
 | 0,_,_=>rfl
 | m+1,i,h=>by
  rw[mA,Id (h i (Zo _) S)];exact xJ m (i+1) (λj h1 k=>h j S S)
def EQ(g k c:I)(p:k<=1000000)(ns:I->I)(b:I->Bs)(t:∀j,j<k->ns j<top)(f:∀j,j<k->ns j≠0)(x:∀j,j<k->(b j).size=33)(w:Zl)(m:g<w.heap.size)(r:∀j,j<k->w.rangeAt g (37*j) (wn (ns j)++aA (b j))):
 eZ 214 #[sZ g k c,.func (.func 215) #[] #[]] w (sZ g k c):=by
 have q:∀w',BelX w.heap.size [] w w'->cZ 229 #[sZ g k c,.func (.func 215) #[] #[]] w' (Ret λe d=>kZ w' d/\e=iZ (-1)):=λw' l=>by
  have h:=I1 g k c p ns b t x w' (Zn m l.below.size) (λj i=>aF (r j i) l.below m);rw[xJ k 0 (λj _ n=>f j S)]at h;exact h
 go_enter func214,ntmps214;refine RG.M.enter [(0,.v (sZ g k c)),(1,.v (.func (.func 215) #[] #[]))] 42 kR λa0 u=>?_
 refine Zq <| u.U [.x nZ] [0,1] ⟨st,Fs⟩ λK z o=>Zq <| o.U [.x (sZ g k c),.x (.func (.func 215) #[] #[]),.c (iZ (-1)),.x (iZ (-1))] [0,5] ⟨st,st,clB (λ_ _=>kR) q,st,Fs⟩ λa2 L s=>Zq <| Zq <| s.U [.x (iZ (-1)),.x tZ] [0,12] ⟨st,st,Fs⟩ λA a n=>Z6 n.ev<|Zq <| n.U [.x (sZ g k c),.x (sZ g k c)] [4] ⟨st,st,Fs⟩ λC y i=>ag<|Zx (v:=(sZ g k c)) (mD Z i.av) i.sl.defers ?_
 exact⟨_,Z,i.st.bel.below,Z⟩
def VC:prog.underlying 272=J (.map 40 3):=kR
def zero3(w:Zl):(zeroValue 3).run prog w=.ok (iZ 0) w:=kR
def B9(b:Bs):∀(D:G Bs) (i:I),ents (D++[b]) i=ents D i++[{ key:=.agg (aA b).toArray,val:=iZ ((i+D.length:I):Y),born:=i+D.length }]
 | [],i=>rfl
 | k :: r,i=>by
  rw[qo];rw[ents,B9 b r (i+1),Z9,show i+1+r.length=i+(r.length+1) by omega];rfl
def EA{b:Bs}(d:b.size=33)(D:G Bs)(n:∀k∈D,k.size=33)(m c:I)(w:Zl)(f:w.heap[m]? = J (.map (ents D 0).toArray c)):
 (yEZ 272 (.map (J m)) (.agg (aA b).toArray) H).run prog w=.ok (.tuple #[.int .i64 (((at? b D 0).getD 0:I):Y),.bool (at? b D 0).isSome]) w:=by
 have h1:=yw VC w;have g:=λe=>Jn d e w
 have l:=IZ d (D:=D) n w;have i:(getObj m).run prog w=.ok (.map (ents D 0).toArray c) w:=by
  simp[getObj,yGt,f]
 unfold yEZ;simp only[ZK,h1,lp,i,qj,g,l];cases h:at? b D 0 with
 | none=>simp[ZK,zero3]
 | some j=>simp
def Pd{D:G Bs}{b:Bs}(f:b.size=33)(l:∀k∈D,k.size=33)(m:I)(w:Zl)(c:w.heap[m]? = J (.map (ents D 0).toArray D.length))(j:at? b D 0=F):
 (yDG 272 (.map (J m)) (.agg (aA b).toArray) (iZ (D.length:Y))).run prog w=.ok () (w.putObj m (.map (ents (D++[b]) 0).toArray (D.length+1))):=by
 have h1:=yw VC w;have g:=λe=>Jn f e w
 have d:=IZ f l w;rw[j]at d;have i:(getObj m).run prog w=.ok (.map (ents D 0).toArray D.length) w:=by
  simp[getObj,yGt,c]
 unfold yDG;simp only[ZK,h1,lp,i,qj,g,d];rw[B9,Zs];simp[setObj,yGt,c,yEU]
def Ft:prog.underlying 124=J (.slice 244):=kR
def Wz:(prog.info? 244).map (λi=>(i.size,i.bytes,i.zero.map λz=>z.cells.size))=J (37,72,J 37):=kR
def cells_one{a:Bs}:∀u∈wn n++aA a,u.oneCell'=H:=by
 intro u k;rcases py.1 k with h|h
 .unfold wn at h;simp only[fT,ZJ,or_false]at h;rcases h with rfl|rfl|rfl|rfl<;>rfl
 obtain⟨x,-,rfl⟩:=Z1.1 h;rfl
theorem OH{k:I}{v:Zm}{a:Bs}(t:a.size=33)(b:W.ownsRow base 244 37 v k xs)(hR:FJ W g (wn n++aA a))(w:k<=1000000)(o:base<=W.heap.size):
 ∃c W',(oT #[124,124] 124 #[v,sZ g 1 1]).run prog W=.ok c W'/\W'.ownsRow base 244 37 c (k+1) (xs++(wn n++aA a))/\W.grownBy W' v.ownBlock:=by
 let⟨i,r,e⟩:=Zp.1 Wz
 simp only[an.injEq]at e;let⟨h1,l,q⟩:=e
 let⟨z,p,d⟩:=Zp.1 q
 obtain⟨c,W',m,r2,f,-⟩:=yDJ (P:=prog) W base 124 124 244 i z 37 72 Ft r p h1 l d dC v k xs b (aZ g) 1 1 (wn n++aA a) (by rw[Zv,aB t];rfl)
  (λj u s=>by
   have:=hR.2.1 j u s;rw[Zs]at this;rw[show(⟨g,0,F⟩:gE).add j=⟨g,j,F⟩ by unfold ts;split<;>simp_all];exact this) cells_one (by unfold maxLen;omega) S o
 exact⟨c,W',m,r2,f⟩
def gJ(N:I):LB->I->Bs->LB
 | [],n,p=>[(n,p)]
 | (s,q) :: r,n,p=>if p=q then(sPl N s n,q) :: r else(s,q) :: gJ N r n p
def mrg(N:I)(ns:I->I)(k:I->Bs):I->LB
 | 0=>[]
 | i+1=>gJ N (mrg N ns k i) (ns i) (k i)
def aU(l:LB):G Zm:=l.flatMap λx=>wn x.1++aA x.2
def E8{N n:I}{p:Bs}:∀ {l:LB},at? p (l.map (·.2)) 0=F->gJ N l n p=l++[(n,p)]
 | [],_=>rfl
 | (s,q) :: r,h=>by
  have k:=at?_none.1 h;rw[uz,fT,not_or]at k;rw[gJ,Id k.1,E8 (l:=r) (at?_none.2 k.2)];rfl
def EY(l:LB)(n:I)(p:Bs):aU (l++[(n,p)])=aU l++(wn n++aA p):=by
 unfold aU;rw[yCI];simp
structure Mx(w W:Zl)(m:I)(l:LB)(v:Zm):Prop where
 bl:kZ w W
 mp:W.heap[m]? = J (.map (ents (l.map (·.2)) 0).toArray l.length)
 lm:w.heap.size<=m
 ow:W.ownsRow w.heap.size 244 37 v l.length (aU l)
def Mx.own_ne{v:Zm}(h:Mx w W m l v)(b:v.ownBlock=J g):g≠m/\w.heap.size<=g/\g<W.heap.size:=by
 rcases h.ow.2 with⟨rfl,-⟩|⟨c,cap,cur,rfl,h1,k,-⟩
 .cases b
 obtain rfl:c=g:=by simpa[Value.ownBlock]using b
 refine⟨λe=>?_,h1,(ZO.1 k).1⟩;have:=h.mp;rw[<-e,k]at this;cases this
def v9{k:I}{v:Zm}(h:W.ownsRow base e s v k xs)(c:∀g,v.ownBlock=J g->W'.heap[g]? = W.heap[g]?):W'.ownsRow base e s v k xs:=by
 refine⟨h.1,?_⟩;rcases h.2 with b|⟨g,cap,cur,rfl,h1,b,d⟩
 .exact Z5 b
 exact ZW ⟨g,cap,cur,Z,h1,by rw[c g Z];exact b,d⟩
def Mx.kept{v:Zm}(h:Mx w W m l v)(k:kZ W W'):Mx w W' m l v:=
 ⟨h.bl.trans (k.mono h.bl.size),by rw[k.block m (ZO.1 h.mp).1];exact h.mp,h.lm,v9 h.ow λg b=>k.block g (h.own_ne b).2.2⟩
def NV(l:LB)(n:I)(p:Bs):(l++[(n,p)]).map (·.2)=l.map (·.2)++[p]:=by simp
def Mx.push{v:Zm}(h:Mx w W m l v){p:Bs}(M:p.size=33)(L:l.length<=1000000)(n:I):
 ∃i b,(oT #[124,124] 124 #[v,sZ W.heap.size 1 1]).run prog ((W.putObj m (.map (ents (l.map (·.2)++[p]) 0).toArray (l.length+1))).alloc (.cells (wn n++aA p).toArray 244))=.ok i b/\Mx w b m (l++[(n,p)]) i/\W.heap.size<b.heap.size/\∀j,j<W.heap.size->w.heap.size<=j->j≠m->J j≠v.ownBlock->b.heap[j]? = W.heap[j]?:=by
 let⟨c,d⟩:∃c,W.putObj m (.map (ents (l.map (·.2)++[p]) 0).toArray (l.length+1))=c:=⟨_,Z⟩
 have s3:c.heap.size=W.heap.size:=by rw[<-d];simp[yEU]
 have s:=(ZO.1 h.mp).1;have t:∀j,j≠m->c.heap[j]? = W.heap[j]?:=λj z=>by rw[<-d];exact World.putObj_heap_other z
 have o:=h.bl.trans ⟨by rw[<-d];rfl,by rw[<-d];rfl,by rw[<-d];rfl,S,λj z=>t j (oN h.lm)⟩;have K:=v9 h.ow λg r=>t g (h.own_ne r).1
 have A:c.heap[m]? = J (.map (ents (l.map (·.2)++[p]) 0).toArray (l.length+1)):=by rw[<-d];exact World.putObj_heap_same s
 rw[d];have R4:=aE (w:=c) (c:=(wn n++aA p)) (T:=244);have q:=aD (w:=c) (.cells (wn n++aA p).toArray 244);have s4:(c.alloc (.cells (wn n++aA p).toArray 244)).heap.size=W.heap.size+1:=by rw[Zy,s3]
 have a:=v9 K λg r=>q.block g (oN ((h.own_ne r).2.2))
 rw[s3]at R4;let⟨i,b,C,r2,f⟩:=OH M a R4 L (oN o.size)
 have y:J m≠v.ownBlock:=λe=>(h.own_ne e.symm).1 Z
 refine⟨i,b,C,⟨?_,?_,h.lm,?_⟩,oN f.size,λj z _ x u=>?_⟩
 .exact(o.trans (q.mono o.size)).grown f (oN o.size) (λk e=>(h.own_ne e).2.1)
 .rw[f.block m S y,q.block m S,A,NV,Zv];rfl
 .rw[EY,Zv];exact r2
 rw[f.block j S u,q.block j S,t j x]
section
variable {P:ai}{ops:Array Z4}{rest:List Z4}{op:Z4}{a:Act}{w w':Zl}{v x y z:Zm}{Q:Exit->Act->Zl->Prop}
def Bt(b:op.guard=F)(T:ZR)(m k:oF)(ok:Hc)(ho:op.op=.lookup T m k ok)(c:a.eval m=x)(d:a.eval k=y)(e:(yEZ T x y ok).run P w=.ok v w')(h:wpList P ops Q rest (a.put op.dst v) w'):wpList P ops Q (op :: rest) a w:=
 sj b λK f=>by
  unfold ao Z0;simp only[ho,c,d,ZK,e,lp,qj];exact f _ _ h
def JK(b:op.guard=F)(T:ZR)(m k u:oF)(ho:op.op=.mapUpdate T m k u)(c:a.eval m=x)(d:a.eval k=y)(g:a.eval u=z)(e:(yDG T x y z).run P w=.ok () w')(h:wpList P ops Q rest (a.put op.dst undef) w'):wpList P ops Q (op :: rest) a w:=
 sj b λK f=>by
  unfold ao Z0;simp only[ho,c,d,g,ZK,e,lp,qj];exact f _ _ h
def kP(k:op.guard=F)(s u:oF)(t:ZR)(ho:op.op=.call { callee:=.builtin .append,args:=#[s,u],argTypes:=#[t,t] })(hs:a.eval s=x)(d:a.eval u=y)(b:(oT #[t,t] op.type #[x,y]).run P w=.ok v w')(h:wpList P ops Q rest (a.put op.dst v) w'):wpList P ops Q (op :: rest) a w:=
 sj k λK c=>by
  unfold ao Z0;simp only[ho,resolve,invoke,builtin,ZK,qj,lp,G.map_toArray,uz,G.map_nil,hs,d,b];exact c _ _ h
end
def zT:G Zm:=[U 0,U 0,U 0,U 0]++z33
def J5{k:I}{v:Zm}(h:W.ownsRow base e s v k xs):∃q cap,v=.slice q k cap:=by
 rcases h.2 with⟨rfl,rfl⟩|⟨g,cap,cur,rfl,-⟩
 .exact⟨F,0,Z⟩
 exact⟨J (aZ g),cap,Z⟩
def CW(ns:I->I)(k:I->Bs):∀i,(mrg N ns k i).length<=i
 | 0=>Zo _
 | i+1=>by
  have b:=CW ns k i;have h:∀(l:LB) n p,(gJ N l n p).length<=l.length+1:=by
   intro l n p;induction l with
   | nil=>exact Zo _
   | cons x r ihr =>
    unfold gJ;split
    .simp
    simp only[Z9];omega
  exact Zw (h _ _ _) S
def Ah(ns:I->I)(b:I->Bs){k:I}(c:∀j,j<k->(b j).size=33):∀i,i<=k->∀x∈(mrg N ns b i).map (·.2),x.size=33
 | 0,_=>λx hx=>by cases hx
 | i+1,hi=>by
  have h:∀(l:LB) n p,p.size=33->(∀x∈l.map (·.2),x.size=33)->∀x∈(gJ N l n p).map (·.2),x.size=33:=by
   intro l n p d;induction l with
   | nil=>intro _ x hx;simp[gJ]at hx;rw[hx];exact d
   | cons y r ihr =>
    intro hl x hx;unfold gJ at hx;split at hx
    .exact hl x (by simpa using hx)
    rw[uz,fT]at hx;rcases hx with hx|hx
    .exact hl x (by rw[hx];simp)
    exact ihr (λz e=>hl z (ps _ e)) x hx
  exact h _ _ _ (c i S) (Ah ns b c i S)
def mL:∀(l:LB),(∀x∈l.map (·.2),x.size=33)->∀(j:I) (k:j<l.length) (t:I),t<37->(aU l)[37*j+t]? = (wn (l[j]).1++aA (l[j]).2)[t]?
 | [],_,j,k,_,_=>by cases k
 | x :: r,hs,j,k,t,ht=>by
  have hx:(wn x.1++aA x.2).length=37:=by rw[Zv,aB (hs x.2 (by simp))];rfl
  have e:aU (x :: r)=(wn x.1++aA x.2)++aU r:=by unfold aU;rw[yEb]
  rw[e];cases j with
  | zero =>
   rw[xe,Zs,uo S];rfl
  | succ j =>
   rw[xS S,hx,show 37*(j+1)+t-37=37*j+t by omega,mL r (λy b=>hs y (ps _ b)) j (by simpa using k) t ht];rfl
def v8{v:Zm}(h:W.ownsRow base 244 37 v l.length (aU l))(hs:∀x∈l.map (·.2),x.size=33)(hl:0<l.length):
 ∃g cap,v=sZ g l.length cap/\base<=g/\g<W.heap.size/\∀j (k:j<l.length),W.rangeAt g (37*j) (wn (l[j]).1++aA (l[j]).2):=by
 rcases h.2 with⟨-,b⟩|⟨g,cap,cur,rfl,h1,b,i⟩
 .omega
 refine⟨g,cap,Z,h1,(ZO.1 b).1,λj k t u c=>?_⟩;have f:t<37:=by
  have:=(Zz.1 c).1;rw[Zv,aB (hs _ (Z1.2 ⟨_,qs k,Z⟩))]at this;exact this
 have d:=h.cells (g:=g) Z (37*j+t) u (by rw[mL l hs j k t f];exact c);have e:(⟨g,0,F⟩:gE).add (37*j+t)=⟨g,37*j+t,F⟩:=by
  unfold ts;split
  .rename_i h;rw[h]
  simp
 rw[e]at d;exact d
def SX(w:Zl):(zeroValue 244).run prog w=.ok (.agg zT.toArray) w:=kR
def SY:∀v∈zT,v.oneCell'=H:=by
 intro v hv;unfold zT z33 at hv;rcases py.1 hv with h|h
 .simp only[fT,ZJ,or_false]at h;rcases h with rfl|rfl|rfl|rfl<;>rfl
 rw[(G.mem_replicate.1 h).2];rfl
def DZ{o:I}{v:Zm}(h:w.heap[g]? = J (.cells cur e z)):∃k:R Zm,(w.setCell ⟨g,o,F⟩ v).heap[g]? = J (.cells k e z)/\k.size=cur.size:=by
 have b:=(ZO.1 h).1;refine⟨cur.setIfInBounds o v,?_,rh ..⟩;have c:w.heap[g]=.cells cur e z:=by rw[ZS b]at h;exact ZV.inj h
 simp[World.setCell,R.getElem_modify,b,c]
def tH{g:I}{e:ZR}{z:I × I}:∀(vs:G Zm) (o:I) (w:Zl) (cur:R Zm),w.heap[g]? = J (.cells cur e z)->∃k:R Zm,(w.setCells g o vs).heap[g]? = J (.cells k e z)/\k.size=cur.size
 | [],_,_,cur,h=>⟨cur,h,Z⟩
 | v :: r,o,w,cur,h=>by
  let⟨c1,h1,b⟩:=DZ (o:=o) (v:=v) h
  let⟨c2,d,c⟩:=tH r (o+1) _ c1 h1
  exact⟨c2,d,c.trans b⟩
def MS{o:I}(h:W.ownsRow base e s (sZ g n cap) n xs)(hl:o+vs.length<=n*s):(W.setCells g o vs).ownsRow base e s (sZ g n cap) n (rep xs o vs):=by
 have hx:o+vs.length<=xs.length:=by rw[h.1];exact hl
 refine⟨by rw[fU hx];exact h.1,?_⟩;rcases h.2 with⟨h1,-⟩|⟨x,f,cur,h1,r,p,l,t,q,u⟩
 .cases h1
 injection h1 with e1 e2 e3
 injection e1 with e1
 injection e1 with e1
 subst e1;subst e3;let⟨c2,d,w⟩:=tH vs o W cur p
 refine ZW ⟨g,cap,c2,Z,r,d,l,t,by rw[w];exact q,?_⟩;have v:n*s<=cur.size:=by rw[q];exact z6 s l
 apply yDB;intro i;rw[RG.rep_at hx,xp,<-u];have c1:∀i,W.cell? ⟨g,i,F⟩=cur[i]?:=λi=>cell_of_row W g i cur e (0,0) p
 have m:(W.setCells g o vs).cell? ⟨g,i,F⟩=c2[i]?:=cell_of_row _ g i c2 e (0,0) d;by_cases b:i<n*s
 .rw[GD b];by_cases k:o<=i/\i<o+vs.length
  .rw[GD k];have c:i-o<vs.length:=S;have:=World.cell?_setCells_in g vs o W (λj c=>by rw[c1 (o+j),ZS S];rfl) (i-o) c;rw[show o+(i-o)=i by omega,m]at this;rw[qi,this,ZH c]
  rw[Id k,xp,GD b,qi,qi,<-m,<-c1 i];exact World.cell?_setCells_out g vs o W ⟨g,i,F⟩ (λ_ _=>by show i<o\/o+vs.length<=i;omega)
 rw[Id b,Id S,xp,Id b]
def PQ{o:I}:rep (xs++ys) (xs.length+o) vs=xs++rep ys o vs:=by
 unfold rep;rw[G.take_length_add_append,I.add_assoc,G.drop_length_add_append,uk]
def jN{p:Bs}(k:p.size=33):(wn n++aA p).length=37:=by rw[Zv,aB k];rfl
def gV(x:I × Bs)(r:LB):aU (x :: r)=(wn x.1++aA x.2)++aU r:=by unfold aU;rw[yEb]
def A3(s:I):∀(l:LB) (j:I) (k:j<l.length),(∀x∈l.map (·.2),x.size=33)->aU (l.set j (s,(l[j]).2))=rep (aU l) (37*j) (wn s)
 | [],j,k,_=>by cases k
 | x :: r,0,_,_=>by
  show aU ((s,x.2) :: r)=_;rw[gV,gV];rfl
 | x :: r,j+1,k,hs=>by
  show aU (x :: r.set j (s,(r[j]'(by simpa using k)).2))=_;rw[gV,gV,A3 s r j (by simpa using k) (λy b=>hs y (ps _ b)),show 37*(j+1)=(wn x.1++aA x.2).length+37*j by rw[jN (n:=x.1) (hs x.2 (by simp))];omega,PQ]
def at?_some{p:Bs}:∀ {l:LB}{i j:I},at? p (l.map (·.2)) i=J j->i<=j/\∃h:j-i<l.length,(l[j-i]).2=p/\∀n,gJ N l n p=l.set (j-i) (sPl N (l[j-i]).1 n,p)
 | [],i,j,h=>by cases h
 | (s,q) :: r,i,j,h=>by
  rw[uz]at h;unfold at? at h;by_cases k:p=q
  .rw[GD k]at h;obtain rfl:=ZV.inj h;refine⟨Zo _,by simp,?_,λn=>?_⟩
   .simp[k]
   rw[gJ,GD k];simp[k]
  rw[Id k]at h;let⟨h1,d,c,b⟩:=at?_some h
  have e:j-i=(j-(i+1))+1:=S;refine⟨S,by simp;omega,?_,λn=>?_⟩
  .simp only[e,yE2];exact c
  rw[gJ,Id k,b n];simp only[e,yE2,Zt]
def OM{p:Bs}(h:at? p (l.map (·.2)) 0=J j):(gJ N l n p).map (·.2)=l.map (·.2)/\(gJ N l n p).length=l.length:=by
 obtain⟨-,k,d,c⟩:=at?_some (N:=N) h;rw[c n];refine⟨?_,yFR ..⟩;rw[G.map_set];apply yDB;intro i;rw[G.getElem?_set];by_cases b:j-0=i
 .subst b;rw[GD Z,GD (by rw[ZI];exact k),rm,ZH k];exact congrArg J d.symm
 rw[Id b]
def Mx.again{p:Bs}(h:Mx w W m l (sZ g l.length cap))(hs:∀x∈l.map (·.2),x.size=33)(d:at? p (l.map (·.2)) 0=J j)(hl:j<l.length)(n:I):
 Mx w (W.setCells g (37*j) (wn (sPl N (l[j]).1 n))) m (gJ N l n p) (sZ g l.length cap):=by
 have k:=h.own_ne (g:=g) Z;let⟨f,b⟩:=OM (N:=N) (n:=n) d
 refine⟨RG.below_setCells k.2.1 _ _ _ h.bl,?_,h.lm,?_⟩
 .rw[aM _ _ _ _ (Ne.symm k.1),f,b];exact h.mp
 obtain⟨-,i,c,e⟩:=at?_some (N:=N) d;have e3:gJ N l n p=l.set j (sPl N (l[j]).1 n,(l[j]).2):=by rw[e n];simp only[wt]at c⊢;rw[c]
 rw[b,e3,A3 _ l j hl hs];exact MS h.ow (by show 37*j+4<=_;omega)
def GE{ns:I->I}(O:Ord N)(b:I->Bs){k:I}(c:∀j,j<k->ns j<N):∀i,i<=k->∀x∈mrg N ns b i,x.1<N
 | 0,_=>λx hx=>by cases hx
 | i+1,hi=>by
  have h:∀(l:LB) n p,n<N->(∀x∈l,x.1<N)->∀x∈gJ N l n p,x.1<N:=by
   intro l n p e;induction l with
   | nil=>intro _ x hx;simp[gJ]at hx;rw[hx];exact e
   | cons y r ihr =>
    intro hl x hx;unfold gJ at hx;split at hx
    .rcases fT.1 hx with rfl|hx
     .exact gD _ O.pos
     exact hl x (ps _ hx)
    rcases fT.1 hx with rfl|hx
    .exact hl _ pw
    exact ihr (λz d=>hl z (ps _ d)) x hx
  exact h _ _ _ (c i S) (GE O b c i S)
section
variable (w:Zl) (m g4 cap k6 j s n z:Nat) (l:List (Nat × Bs)) (p:Bs)
def Ra:I->Zm->Zl->Prop
 | 0,v,_=>v=sZ g4 l.length cap
 | 1,v,_=>v=iZ j
 | 2,v,_=>v=sZ g4 l.length cap
 | 3,v,_=>v=iZ j
 | 4,v,_=>v=oZ g4 (0+37*j)
 | 5,v,_=>v=oZ g4 (0+37*j)
 | 6,v,_=>v=nv s
 | 7,v,_=>v=jZ k6
 | 8,v,_=>v=nv n
 | 9,v,_=>v=nv z
 | 10,v,_=>v=oZ g4 (0+37*j)
 | 11,v,_=>v=oZ g4 (0+37*j)
 | _,_,_=>True
def Vj{v:Zm}(h:Ra g4 cap k6 j s n z l i v W):Ra g4 cap k6 j s n z l i v W':=by
 match i,h with
 | 0,h=>exact h
 | 1,h=>exact h
 | 2,h=>exact h
 | 3,h=>exact h
 | 4,h=>exact h
 | 5,h=>exact h
 | 6,h=>exact h
 | 7,h=>exact h
 | 8,h=>exact h
 | 9,h=>exact h
 | 10,h=>exact h
 | 11,h=>exact h
 | _+12,_=>trivial
def Ga:Gw:=⟨Ra g4 cap k6 j s n z l,λW=>Mx w W m l (sZ g4 l.length cap)/\FJ W k6 (wn n++aA p),λ_ _ _ _ _ h=>Vj g4 cap k6 j s n z l h,λ_ _ k h=>⟨h.1.kept k,h.2.below k⟩⟩
end
def range_front'{k o:I}(h:W.rangeAt k o (xs++ys)):W.rangeAt k o xs:=λj v b=>h j v (by rw[uo (Zz.1 b).1];exact b)
def Mx.drew{v:Zm}(h:Mx w W m l v):Mx w W.drew m l v:=⟨h.bl.drew,h.mp,h.lm,h.ow⟩
def Nr(O:Ord N)(R:Zm->Zl->Prop)(g k c:I)(hk:k<=1000)(ns:I->I)(o:I->Bs)(ha:∀j,j<k->(o j).size=33)(hn:∀j,j<k->ns j<N)(w:Zl)(hg:g<w.heap.size)(hr:∀j,j<k->w.rangeAt g (37*j) (wn (ns j)++aA (o j)))
 (h7:∀W v,Mx w W w.heap.size (mrg N ns o k) v->ae prog 214 #[v,.func (.func 215) #[] #[]] W (Ret R)) :
 ae prog 175 #[sZ g k c] w (Ret R):=by
 have h8:=Hid.mk' h7;have kc:(Instr.makeMap 272 F).run prog w=.ok (.map (J w.heap.size)) (w.alloc (.map #[] 0)):=kR;obtain⟨w1,h9⟩:=hE (w.alloc (.map #[] 0));rw[h9.out]at kc;have M1:E (Mx w w1 w.heap.size (mrg N ns o 0) (.slice F 0 0)):=by
  rw[<-h9.out];exact⟨aD (w:=w) _,by show(w.heap.push (.map #[] 0))[w.heap.size]? = _;rw[Array.getElem?_push_size];rfl,Zo _,Z,Z5 ⟨Z,Z⟩⟩
 have HH:=mk5 O ha hn hg hr;obtain⟨d,k8,k6⟩:=Zp.1 uCP;obtain⟨d',k2,k9⟩:=Zp.1 uT;have HD:E ((prog.underlying 40=J d/\d.isRow=H)/\prog.underlying 244=J d'/\d'.isRow=H):=⟨⟨k8,k6⟩,k2,k9⟩
 go_enter func175,ntmps175;go_wp2;go_loopg [4,12] k (λq s4 s12 W=>∃i:I,i+q=k/\s12=iZ i/\E (Mx w W w.heap.size (mrg N ns o i) s4))
 case atStart=>exact⟨0,S,Z,M1⟩
 case round =>
  obtain⟨i,kn,rfl,KM⟩:=hrel;by_cases hi:i<k
  .have k3:(i:Y)<(k:Y):=S;obtain⟨n,L⟩:=hE (ns i);obtain⟨p,T⟩:=hE (o i);obtain⟨l,hl⟩:=hE (mrg N ns o i);rw[hl.out]at KM;have r:E (p.size=33):=by have:=HH.2.1 i hi;rw[T.out]at this;exact this
   have kb:E (l.length<=i):=by have:=CW (N:=N) ns o i;rw[hl.out]at this;exact this
   obtain⟨q,cap,rfl⟩:=J5 KM.ow;obtain⟨W1,h4⟩:=hE (wr.alloc (.cells zT.toArray 244));obtain⟨Q,h3⟩:=hE (W1.setCells wr.heap.size 0 (wn n++aA p));have m:(wn n++aA p).length=37:=by rw[Zv,aB r.out];rfl
   have F1:E (FJ W1 wr.heap.size zT/\kZ wr W1/\W1.heap.size=wr.heap.size+1):=by rw[<-h4.out];exact⟨aE (w:=wr),aD (w:=wr) _,Zy _ _⟩
   have F2:E (FJ Q wr.heap.size (wn n++aA p)/\kZ wr Q/\Q.heap.size=wr.heap.size+1):=by rw[<-h3.out];exact⟨F1.1.put (by rw[m];rfl),RG.below_setCells (Zo _) _ _ _ F1.2.1,by rw[setCells_size];exact F1.2.2⟩
   have K2:=mk1 (KM.kept F2.2.1);have K:∀x∈l.map (·.2),x.size=33:=by have:=Ah (N:=N) ns o HH.2.1 i S;rw[hl.out]at this;exact this
   cases X:at? p (l.map (·.2)) 0 with
   | none =>
    have b:=mk1 (X);have B1:=Hid.mk' (EA r.out (l.map (·.2)) K w.heap.size l.length Q K2.mp);rw[b.out]at B1;have B2:E ((yDG 272 (.map (J w.heap.size)) (.agg (aA p).toArray) (iZ (l.length:Y))).run prog Q=.ok () (Q.putObj w.heap.size (.map (ents (l.map (·.2)++[p]) 0).toArray (l.length+1)))):=by
     have h:=Pd r.out (D:=(l.map (·.2))) K w.heap.size Q (by rw[ZI];exact K2.mp) b.out;rw[ZI]at h;exact h
    obtain⟨v',W5,f,K5,km,-⟩:=K2.push r.out (oN kb.out) n;obtain⟨W3,A⟩:=hE (Q.putObj w.heap.size (.map (ents (l.map (·.2)++[p]) 0).toArray (l.length+1)));have F3:E (FJ W3 wr.heap.size (wn n++aA p)/\W3.heap.size=wr.heap.size+1):=by rw[<-A.out];exact⟨F2.1.putObj K2.mp Z _,by simp[yEU];exact F2.2.2⟩
    have V:=Hid.mk' (Xv r.out n W3);obtain⟨W4,h2⟩:=hE (W3.alloc (.cells (wn n++aA p).toArray 244));rw[A.out]at B2 f;rw[h2.out]at V f;rw[F3.2]at V;rw[F2.2.2]at f;have ki:E (Mx w W5 w.heap.size (mrg N ns o (i+1)) v'):=by
     have e:mrg N ns o (i+1)=l++[(n,p)]:=by
      show gJ N (mrg N ns o i) (ns i) (o i)=_;rw[hl.out,L.out,T.out];exact E8 b.out
     rw[e];exact K5
    have B0:E (wr.rangeAt g (37*i) (wn n++aA p)):=by
     have h:=aF (HH.2.2.2.2 i hi) KM.bl HH.2.2.2.1;rw[L.out,T.out]at h;exact h
    have h0:E ((prog.info? 244).map (·.size)=J (wn n++aA p).length):=by show _=_;rw[m];exact iT
    have P:E ((prog.info? 244).map (·.size)=J (wn n++aA p).toArray.size/\W1.there wr.heap.size 0 (wn n++aA p).toArray.size):=by
     have e:(wn n++aA p).toArray.size=37:=by rw[kI];exact m
     rw[e];exact⟨iT,F1.1.2.2⟩
    have h5:E ((prog.info? 40).map (·.size)=J (aA p).length):=by show _=_;rw[aB r.out];exact dB
    have HB:=mk1 (mY (xs:=wn n) F2.1.2.1);have h6:E ((wn n++aA p).toArray.all (·.oneCell')=H):=by
     show _=_;rw[ul];intro u hu;exact cells_one (n:=n) (a:=p) u (yCD.1 hu)
    have k1:=atT g 0 (n:=k) c (i:=i) hi;have kd:=Hid.mk' f;obtain⟨vt,C⟩:=hE (ZM (wn n++aA p).toArray);obtain⟨vp,M⟩:=hE (ZM (aA p).toArray);rw[M.out]at B1 B2;rw[C.out]at V;go_wp2_with (first|(refine gS Z 244 _ Z g (37*i) ?_ (wn n++aA p) d' ?_ ?_ ?_ ?_ ?_;rfl;exact B0.out;exact HD.2.1;exact HD.2.2;exact h0.out;rw[C.out])|(refine bH (v:=jZ wr.heap.size) (w':=W1) Z (.alloc 244) Z ?_ ?_;(rw[<-h4.out];kernel_rfl))|(refine ZZ Z 244 _ _ Z wr.heap.size 0 (wn n++aA p).toArray ?_ ?_ ?_ ?_ ?_ ?_;rfl;exact C.symm;exact P.2;exact P.1;exact h6.out;rw[show(wn n++aA p).toArray.toList=wn n++aA p from Z,h3.out])|(refine gS Z 40 _ Z wr.heap.size 4 ?_ (aA p) d ?_ ?_ ?_ ?_ ?_;rfl;exact HB.out;exact HD.1.1;exact HD.1.2;exact h5.out;rw[M.out])|(refine Bt (x:=.map (J w.heap.size)) (y:=vp) (w':=Q) Z 272 _ _ H Z ?_ ?_ B1.out ?_;rfl;rfl)|(refine JK (x:=.map (J w.heap.size)) (y:=vp) (z:=iZ (l.length:Y)) (w':=W3) Z 272 _ _ _ Z ?_ ?_ ?_ B2.out ?_;rfl;rfl;rfl)|(refine gS Z 244 _ Z wr.heap.size 0 ?_ (wn n++aA p) d' ?_ ?_ ?_ ?_ ?_;rfl;exact F3.1.2.1;exact HD.2.1;exact HD.2.2;exact h0.out;rw[C.out])|(refine kO (v:=sZ (wr.heap.size+1) 1 1) (w':=W4) Z 124 1 _ Z #[(0,vt)] ?_ V.out ?_;kernel_rfl)|(refine kP (x:=.slice q l.length cap) (y:=sZ (wr.heap.size+1) 1 1) (v:=v') (w':=W5) Z _ _ 124 Z ?_ ?_ ?_ ?_;rfl;rfl;exact kd.out))
    go_roundg (gk-1)
    case measure=>omega
    case rel=>exact⟨i+1,S,Z,ki⟩
   | some j =>
    obtain⟨-,A,hw,-⟩:=at?_some (N:=N) X;rw[wt]at A;simp only[wt]at hw;have B1:=Hid.mk' (EA r.out (l.map (·.2)) K w.heap.size l.length Q K2.mp);rw[X]at B1;obtain⟨f,kk,k7,-,ke,ka⟩:=v8 K2.ow K S;injection k7 with q1 q2 q3
    subst q1;obtain⟨s,hz⟩:∃s,E ((l[j]'A).1=s):=⟨(l[j]'A).1,(rfl:(l[j]'A).1=(l[j]'A).1)⟩
    have kh:E (s<N):=by
     have:=GE HH.1 (ns:=ns) o HH.2.2.1 i S;rw[hl.out]at this;rw[<-hz.out];exact this _ (qs A)
    have kj:E (n<N):=by rw[<-L.out];exact HH.2.2.1 i hi
    have B0:E (wr.rangeAt g (37*i) (wn n++aA p)):=by
     have h:=aF (HH.2.2.2.2 i hi) KM.bl HH.2.2.2.1;rw[L.out,T.out]at h;exact h
    have h0:E ((prog.info? 244).map (·.size)=J (wn n++aA p).length):=by show _=_;rw[m];exact iT
    have P:E ((prog.info? 244).map (·.size)=J (wn n++aA p).toArray.size/\W1.there wr.heap.size 0 (wn n++aA p).toArray.size):=by
     have e:(wn n++aA p).toArray.size=37:=by rw[kI];exact m
     rw[e];exact⟨iT,F1.1.2.2⟩
    have h5:E ((prog.info? 40).map (·.size)=J (aA p).length):=by show _=_;rw[aB r.out];exact dB
    have HB:=mk1 (mY (xs:=wn n) F2.1.2.1);have h6:E ((wn n++aA p).toArray.all (·.oneCell')=H):=by
     show _=_;rw[ul];intro u hu;exact cells_one (n:=n) (a:=p) u (yCD.1 hu)
    have k1:=atT g 0 (n:=k) c (i:=i) hi;obtain⟨vt,C⟩:=hE (ZM (wn n++aA p).toArray);obtain⟨vp,M⟩:=hE (ZM (aA p).toArray);rw[M.out]at B1;have HL:=mk1 (A);have HS:E (∀h:j<l.length,(l[j]'h).1=s):=λ_=>hz.out
    have HJ:=mk2 X K;have HK:=mk2 K2.out F2.1;have KN:E (mrg N ns o (i+1)=gJ N l n p):=by
     show gJ N (mrg N ns o i) (ns i) (o i)=_;rw[hl.out,L.out,T.out]
    clear m K K2 KM hw q2 q3 ka ke;clear X;go_wp2_with (first|(refine gS Z 244 _ Z g (37*i) ?_ (wn n++aA p) d' ?_ ?_ ?_ ?_ ?_;rfl;exact B0.out;exact HD.2.1;exact HD.2.2;exact h0.out;rw[C.out])|(refine bH (v:=jZ wr.heap.size) (w':=W1) Z (.alloc 244) Z ?_ ?_;(rw[<-h4.out];kernel_rfl))|(refine ZZ Z 244 _ _ Z wr.heap.size 0 (wn n++aA p).toArray ?_ ?_ ?_ ?_ ?_ ?_;rfl;exact C.symm;exact P.2;exact P.1;exact h6.out;rw[show(wn n++aA p).toArray.toList=wn n++aA p from Z,h3.out])|(refine gS Z 40 _ Z wr.heap.size 4 ?_ (aA p) d ?_ ?_ ?_ ?_ ?_;rfl;exact HB.out;exact HD.1.1;exact HD.1.2;exact h5.out;rw[M.out])|(refine Bt (x:=.map (J w.heap.size)) (y:=vp) (w':=Q) Z 272 _ _ H Z ?_ ?_ B1.out ?_;rfl;rfl)|fail)
    refine(Ga w w.heap.size f cap wr.heap.size j s n (sPl N s n) l p).tail2 12 kR kR kR ⟨
     bK λa W b=>⟨[(4,sZ f l.length cap)],sZ f l.length cap,W,⟨b.o 4 kR,Fs⟩,kR,ZF _ _,Z⟩,
     bK λa W b=>⟨[(7,iZ j)],iZ j,W,⟨b.o 7 kR,Fs⟩,kR,ZF _ _,Z⟩,
     bK λa W b=>⟨[(4,sZ f l.length cap)],sZ f l.length cap,W,⟨b.o 4 kR,Fs⟩,kR,ZF _ _,Z⟩,
     bK λa W b=>⟨[(7,iZ j)],iZ j,W,⟨b.o 7 kR,Fs⟩,kR,ZF _ _,Z⟩,
     bK λa W b=>⟨[(36,sZ f l.length cap),(37,iZ j)],.pointer (J ⟨f,0+37*j,F⟩),W,⟨b.n 2 36 kR kR,b.n 3 37 kR kR,Fs⟩,by
      rw[an.injEq];refine⟨kR,?_⟩;show((iB 124 (sZ f l.length cap) (iZ j)) >>= λv=>pure (pi v)).run prog W=_;rw[ZK,atT f 0 (n:=l.length) cap (i:=j) HL.out];rfl,ZF _ _,Z⟩,
     bK λa W b=>⟨[(38,.pointer (J ⟨f,0+37*j,F⟩))],.pointer (J ⟨f,0+37*j,F⟩),W,⟨b.n 4 38 kR kR,Fs⟩,kR,ZF _ _,Z⟩,
     jO (T:=93) 39 Z Go.Proofs.YtndpeoebngkhmaaGreat.u40 λa W b=>⟨f,0+37*j,wn s,b.n 5 39 kR kR,by
      obtain⟨g5,kl,kf,-,-,V⟩:=v8 b.b.1.ow HJ.2 (oN HL.out);injection kf with q1 q2 q3
      injection q1 with q1
      injection q1 with q1
      subst q1;have:=V j HL.out;rw[HS HL.out]at this;rw[Zs];exact range_front' this,In,Z⟩,
     bK λa W b=>⟨[(6,jZ wr.heap.size)],jZ wr.heap.size,W,⟨b.o 6 kR,Fs⟩,kR,ZF _ _,Z⟩,
     jO (T:=93) 41 Z Go.Proofs.YtndpeoebngkhmaaGreat.u40 λa W b=>⟨wr.heap.size,0,wn n,b.n 7 41 kR kR,lM b.b.2.2.1,In,Z⟩,
     fM λa W b=>⟨[(40,nv s),(42,nv n)],114,#[nv s,nv n],⟨b.n 6 40 kR kR,b.n 8 42 kR kR,Fs⟩,kR,(oS HH.1 s n kh.out kj.out W).mono (by
      rintro e W' ⟨u,rfl,V,rfl⟩;exact⟨_,Z,V,Z⟩)⟩,
     bK λa W b=>⟨[(34,sZ f l.length cap),(35,iZ j)],.pointer (J ⟨f,0+37*j,F⟩),W,⟨b.n 0 34 kR kR,b.n 1 35 kR kR,Fs⟩,by
      rw[an.injEq];refine⟨kR,?_⟩;show((iB 124 (sZ f l.length cap) (iZ j)) >>= λv=>pure (pi v)).run prog W=_;rw[ZK,atT f 0 (n:=l.length) cap (i:=j) HL.out];rfl,ZF _ _,Z⟩,
     bK λa W b=>⟨[(44,.pointer (J ⟨f,0+37*j,F⟩))],.pointer (J ⟨f,0+37*j,F⟩),W,⟨b.n 10 44 kR kR,Fs⟩,kR,ZF _ _,Z⟩,Fs⟩ ⟨HK.1.drew,HK.2⟩ ?_
    intro V W3 b hm;have k4:=b 9 dC;have hq:=b 11 dC;obtain⟨W4,h2⟩:=hE (W3.setCells f (37*j) (wn (sPl N s n)));have K4:E (Mx w W4 w.heap.size (mrg N ns o (i+1)) (sZ f l.length cap)):=by
     rw[<-h2.out,KN.out,<-(HS HL.out)];exact hm.1.again HJ.2 HJ.1 HL.out n
    have kg:E (W3.there f (37*j) 4):=by
     intro t ht;have hj:=HL.out;rcases hm.1.ow.2 with⟨h,-⟩|⟨g2,k0,cur,he,-,hc,hn,-,hs,-⟩
     .cases h
     .injection he with he1 he2 he3
      injection he1 with he1
      injection he1 with he1
      subst he1;have k5:37*j+t<cur.size:=by
       rw[hs];have:(j+1)*37<=k0*37:=z6 37 S;omega
      refine⟨?_,?_⟩
      .simp[yy,hc,k5]
      .simp[yDW,hc]
    dsimp only[cD,mi,G.take,G.drop];simp only[Act.put,G.setIfInBounds_toArray,Zt,G.set_cons_zero];obtain⟨vz,hy⟩:=hE (nv (sPl N s n));rw[k4,hq,hy.out,Zs];go_wp2_with (first|(refine ZZ Z 93 _ _ Z f (37*j) (wn (sPl N s n)).toArray ?_ ?_ ?_ ?_ ?_ ?_;rfl;exact hy.symm;exact kg.out;exact In;exact aK (n:=(sPl N s n));rw[show(wn (sPl N s n)).toArray.toList=wn (sPl N s n) from Z,h2.out])|fail)
    go_roundg (gk-1)
    case measure=>omega
    case rel=>exact⟨i+1,S,Z,K4⟩
  .have k3:¬(i:Y)<(k:Y):=S;obtain rfl:i=k:=S;go_wp2_with fail
   refine(h8 wr _ KM.out).mono ?_;rintro e r ⟨m,rfl,f⟩;have b:=Hid.mk' f;go_wp2;go_ret;exact⟨_,Z,b.out⟩
def LF(l:LB):LB:=l.filter λx=>x.1 != 0
def rF(k:j<l.length):LF (l.take (j+1))=LF (l.take j)++(if (l[j]).1=0 then [] else [l[j]]):=by
 rw[LF,yFv,ZH k,G.filter_append]
 congr 1
 by_cases h:(l[j]).1=0
 .simp[h]
 simp[h]
def SQ(l:LB)(j:I):(LF (l.take j)).length<=j:=
 Zw (yFa _ _) (by rw[zc];exact I.min_le_left _ _)
def Dv{x:I × Bs}(h:x∈LF l):x∈l:=(G.mem_filter.1 h).1
def xI{ns:I->I}:∀(m i:I),(∃j,i<=j/\j<i+m/\ns j=0)->∃k,mA ns i m=((k:I):Y)/\i<=k/\k<i+m/\ns k=0/\∀j,i<=j->j<k->ns j≠0
 | 0,i,h=>by obtain⟨j,h1,e,-⟩:=h;omega
 | m+1,i,h=>by
  unfold mA;by_cases b:ns i=0
  .rw[GD b];exact⟨i,Z,Zo _,S,b,λj h1 e=>S⟩
  rw[Id b];let⟨j,h1,e,f⟩:=h
  let⟨k,n,p,e3,o,g⟩:=xI m (i+1) ⟨j,by
   rcases tE i j with h|h
   .omega
   obtain rfl:j=i:=S;exact absurd f b,S,f⟩
  refine⟨k,n,S,S,o,λc l d=>?_⟩;rcases tE i c with h|h
  .exact g c h d
  obtain rfl:c=i:=S;exact b
def Rw(W:Zl)(g j:I)(x:I × Bs):Prop:=W.rangeAt g (37*j) (wn x.1++aA x.2)
def Rw.below{x:I × Bs}(h:Rw W g j x)(k:kZ W W')(b:g<W.heap.size):Rw W' g j x:=aF h k b
structure Dz(base:I)(w W:Zl)(g:I)(l:LB)(j:I):Prop where
 bl:Below base w W
 hb:base<=W.heap.size
 lt:g<W.heap.size
 th:W.there g 0 (37*l.length)
 lo:∀a (ha:a<(LF (l.take j)).length),Rw W g a ((LF (l.take j))[a])
 hi:∀b (hb:b<l.length),j<=b->Rw W g b (l[b])
def Dz.grow(h:Dz base w W g l j)(k:kZ W W'):Dz base w W' g l j:=
 ⟨h.bl.trans (k.mono h.hb),Zw h.hb k.size,Zn h.lt k.size,eM h.th k h.lt,λa d=>(h.lo a d).below k h.lt,λb c e=>(h.hi b c e).below k h.lt⟩
def Dz.skip(h:Dz base w W g l j)(k:j<l.length)(d:(l[j]).1=0):Dz base w W g l (j+1):=by
 have e:LF (l.take (j+1))=LF (l.take j):=by rw[rF k,GD d,ug]
 exact⟨h.bl,h.hb,h.lt,h.th,λa c=>by
  have h1:=h.lo a (by rw[<-e];exact c);simp only[e];exact h1,λb f k=>h.hi b f S⟩
def Dz.put(h:Dz base w W g l j)(q:base<=g)(hs:∀x∈l.map (·.2),x.size=33)(i:j<l.length)(o:(l[j]).1≠0):
 Dz base w (W.setCells g (37*(LF (l.take j)).length) (wn (l[j]).1++aA (l[j]).2)) g l (j+1):=by
 have e:LF (l.take (j+1))=LF (l.take j)++[l[j]]:=by rw[rF i,Id o]
 have s:=SQ l j;have d:∀x∈l,(wn x.1++aA x.2).length=37:=λx hx=>jN (hs x.2 (Z1.2 ⟨x,hx,Z⟩))
 have k:=d (l[j]) (qs i);refine⟨RG.below_setCells q _ _ _ h.bl,by rw[setCells_size];exact h.hb,by rw[setCells_size];exact h.lt,World.there_setCells h.th _ _ _,λa m=>?_,λb r n=>?_⟩
 .simp only[e]at m⊢;by_cases c:a<(LF (l.take j)).length
  .rw[G.getElem_append_left c];exact su (h.lo a c) g _ _ (ZW (Z5 (by rw[d _ (yDS (Dv (qs c)))];omega)))
  have f:a=(LF (l.take j)).length:=by rw[Zv,G.length_singleton]at m;omega
  subst f;rw[G.getElem_append_right (Zo _)];simp only[ww,G.getElem_singleton];refine yj W g _ _ λt p=>?_
  rw[k]at p;have:=h.th (37*(LF (l.take j)).length+t) S;rwa[Zs]at this
 exact su (h.hi b r S) g _ _ (ZW (ZW (by rw[k];omega)))
def Lm(n:I):∀v∈(wy (ZM zT.toArray).cells n).toList,v.oneCell'=H:=by
 intro v hv;have hl:(ZM zT.toArray).cells.size=37:=kR;unfold wy at hv;rw[R.toList_map]at hv;obtain⟨i,-,rfl⟩:=Z1.1 hv;have k:i%(ZM zT.toArray).cells.size<(ZM zT.toArray).cells.size:=gD _ (by rw[hl];decide);rw[getElem!_pos (ZM zT.toArray).cells _ k];exact SY _ (by
  have e:(ZM zT.toArray).cells.toList=zT:=kR;have b:=R.getElem_mem_toList k;rwa[e]at b)
def QP(g i n c:I)(w:Zl)(m:0<n)(h:w.there g 0 (37*(i+n))):∃Z:G Zm,∀b,(yFr #[124] b #[qZ g (37*i) n c]).run prog w=.ok (.tuple #[]) (w.setCells g (37*i) Z):=by
 have h1:=SX w;have e:=yw Ft w;have ho:=Lm n;have hl:(wy (ZM zT.toArray).cells n).toList.length=n*37:=by
  have:(ZM zT.toArray).cells.size=37:=kR;rw[ZE,size_zeroCells,this]
 generalize (ZM zT.toArray)=l at h1 ho hl;generalize f:(wy l.cells n).toList=Z at ho hl;have d:(storeCells ⟨g,37*i,F⟩ Z).run prog w=.ok () (w.setCells g (37*i) Z):=
  run_storeCells_cells (P:=prog) g (37*i) Z 0 w (λj k=>by rw[hl]at k;have:=(h (37*i+j) S).1;simpa using this) (λj k=>by rw[hl]at k;have:=(h (37*i+j) S).2;simpa using this) ho
 refine⟨Z,λb=>?_⟩;obtain⟨k,rfl⟩:∃k,n=k+1:=⟨n-1,S⟩
 unfold yFr;simp[ZK,e,h1,f,d]
def Yg(g i:I)(b:i<=n)(d:n<=c)(w:Zl):(ux 124 (sZ g n c) F (J (iZ i)) F).run prog w=.ok (sZ g i c) w:=by
 have h1:¬(i:Y)<0:=S;have k:(i:Y)<=(c:Y):=S;go_simp
def Yf(g:I)(b:i<n)(d:n<=c)(w:Zl):(ux 124 (sZ g n c) (J (iZ i)) F F).run prog w=.ok (qZ g (37*i) (n-i) (c-i)) w:=by
 have h1:¬(i:Y)<0:=S;have k:(i:Y)<=(n:Y):=S;go_simp;rw[Id S,ax]
def TmL(W:Zl)(q:GJ gE)(l:LB):Prop:=0<l.length->∃g,q=J (aZ g)/\g<W.heap.size/\∀j (k:j<l.length),W.rangeAt g (37*j) (wn (l[j]).1++aA (l[j]).2)
def Zj(base:I)(l:LB)(w:Zl)(e:Zm)(w':Zl):Prop:=Below base w w'/\∃q cap,e=.slice q (LF l).length cap/\TmL w' q (LF l)
def JG(h:∀x∈l,x.1≠0):LF l=l:=G.filter_eq_self.2 λx hx=>by simpa using h x hx
def SO{l:LB}{k:I}(c:k<l.length)(b:(l[k]).1=0):∀j,k<j->j<=l.length->(LF (l.take j)).length<j
 | 0,h,_=>S
 | j+1,h,hj=>by
  rw[rF S,Zv];rcases tE k j with h1|h1
  .have:=SO c b j h1 S;split<;>simp<;>omega
  obtain rfl:j=k:=S;rw[GD b];have:=SQ l j;simp;omega
def N8(l:LB)(hz:0<l.length)(k5:l.length<=1000)(hs:∀x∈l.map (·.2),x.size=33)(hn:∀x∈l,x.1<top)(base:I)(v:Zm)(w:Zl)(hb:base<=w.heap.size)(ho:w.ownsRow base 244 37 v l.length (aU l)):
 cZ 214 #[v,.func (.func 215) #[] #[]] w (Ret (Zj base l w)):=by
 obtain⟨g,c,rfl,h9,z,hr⟩:=v8 ho hs hz;have L:∀(j:I) (k:j<l.length),(l[j]).2.size=33:=λj k=>hs _ (Z1.2 ⟨_,qs k,rfl⟩)
 have A:l.length<=c/\w.there g 0 (37*l.length):=by
  rcases ho.2 with⟨h,-⟩|⟨y,q,cur,s,-,o,d,-,f,-⟩
  .cases h
  .injection s with he1 he2 he3
   injection he1 with he1
   injection he1 with he1
   subst he1;subst he3;refine⟨d,λt ht=>?_⟩;have r:0+t<cur.size:=by
    rw[f];have:l.length*37<=c*37:=z6 37 d;omega
   exact⟨by simp only[yy,o];simp;omega,by simp[yDW,o]⟩
 by_cases y:∀x∈l,x.1≠0
 .have V:=JG y;refine(EQ g l.length c S (λj=>((l[j]?).getD (0,#[])).1) (λj=>((l[j]?).getD (0,#[])).2) (λj k=>by rw[ZH k];exact hn _ (qs k)) (λj k=>by rw[ZH k];exact y _ (qs k)) (λj k=>by rw[ZH k];exact L j k) w z (λj k=>by rw[ZH k];exact hr j k)).mono ?_;rintro e f ⟨vv,rfl,d,rfl⟩;refine⟨_,rfl,d.mono hb,J (aZ g),c,by rw[V],?_⟩;rw[V];exact λ_=>⟨g,rfl,Zn z d.size,λj k=>aF (hr j k) d z⟩
 .have hI:=I1 g l.length c S (λj=>((l[j]?).getD (0,#[])).1) (λj=>((l[j]?).getD (0,#[])).2) (λj k=>by rw[ZH k];exact hn _ (qs k)) (λj k=>by rw[ZH k];exact L j k) w z (λj k=>by rw[ZH k];exact hr j k);obtain⟨f,e1,-,e3,e4,e5⟩:=xI (ns:=λj=>((l[j]?).getD (0,#[])).1) l.length 0 (by
   have:∃x,x∈l/\x.1=0:=xD λh=>y λx hx Q=>h ⟨x,hx,Q⟩
   obtain⟨x,hx,d⟩:=this;obtain⟨j,k⟩:=zb hx;exact⟨j,pj _,oN ((Zz.1 k).1),by show((l[j]?).getD (0,#[])).1=0;rw[k];exact d⟩)
  rw[e1]at hI;have N:f<l.length:=S;have M:(l[f]).1=0:=by
   have:((l[f]?).getD (0,#[])).1=0:=e4;rw[ZH N]at this;exact this
  have K:LF (l.take f)=l.take f:=JG λx hx=>by
   obtain⟨j,k⟩:=zb hx;rw[xp]at k;split at k
   .rename_i hji
    have:=e5 j (pj _) hji;have d:((l[j]?).getD (0,#[])).1≠0:=this;rw[k]at d;exact d
   .cases k
  have C:(LF (l.take f)).length=f:=by rw[K,zc];omega
  have D0:Dz base w w g l f:=⟨ZF _ _,hb,z,A.2,λa ha=>by
   simp only[K]at ha⊢;rw[G.getElem_take];exact hr a _,λb d _=>hr b d⟩
  have D1:Dz base w w g l (f+1):=D0.skip N M;have e6:(LF (l.take (f+1))).length=f:=by rw[rF N,GD M,ug];exact C
  have HI:=Hid.mk' hI;have HZ:E (∀j,f<j->j<=l.length->(LF (l.take j)).length<j):=SO N M;have hi:=Hid.mk' D1;have P:E (base<=g/\l.length<=c/\(∀x∈l.map (·.2),x.size=33)/\(∀x∈l,x.1<top)/\∀(j:I) (k:j<l.length),(l[j]).2.size=33):=⟨h9,A.1,hs,hn,L⟩
  obtain⟨d',h5,hp⟩:=Zp.1 uT;have HD:E (prog.underlying 244=J d'/\d'.isRow=H):=⟨h5,hp⟩
  have k6:¬((f:Y) = -1):=S;clear h5 hp hI D0 D1 hs hn ho hr L A y e1 e4 e5 K C M h9 z;go_enter func214,ntmps214;go_wp2_with fail
  refine HI.mono ?_;rintro e w1 ⟨vv,rfl,hy,rfl⟩;have K1:E (Dz base w w1 g l (f+1)):=hi.grow hy;clear hy HI hi;go_wp2_with fail
  go_loopg [5,6] (l.length-(f+1)) (λm s5 s6 W=>∃j:I,f<j/\j+m=l.length/\s6=iZ j/\s5=iZ ((LF (l.take j)).length:Y)/\E (Dz base w W g l j))
  case atStart=>exact⟨f+1,S,S,rfl,by rw[e6],K1⟩
  case round =>
   clear K1;obtain⟨j,h7,k7,rfl,rfl,O⟩:=hrel;by_cases k:j<l.length
   .have k2:(j:Y)<(l.length:Y):=S;obtain⟨n,q⟩:∃n,E ((l[j]'k).1=n):=⟨(l[j]'k).1,(rfl:(l[j]'k).1=(l[j]'k).1)⟩
    obtain⟨p,h4⟩:∃p,E ((l[j]'k).2=p):=⟨(l[j]'k).2,(rfl:(l[j]'k).2=(l[j]'k).2)⟩
    obtain⟨i,d⟩:=yH ((LF (l.take j)).length);have s:i<l.length:=by have:=HZ j h7 S;rw[d.out]at this;omega
    rw[d.out];have hg:E (p.size=33):=h4.out▸P.2.2.2.2 j k;have k0:E (n<top):=q.out▸P.2.2.2.1 _ (qs k);have B0:E (wr.rangeAt g (37*j) (wn n++aA p)):=by
     have h:=O.hi j k (Zo _);unfold Rw at h;rw[q.out,h4.out]at h;exact h
    obtain⟨T,hm⟩:=yH (wr.alloc (.cells zT.toArray 244));obtain⟨W2,hk⟩:=yH (T.setCells wr.heap.size 0 (wn n++aA p));have r:(wn n++aA p).length=37:=jN hg;have F1:E (FJ T wr.heap.size zT/\kZ wr T/\T.heap.size=wr.heap.size+1):=by rw[<-hm.out];exact⟨aE (w:=wr),aD (w:=wr) _,Zy _ _⟩
    have F2:E (FJ W2 wr.heap.size (wn n++aA p)/\kZ wr W2):=by rw[<-hk.out];exact⟨F1.1.put (by rw[r];rfl),RG.below_setCells (Zo _) _ _ _ F1.2.1⟩
    have X:E (gZ 244 (wn n++aA p).length):=by show _=_;rw[r];exact iT
    have h3:E (gZ 244 (wn n++aA p).toArray.size/\T.there wr.heap.size 0 (wn n++aA p).toArray.size):=by
     have e:(wn n++aA p).toArray.size=37:=by rw[kI];exact r
     rw[e];exact⟨iT,F1.1.2.2⟩
    have hq:E ((wn n++aA p).toArray.all (·.oneCell')=H):=by
     show _=_;rw[ul];intro u o;exact cells_one (n:=n) (a:=p) u (yCD.1 o)
    have k4:=atT g 0 (n:=l.length) c (i:=j) k;obtain⟨vt,hw⟩:=yH (tvl n p);have o:E (ZM (wn n++aA p).toArray=vt):=hw;have K2:E (Dz base w W2 g l j):=O.grow F2.2;have HN:=Hid.mk' (Nf k0 hg W2);rw[hw.out]at HN;clear O;go_wp2_with (first|(refine gS rfl 244 _ rfl g (37*j) ?_ (wn n++aA p) d' ?_ ?_ ?_ ?_ ?_;rfl;exact B0;exact HD.1;exact HD.2;exact X;rw[o.out])|(refine bH (v:=jZ wr.heap.size) (w':=T) rfl (.alloc 244) rfl ?_ ?_;(rw[<-hm.out];kernel_rfl))|(refine ZZ rfl 244 _ _ rfl wr.heap.size 0 (wn n++aA p).toArray ?_ ?_ ?_ ?_ ?_ ?_;rfl;exact o.symm;exact h3.2;exact h3.1;exact hq;rw[show(wn n++aA p).toArray.toList=wn n++aA p from rfl,hk.out])|(refine gS rfl 244 _ rfl wr.heap.size 0 ?_ (wn n++aA p) d' ?_ ?_ ?_ ?_ ?_;rfl;exact F2.1.2.1;exact HD.1;exact HD.2;exact X;rw[o.out])|fail)
    refine HN.mono ?_;rintro e W3 ⟨vv,rfl,h2,rfl⟩;have K3:E (Dz base w W3 g l j/\FJ W3 wr.heap.size (wn n++aA p)):=⟨K2.grow h2,F2.1.below h2⟩
    clear h2 K2 HN F2 F1;by_cases Q:n=0
    .rw[show decide (n=0)=H by simp[Q]];have K4:E (Dz base w W3 g l (j+1)):=K3.1.skip k (q.out▸Q);have e4:E ((LF (l.take (j+1))).length=i):=by
      show _=_;rw[rF k,GD (q.out▸Q),ug];exact d
     go_wp2;go_roundg (gk-1)
     case measure=>omega
     case rel=>exact⟨j+1,S,S,rfl,by rw[e4.out],K4⟩
    .rw[show decide (n=0)=D by simp[Q]];obtain⟨W4,h8⟩:=yH (W3.setCells g (37*i) (wn n++aA p));have K4:E (Dz base w W4 g l (j+1)):=by
      have h:=K3.1.put P.1 P.2.2.1 k (q.out▸Q);rw[d.out,q.out,h4.out,h8.out]at h;exact h
     have e4:E ((LF (l.take (j+1))).length=i+1):=by
      show _=_;rw[rF k,Id (q.out▸Q),Zv,d.out];rfl
     have k1:E (W3.there g (37*i) (wn n++aA p).toArray.size):=by
      have e:(wn n++aA p).toArray.size=37:=by rw[kI];exact r
      rw[e];intro t ht;have:=K3.1.th (37*i+t) S;rwa[Zs]at this
     have k3:=atT g 0 (n:=l.length) c (i:=i) s;go_wp2_with (first|(refine gS rfl 244 _ rfl wr.heap.size 0 ?_ (wn n++aA p) d' ?_ ?_ ?_ ?_ ?_;rfl;exact K3.2.2.1;exact HD.1;exact HD.2;exact X;rw[o.out])|(refine ZZ rfl 244 _ _ rfl g (37*i) (wn n++aA p).toArray ?_ ?_ ?_ ?_ ?_ ?_;rfl;exact o.symm;exact k1;exact h3.1;exact hq;rw[show(wn n++aA p).toArray.toList=wn n++aA p from rfl,h8.out])|fail)
     go_roundg (gk-1)
     case measure=>omega
     case rel=>exact⟨j+1,S,S,rfl,by rw[e4.out];rfl,K4⟩
   .have k2:¬(j:Y)<(l.length:Y):=S;obtain rfl:j=l.length:=S;have V:LF (l.take l.length)=LF l:=by rw[yEg]
    rw[V];have s:(LF l).length<l.length:=by have:=HZ l.length h7 (Zo _);rw[V]at this;exact this
    have r:∀a (ha:a<(LF l).length),Rw wr g a ((LF l)[a]):=λa ha=>by
     have:=O.lo a (by rw[V];exact ha);simp only[V]at this;exact this
    have o:∀x∈LF l,(wn x.1++aA x.2).length=37:=λx hx=>jN (P.2.2.1 _ (Z1.2 ⟨x,Dv hx,rfl⟩))
    obtain⟨Z,hZ⟩:=QP g (LF l).length (l.length-(LF l).length) (c-(LF l).length) wr S (by rw[show(LF l).length+(l.length-(LF l).length)=l.length by omega];exact O.th);obtain⟨Q,q⟩:=yH (wr.setCells g (37*(LF l).length) Z);rw[q.out]at hZ;have K5:E (Below base w Q/\TmL Q (J (aZ g)) (LF l)):=by
     rw[<-q.out];refine⟨RG.below_setCells P.1 _ _ _ O.bl,λ_=>⟨g,rfl,by rw[setCells_size];exact O.lt,λa ha=>?_⟩⟩;exact su (r a ha) g _ _ (ZW (Z5 (by rw[o _ (qs ha)];omega)))
    have X:=Yf g (n:=l.length) (c:=c) (i:=(LF l).length) s P.2.1;have T:=Yg g (n:=l.length) (c:=c) (LF l).length S P.2.1;clear O r o V q;obtain⟨i,d⟩:=yH ((LF l).length);rw[d.out]at X T hZ s⊢;go_wp2;go_ret;exact⟨_,rfl,K5.1,J (aZ g),c,by rw[d.out];rfl,K5.2⟩
def VE{x:Fk}:encB x≠.slice p n c:=λh=>by cases h
def El(n:I)(W:Zl)(x:Zm)(b:Bs):Prop:=∃k c,x=sZ k n c/\n<=c/\b.size=n/\k<W.heap.size/\hZ W k 0 b
def isL(n:I)(W:Zl)(g:I):Prop:=∃p c,W.cell? ⟨g,0,F⟩=J (.slice p n c)
structure Gr(n:I)(v:Zm)(W W':Zl):Prop where
 gr:W.grownBy W' v.ownBlock
 is:∀g,v.ownBlock=J g->isL n W g
def Gr.of(h:kZ W W'):Gr n nZ W W':=
 ⟨⟨h.os,h.tape,h.output,h.size,λk b _=>h.block k b⟩,λg c=>by cases c⟩
def Gr.below{v:Zm}{B:I}(h:Gr n v W W')(d:Below B w W)(c:B<=W.heap.size)(hv:∀g,v.ownBlock=J g->B<=g):Below B w W':=
 d.grown h.gr c (λk b=>hv k b)
def Gr.block{k:I}{v:Zm}(h:Gr n v W W')(d:k<W.heap.size)(b:∀p c,W.cell? ⟨k,0,F⟩≠J (.slice p n c)):W'.heap[k]? = W.heap[k]? :=
 h.gr.block k d λe=>by
  let⟨p,c,f⟩:=h.is k e.symm
  exact b p c f
def Holds.kept{k:I}{b:Bs}(h:hZ W k 0 b)(e:W'.heap[k]? = W.heap[k]?):hZ W' k 0 b:=λj c=>by
 rw[ZP (a:=⟨k,0+j,F⟩) e,sI (a:=⟨k,0+j,F⟩) e];exact h j c
def El.kept{v x:Zm}{b:Bs}(h:El m W x b)(j:0<m)(d:Gr n v W W'):El m W' x b:=by
 obtain⟨k,c,rfl,h1,g,f,e⟩:=h;refine⟨k,c,Z,h1,g,Zn f d.gr.size,Holds.kept e (d.block f λp c' i=>?_)⟩;have:=(e 0 S).1;rw[Zs,i]at this;exact VE (ZV.inj this).symm
def Row.kept{k:I}{v:Zm}(h:FJ W k vs)(f:Gr n v W W')(b:∀p c,vs[0]?≠J (.slice p n c))(hl:0<vs.length):FJ W' k vs:=by
 have e:=f.block h.1 λp c g=>by
  have d:=h.2.1 0 vs[0] (ZH hl);rw[Zs,g]at d;exact b p c (by rw[ZH hl,d])
 refine⟨Zn h.1 f.gr.size,λj u d=>?_,λj d=>?_⟩
 .rw[ZP (a:=⟨k,0+j,F⟩) e];exact h.2.1 j u d
 rw[ZP (a:=⟨k,0+j,F⟩) e,sI (a:=⟨k,0+j,F⟩) e];exact h.2.2 j d
structure Lo(n base:I)(W:Zl)(v:Zm)(bs:G Bs):Prop where
 ex:∃xs:G Zm,xs.length=bs.length/\W.ownsRow base 22 1 v bs.length xs/\∀(j:I) (x:Zm) (b:Bs),xs[j]? = J x->bs[j]? = J b->El n W x b
 nil:bs=[]->v=nZ
def Lo.begin(n base:I)(W:Zl):Lo n base W nZ []:=⟨⟨[],Z,yD5 _ _ _ _,λj x b h=>by cases h⟩,λ_=>rfl⟩
theorem add0(g j:I):(⟨g,0,F⟩:gE).add j=⟨g,j,F⟩:=by unfold ts;split<;>simp_all
def Lo.isL{v:Zm}{bs:G Bs}(h:Lo n base W v bs)(f:v.ownBlock=J g):isL n W g:=by
 let⟨xs,h1,i,j⟩:=h.ex
 have d:bs≠[]:=λe=>by rw[h.nil e]at f;cases f
 cases bs with
 | nil=>exact absurd Z d
 | cons b r =>
  cases xs with
  | nil=>cases h1
  | cons x xr =>
   obtain⟨k,c,rfl,-⟩:=j 0 x b Z Z;have:=i.cells f 0 _ Z;rw[add0]at this;exact⟨_,_,this⟩
def Lo.lt{v:Zm}{bs:G Bs}(h:Lo n base W v bs):∀g,v.ownBlock=J g->base<=g/\g<W.heap.size:=by
 let⟨xs,h1,k,b⟩:=h.ex
 exact k.lt
def Lo.kept{v i:Zm}{bs:G Bs}(h:Lo m base W v bs)(t:0<m)(f:Gr n i W W')(d:m≠n):Lo m base W' v bs:=by
 have r:=λ{g}=>h.isL (g:=g)
 let⟨xs,h1,l,s⟩:=h.ex
 refine⟨⟨xs,h1,l.kept f.gr ?_,λj x b hx o=>(s j x b hx o).kept t f⟩,h.nil⟩;cases hv:v.ownBlock with
 | none=>exact Z5 Z
 | some g =>
  refine ZW λe=>d ?_
  let⟨p,c,q⟩:=r hv
  let⟨u,c',k⟩:=f.is g e.symm
  rw[q]at k;injection k with k
  injection k with _ h5 _
def WA:(prog.info? 22).map (λi=>(i.size,i.bytes,i.zero.map λz=>z.cells.size))=J (1,24,J 1):=kR
def Ya:prog.underlying 23=J (.slice 22):=kR
def Lo.app{v x:Zm}{bs:List Bs}{b:Bs}(h:Lo n base W v bs)(r:0<n)(hx:El n W x b)(O:W.cell? ⟨g,0,F⟩=J x)(T:bs.length<=1000000)(A:base<=W.heap.size):
 ∃o W',(oT #[23,23] 23 #[v,sZ g 1 1]).run prog W=.ok o W'/\Lo n base W' o (bs++[b])/\Gr n v W W':=by
 let⟨i,N,s⟩:=Zp.1 WA
 simp only[an.injEq]at s;let⟨h1,w,M⟩:=s
 let⟨z,L,p⟩:=Zp.1 M
 let⟨xs,x1,x2,K⟩:=h.ex
 let⟨o,W',a,r2,t,Q⟩:=yDJ (P:=prog) W base 23 23 22 i z 1 24 Ya N L h1 w p dC v bs.length xs x2 (aZ g) 1 1 [x] Z
  (λj u q=>by
   cases j with
   | zero =>
    obtain rfl:x=u:=by simpa using q
    rw[add0];exact O
   | succ j=>simp at q) (λu f=>by
   obtain rfl:u=x:=by simpa using f
   obtain⟨k,c,rfl,-⟩:=hx;rfl) (by unfold maxLen;omega) S A
 have G:Gr n v W W':=⟨t,λg C=>h.isL C⟩
 refine⟨o,W',a,⟨⟨xs++[x],by simp[x1],by rw[Zv];exact r2,λj y c l f=>?_⟩,λe=>by simp at e⟩,G⟩;by_cases q:j<bs.length
 .rw[uo S]at l f;exact(K j y c l f).kept r G
 rw[xS S]at l f;rw[x1]at l;cases m:j-bs.length with
 | zero =>
  rw[m]at l f;obtain rfl:x=y:=by simpa using l
  obtain rfl:b=c:=by simpa using f
  exact hx.kept r G
 | succ d=>rw[m]at l;simp at l
def JY{a:Bs}(f:a.size=33):ae prog 176 #[pvl a] w (rZ w λe w'=>El 33 w' e a):=by
 have g:=Hid.mk' (uP f w);obtain⟨c,b⟩:=hE (w.alloc (.cells (aA a).toArray 40));rw[b.out]at g;have K:E (FJ c w.heap.size (aA a)/\kZ w c):=by rw[<-b.out];exact⟨aE,aD _⟩
 obtain⟨va,k⟩:=hE (pvl a);have d:E ((aj 40 va).run prog w=.ok (jZ w.heap.size) c):=by rw[<-k.out];exact g
 rw[k.out];have hs:=VP w.heap.size;go_enter func176,ntmps176;go_wp2_with (first|(refine aI (u:=va) (v:=jZ w.heap.size) (w':=c) Z 40 (.tmp 0) Z ?_ ?_ ?_;rfl;exact d))
 go_ret;exact⟨_,Z,K.2,w.heap.size,33,Z,S,f,K.1.1,row_holds K.1⟩
def Bo(n c:I)(W:Zl)(v:Zm)(b:Bs):Prop:=∃k x,v=sZ k 1 1/\c<=k/\k<W.heap.size/\W.cell? ⟨k,0,F⟩=J x/\El n W x b
def Bo.kept{d:I}{v:Zm}{b:Bs}(h:Bo n d W v b)(o:0<n)(c:Gr m u W W')(j:∀g,u.ownBlock=J g->g<d):Bo n d W' v b:=by
 obtain⟨k,x,rfl,h1,f,l,i⟩:=h;refine⟨k,x,Z,h1,Zn f c.gr.size,?_,i.kept o c⟩;rw[ZP (a:=⟨k,0,F⟩) (c.gr.block k f λe=>oN (j k e.symm))];exact l
def Tm(W:Zl)(q:GJ gE)(k:I)(ns:I->I)(b:I->Bs):Prop:=0<k->∃g,q=J (aZ g)/\g<W.heap.size/\∀j,j<k->W.rangeAt g (37*j) (wn (ns j)++aA (b j))
def Tm.kept{k:I}{ns:I->I}{b:I->Bs}(h:Tm W q k ns b)(l:Gr m u W W'):Tm W' q k ns b:=λn=>by
 let⟨g,h1,d,o⟩:=h n
 refine⟨g,h1,Zn d l.gr.size,λj r i v hv=>?_⟩;have e:=l.block d λp c s=>by
  have f:=o 0 n 0 _ (show(wn (ns 0)++aA (b 0))[0]? = J _ from Z);rw[show 37*0+0=0 from Z,s]at f;cases f
 rw[ZP (a:=⟨g,37*j+i,F⟩) e];exact o j r i v hv
section
variable (w0:Zl) (v3 v4:Zm) (k6 n B0 base:Nat) (p:Bs) (bs cs:List Bs) (q:Option gE) (k:Nat) (ns:Nat->Nat) (az:Nat->Bs)
def PR:I->Zm->Zl->Prop
 | 0,v,_=>v=v3
 | 1,v,_=>v=jZ k6
 | 2,v,_=>v=nv n
 | 3,v,w=>El 32 w v (bx n)
 | 4,v,w=>Bo 32 B0 w v (bx n)
 | 5,v,w=>Lo 32 base w v (bs++[bx n])
 | 6,v,_=>v=v4
 | 7,v,_=>v=oZ k6 4
 | 8,v,_=>v=pvl p
 | 9,v,w=>El 33 w v p
 | 10,v,w=>Bo 33 B0 w v p
 | 11,v,w=>Lo 33 base w v (cs++[p])
 | 12,v,w=>Lo 32 base w v (bs++[bx n])
 | 13,v,w=>Lo 33 base w v (cs++[p])
 | _,_,_=>True
def PBs:I->Zl->Prop
 | 0,w=>FJ w k6 (wn n++aA p)
 | 1,w=>Lo 32 base w v3 bs
 | 2,w=>Lo 33 base w v4 cs
 | 3,w=>Below base w0 w/\base<=w.heap.size/\B0<=w.heap.size
 | 4,w=>Tm w q k ns az
 | 5,w=>FJ w base z33
 | _,_=>True
def PE:I->Zl->Zl->Prop
 | 5=>Gr 32 v3
 | 11=>Gr 33 v4
 | _=>Gr 0 nZ
def Pk1:I->G I
 | 4=>[5]
 | 10=>[11]
 | _=>[]
def Pk2:I->G I
 | 1=>[5]
 | 2=>[11]
 | _=>[]
def FP:Flow:=⟨PR v3 v4 k6 n B0 base p bs cs,PBs w0 v3 v4 k6 n B0 base p bs cs q k ns az,PE v3 v4,Pk1,Pk2⟩
def OU(h:PE v3 v4 i w w'):∃m u,Gr m u w w'/\((i=5/\m=32/\u=v3)\/(i=11/\m=33/\u=v4)\/(i≠5/\i≠11/\m=0/\u=nZ)):=by
 unfold PE at h;split at h
 .exact⟨_,_,h,Z5 ⟨Z,Z,Z⟩⟩
 .exact⟨_,_,h,ZW (Z5 ⟨Z,Z,Z⟩)⟩
 rename_i h1 h2
 exact⟨_,_,h,ZW (ZW ⟨h1,h2,Z,Z⟩)⟩
variable (hv3:∀g,v3.ownBlock=some g->base<=g/\g<B0) (hv4:∀g,v4.ownBlock=some g->base<=g/\g<B0)
include hv3 hv4
def OT(h:(i=5/\m=32/\u=v3)\/(i=11/\m=33/\u=v4)\/(i≠5/\i≠11/\m=0/\u=nZ)):∀g,u.ownBlock=J g->base<=g/\g<B0:=by
 rcases h with⟨-,-,rfl⟩|⟨-,-,rfl⟩|⟨-,-,-,rfl⟩
 .exact hv3
 .exact hv4
 intro g k;cases k
def Vk(r:j<14)(d:i≠j)(s:(Pk1 j).contains i=D)(h1:¬(j=12/\i=5))(c:¬(j=13/\i=11))(v:Zm)(w w':Zl)(hE:PE v3 v4 i w w')(hR:PR v3 v4 k6 n B0 base p bs cs j v w):PR v3 v4 k6 n B0 base p bs cs j v w':=by
 let⟨m,u,k,o⟩:=OU v3 v4 hE
 have q:=OT v3 v4 B0 base hv3 hv4 o;have l:m=32->i=5:=λh=>by rcases o with⟨h1,-⟩|⟨-,c,-⟩|⟨-,-,c,-⟩<;>omega
 have f:m=33->i=11:=λh=>by rcases o with⟨-,c,-⟩|⟨h1,-⟩|⟨-,-,c,-⟩<;>omega
 match j,r,hR with
 | 0,_,h=>exact h
 | 1,_,h=>exact h
 | 2,_,h=>exact h
 | 3,_,h=>exact El.kept h dC k
 | 4,_,h=>exact Bo.kept h dC k λg b=>(q g b).2
 | 5,_,h=>exact Lo.kept h dC k λe=>d (l e.symm)
 | 6,_,h=>exact h
 | 7,_,h=>exact h
 | 8,_,h=>exact h
 | 9,_,h=>exact El.kept h dC k
 | 10,_,h=>exact Bo.kept h dC k λg b=>(q g b).2
 | 11,_,h=>exact Lo.kept h dC k λe=>d (f e.symm)
 | 12,_,h=>exact Lo.kept h dC k λe=>h1 ⟨Z,l e.symm⟩
 | 13,_,h=>exact Lo.kept h dC k λe=>c ⟨Z,f e.symm⟩
 | _+14,r,_=>omega
def Rm{b:I}(f:(Pk2 b).contains i=D)(w w':Zl)(hE:PE v3 v4 i w w')(hR:PBs w0 v3 v4 k6 n B0 base p bs cs q k ns az b w):PBs w0 v3 v4 k6 n B0 base p bs cs q k ns az b w':=by
 let⟨m,u,d,s⟩:=OU v3 v4 hE
 have t:=OT v3 v4 B0 base hv3 hv4 s;have r:m=32->i=5:=λh=>by rcases s with⟨h1,-⟩|⟨-,j,-⟩|⟨-,-,j,-⟩<;>omega
 have o:m=33->i=11:=λh=>by rcases s with⟨-,j,-⟩|⟨h1,-⟩|⟨-,-,j,-⟩<;>omega
 match b,f,hR with
 | 0,_,h=>exact Row.kept h d (λp c e=>by cases e) (by rw[Zv];exact Zn dC (yDc 4 _))
 | 1,f,h=>exact Lo.kept h dC d λe=>by rw[r e.symm]at f;cases f
 | 2,f,h=>exact Lo.kept h dC d λe=>by rw[o e.symm]at f;cases f
 | 3,_,h=>exact⟨d.below h.1 h.2.1 λg l=>(t g l).1,Zw h.2.1 d.gr.size,Zw h.2.2 d.gr.size⟩
 | 4,_,h=>exact Tm.kept h d
 | 5,_,h=>exact Row.kept h d (λp c e=>by cases e) dC
 | _+6,_,_=>trivial
end
def Lo.drew{v:Zm}{bs:G Bs}(h:Lo n base W v bs):Lo n base W.drew v bs:=⟨h.ex,h.nil⟩
def SumR.all(C:IO P)(O:Ord N){k:I}(x:k<=512){ns:I->I}{X:I->EC.Pt P}(o:∀j,j<k->ns j<N)(u:∀j,j<k->On (X j)){L M:I->Bs}(v:∀j,j<k->L j=bx (ns j))(t:∀j,j<k->M j=wr (X j)){e:Zm}(h:SumR P N w k k L M e w'):
 Lj w (wr (tot X k (λj=>(ns j:Int)))) e w':=by
 have q:∀j,j<k->rq N (L j)=J (ns j):=λj b=>by
  rw[v j b];have c:=Dn (Zn (o j b) O.le);rw[rq,GD ⟨dJ _,by rw[c];exact o j b⟩,c]
 have r:∀j,j<k->∃p,rd P (M j)=J p/\pt p=X j:=λj b=>by rw[t j b];exact Ir C (u j b)
 rcases h with⟨h,-⟩|⟨-,h,-⟩|⟨-,-,⟨⟨j,b,c⟩,-⟩|⟨g,m,⟨⟨j,b,c⟩,-⟩|⟨xs,ys,l,h⟩⟩⟩
 .exact absurd Z h
 .omega
 .rw[q j b]at c;cases c
 .obtain⟨p,d,-⟩:=r j b;rw[d]at c;cases c
 have s:∀j,j<k->g j=ns j:=λj b=>by
  have:=m j b;rw[q j b]at this;exact(ZV.inj this).symm
 have d:∀j,j<k->Pair (xs j) (ys j) (X j)/\On (X j):=λj b=>by
  let⟨p,d,hpt⟩:=r j b
  have h1:=l j b;rw[d]at h1;have f:=Is C d;rw[hpt]at f;rw[ZV.inj h1]at f;exact f
 have n:=DR C (ns:=g) (xs:=xs) (ys:=ys) (p:=X) (N:=k) (λi f=>by rw[s i f];exact Zn (o i f) O.le) (λi f=>(d i f).1) (λi f=>(d i f).2);rw[(eX k λj b=>by rw[s j b])]at n;rw[<-yL C (n.pair C) n.2];exact h
structure Pz(w W:Zl)(q:GJ gE)(k i:I)(ns:I->I)(az:I->Bs)(s3 s4:Zm):Prop where
 bl:kZ w W
 l3:Lo 32 w.heap.size W s3 ((fo i).map λj=>bx (ns j))
 l4:Lo 33 w.heap.size W s4 ((fo i).map az)
 tm:Tm W q k ns az
 r2:FJ W w.heap.size z33
def El.of_made{k:I}{b:Bs}(h:Made w k (cb b) w')(c:b.size=n):El n w' (sZ k n n) b:=⟨k,n,Z,Zo _,c,h.lt,cb_holds h.range h.there⟩
def Bo.of{k:I}{x:Zm}{b:Bs}(h:El n w x b)(d:0<n)(c:k<=w.heap.size)(T:ZR):Bo n k (w.alloc (.cells #[x] T)) (sZ w.heap.size 1 1) b:=
 ⟨w.heap.size,x,Z,c,by rw[Zy];omega,by rw[World.cell?_alloc_new];rfl,h.kept d (Gr.of (n:=0) (aD _))⟩
def Lo.args{v:Zm}{bs:G Bs}(h:Lo n base W v bs):∃q cap,v=.slice q bs.length cap/\(0<bs.length->∃g,q=J (aZ g)/\g<W.heap.size/\∀(j:I) (b:Bs),bs[j]? = J b->∃x,W.cell? ⟨g,j,F⟩=J x/\El n W x b):=by
 let⟨xs,h1,k,i⟩:=h.ex
 have f:=λ{g:I}=>k.cells (g:=g)
 rcases k.2 with⟨rfl,e⟩|⟨g,cap,cur,rfl,-,l,-⟩
 .exact⟨F,0,by rw[e],λh=>S⟩
 refine⟨_,_,Z,λ_=>⟨g,Z,(ZO.1 l).1,λj b c=>?_⟩⟩;have d:j<xs.length:=by rw[h1];exact(Zz.1 c).1
 have:=f (g:=g) Z j xs[j] (ZH d);rw[add0]at this;exact⟨_,this,i j _ b (ZH d) c⟩
def El.arg{x:Zm}{b:Bs}(h:El 32 W x b):Arg W x b:=by
 obtain⟨k,c,rfl,h1,d,f,e⟩:=h;exact⟨_,_,_,Z,d,λ_=>⟨k,0,Z,h1,f,e⟩⟩
def El.arg33{x:Zm}{b:Bs}(h:El 33 W x b):Arg33 W x b:=by
 obtain⟨k,c,rfl,h1,d,f,e⟩:=h;exact⟨_,_,_,Z,d,λ_=>⟨k,0,Z,h1,f,e⟩⟩
def FH(C:IO P)(O:Ord N)(v:Zm)(w:Zl)(k:I)(hk:k<=512)(ns:I->I)(X:I->EC.Pt P)(hn:∀j,j<k->ns j<N)(hX:∀j,j<k->On (X j))
 (Q:∀W,kZ w W->dZ 175 #[v] W λe w'=>∃q cap,e=.slice q k cap/\Tm w' q k ns (λj=>wr (X j))) :
 eZ 103 #[v] w (pvl (wr (tot X k (λj=>(ns j:Y))))):=by
 have HM:=Hid.mk' Q;have z:E (IO P/\Ord N/\(∀j,j<k->ns j<N)/\∀j,j<k->On (X j)):=⟨C,O,hn,hX⟩
 obtain⟨s,hc⟩:=yH ((λj=>wr (X j)):I->Bs);have A:E (∀j,s j=wr (X j)):=λj=>by rw[<-hc.out]
 rw[hc.out]at HM;obtain⟨w1,h8⟩:=yH (w.alloc (.cells z33.toArray 40));have K1:E (FJ w1 w.heap.size z33/\kZ w w1):=by rw[<-h8.out];exact⟨aE (w:=w),aD (w:=w) _⟩
 obtain⟨d,k3,k0⟩:=Zp.1 uCP;obtain⟨d',hy,k4⟩:=Zp.1 uT;have HD:E ((prog.underlying 40=J d/\d.isRow=H)/\prog.underlying 244=J d'/\d'.isRow=H):=⟨⟨k3,k0⟩,hy,k4⟩
 clear k3 k0 hy k4 Q hn hX hc C O;go_enter func103,ntmps103;go_wp2_with (refine bH (v:=jZ w.heap.size) (w':=w1) Z (.alloc 40) Z ?_ ?_;(rw[<-h8.out];kernel_rfl))
 clear h8;apply(HM w1 K1.2).mono;rintro e w2 ⟨vv,rfl,h9,q,cap,rfl,hT⟩;have K2:E (Pz w w2 q k 0 ns s nZ nZ):=⟨K1.2.trans (h9.mono K1.2.size),Lo.begin _ _ _,Lo.begin _ _ _,hT,K1.1.below h9⟩
 clear h9 hT K1 HM;go_wp2_with fail
 go_loopg [3,4,12] k (λm s3 s4 s12 W=>∃i:I,i+m=k/\s12=iZ i/\E (Pz w W q k i ns s s3 s4))
 case atStart=>exact⟨0,S,Z,K2⟩
 case round =>
  clear K2;obtain⟨i,ke,rfl,l⟩:=hrel;by_cases hi:i<k
  .have k5:(i:Y)<(k:Y):=S;obtain⟨g,hq,K,hr⟩:=l.tm S;subst hq;obtain⟨n,h5⟩:=yH (ns i);obtain⟨p,hw⟩:=yH (s i);have B0:E (wr.rangeAt g (37*i) (wn n++aA p)):=by
    have h:=hr i hi;rw[h5.out,hw.out]at h;exact h
   have ha:E (p.size=33):=by rw[<-hw.out,A.out i];exact aR _
   have ka:E (n<N):=h5.out▸z.2.2.1 i hi;obtain⟨M,k2⟩:=yH (wr.alloc (.cells zT.toArray 244));obtain⟨r,k1⟩:=yH (M.setCells wr.heap.size 0 (wn n++aA p));have f:(wn n++aA p).length=37:=by rw[Zv,aB ha.out];rfl
   have F1:E (FJ M wr.heap.size zT/\kZ wr M/\M.heap.size=wr.heap.size+1):=by rw[<-k2.out];exact⟨aE (w:=wr),aD (w:=wr) _,Zy _ _⟩
   have L:E (FJ r wr.heap.size (wn n++aA p)/\kZ wr r):=by rw[<-k1.out];exact⟨F1.1.put (by rw[f];rfl),RG.below_setCells (Zo _) _ _ _ F1.2.1⟩
   have k6:E (gZ 244 (wn n++aA p).length):=by show _=_;rw[f];exact iT
   have hz:E (gZ 244 (wn n++aA p).toArray.size/\M.there wr.heap.size 0 (wn n++aA p).toArray.size):=by
    have e:(wn n++aA p).toArray.size=37:=by rw[kI];exact f
    rw[e];exact⟨iT,F1.1.2.2⟩
   have k8:E ((wn n++aA p).toArray.all (·.oneCell')=H):=by
    show _=_;rw[ul];intro u c;exact cells_one (n:=n) (a:=p) u (yCD.1 c)
   have kc:=atT g 0 (n:=k) cap (i:=i) hi;obtain⟨vt,t⟩:=yH (ZM (wn n++aA p).toArray);have G2:Gr 0 nZ wr r:=Gr.of L.2;have HB:E (∀b,PBs w u3 u4 wr.heap.size n r.heap.size w.heap.size p ((fo i).map λj=>bx (ns j)) ((fo i).map s) (J (aZ g)) k ns s b r.drew):=λb=>by
    match b with
    | 0=>exact L.1
    | 1=>exact(l.l3.kept dC G2 dC).drew
    | 2=>exact(l.l4.kept dC G2 dC).drew
    | 3=>exact⟨(l.bl.trans (L.2.mono l.bl.size)).drew,Zw l.bl.size L.2.size,Zo _⟩
    | 4=>exact l.tm.kept (W':=r) G2
    | 5=>exact l.r2.below (W':=r) L.2
    | _+6=>trivial
   have H3:E (∀g,u3.ownBlock=J g->w.heap.size<=g/\g<r.heap.size):=λg K=>⟨(l.l3.lt g K).1,Zn (l.l3.lt g K).2 L.2.size⟩
   have H4:E (∀g,u4.ownBlock=J g->w.heap.size<=g/\g<r.heap.size):=λg K=>⟨(l.l4.lt g K).1,Zn (l.l4.lt g K).2 L.2.size⟩
   have HG:=Hid.mk' K;clear f hr G2 l L K;go_wp2_with (first|(refine gS Z 244 _ Z g (37*i) ?_ (wn n++aA p) d' ?_ ?_ ?_ ?_ ?_;rfl;exact B0;exact HD.2.1;exact HD.2.2;exact k6;rw[t.out])|(refine bH (v:=jZ wr.heap.size) (w':=M) Z (.alloc 244) Z ?_ ?_;(rw[<-k2.out];kernel_rfl))|(refine ZZ Z 244 _ _ Z wr.heap.size 0 (wn n++aA p).toArray ?_ ?_ ?_ ?_ ?_ ?_;rfl;exact t.symm;exact hz.2;exact hz.1;exact k8;rw[show(wn n++aA p).toArray.toList=wn n++aA p from Z,k1.out])|fail)
   refine AD (FP w u3 u4 wr.heap.size n r.heap.size w.heap.size p ((fo i).map λj=>bx (ns j)) ((fo i).map s) (J (aZ g)) k ns s) kR ⟨kR,Oh ?_,λi' j kd hj k7 ht y=>Vk u3 u4 wr.heap.size n r.heap.size w.heap.size p _ _ H3 H4 (i:=i') (j:=j) hj k7 ht (λh=>by rw[h.1,h.2]at y;exact absurd (show D=H from y.symm.trans kR) dC) (λh=>by rw[h.1,h.2]at y;exact absurd (show D=H from y.symm.trans kR) dC),λi' b _ ht=>Rm w u3 u4 wr.heap.size n r.heap.size w.heap.size p _ _ _ k ns s H3 H4 (i:=i') (b:=b) ht⟩ HB ?_
   .have o:∀W:Zl,Gr 0 nZ W W:=λW=>Gr.of (ZF _ _)
    refine⟨qF 3 λa W c=>⟨a.eval (.tmp 3),W,kR,kR,o W,c.o 3 kR⟩,
     qF 6 λa W c=>⟨jZ wr.heap.size,W,kR,by rw[show a.eval (.tmp 6)=jZ wr.heap.size from c.o 6 kR];kernel_rfl,o W,Z⟩,
     Dj (T:=93) 17 Z u40 λa W c=>⟨wr.heap.size,0,wn n,c.n 1 17 kR kR kR,lM (show FJ W wr.heap.size (wn n++aA p) from c.b 0 kR).2.1,In,o W,Z⟩,
     Jp 18 λa W c=>⟨130,#[nv n],kR,by rw[show a.eval (.tmp 18)=nv n from c.n 2 18 kR kR kR];kernel_rfl,(tI z.2.1 ka W).mono (by
      rintro e W' ⟨u,rfl,k',V,rfl⟩;exact⟨_,Z,Gr.of V.bel,El.of_made V (dJ n)⟩)⟩,
     qF 19 λa W c=>⟨sZ W.heap.size 1 1,W.alloc (.cells #[a.eval (.tmp 19)] 22),kR,by
      obtain⟨k',c',V,-⟩:=show El 32 W (a.eval (.tmp 19)) (bx n) from c.n 3 19 kR kR kR
      rw[V];kernel_rfl,Gr.of (aD (w:=W) _),Bo.of (show El 32 W (a.eval (.tmp 19)) (bx n) from c.n 3 19 kR kR kR) dC (c.b 3 kR).2.2 _⟩,
     Og 16 20 23 Z λa W c=>?_,
     qF 4 λa W c=>⟨a.eval (.tmp 4),W,kR,kR,o W,c.o 4 kR⟩,
     qF 6 λa W c=>⟨oZ wr.heap.size 4,W,kR,by rw[show a.eval (.tmp 6)=jZ wr.heap.size from c.o 6 kR];kernel_rfl,o W,Z⟩,
     Dj (T:=40) 23 Z uCP λa W c=>⟨wr.heap.size,4,aA p,c.n 7 23 kR kR kR,mY (xs:=wn n) (show FJ W wr.heap.size (wn n++aA p) from c.b 0 kR).2.1,by rw[aB ha.out];exact dB,o W,Z⟩,
     Jp 24 λa W c=>⟨176,#[pvl p],kR,by rw[show a.eval (.tmp 24)=pvl p from c.n 8 24 kR kR kR];kernel_rfl,(JY ha (w:=W)).mono (by
      rintro e W' ⟨u,rfl,hb,hE⟩;exact⟨_,Z,Gr.of hb,hE⟩)⟩,
     qF 25 λa W c=>⟨sZ W.heap.size 1 1,W.alloc (.cells #[a.eval (.tmp 25)] 22),kR,by
      obtain⟨k',c',V,-⟩:=show El 33 W (a.eval (.tmp 25)) p from c.n 9 25 kR kR kR
      rw[V];kernel_rfl,Gr.of (aD (w:=W) _),Bo.of (show El 33 W (a.eval (.tmp 25)) p from c.n 9 25 kR kR kR) dC (c.b 3 kR).2.2 _⟩,
     Og 22 26 23 Z λa W c=>?_,
     qF 21 λa W c=>⟨a.eval (.tmp 21),W,kR,kR,o W,c.n 5 21 kR kR kR⟩,
     qF 27 λa W c=>⟨a.eval (.tmp 27),W,kR,kR,o W,c.n 11 27 kR kR kR⟩,Fs⟩
    .obtain⟨k',x,V,h1,h2,h3,h4⟩:=show Bo 32 r.heap.size W (a.eval (.tmp 20)) (bx n) from c.n 4 20 kR kR kR
     obtain⟨v',W',r1,r2,r3⟩:=Lo.app (show Lo 32 w.heap.size W u3 _ from c.b 1 kR) dC h4 h3 (by rw[ZI,yCp];omega) (c.b 3 kR).2.1;refine⟨v',W',?_,r3,r2⟩;rw[V,show a.eval (.tmp 16)=u3 from c.n 0 16 kR kR kR];exact r1
    .obtain⟨k',x,V,h1,h2,h3,h4⟩:=show Bo 33 r.heap.size W (a.eval (.tmp 26)) p from c.n 10 26 kR kR kR
     obtain⟨v',W',r1,r2,r3⟩:=Lo.app (show Lo 33 w.heap.size W u4 _ from c.b 2 kR) dC h4 h3 (by rw[ZI,yCp];omega) (c.b 3 kR).2.1;refine⟨v',W',?_,r3,r2⟩;rw[V,show a.eval (.tmp 22)=u4 from c.n 6 22 kR kR kR];exact r1
   .intro V w5 o c;have KN:E (Pz w w5 (J (aZ g)) k (i+1) ns s (V 12) (V 13)):=by
     have h1:=o 12 (yh (qt kR)) Z;have h2:=o 13 (yh (qt kR)) Z;refine⟨(c 3 Z).1,?_,?_,c 4 Z,c 5 Z⟩
     .rw[yDd,ty];show Lo 32 w.heap.size w5 (V 12) (_++[bx (ns i)]);rw[h5.out];exact h1
     .rw[yDd,ty];show Lo 33 w.heap.size w5 (V 13) (_++[s i]);rw[hw.out];exact h2
    clear o c HB H3 H4;dsimp only[cD,mi];generalize V 12=s3 at KN⊢;generalize V 13=s4 at KN⊢;go_wp2;go_roundg (gk-1)
    case measure=>omega
    case rel=>exact⟨i+1,S,Z,KN⟩
  .have k5:¬(i:Y)<(k:Y):=S;obtain rfl:i=k:=S;obtain⟨q3,c3,rfl,h3⟩:=l.l3.args;obtain⟨q4,c4,rfl,h4⟩:=l.l4.args;rw[ZI,yCp]at h3 h4;have HA:E (yP wr q3 i (λj=>bx (ns j))):=λh0=>by
    obtain⟨g,c,o,e3⟩:=h3 h0;refine⟨g,c,o,λj hj=>?_⟩;obtain⟨x,x1,x2⟩:=e3 j (bx (ns j)) (by rw[rm,yD0 hj];rfl);exact⟨x,x1,x2.arg⟩
   have HP:E (ArgsPts wr q4 i s):=λh0=>by
    obtain⟨g,c,o,e3⟩:=h4 h0;refine⟨g,c,o,λj hj=>?_⟩;obtain⟨x,x1,x2⟩:=e3 j (s j) (by rw[rm,yD0 hj];rfl);exact⟨x,x1,x2.arg33⟩
   rw[ZI,yCp,ZI,yCp];have M:E (kZ w wr/\FJ wr w.heap.size z33):=⟨l.bl,l.r2⟩
   clear h3 h4 l;go_wp2_with fail
   apply(UH z.1 z.2.1.gap z.2.1.le q3 q4 i c3 i c4 (λj=>bx (ns j)) s wr HA HP).mono;rintro e o ⟨vv,rfl,c,hS⟩;obtain⟨V,cs,rfl,-,-,h6,h7⟩:=SumR.all z.1 z.2.1 S z.2.2.1 z.2.2.2 (λ_ _=>rfl) (λj _=>A j) hS;obtain⟨T,hT⟩:=yH (Go.Proofs.YtndpeoebngkhmaaGreat.wr (tot X i (λj=>(ns j:Y))));have k9:T.size=33:=hT.out▸aR _;rw[hT.out]at h7;have L:E (FJ o w.heap.size z33/\kZ w o/\FJ o V (aA T)):=⟨M.2.below c,M.1.trans (c.mono M.1.size),mW h7 h6⟩
   clear c hS h6 h7 M HA HP;have kb:=JB V cs;obtain⟨y,r⟩:=yH (o.setCells w.heap.size 0 (aA T));have f:(aA T).length=33:=aB k9;have K7:E (FJ y w.heap.size (aA T)/\kZ w y):=by rw[<-r.out];exact⟨L.1.put (by rw[f];rfl),RG.below_setCells (Zo _) _ _ _ L.2.1⟩
   obtain⟨vt,t⟩:=yH (ZM (aA T).toArray);have K:E (gZ 40 (aA T).length/\o.there w.heap.size 0 (aA T).toArray.size/\gZ 40 (aA T).toArray.size):=by
    have e:(aA T).toArray.size=33:=by rw[kI];exact f
    refine⟨by rw[f];exact dB,by rw[e];exact L.1.2.2,by rw[e];exact dB⟩
   clear f;go_wp2_with (first|(refine gS Z 40 _ Z V 0 ?_ (aA T) d ?_ ?_ ?_ ?_ ?_;rfl;exact L.2.2.2.1;exact HD.1.1;exact HD.1.2;exact K.1;rw[t.out])|(refine ZZ Z 40 _ _ Z w.heap.size 0 (aA T).toArray ?_ ?_ ?_ ?_ ?_ ?_;rfl;exact t.symm;exact K.2.1;exact K.2.2;exact bW (a:=T);rw[show(aA T).toArray.toList=aA T from Z,r.out]))
   refine Zx (aG 2 (T:=40) Z K7.1 Z uCP K.1) Z ?_;exact⟨_,Z,K7.2,by rw[hT.out];rfl⟩
namespace EC
variable {P:Nat}[NeZero P]
def yD(C:Cur P){a:Pt P}(k:On a)(m:I):∀n,mul (m*n) a=mul n (mul m a)
 | 0=>rfl
 | n+1=>by
  rw[CD,mul_add C k,yD C k m n];rfl
def Af:∀n,mul n (F:Pt P)=F
 | 0=>rfl
 | n+1=>by
  show add (mul n F) F=F;rw[Af n];rfl
end EC
def iE(P:I)[NeZero P](b:Bs):EC.Pt P:=match rd P b with|some p=>pt p|none=>F
def kF(C:IO P){X:EC.Pt P}(h:On X):iE P (wr X)=X:=by
 let⟨p,h1,k⟩:=Ir C h
 rw[iE,h1];exact k
def gW(P:I)[NeZero P]:LB->EC.Pt P
 | []=>F
 | x :: r=>EC.add (mul x.1 (iE P x.2)) (gW P r)
def PtsL(P:I)[NeZero P](l:LB):Prop:=∀x∈l,∃X:EC.Pt P,On X/\x.2=wr X
def PtsL.on(C:IO P)(h:PtsL P l){x:I × Bs}(hx:x∈l):On (iE P x.2):=by
 let⟨X,h1,k⟩:=h x hx
 rw[k,kF C h1];exact h1
def qN(C:IO P):∀ {l:LB},PtsL P l->On (gW P l)
 | [],_=>kJ
 | x :: r,h=>C.cur.on (fC C.cur (h.on C pw) _) (qN C λy k=>h y (ps _ k))
def BC{y:I × Bs}(C:IO P)(k:On (iE P y.2)):∀ {l:LB},PtsL P l->gW P (l++[y])=EC.add (gW P l) (mul y.1 (iE P y.2))
 | [],_=>bO
 | x :: r,h=>by
  have b:PtsL P r:=λz c=>h z (ps _ c)
  show EC.add (mul x.1 (iE P x.2)) (gW P (r++[y]))=_;rw[BC C k b];exact(C.cur.assoc (fC C.cur (h.on C pw) _) (qN C b) (fC C.cur k _)).symm
def Cw:∀l:LB,gW P (LF l)=gW P l
 | []=>rfl
 | x :: r=>by
  rw[LF,G.filter_cons];by_cases h:x.1=0
  .rw[Id (by simp[h])];show gW P (LF r)=EC.add (mul x.1 (iE P x.2)) (gW P r);rw[h,Cw r];rfl
  rw[GD (by simp[h])];show EC.add _ (gW P (LF r))=EC.add _ (gW P r);rw[Cw r]
def mul_mod(C:IO P)(k:∀r:EC.Pt P,On r->mul N r=F){X:EC.Pt P}(b:On X)(n:I):mul (n%N) X=mul n X:=by
 have h:=mul_add C.cur b (N*(n/N)) (n%N);rw[I.div_add_mod,yD C.cur b N (n/N),k X b,Af,pJ]at h;exact h.symm
def BD{p:Bs}(C:IO P)(k:∀r:EC.Pt P,On r->mul N r=F)(n:I)(b:On (iE P p)):∀ {l:LB},PtsL P l->gW P (gJ N l n p)=EC.add (gW P l) (mul n (iE P p))
 | [],_=>bO
 | (s,q) :: r,h=>by
  have f:PtsL P r:=λz g=>h z (ps _ g)
  have h1:=fC C.cur (h.on C (x:=(s,q)) pw) s;have c:=qN C f;have d:=fC C.cur b n;unfold gJ;by_cases e:p=q
  .rw[GD e];subst e;show EC.add (mul (sPl N s n) (iE P p)) (gW P r)=EC.add (EC.add (mul s (iE P p)) (gW P r)) (mul n (iE P p));rw[sPl,mul_mod C k b,mul_add C.cur b,C.cur.assoc h1 d c,C.cur.assoc h1 c d,C.cur.comm d c]
  rw[Id e];show EC.add (mul s (iE P q)) (gW P (gJ N r n p))=EC.add (EC.add (mul s (iE P q)) (gW P r)) (mul n (iE P p));rw[BD C k n b f,C.cur.assoc h1 c d]
def JD{n:I}{p:Bs}(k:∃X:EC.Pt P,On X/\p=wr X):∀ {l:LB},PtsL P l->PtsL P (gJ N l n p)
 | [],_=>λx hx=>by
  have:x=(n,p):=by simpa[gJ]using hx
  rw[this];exact k
 | (s,q) :: r,h=>by
  have b:PtsL P r:=λz c=>h z (ps _ c)
  unfold gJ;split
  .intro x hx;rcases fT.1 hx with rfl|hx
   .exact h (s,q) pw
   exact b x hx
  intro x hx;rcases fT.1 hx with rfl|hx
  .exact h (s,q) pw
  exact JD k b x hx
def CV(ns:I->I)(X:I->EC.Pt P){k:I}(b:∀j,j<k->On (X j)):∀i,i<=k->PtsL P (mrg N ns (λj=>wr (X j)) i)
 | 0,_=>λx hx=>by cases hx
 | i+1,hi=>JD ⟨X i,b i S,Z⟩ (CV ns X b i S)
def IV{X:I->EC.Pt P}(C:IO P)(b:∀r:EC.Pt P,On r->mul N r=F)(ns:I->I){k:I}(d:∀j,j<k->On (X j)):∀i,i<=k->gW P (mrg N ns (λj=>wr (X j)) i)=tot X i (λj=>(ns j:Y))
 | 0,_=>rfl
 | i+1,hi=>by
  have c:=d i S;show gW P (gJ N (mrg N ns (λj=>wr (X j)) i) (ns i) (wr (X i)))=EC.add (tot X i (λj=>(ns j:Y))) (mul (ns i) (X i));rw[BD C b _ (by rw[kF C c];exact c) (CV ns X d i S),IV C b ns d i S,kF C c]
def yX{l:LB}(C:IO P)(h:PtsL P l):∀i,i<=l.length->tot (λj=>iE P ((l[j]?).getD (0,#[])).2) i (λj=>(((l[j]?).getD (0,#[])).1:Y))=gW P (l.take i)
 | 0,_=>by rw[xu];rfl
 | i+1,hi=>by
  have k:i<l.length:=S;show EC.add (tot _ i _) (mul ((l[i]?).getD (0,#[])).1 (iE P ((l[i]?).getD (0,#[])).2))=_;rw[yX C h i S,yFv,ZH k];exact(BC C (h.on C (qs k)) λx hx=>h x (yDS hx)).symm
def FI{k:I}{ns:I->I}{X:I->EC.Pt P}(C:IO P)(O:Ord N)(p:∀r:EC.Pt P,On r->mul N r=F)(h2:0<k)(hk:k<=512)(Q:∀j,j<k->ns j<N)(K:∀j,j<k->On (X j))(M:g<w.heap.size)(hr:∀j,j<k->w.rangeAt g (37*j) (wn (ns j)++aA (wr (X j)))):
 eZ 103 #[sZ g k c] w (pvl (wr (tot X k (λj=>(ns j:Int))))):=by
 have a:=CV (N:=N) ns X K k (Zo _);have m:=GE O (λj=>wr (X j)) Q k (Zo _);have o:=Ah (N:=N) ns (λj=>wr (X j)) (k:=k) (λj _=>aR _) k (Zo _);have z:=CW (N:=N) ns (λj=>wr (X j)) k;have f:=IV C p ns K k (Zo _);have i:0<(mrg N ns (λj=>wr (X j)) k).length:=by
  obtain⟨b,rfl⟩:∃b,k=b+1:=⟨k-1,S⟩
  show 0<(gJ N _ _ _).length;cases mrg N ns (λj=>wr (X j)) b with
  | nil=>exact BT 0
  | cons x r=>unfold gJ;split<;>simp
 have l:=λW (s:kZ w W)=>Nr O (λe w'=>kZ W w'/\∃q cap,e=.slice q (LF (mrg N ns (λj=>wr (X j)) k)).length cap/\TmL w' q (LF (mrg N ns (λj=>wr (X j)) k))) g k c S ns (λj=>wr (X j)) (λj _=>aR _) Q W (Zn M s.size) (λj d=>aF (hr j d) s M) (λW' v n=>by
  apply(N8 _ i S o (λx hx=>Zn (m x hx) O.le) W.heap.size v W' n.bl.size n.ow).mono;rintro e w' ⟨u,rfl,b,hT⟩;exact⟨_,Z,n.bl.trans b,hT⟩)
 generalize mrg N ns (λj=>wr (X j)) k=L at a m o z f i l;have y:PtsL P (LF L):=λx hx=>a x (Dv hx)
 have h3:(LF L).length<=L.length:=yFa _ _;refine(FH C O _ w (LF L).length S (λj=>(((LF L)[j]?).getD (0,#[])).1) (λj=>iE P (((LF L)[j]?).getD (0,#[])).2) (λj d=>by rw[ZH d];exact m _ (Dv (qs d))) (λj d=>by rw[ZH d];exact y.on C (qs d)) λW s=>?_).mono ?_
 .apply(l W s).mono;rintro e w' ⟨u,rfl,b,q,cap,rfl,hT⟩;refine⟨_,Z,b,q,cap,Z,λV=>?_⟩;let⟨t,e1,e2,e3⟩:=hT V
  refine⟨t,e1,e2,λj d=>?_⟩;let⟨Y,y1,T⟩:=y _ (qs d)
  show w'.rangeAt t (37*j) (wn (((LF L)[j]?).getD (0,#[])).1++aA (wr (iE P (((LF L)[j]?).getD (0,#[])).2)));rw[ZH d];show w'.rangeAt t (37*j) (wn ((LF L)[j]).1++aA (wr (iE P ((LF L)[j]).2)));rw[T,kF C y1,<-T];exact e3 j d
 rintro e w' ⟨u,rfl,b,rfl⟩;refine⟨_,Z,b,?_⟩;rw[yX C y _ (Zo _),yEg,Cw,f]
def VA:prog.underlying 22=J (.slice 5):=kR
def VD:prog.underlying 3=J (.int .i64):=kR
def RZ:(prog.info? 5).map (λi=>(i.size,i.bytes,i.zero.map λz=>z.cells.size))=J (1,1,J 1):=kR
def atB(k o c:I)(b:i<n)(w:Zl):(iB 23 (qZ k o n c) (iZ i)).run prog w=.ok (oZ k (o+1*i)) w:=by
 go_simp
def UF(n:I)(y:n<=10000000)(w:Zl):dZ 193 #[nZ,iZ n] w λe w'=>w'.ownsRow w.heap.size 5 1 e 0 []:=by
 by_cases s:n=0
 .subst s;go_enter func193,ntmps193;go_wp2;go_ret;exact⟨_,Z,ZF _ _,yD5 _ _ _ _⟩
 let⟨i,q,r⟩:=Zp.1 RZ
 simp only[an.injEq]at r;let⟨h1,m,p⟩:=r
 let⟨z,o,f⟩:=Zp.1 p
 have g:=yEX (P:=prog) w 22 3 22 5 i z .i64 .i64 VA VD q o n S S S (by rw[m];omega);have d:=grownCap_ge w n 0 5;have k:=grownCap_le_maxLen w n 0 5 (by unfold maxLen;omega);have b:(wy z.cells n++wy z.cells (grownCap w n 0 5-n)).size=grownCap w n 0 5*1:=by rw[pq,size_zeroCells,size_zeroCells,f];omega
 generalize grownCap w n 0 5=l at g d k b;generalize wy z.cells n++wy z.cells (l-n)=cur at g b;let⟨j,c⟩:∃j,E (w.drew.alloc (.cells cur 5)=j):=⟨_,Z⟩
 rw[c.out]at g;have u:=Hid.mk' g;have K:E (kZ w j/\j.ownsRow w.heap.size 5 1 (sZ w.heap.size 0 l) 0 []):=by
  rw[<-c.out];exact⟨(ZF _ _).drew.alloc (Zo _) _,yFj w.drew cur l (Zo _) k b⟩
 clear g c b q o f h1 m p;have t:(0:Y)<(n:Y):=S;have v:¬((n:Y)<0):=S;have x:ZN.wrap (n:Y)=n:=by rw[pk];omega
 go_enter func193,ntmps193;go_wp2_with (at_builtin;refine uy _ Z _ _ _ _ Z _ _ Z Z _ _ u ?_)
 go_ret;exact⟨_,Z,K.1,K.2⟩
def kB(L:I->Bs)(k:I):G Fk:=(fo k).flatMap λj=>(L j).toList
def rC(L:I->Bs)(i:I):kB L (i+1)=kB L i++(L i).toList:=by
 unfold kB;rw[yDd,yCI];simp
def Jr{L:I->Bs}{k m:I}(hs:∀j,j<k->(L j).size<=m):∀i,i<=k->(kB L i).length<=m*i
 | 0,_=>Zo _
 | i+1,hi=>by
  have h1:=Jr hs i S;have b:=hs i S;have e:(L i).toList.length=(L i).size:=rfl;rw[rC,Zv,e,CD];omega
def El.below{B:I}{x:Zm}{b:Bs}(h:El n W x b)(d:Below B W W')(i:W.heap.size<=B):El n W' x b:=by
 obtain⟨k,c,rfl,h1,e,g,f⟩:=h;exact⟨k,c,Z,h1,e,Zn g d.size,Holds.kept f (d.block k S)⟩
def Qh{v x:Zm}{b:Bs}(d:W.ownsRow base 5 1 v n xs)(hx:El m W x b)(K:n+m<=100000000)(q:base<=W.heap.size):
 ∃e W',(oT #[22,22] 22 #[v,x]).run prog W=.ok e W'/\W'.ownsRow base 5 1 e (n+m) (xs++cb b)/\W.grownBy W' v.ownBlock:=by
 let⟨i,a,g⟩:=Zp.1 RZ
 simp only[an.injEq]at g;let⟨h1,o,w⟩:=g
 let⟨z,s,f⟩:=Zp.1 w
 obtain⟨k,c,rfl,L,r,e3,C⟩:=hx;obtain⟨e,W',p,r2,l,-⟩:=yDJ (P:=prog) W base 22 22 5 i z 1 1 VA a s h1 o f dC v n xs d (aZ k) m c (cb b) (by rw[rB,r];omega)
  (λj u A=>by
   have:=(uO C).1 j u A;rw[Zs]at this;rw[add0];exact this) (λu t=>by
   obtain⟨y,-,rfl⟩:=Z1.1 t;rfl) (by unfold maxLen;omega) S q
 exact⟨e,W',p,r2,l⟩
def UY(L:I->Bs)(i:I):(kB L (i+1)).map encB=(kB L i).map encB++cb (L i):=by rw[rC,ty];rfl
def Ob(g k c:I)(L:I->Bs)(Q:k<=1000)(hs:∀j,j<k->(L j).size<=10000)(w:Zl)(P:g<w.heap.size)(X:∀j,j<k->∃x,w.cell? ⟨g,j,F⟩=J x/\El (L j).size w x (L j)):
 dZ 129 #[sZ g k c] w λe w'=>w'.ownsRow w.heap.size 5 1 e (kB L k).length ((kB L k).map encB):=by
 have HL:=Hid.mk' X;have t:E (∀i,i<=k->(kB L i).length<=10000*i):=Jr (L:=L) hs;have HG:=Hid.mk' P;clear X hs P;go_enter func129,ntmps129;go_wp2_with fail
 go_loopg [3,11] k (λm s3 s11 W=>∃i:I,i+m=k/\s11=iZ i/\s3=iZ ((kB L i).length:Y)/\w=W)
 case atStart=>exact⟨0,S,Z,Z,Z⟩
 case round =>
  obtain⟨i,h2,rfl,rfl,rfl⟩:=hrel;by_cases hi:i<k
  .have z:(i:Y)<(k:Y):=S;obtain⟨x,hc,hE⟩:=HL i hi;obtain⟨N,V,rfl,h1,-⟩:=hE;have n:=atB g 0 (n:=k) c (i:=i) hi;rw[show 0+1*i=i by omega]at n;have d:(kB L (i+1)).length=(kB L i).length+(L i).size:=by rw[rC,Zv];rfl
   have l:=t i S;have s:=t (i+1) S;obtain⟨a,o⟩:=yH ((kB L i).length);obtain⟨b,f⟩:=yH ((L i).size);rw[o.out]at d l;rw[f.out]at d h1;rw[o.out];have r:ZN.wrap ((a:Y)+(b:Y))=((a+b:I):Y):=by rw[pk];omega
   have q:¬(((a+b:I):Y)<0):=S;rw[f.out]at hc;go_wp2;go_roundg (gk-1)
   case measure=>omega
   case rel=>exact⟨i+1,S,Z,by rw[d,yEv],Z⟩
  .have z:¬(i:Y)<(k:Y):=S;obtain rfl:i=k:=S;go_wp2_with fail
   apply(UF (kB L i).length (oN (t i (Zo _))) w).mono;rintro e C ⟨v,rfl,l,r⟩;have T:E (kZ w C/\C.ownsRow w.heap.size 5 1 v (kB L 0).length ((kB L 0).map encB)):=⟨l,r⟩
   clear l r;go_wp2_with fail
   go_loopg [6,27] i (λm s6 s27 W=>∃j:I,j+m=i/\s27=iZ j/\E (kZ w W/\W.ownsRow w.heap.size 5 1 s6 (kB L j).length ((kB L j).map encB)))
   case atStart=>exact⟨0,S,Z,T⟩
   case round =>
    clear T;obtain⟨j,h0,rfl,f⟩:=hrel;by_cases hj:j<i
    .have A:(j:Y)<(i:Y):=S;obtain⟨x,q,o⟩:=HL j hj;have hc:wr.cell? ⟨g,j,F⟩=J x:=by rw[f.1.cell (p:=⟨g,j,F⟩) HG.out];exact q
     have hE:=o.below f.1 (Zo _);have s:=t (j+1) S;have d:(kB L (j+1)).length=(kB L j).length+(L j).size:=by rw[rC,Zv];rfl
     obtain⟨M,W',O,r2,K⟩:=Qh f.2 hE S f.1.size;rw[<-d,<-UY]at r2;have KN:E (kZ w W'/\W'.ownsRow w.heap.size 5 1 M (kB L (j+1)).length ((kB L (j+1)).map encB)):=⟨f.1.grown K f.1.size (λk Q=>(f.2.lt k Q).1),r2⟩
     have u:=Hid.mk' O;obtain⟨N,V,rfl,-⟩:=hE;have n:=atB g 0 (n:=i) c (i:=j) hj;rw[show 0+1*j=j by omega]at n;clear O r2 K d s f o q;go_wp2_with (first|(refine kP (x:=u6) (y:=sZ N (L j).size V) (v:=M) (w':=W') Z _ _ 22 Z ?_ ?_ ?_ ?_;rfl;rfl;exact u)|fail)
     go_roundg (gk-1)
     case measure=>omega
     case rel=>exact⟨j+1,S,Z,KN⟩
    .have A:¬(j:Y)<(i:Y):=S;obtain rfl:j=i:=S;go_wp2;go_ret;exact⟨_,Z,f.1,f.2⟩
section
open Go.Shelf
attribute [local go_sem] yED
def CZ{row:GJ I}(h:kZ w w'):w.grownBy w' row:=⟨h.os,h.tape,h.output,h.size,λk b _=>h.block k b⟩
def NB{o:I}{bs:Bs}(h:hZ w g o bs)(hs:0<bs.size):g<w.heap.size:=by
 obtain⟨k,ho,-⟩:=cells_of_cell (h 0 hs).1;exact(ZO.1 ho).1
noncomputable def cand (P:I) [NeZero P] (k:Fd) (b:G Fk) (i:I):GJ (B P × B P):=
 if beV (kH ((⟨#[112,111,105,110,116,32]⟩:Fd)++k).data.toList [b,[ZG i]]).toList<P then
  (rt (rz P (beV (kH ((⟨#[112,111,105,110,116,32]⟩:Fd)++k).data.toList [b,[ZG i]]).toList)*rz P (beV (kH ((⟨#[112,111,105,110,116,32]⟩:Fd)++k).data.toList [b,[ZG i]]).toList)*rz P (beV (kH ((⟨#[112,111,105,110,116,32]⟩:Fd)++k).data.toList [b,[ZG i]]).toList)+7)).map λy=>(rz P (beV (kH ((⟨#[112,111,105,110,116,32]⟩:Fd)++k).data.toList [b,[ZG i]]).toList),y)
 else F
noncomputable def cands (P:I) [NeZero P] (k:Fd) (b:G Fk) (i:I):G (B P × B P):=(fo i).filterMap (cand P k b)
def fY(k:Fd)(b:G Fk)(i:I):cands P k b (i+1)=cands P k b i++(cand P k b i).toList:=by
 unfold cands;rw[yDd,G.filterMap_append];cases h:cand P k b i<;>simp[h]
def Cd(k:Fd)(b:G Fk)(h:i<=j):cands P k b i <+: cands P k b j:=by
 induction j with
 | zero=>rw[I.le_zero.1 h];exact yFQ
 | succ j ih =>
  rcases tE i (j+1)with h1|h1
  .rw[fY];exact(ih S).trans (G.prefix_append _ _)
  rw[show i=j+1 by omega];exact yFQ
def Le{k:Fd}:(cands P k b i).length<=i:=by
 unfold cands;exact Zw (G.length_filterMap_le _ _) (by rw[yCp];exact Zo _)
end
section
open Go.Shelf
attribute [local go_sem] yED
section
variable {F:Fence}{n:Nat}{P:ai}{ops:Array Z4}{rest:List Z4}{op:Z4}{a:Act}{w:Zl}{Q:Exit->Act->Zl->Prop}
def rG{x:oF}(g:Region.wanted op (yielded ops a.tmps)=H)(k:ZR)(ho:op.op=.load k x)(b o:I)(hx:a.eval x=oZ b o)(cs:G Zm)(d:TypeDesc)(m:w.rangeAt b o cs)(j:P.underlying k=J d)(hd:d.isRow=H)(l:(P.info? k).map (·.size)=J cs.length)(h:wpListIn F n P ops Q rest (a.put op.dst (.agg cs.toArray)) w):wpListIn F n P ops Q (op :: rest) a w:=
 wpListIn_step λK i=>by
  rw[g,GD Z];refine⟨λf hf=>(by unfold Oper.about at hf;rw[ho]at hf;cases hf),?_⟩;rw[Oper.semAt_eq _ _ _ (λc=>by rw[ho];intro e;cases e)];unfold Z0;simp only[ho,hx,Instr.loadAt,Instr.sureAddr,ZK,qj,lp,um w b o k cs d m j hd l];exact i _ _ h
end
variable {P:Nat}[NeZero P]
def Hid.mk{p:Prop}(h:p):Hid p:=h
def Uu(C:IO P)(c:Fd)(vb:Zm)(b:G Fk)(k1 k2:I)(w:Zl)(kt:c.size<=1000000)(h1:w.cell? ⟨k1,0,F⟩=some (.string c))(h2:w.cell? ⟨k2,0,F⟩=some vb)(l1:k1<w.heap.size)(l2:k2<w.heap.size)(hb:PartOk w vb b)(n:I):
 SeqStopsK Fence.wide n prog 91 #[jZ k1,jZ k2] (λx:B P × B P=>#[pv x.1 x.2]) (Below w.heap.size) (λxs=>xs=cands P c b 256) (λk=>k <+: cands P c b 256) 256 w:=by
 have HP:=hb;obtain⟨a0,sb,so,cap,bs,rfl,-,-,-,-⟩:=hb;intro l J Jx W hW hJ kv hY h0;refine callsIn_of_wp func91 Z trivial ?_ Z;simp only[ntmps91,kI,Z9,G.length_nil,mi,I.reduceSub,R.replicate_succ,R.replicate_zero,G.push_toArray,G.append_toArray,G.nil_append,qo]
 gi_wp2
 gi_loopw [10] (λp wr=>∃i:I,i<=256/\p=iZ i/\J (cands P c b i) wr/\kZ w wr/\W.heap.size<=wr.heap.size) (λp wr=>256-(intOf p).toNat)
 case atStart =>
  exact⟨0,dC,Z,h0,hW,Zo _⟩
 case round =>
  obtain⟨i,hi,rfl,hk,hB,k3⟩:=hrel;have ko:=hB;by_cases he:i=256
  .subst he
   gi_wp2
   go_end0
   exact⟨⟨_,Z⟩,.inl ⟨_,Z,hk⟩⟩
  have kl:(i:Y)<256:=S;have c1:wr.cell? ⟨k1,0,F⟩=some (.string c):=(ZP (hB.block k1 l1)).trans h1;have c2:wr.cell? ⟨k2,0,F⟩=some (.slice a0 bs.size cap):=(ZP (hB.block k2 l2)).trans h2;have k0:=Made.alloc wr [.int .u8 i] 5;have k9:=Made.alloc (wr.alloc (.cells #[.int .u8 i] 5)) [.slice a0 bs.size cap,sZ wr.heap.size 1 1] 22;rw[Zy]at k9;have kn:ub (ZG i)=(i:Y):=by
   show(((ZG i).toNat:I):Y)=_;rw[Fk.toNat_ofNat',ZC S]
  obtain⟨W1,ha⟩:∃W1,W1=(wr.alloc (.cells #[.int .u8 i] 5)).alloc (.cells #[.slice a0 bs.size cap,sZ wr.heap.size 1 1] 22):=⟨_,Z⟩
  have h5:kZ wr W1:=by rw[ha];exact((ZF _ wr).alloc (Zo _) _).alloc (by rw[Zy];omega) _
  have hP:PartsOk W1 (some ⟨wr.heap.size+1,0,F⟩) [b,[ZG i]]:=by
   have k:W1.rangeAt (wr.heap.size+1) 0 [.slice a0 bs.size cap,sZ wr.heap.size 1 1]:=by rw[ha];exact k9.range
   refine ZW ⟨_,_,Z,λj g=>?_⟩;have o:j=0\/j=1:=by simp at g;omega
   rcases o with rfl|rfl
   .exact⟨_,k 0 _ Z,(HP.below ko).below h5⟩
   refine⟨_,k 1 _ Z,some (aZ wr.heap.size),wr.heap.size,0,1,#[ZG i],Z,Z,Zo _,qt Z,ZW ⟨Z,?_⟩⟩;have m:=k0.range;have s:wr.heap.size<(wr.alloc (.cells #[.int .u8 i] 5)).heap.size:=by rw[Zy];omega
   intro j g;have f:j=0:=by simp at g;omega
   subst f;have q:W1.heap[wr.heap.size]? = (wr.alloc (.cells #[.int .u8 i] 5)).heap[wr.heap.size]?:=by rw[ha];exact yFA _ _ _ s
   refine⟨?_,?_⟩
   .rw[ZP (a:=⟨wr.heap.size,0+0,F⟩) q];show _=some (Value.int .u8 (ub (ZG i)));rw[kn];exact m 0 _ Z
   rw[sI (a:=⟨wr.heap.size,0+0,F⟩) q];exact(k0.there 0 (Zo _)).2
  have hu:=yN ((⟨#[112,111,105,110,116,32]⟩:Fd)++c) (some ⟨wr.heap.size+1,0,F⟩) 2 [b,[ZG i]] W1 (by rw[yDs];show 6+c.size<=_;omega) (qt Z) hP
  gi_wp2_with fail
  rw[<-ha];refine⟨trivial,λh=>(by cases h),(callsIn_wide.2 hu).mono ?_⟩;rintro e w2 ⟨r,rfl,kk,k6,h8⟩;clear hu hP c1 c2 k0 k9 kl;obtain⟨T,hT⟩:=yH (kH ((⟨#[112,111,105,110,116,32]⟩:Fd)++c).data.toList [b,[ZG i]]);rw[hT.out]at h8
  gi_wp2_with fail
  refine⟨trivial,λh=>(by cases h),(callsIn_wide.2 (bM _)).mono ?_⟩;rintro e w3 ⟨v,rfl,h9,rfl⟩;have k5:r<w2.heap.size:=NB h8 (by rw[<-hT.out,eG];decide);have ka:T.size=32:=by rw[<-hT.out];exact eG
  have k4:hZ w3 r 0 T:=Holds.below h8 h9 k5;have Q:r<w3.heap.size:=Zn k5 h9.size;have u:kZ wr w3:=(h5.trans (k6.mono h5.size)).trans (h9.mono (Zw h5.size k6.size));by_cases hx:beV T.toList<P
  .obtain⟨x,hg⟩:∃x:B P,E (beV T.toList=x.val):=⟨rz P (beV T.toList),(ZC hx).symm⟩
   have h7:E (rz P (beV T.toList)=x):=B.ext (by show beV T.toList%P=_;rw[ZC hx];exact hg.out);have hx:E (beV T.toList<P):=hx
   gi_wp2_with fail
   refine⟨trivial,λh=>(by cases h),(callsIn_wide.2 (OO C ka (Zo _) hg.out Q k4)).mono ?_⟩;rintro e A ⟨v,rfl,h4,rfl⟩;have K:=(Made.alloc A [U 0,U 0,U 0,U 0] 81).there;have g:=u.trans (h4.mono u.size);have kb:=yj _ _ 0 (ws x) K;obtain⟨d,ki,kf⟩:=Zp.1 u85;clear K kb ka k4 k5 Q h9 h4 h8 kk k6 h5;obtain⟨w5,k7⟩:=yH ((A.alloc (.cells #[U 0,U 0,U 0,U 0] 81)).setCells A.heap.size 0 (ws x));have o:E (kZ wr w5):=by rw[<-k7.out];exact RG.below_setCells g.size _ _ _ (g.alloc g.size _)
   have hm:w5.rangeAt A.heap.size 0 (ws x):=by rw[<-k7.out];exact yj _ _ 0 (ws x) (Made.alloc A [U 0,U 0,U 0,U 0] 81).there
   gi_wp2_with (first|(refine bJ Z 81 Z 0 Z Z (Made.alloc A [U 0,U 0,U 0,U 0] 81).there i85 kR ?_;rw[show(ws x).toArray.toList=ws x from Z,k7.out])|refine lE Z Z Z d hm ki kf i85 ?_)
   refine⟨trivial,λh=>(by cases h),?_⟩;clear hm ki kf;have ku:True:=trivial;obtain⟨d8,hn,ht⟩:=Zp.1 jX;cases N:rt (x*x*x+7) with
   | none =>
    obtain⟨z,X⟩:∃z:B P,E (z=0):=⟨_,Z⟩
    have k:=Co C x N w5;rw[<-X.out]at k;obtain⟨vz,M⟩:=yH (pv z z);rw[M.out]at k;refine(callsIn_wide.2 k).mono ?_;clear k;rintro e s ⟨v,rfl,V,rfl⟩;have f:E (cand P c b i=F):=by
     show cand P c b i=F;rw[cand,hT.out,GD hx.out,h7.out,N];rfl
    clear N;have q:E (kZ wr ((s.alloc (.cells #[U 0,U 0,U 0,U 0,U 0,U 0,U 0,U 0] 83)).setCells s.heap.size 0 (ws z++ws z))):=
     have h6:=o.trans (V.mono o.size)
     RG.below_setCells h6.size _ _ _ (h6.alloc h6.size _)
    clear V;have L:(ws z++ws z).toArray.size=8:=kR;have t:E <| (s.alloc (.cells #[U 0,U 0,U 0,U 0,U 0,U 0,U 0,U 0] 83)).there s.heap.size 0 (ws z++ws z).toArray.size:=by show yGi _ _ _ _;rw[L];exact(Made.alloc s [U 0,U 0,U 0,U 0,U 0,U 0,U 0,U 0] 83).there
    have h3:E (gZ 83 (ws z++ws z).toArray.size):=by show _=_;rw[L];exact i109
    clear L;obtain⟨O,m⟩:=yH ((s.alloc (.cells #[U 0,U 0,U 0,U 0,U 0,U 0,U 0,U 0] 83)).setCells s.heap.size 0 (ws z++ws z));rw[m.out]at q
    gi_wp2_with (refine bJ Z 83 Z (b:=s.heap.size) 0 (k:=(ws z++ws z).toArray) ?_ ?_ ?_ ?_ ?_ ?_;rfl;exact M.symm;exact t.out;exact h3.out;kernel_rfl;rw[show(ws z++ws z).toArray.toList=ws z++ws z from Z,m.out];refine z9 ?_)
    clear t h3 M X m o h7 hg hx hT;show wpListIn _ _ _ _ _ _ _ _
    gi_wp2_with fail
    refine⟨λ_ h=>(by cases h),?_⟩
    gi_wp2_with fail
    refine⟨⟨i+1,S,Z,?_,hB.trans (q.mono hB.size),Zw k3 q.size⟩,?_⟩
    .rw[fY,f.out];exact hJ _ wr _ F (by simpa using hk) (CZ q.out) (λ_ e=>by cases e)
    simp[intOf];omega
   | some y =>
    have k:=Cn C x y N w5;obtain⟨vz,M⟩:=yH (pv x y);rw[M.out]at k;refine(callsIn_wide.2 k).mono ?_;clear k;rintro e s ⟨v,rfl,V,rfl⟩;have f:E (cand P c b i=some (x,y)):=by
     show cand P c b i=some (x,y);rw[cand,hT.out,GD hx.out,h7.out,N];rfl
    clear N;obtain⟨O,m⟩:=yH ((s.alloc (.cells #[U 0,U 0,U 0,U 0,U 0,U 0,U 0,U 0] 83)).setCells s.heap.size 0 (ws x++ws y));have X:E (kZ wr O):=by
     rw[<-m.out];have h6:=o.trans (V.mono o.size);exact RG.below_setCells h6.size _ _ _ (h6.alloc h6.size _)
    clear V;have hw:O.rangeAt s.heap.size 0 (ws x++ws y):=by rw[<-m.out];exact yj _ _ 0 (ws x++ws y) (Made.alloc s [U 0,U 0,U 0,U 0,U 0,U 0,U 0,U 0] 83).there
    have km:E (J (cands P c b i) O):=hJ _ wr _ F (by simpa using hk) (CZ X.out) (λ_ e=>by cases e);have L:(ws x++ws y).toArray.size=8:=kR;have t:E <| (s.alloc (.cells #[U 0,U 0,U 0,U 0,U 0,U 0,U 0,U 0] 83)).there s.heap.size 0 (ws x++ws y).toArray.size:=by show yGi _ _ _ _;rw[L];exact(Made.alloc s [U 0,U 0,U 0,U 0,U 0,U 0,U 0,U 0] 83).there
    have h3:E (gZ 83 (ws x++ws y).toArray.size):=by show _=_;rw[L];exact i109
    clear L;obtain⟨fn,tmps,kj,kr,hy,hR⟩:=hY (cands P c b i) (x,y) O km.out (I.lt_of_le_of_lt Le S);dsimp only at hy;obtain⟨va,k8⟩:=yH (ZM (ws x++ws y).toArray);rw[show pv x y=va from k8.out]at hy
    gi_wp2_with (refine bJ Z 83 Z (b:=s.heap.size) 0 (k:=(ws x++ws y).toArray) ?_ ?_ ?_ ?_ ?_ ?_;rfl;exact M.symm;exact t.out;exact h3.out;kernel_rfl;rw[show(ws x++ws y).toArray.toList=ws x++ws y from Z,m.out];refine z9 ?_)
    clear t h3 m o h7 hg hx hT;have ke:=Hid.mk hR;have hr:=Hid.mk hw;have kd:=Hid.mk hn;have kg:=Hid.mk ht;clear hR hw hn ht;show wpListIn _ _ _ _ _ _ _ _
    gi_wp2_with (refine rG Z 83 Z s.heap.size 0 ?_ (ws x++ws y) d8 ?_ ?_ ?_ ?_ ?_;rfl;exact hr.out;exact kd.out;exact kg.out;exact i109;rw[k8.out];refine z9 ?_)
    clear hr kd kg k8 M;show wpListIn _ _ _ _ _ _ _ _
    gi_wp2_with fail
    refine⟨λh=>(by cases h),ke.mono ?_⟩;clear ke hy;rintro e W8 (⟨rfl,kp,kh⟩|⟨rfl,kc⟩)
    .gi_wp2_with fail
     refine⟨⟨i+1,S,Z,?_,(hB.trans (X.mono hB.size)).trans kh,Zw k3 (Zw X.size kh.size)⟩,?_⟩
     .rw[fY,f.out];exact kp
     simp[intOf];omega
    gi_wp2_with fail
    refine Zx (results_none Z _ _ _) Z ?_;refine⟨⟨_,Z⟩,.inr ⟨_,?_,kc⟩⟩;have hp:=Cd (P:=P) c b (i:=i+1) (j:=256) S;rw[fY,f.out]at hp;exact hp
  have f:cand P c b i=F:=by
   rw[cand,hT.out,Id hx]
  gi_wp2_with fail
  refine⟨trivial,λh=>(by cases h),(callsIn_wide.2 (OP C ka (Zo _) hx Q k4)).mono ?_⟩;rintro e A ⟨v,rfl,h4,rfl⟩;have K:E ((A.alloc (.cells #[U 0,U 0,U 0,U 0] 81)).there A.heap.size 0 4):=(Made.alloc A [U 0,U 0,U 0,U 0] 81).there;have g:=u.trans (h4.mono u.size);have q:E (kZ wr ((A.alloc (.cells #[U 0,U 0,U 0,U 0] 81)).setCells A.heap.size 0 (ws (0:B P)))):=RG.below_setCells g.size _ _ _ (g.alloc g.size _);have f:E (cand P c b i=F):=f;obtain⟨O,m⟩:=yH ((A.alloc (.cells #[U 0,U 0,U 0,U 0] 81)).setCells A.heap.size 0 (ws (0:B P)));rw[m.out]at q
  gi_wp2_with (refine bJ Z 81 Z (b:=A.heap.size) 0 (k:=(ws (0:B P)).toArray) ?_ ?_ ?_ ?_ ?_ ?_;rfl;rfl;exact K.out;exact i85;kernel_rfl;rw[show(ws (0:B P)).toArray.toList=ws (0:B P) from Z,m.out];refine z9 ?_)
  clear K g u h4 hT m;show wpListIn _ _ _ _ _ _ _ _
  gi_wp2_with fail
  refine⟨⟨i+1,S,Z,?_,hB.trans (q.mono hB.size),Zw k3 q.size⟩,?_⟩
  .rw[fY,f.out];exact hJ _ wr _ F (by simpa using hk) (CZ q.out) (λ_ e=>by cases e)
  simp[intOf];omega
end
section
open Go.Shelf
def zQ{k:Fd}:
 cZ 43 #[.string k,.slice a m c] w (Ret λe w'=>e=.func (.func 91) #[] #[jZ w.heap.size,jZ (w.heap.size+1)]/\w'=(w.alloc (.cells #[.string k] 9)).alloc (.cells #[.slice a m c] 22)):=by
 go_enter func43,ntmps43;go_wp2;go_ret;exact⟨_,Z,Z,Z⟩
noncomputable def hpt (P:I) [NeZero P] (k:Fd) (b:G Fk):B P × B P:=(cands P k b 256).headD (gX P,gY P)
def QY{k:Fd}{x:B P × B P}(h:cand P k b i=J x):x.2*x.2=x.1*x.1*x.1+7:=by
 unfold cand at h;split at h
 .obtain⟨y,c,rfl⟩:=Zp.1 h;exact D3 c
 cases h
def Oo{k:Fd}{x:B P × B P}(h:x∈cands P k b n):x.2*x.2=x.1*x.1*x.1+7:=by
 unfold cands at h;obtain⟨i,-,c⟩:=G.mem_filterMap.1 h;exact QY c
def Aq{k:Fd}(C:IO P):On (.some (hpt P k b):EC.Pt P):=by
 unfold hpt;cases h:cands P k b 256 with
 | nil=>exact B6 C
 | cons x r=>exact BS (x:=x.1) (y:=x.2) (Oo (by rw[h];exact pw))
def Pp{q:B P × B P}(C:IO P)(h:On (.some q:EC.Pt P)):wR q.1 q.2=wr (.some q:EC.Pt P):=yL C ⟨Z,Z⟩ h
def Ux(C:IO P)(k:Fd)(b:G Fk):wR (hpt P k b).1 (hpt P k b).2=wr (.some (hpt P k b):EC.Pt P):=Pp C (Aq C)
def B7(C:IO P)(k:Fd)(f:k.size<=1000000)(j:PartOk w (.slice a m c) b):
 cZ 42 #[.func (.func 91) #[] #[jZ w.heap.size,jZ (w.heap.size+1)]] ((w.alloc (.cells #[.string k] 9)).alloc (.cells #[.slice a m c] 22)) (rZ w λe w'=>e=pv (hpt P k b).1 (hpt P k b).2):=by
 have d:kZ w ((w.alloc (.cells #[.string k] 9)).alloc (.cells #[.slice a m c] 22)):=((ZF _ w).alloc (Zo _) _).alloc (by rw[Zy];omega) _;have hs:((w.alloc (.cells #[.string k] 9)).alloc (.cells #[.slice a m c] 22)).heap.size=w.heap.size+2:=by rw[Zy,Zy]
 have h1:((w.alloc (.cells #[.string k] 9)).alloc (.cells #[.slice a m c] 22)).cell? ⟨w.heap.size,0,F⟩=J (.string k):=by
  rw[ZP (a:=⟨w.heap.size,0,F⟩) (yFA _ _ _ (by rw[Zy];exact BT _))];exact(Made.alloc w [.string k] 9).range 0 _ Z
 have i:((w.alloc (.cells #[.string k] 9)).alloc (.cells #[.slice a m c] 22)).cell? ⟨w.heap.size+1,0,F⟩=J (.slice a m c):=by
  have:=(Made.alloc (w.alloc (.cells #[.string k] 9)) [.slice a m c] 22).range 0 _ Z;rwa[Zy]at this
 apply(QM C _ (cands P k b 256) 256 _ (λn=>Uu C k (.slice a m c) b w.heap.size (w.heap.size+1) _ f h1 i S S (j.below d) n)).mono;rintro e w' ⟨v,rfl,g,rfl⟩;exact⟨_,Z,d.trans (g.mono d.size),Z⟩
def OW(C:IO P)(k:Fd)(a:GJ gE)(m c:I)(b:G Fk)(w:Zl)(j:k.size<=1000000)(u:PartOk w (.slice a m c) b):
 dZ 192 #[.string k,.slice a m c] w λe w'=>Lj w (wr (.some (hpt P k b):EC.Pt P)) e w':=by
 have i:∀w,dZ 45 #[pv (hpt P k b).1 (hpt P k b).2] w λe w'=>nR w (wR (hpt P k b).1 (hpt P k b).2) e w':=yK C
 rw[Ux C]at i;go_enter func192,ntmps192;go_wp2_with fail
 apply(zQ).mono;rintro e y ⟨v,rfl,rfl,rfl⟩;go_wp2_with fail
 apply(B7 C k j u).mono;rintro e z ⟨v,rfl,p,rfl⟩;have f:=mk1 (p);go_wp2_with fail
 apply(i _).mono;rintro e t ⟨v,rfl,r,g,d,rfl,s,o,l,q⟩;have n:=mk1 (f.trans (r.mono f.size));have x:E (Lj w (wr (.some (hpt P k b):EC.Pt P)) (.tuple #[sZ g 33 d,iZ 0]) t):=⟨g,d,Z,s,Zw f.size o,l,q⟩
 go_wp2
 go_ret2
 exact⟨_,Z,n,x⟩
end
def Jt(C:IO P)(lb:Fd)(u:lb.size<=1000000)(r:GJ gE)(p q:I)(tx:G Fk)(w:Zl)(N:PartOk w (.slice r p q) tx):
 eZ 124 #[.string lb,.slice r p q] w (pvl (wr (.some (hpt P lb tx):EC.Pt P))):=by
 let⟨T,hT⟩:=hE (wr (.some (hpt P lb tx):EC.Pt P))
 have t:T.size=33:=hT.out▸aR _;rw[hT.out];let⟨j,f⟩:=hE (lZ w z33 40)
 have n:E (FJ j w.heap.size z33/\kZ w j):=by rw[<-f.out];exact⟨aE,aD _⟩
 let⟨d,s,o⟩:=Zp.1 uCP
 have K:=mk2 s o;go_enter func124,ntmps124;go_wp2_with (refine bH (v:=jZ w.heap.size) (w':=j) Z (.alloc 40) Z ?_ ?_;(rw[<-f.out];kernel_rfl))
 apply(OW (mk1 C).out lb r p q tx j (Hid.mk' u).out ((Hid.mk' N).below n.2)).mono;rintro e A ⟨Q,rfl,i,g,M,rfl,-,-,L,y⟩;rw[hT.out]at y;have l:=mk3 (n.1.below i) (n.2.trans (i.mono n.2.size)) (mW y L);have a:=JB g M;let⟨x,c⟩:=hE (A.setCells w.heap.size 0 (aA T))
 have k:=aB t;have z:E (FJ x w.heap.size (aA T)/\kZ w x):=by rw[<-c.out];exact⟨l.1.put (by rw[k];rfl),RG.below_setCells (Zo _) _ _ _ l.2.1⟩
 let⟨O,b⟩:=hE (ZM (aA T).toArray)
 have m:E (gZ 40 (aA T).length/\A.there w.heap.size 0 (aA T).toArray.size/\gZ 40 (aA T).toArray.size):=by
  have e:(aA T).toArray.size=33:=by rw[kI];exact k
  refine⟨by rw[k];exact dB,by rw[e];exact l.1.2.2,by rw[e];exact dB⟩
 go_wp2_with (first|(refine gS Z 40 _ Z g 0 ?_ (aA T) d ?_ ?_ ?_ ?_ ?_;rfl;exact l.2.2.2.1;exact K.1;exact K.2;exact m.1;rw[b.out])|(refine ZZ Z 40 _ _ Z w.heap.size 0 (aA T).toArray ?_ ?_ ?_ ?_ ?_ ?_;rfl;exact b.symm;exact m.2.1;exact m.2.2;exact bW;rw[show(aA T).toArray.toList=aA T from Z,c.out]))
 refine Zx (aG 4 Z z.1 Z uCP m.1) Z ?_;exact⟨_,Z,z.2,Z⟩
def Na:FL 105 #[U 1] (nv 1):=by
 intro w;go_enter func105,ntmps105;refine RG.M.enter [(0,.v (U 1))] 6 kR λa0 b=>?_
 refine Zq <| b.T [.m 0] [(0,RG.z 4)] [] [0,2] ⟨mk 0 93,Fs⟩ λk f e d=>?_
 refine Zq <| d.T [.x (U 1),.x (nv 1),.x (nv 1),.u 0] [] [(0,3,wn 1)] [2] ⟨st,st,st,RG.pt In,Fs⟩ λa2 g c=>?_
 exact ag (c.rr 0 Z u40 In)
def Sm(B:I)(W:Zl)(v:Zm)(l:LB):Prop:=∃g c,v=sZ g l.length c/\l.length<=c/\B<=g/\g<W.heap.size/\W.rangeAt g 0 (aU l)
def Sm.grow{B:I}{v:Zm}(h:Sm B W v l)(b:kZ W W'):Sm B W' v l:=by
 let⟨g,c,h1,d,f,k,e⟩:=h
 exact⟨g,c,h1,d,f,Zn k b.size,aF e b k⟩
def cellsT_one'(n:I)(a:Bs):aU [(n,a)]=wn n++aA a:=by rw[gV];exact ug _
def Sm.one{B W k n}{a:Bs}(h:FJ w k (wn n++aA a))(c:B<=k)(b:w=W):Sm B W (sZ k 1 1) [(n,a)]:=by
 subst b;exact⟨k,1,Z,Zo _,c,h.1,by rw[cellsT_one'];exact h.2.1⟩
def infoT':(prog.info? 244).map (λi=>(i.size,i.bytes,i.zero.map λz=>z.cells.size))=J (37,72,J 37):=kR
def I8(n:I)(t:n<=10000000)(w:Zl):dZ 213 #[nZ,iZ n] w λe w'=>w'.ownsRow w.heap.size 244 37 e 0 []:=by
 by_cases p:n=0
 .subst p;go_enter func213,ntmps213;go_wp2;go_ret;exact⟨_,Z,ZF _ _,yD5 _ _ _ _⟩
 let⟨i,s,m⟩:=Zp.1 infoT'
 simp only[an.injEq]at m;let⟨h1,o,r⟩:=m
 let⟨z,q,j⟩:=Zp.1 r
 have g:=yEX (P:=prog) w 124 3 124 244 i z .i64 .i64 Ft VD s q n S S S (by rw[o];omega);have c:=grownCap_ge w n 0 244;have k:=grownCap_le_maxLen w n 0 244 (by unfold maxLen;omega);have b:(wy z.cells n++wy z.cells (grownCap w n 0 244-n)).size=grownCap w n 0 244*37:=by rw[pq,size_zeroCells,size_zeroCells,j];omega
 generalize grownCap w n 0 244=l at g c k b;generalize wy z.cells n++wy z.cells (l-n)=cur at g b;let⟨f,d⟩:∃f,E (w.drew.alloc (.cells cur 244)=f):=⟨_,Z⟩
 rw[d.out]at g;have K:E (kZ w f/\f.ownsRow w.heap.size 244 37 (sZ w.heap.size 0 l) 0 []):=by
  rw[<-d.out];exact⟨(ZF _ _).drew.alloc (Zo _) _,yFj w.drew cur l (Zo _) k b⟩
 go_enter func213,ntmps213;go_wp2_with (at_builtin;refine uy _ Z _ _ _ _ Z _ _ Z Z _ _ (Hid.mk' g).out ?_)
 go_ret;exact⟨_,Z,K.1,K.2⟩
def Hg(l m:LB):aU (l++m)=aU l++aU m:=by unfold aU;rw[yCI]
def Ld:∀u∈aU l,u.oneCell'=H:=λu k=>by
 unfold aU at k;obtain⟨x,-,hx⟩:=G.mem_flatMap.1 k;exact cells_one u hx
def sM:∀ {l:LB},(∀x∈l,x.2.size=33)->(aU l).length=l.length*37
 | [],_=>rfl
 | x :: r,h=>by
  rw[gV,Zv,jN (h x pw),sM λy k=>h y (ps _ k),Z9];omega
def Ep{B:I}{v x:Zm}{m:LB}(b:W.ownsRow base 244 37 v l.length (aU l))(t:∀y∈m,y.2.size=33)(hx:Sm B W x m)(C:l.length+m.length<=1000000)(p:base<=W.heap.size):
 ∃d W',(oT #[124,124] 124 #[v,x]).run prog W=.ok d W'/\W'.ownsRow base 244 37 d (l++m).length (aU (l++m))/\W.grownBy W' v.ownBlock:=by
 let⟨i,s,f⟩:=Zp.1 infoT'
 simp only[an.injEq]at f;let⟨h1,n,r⟩:=f
 let⟨z,q,e⟩:=Zp.1 r
 obtain⟨k,c,rfl,K,A,e3,a⟩:=hx;obtain⟨d,W',o,r2,g,-⟩:=yDJ (P:=prog) W base 124 124 244 i z 37 72 Ft s q h1 n e dC v l.length (aU l) b (aZ k) m.length c (aU m) (sM t)
  (λj u w=>by
   have:=a j u w;rw[Zs]at this;rw[add0];exact this) Ld (by unfold maxLen;omega) S p
 exact⟨d,W',o,by rw[Zv,Hg];exact r2,g⟩
def atS(k o c:I)(b:i<n)(w:Zl):(iB 122 (qZ k o n c) (iZ i)).run prog w=.ok (oZ k (o+1*i)) w:=by
 go_simp
def fD(L:I->LB)(k:I):LB:=(fo k).flatMap L
def dT(L:I->LB)(i:I):fD L (i+1)=fD L i++L i:=by
 unfold fD;rw[yDd,yCI];simp
def Dl{L:I->LB}{k m:I}(hs:∀j,j<k->(L j).length<=m):∀i,i<=k->(fD L i).length<=m*i
 | 0,_=>Zo _
 | i+1,hi=>by
  have h1:=Dl hs i S;have b:=hs i S;rw[dT,Zv,CD];omega
def KW(g k c:I)(L:I->LB)(Q:k<=1000)(hs:∀j,j<k->(L j).length<=600)(z:∀j,j<k->∀x∈L j,x.2.size=33)(w:Zl)(hg:g<w.heap.size)(hL:∀j,j<k->∃x,w.cell? ⟨g,j,F⟩=J x/\Sm 0 w x (L j)):
 dZ 173 #[sZ g k c] w λe w'=>w'.ownsRow w.heap.size 244 37 e (fD L k).length (aU (fD L k)):=by
 have V:=Hid.mk' hL;have s:=mk1 (Dl hs);have HG:=Hid.mk' hg;have H3:=Hid.mk' z;go_enter func173,ntmps173;go_wp2_with fail
 go_loopg [3,11] k (λm s3 s11 W=>∃i:I,i+m=k/\s11=iZ i/\s3=iZ ((fD L i).length:Y)/\w=W)
 exact⟨0,S,Z,Z,Z⟩;obtain⟨i,h2,rfl,rfl,rfl⟩:=hrel;by_cases X:i<k
 .have u:(i:Y)<(k:Y):=S;let⟨x,hc,hE⟩:=V i X
  obtain⟨O,T,rfl,h1,-⟩:=hE;have l:=atS g 0 c X;rw[show 0+1*i=i by omega]at l;have d:(fD L (i+1)).length=(fD L i).length+(L i).length:=by rw[dT,Zv]
  have n:=s i S;have r:=s (i+1) S;let⟨a,o⟩:=hE ((fD L i).length)
  let⟨b,f⟩:=hE ((L i).length)
  rw[o.out]at d n;rw[f.out]at d h1;rw[o.out];rw[f.out]at hc;go_wp2;go_roundg (gk-1);omega;exact⟨i+1,S,Z,by rw[d,yEv],Z⟩
 have u:¬(i:Y)<(k:Y):=S;obtain rfl:i=k:=S;go_wp2_with fail
 apply(I8 (fD L i).length (oN (s i (Zo _))) w).mono;rintro e w1 ⟨v,rfl,n,C⟩;have K1:=mk2 n C;go_wp2_with fail
 go_loopg [6,27] i (λm s6 s27 W=>∃j:I,j+m=i/\s27=iZ j/\E (kZ w W/\W.ownsRow w.heap.size 244 37 s6 (fD L j).length (aU (fD L j))))
 exact⟨0,S,Z,K1⟩;obtain⟨j,h0,rfl,f⟩:=hrel;by_cases K:j<i
 .have A:(j:Y)<(i:Y):=S;let⟨x,q,o⟩:=V j K
  have hc:wr.cell? ⟨g,j,F⟩=J x:=by rw[f.1.cell (p:=⟨g,j,F⟩) HG.out];exact q
  have hE:=o.grow f.1;have r:=s (j+1) S;have d:(fD L (j+1)).length=(fD L j).length+(L j).length:=by rw[dT,Zv]
  let⟨N,W',P,r2,M⟩:=Ep f.2 (H3 j K) hE (by rw[<-d];omega) f.1.size
  rw[<-dT]at r2;have KN:E (kZ w W'/\W'.ownsRow w.heap.size 244 37 N (fD L (j+1)).length (aU (fD L (j+1)))):=⟨f.1.grown M f.1.size (λk Q=>(f.2.lt k Q).1),r2⟩
  have t:=Hid.mk' P;obtain⟨O,T,rfl,-⟩:=hE;have l:=atS g 0 c K;rw[show 0+1*j=j by omega]at l;clear P r2 M d r f o q;go_wp2_with (first|(refine kP (x:=u6) (y:=sZ O (L j).length T) (v:=N) (w':=W') Z _ _ 124 Z ?_ ?_ ?_ ?_;rfl;rfl;exact t)|fail)
  go_roundg (gk-1);omega;exact⟨j+1,S,Z,KN⟩
 have A:¬(j:Y)<(i:Y):=S;obtain rfl:j=i:=S;go_wp2;go_ret;exact⟨_,Z,f.1,f.2⟩
def IK{v:Zm}(h:W.ownsRow base 244 37 v l.length (aU l))(hl:0<l.length):Sm base W v l:=by
 have b:=λ{g:I}=>h.cells (g:=g)
 rcases h.2 with⟨-,e⟩|⟨g,cap,cur,rfl,h1,c,d,-⟩
 .omega
 refine⟨g,cap,Z,d,h1,(ZO.1 c).1,λj u k=>?_⟩;have:=b (g:=g) Z j u k;rw[add0]at this;rw[Zs];exact this
def vK(B:I)(s t:Zm)(l m:LB)(i:0<l.length)(hl:l.length<=500)(hm:m.length<=500)(z:∀x∈l,x.2.size=33)(p:∀x∈m,x.2.size=33)(w:Zl)(h1:Sm B w s l)(C:Sm B w t m):
 dZ 101 #[s,t] w λe w'=>Sm w.heap.size w' e (l++m):=by
 have V:=i;obtain⟨u,c1,W,-⟩:=id h1;obtain⟨n,c2,Q,-⟩:=id C;subst W;subst Q;let⟨b,k⟩:=hE (w.alloc (.cells #[sZ u l.length c1,sZ n m.length c2] 124))
 have L:kZ w b:=k.out▸aD _;have f:w.heap.size<b.heap.size:=by rw[<-k.out,Zy];omega
 have K:b.rangeAt w.heap.size 0 [sZ u l.length c1,sZ n m.length c2]:=k.out▸(Made.alloc w [sZ u l.length c1,sZ n m.length c2] 124).range;have T:=Hid.mk' (KW w.heap.size 2 2 (λj=>if j=0 then l else m) dC (λj _=>by show(if j=0 then l else m).length<=600;split<;>omega) (λj _=>by
  show ∀x∈(if j=0 then l else m),x.2.size=33;split
  .exact z
  .exact p) b f (λj d=>by
  have o:∀ {v:Zm}{l:LB},Sm B w v l->Sm 0 b v l:=λh=>by
   obtain⟨g,c,q,A,-,y,r⟩:=h.grow L;exact⟨g,c,q,A,pj _,y,r⟩
  have d:j=0\/j=1:=S;rcases d with rfl|rfl
  .exact⟨_,K 0 _ Z,o h1⟩
  exact⟨_,K 1 _ Z,o C⟩))
 have d:fD (λj=>if j=0 then l else m) 2=l++m:=by rw[dT,dT];rfl
 have o:=Hid.mk' L;have N:E (fD (λj=>if j=0 then l else m) 2=l++m/\0<(l++m).length):=⟨d,by rw[Zv];omega⟩
 go_enter func101,ntmps101;go_wp2_with fail
 rw[k.out];refine T.mono ?_;rintro e O ⟨X,rfl,a,ho⟩;rw[N.1]at ho;have M:E (kZ w O/\Sm w.heap.size O X (l++m)):=by
  let⟨g,c,q,A,P,y,r⟩:=IK ho N.2
  exact⟨o.trans (a.mono o.size),g,c,q,A,Zw o.size P,y,r⟩
 go_wp2;go_ret;exact⟨_,Z,M.1,M.2⟩
def Sm.point(C:IO P)(O:Ord N)(d:∀r:EC.Pt P,On r->mul N r=F){B:I}{v:Zm}{l:G (I × Bs)}(h:Sm B w v l)(i:0<l.length)(hl:l.length<=512)(z:∀x∈l,x.1<N)(f:PtsL P l):
 ae prog 103 #[v] w (rZ w λe w'=>e=pvl (wr (gW P l))):=by
 obtain⟨g,c,rfl,-,-,p,s⟩:=h;have b:∀x∈l.map (·.2),x.size=33:=λx hx=>by
  obtain⟨y,k,rfl⟩:=Z1.1 hx;obtain⟨X,-,e⟩:=f y k;rw[e];exact aR _
 have m:∀j (k:j<l.length),((l[j]?).getD (0,#[]))=l[j]:=λj k=>by rw[ZH k];rfl
 have q:∀j,j<l.length->On (iE P ((l[j]?).getD (0,#[])).2):=λj k=>by rw[m j k];exact f.on C (qs k)
 refine(FI C O d (g:=g) (k:=l.length) (c:=c) i hl (ns:=(λj=>((l[j]?).getD (0,#[])).1)) (X:=(λj=>iE P ((l[j]?).getD (0,#[])).2)) (λj k=>by rw[m j k];exact z _ (qs k)) q (w:=w) p (λj k=>?_)).mono ?_
 .rw[m j k];obtain⟨X,x1,x2⟩:=f _ (qs k);rw[x2,kF C x1,<-x2];intro t u n;have o:t<37:=by
   have:=(Zz.1 n).1;rw[jN (b _ (Z1.2 ⟨_,qs k,Z⟩))]at this;exact this
  have:=s (37*j+t) u (by rw[mL l b j k t o];exact n);rw[Zs]at this;exact this
 rintro e w' ⟨u,rfl,n,rfl⟩;refine⟨_,Z,n,?_⟩;rw[yX C (l:=l) f _ (Zo _),yEg]
def Ae(C:IO P){a b:EC.Pt P}(k:On a)(c:On b):∀n,mul n (EC.add a b)=EC.add (mul n a) (mul n b)
 | 0=>rfl
 | n+1=>by
  show EC.add (mul n (EC.add a b)) (EC.add a b)=EC.add (EC.add (mul n a) a) (EC.add (mul n b) b);rw[Ae C k c n];exact C.cur.swap (fC C.cur k n) (fC C.cur c n) k c
def SmZ(B:I)(W:Zl)(v:Zm)(l:LB):Prop:=(v=nZ/\l=[])\/Sm B W v l
def SmZ.grow{B:I}{v:Zm}(h:SmZ B W v l)(k:kZ W W'):SmZ B W' v l:=by
 rcases h with h|h
 .exact Z5 h
 exact ZW (h.grow k)
def SmZ.form{B:I}{v:Zm}(h:SmZ B W v l):∃q c,v=.slice q l.length c/\l.length<=c:=by
 rcases h with⟨rfl,rfl⟩|⟨g,c,h1,k,-⟩
 .exact⟨F,0,Z,Zo _⟩
 exact⟨_,_,h1,k⟩
def Va:∀W:Zl,(oT #[124,124] 124 #[nZ,nZ]).run prog W=.ok nZ W:=λW=>kR
def MV{B:I}{v x:Zm}{m:LB}(k:W.ownsRow base 244 37 v l.length (aU l))(f:∀y∈m,y.2.size=33)(hx:SmZ B W x m)(e:l.length+m.length<=1000000)(c:base<=W.heap.size):
 ∃b W',(oT #[124,124] 124 #[v,x]).run prog W=.ok b W'/\W'.ownsRow base 244 37 b (l++m).length (aU (l++m))/\W.grownBy W' v.ownBlock:=by
 rcases hx with⟨rfl,rfl⟩|hx
 .rw[ug];rcases id k.2 with⟨rfl,o⟩|⟨g,cap,cur,rfl,h1,n,p,-⟩
  .exact⟨_,_,Va W,k,⟨Z,Z,Z,Zo _,λ_ _ _=>rfl⟩⟩
  let⟨i,d,q⟩:=Zp.1 infoT'
  have:=run_append_room_src (P:=prog) W 124 124 124 244 i Ft d g 0 l.length cap nZ 0 [] (Src.ofNil (e':=244) _ Ft 0) S (λj b=>by cases b) (λj b=>by cases b);exact⟨_,_,this,k,⟨Z,Z,Z,Zo _,λ_ _ _=>rfl⟩⟩
 exact Ep k f hx e c
def KV(g k c:I)(L:I->LB)(Q:k<=1000)(hs:∀j,j<k->(L j).length<=600)(z:∀j,j<k->∀x∈L j,x.2.size=33)(w:Zl)(hg:g<w.heap.size)(hL:∀j,j<k->∃x,w.cell? ⟨g,j,F⟩=J x/\SmZ 0 w x (L j)):
 dZ 173 #[sZ g k c] w λe w'=>w'.ownsRow w.heap.size 244 37 e (fD L k).length (aU (fD L k)):=by
 have V:=Hid.mk' hL;have s:=mk1 (Dl (L:=L) hs);have H3:=Hid.mk' z;go_enter func173,ntmps173;go_wp2_with fail
 go_loopg [3,11] k (λm s3 s11 W=>∃i:I,i+m=k/\s11=iZ i/\s3=iZ ((fD L i).length:Y)/\w=W)
 case atStart=>exact⟨0,S,Z,Z,Z⟩
 case round =>
  obtain⟨i,h2,rfl,rfl,rfl⟩:=hrel;by_cases X:i<k
  .have u:(i:Y)<(k:Y):=S;obtain⟨x,hc,hE⟩:=V i X;obtain⟨O,T,rfl,h1⟩:=hE.form;have l:=atS g 0 (n:=k) c (i:=i) X;rw[show 0+1*i=i by omega]at l;have d:(fD L (i+1)).length=(fD L i).length+(L i).length:=by rw[dT,Zv]
   have n:=s i S;have r:=s (i+1) S;obtain⟨a,o⟩:=yH ((fD L i).length);obtain⟨b,f⟩:=yH ((L i).length);rw[o.out]at d n;rw[f.out]at d h1;rw[o.out];rw[f.out]at hc;go_wp2;go_roundg (gk-1)
   case measure=>omega
   case rel=>exact⟨i+1,S,Z,by rw[d,yEv],Z⟩
  .have u:¬(i:Y)<(k:Y):=S;obtain rfl:i=k:=S;go_wp2_with fail
   apply(I8 (fD L i).length (oN (s i (Zo _))) w).mono;rintro e w1 ⟨v,rfl,n,C⟩;go_wp2_with fail
   go_loopg [6,27] i (λm s6 s27 W=>∃j:I,j+m=i/\s27=iZ j/\E (kZ w W/\W.ownsRow w.heap.size 244 37 s6 (fD L j).length (aU (fD L j))))
   case atStart=>exact⟨0,S,Z,mk2 n C⟩
   case round =>
    obtain⟨j,h0,rfl,f⟩:=hrel;by_cases K:j<i
    .have A:(j:Y)<(i:Y):=S;obtain⟨x,q,o⟩:=V j K;have hc:wr.cell? ⟨g,j,F⟩=J x:=by rw[f.1.cell (p:=⟨g,j,F⟩) (Hid.mk' hg).out];exact q
     have hE:=o.grow f.1;have r:=s (j+1) S;have d:(fD L (j+1)).length=(fD L j).length+(L j).length:=by rw[dT,Zv]
     obtain⟨N,W',P,r2,M⟩:=MV f.2 (H3 j K) hE (by rw[<-d];omega) f.1.size;rw[<-dT]at r2;have KN:E (kZ w W'/\W'.ownsRow w.heap.size 244 37 N (fD L (j+1)).length (aU (fD L (j+1)))):=⟨f.1.grown M f.1.size (λk Q=>(f.2.lt k Q).1),r2⟩
     have t:=Hid.mk' P;obtain⟨O,T,rfl,-⟩:=hE.form;have l:=atS g 0 (n:=i) c (i:=j) K;rw[show 0+1*j=j by omega]at l;clear P r2 M d r f o q;go_wp2_with (first|(refine kP (x:=u6) (y:=.slice O (L j).length T) (v:=N) (w':=W') Z _ _ 124 Z ?_ ?_ ?_ ?_;rfl;rfl;exact t)|fail)
     go_roundg (gk-1)
     case measure=>omega
     case rel=>exact⟨j+1,S,Z,KN⟩
    .have A:¬(j:Y)<(i:Y):=S;obtain rfl:j=i:=S;go_wp2;go_ret;exact⟨_,Z,f.1,f.2⟩
def cY(B:I)(s t:Zm)(l m:LB)(i:0<(l++m).length)(hl:l.length<=500)(X:m.length<=500)(z:∀x∈l,x.2.size=33)(p:∀x∈m,x.2.size=33)(w:Zl)(h1:SmZ B w s l)(C:SmZ B w t m):
 dZ 101 #[s,t] w λe w'=>Sm w.heap.size w' e (l++m):=by
 obtain⟨u,c1,V,-⟩:=h1.form;obtain⟨n,c2,Q,-⟩:=C.form;subst V;subst Q;let⟨b,k⟩:=hE (w.alloc (.cells #[.slice u l.length c1,.slice n m.length c2] 124))
 have L:kZ w b:=k.out▸aD _;have f:w.heap.size<b.heap.size:=by rw[<-k.out,Zy];omega
 have K:b.rangeAt w.heap.size 0 [.slice u l.length c1,.slice n m.length c2]:=k.out▸(Made.alloc w [.slice u l.length c1,.slice n m.length c2] 124).range;have T:=Hid.mk' (KV w.heap.size 2 2 (λj=>if j=0 then l else m) dC (λj _=>by show(if j=0 then l else m).length<=600;split<;>omega) (λj _=>by
  show ∀x∈(if j=0 then l else m),x.2.size=33;split
  .exact z
  .exact p) b f (λj d=>by
  have o:∀ {v:Zm}{l:LB},SmZ B w v l->SmZ 0 b v l:=λh=>by
   rcases h.grow L with h|⟨g,c,q,A,-,y,r⟩
   .exact Z5 h
   exact ZW ⟨g,c,q,A,pj _,y,r⟩
  have d:j=0\/j=1:=S;rcases d with rfl|rfl
  .exact⟨_,K 0 _ Z,o h1⟩
  exact⟨_,K 1 _ Z,o C⟩))
 have d:fD (λj=>if j=0 then l else m) 2=l++m:=by rw[dT,dT];rfl
 have o:=Hid.mk' L;have N:=mk2 d i;go_enter func101,ntmps101;go_wp2_with fail
 rw[k.out];refine T.mono ?_;rintro e O ⟨W,rfl,a,ho⟩;rw[N.1]at ho;have M:E (kZ w O/\Sm w.heap.size O W (l++m)):=by
  let⟨g,c,q,A,P,y,r⟩:=IK ho N.2
  exact⟨o.trans (a.mono o.size),g,c,q,A,Zw o.size P,y,r⟩
 go_wp2;go_ret;exact⟨_,Z,M.1,M.2⟩
structure Kp(w:Zl)(W:Zl)(rs:G (I × G Zm)):Prop where
 bl:kZ w W
 rw:∀x∈rs,FJ W x.1 x.2
def Kp.grow(h:Kp w W rs)(k:kZ W W'):Kp w W' rs:=⟨h.bl.trans (k.mono h.bl.size),λx hx=>(h.rw x hx).below k⟩
def Kp.drew(h:Kp w W rs):Kp w W.drew rs:=⟨h.bl.drew,h.rw⟩
def Kp.at(h:Kp w W rs){k:I}{c:G Zm}(i:I)(b:rs[i]? = J (k,c)):FJ W k c:=h.rw _ (G.mem_of_getElem? b)
def jG{P:ai}{c:Func}{k:I}{v:Zm}(t u:Tmp)(g:c.results=#[.cell t T,.tmp u])(h:FJ W k vs)(f:tmps[t]? = J (jZ k))(hv:tmps[u]? = J v)(b:(P.underlying T).map (·.isRow)=J H)(j:(P.info? T).map (·.size)=J vs.length):(results c tmps).run P W=.ok (.tuple #[.agg vs.toArray,v]) W:=by
 let⟨d,b,hd⟩:=Zp.1 b
 have h1:=um (P:=P) W k 0 T vs d h.2.1 b hd j;have e:tmps.getD t undef=jZ k:=by rw[ZB,f];rfl
 have i:tmps.getD u undef=v:=by rw[ZB,hv];rfl
 rw[results,g];simp only[R.mapM_eq_mapM_toList,G.mapM_cons,G.mapM_nil,e,i,asAddr];simp[ZK,h1]
def SB:(CI 40 #[]).run prog w=.ok (.agg z33.toArray) w:=kR
def U9(g o k:I)(w:Zl):(yGb 40 (qZ g o 33 k)).run prog w=.ok (oZ g o) w:=kR
theorem Iu{bs:Bs}{p:B P × B P}(h:rd P bs=J p):bs.size=33:=by
 unfold rd at h;split at h
 .assumption
 cases h
def Kx{o:I}{b:Bs}(h:hZ W g o b):W.rangeAt g o (aA b):=λj u c=>by
 unfold aA at c;rw[rm]at c;obtain⟨x,hx,rfl⟩:=Zp.1 c;have k:j<b.size:=by have:=(Zz.1 hx).1;simpa using this
 rw[(h j k).1,getElem!_pos b j k];rw[qi,ZS k]at hx;rw[ZV.inj hx]
def Js(C:IO P)(v:Zm)(bs:Bs)(p:B P × B P)(w:Zl)(hv:Arg33 w v bs)(z:rd P bs=J p):eZ 11 #[v] w (.tuple #[pvl bs,tZ]):=by
 have hs:=Iu z;have O:E (∀W,kZ w W->eZ 50 #[v] W tZ):=λW M=>by
  have h:=EL C v bs W (hv.below M);rw[z]at h;exact h
 obtain⟨q,n,cap,rfl,a,Q⟩:=hv;rw[hs]at a;subst a;obtain⟨g,o,rfl,-,N,T⟩:=Q Z;have A:=mk2 (Kx T) N;let⟨l,j⟩:=hE (lZ w z33 40)
 have c:E (FJ l w.heap.size z33/\kZ w l):=by rw[<-j.out];exact⟨aE,aD _⟩
 let⟨d,t,s⟩:=Zp.1 uCP
 have L:=mk2 t s;have V:=Hid.mk' hs;have y:=U9 g o cap;go_enter func11,ntmps11;go_wp2_with (first|(refine bH (v:=jZ w.heap.size) (w':=l) Z (.alloc 40) Z ?_ ?_;(rw[<-j.out];kernel_rfl))|fail)
 apply(O l c.2).mono;rintro e K ⟨vv,rfl,b,rfl⟩;have m:=mk3 (c.1.below b) (c.2.trans (b.mono c.2.size)) (aF A.1 (c.2.trans (b.mono c.2.size)) A.2);let⟨u,i⟩:=hE (K.setCells w.heap.size 0 (aA bs))
 have k:=aB V;have x:E (FJ u w.heap.size (aA bs)/\kZ w u):=by rw[<-i.out];exact⟨m.1.put (by rw[k];rfl),RG.below_setCells (Zo _) _ _ _ m.2.1⟩
 let⟨X,f⟩:=hE (ZM (aA bs).toArray)
 have r:E (gZ 40 (aA bs).length/\K.there w.heap.size 0 (aA bs).toArray.size/\gZ 40 (aA bs).toArray.size):=by
  have e:(aA bs).toArray.size=33:=by rw[kI];exact k
  refine⟨by rw[k];exact dB,by rw[e];exact m.1.2.2,by rw[e];exact dB⟩
 go_wp2_with (first|(refine gS Z 40 _ Z g o ?_ (aA bs) d ?_ ?_ ?_ ?_ ?_;rfl;exact m.2.2;exact L.1;exact L.2;exact r.1;rw[f.out])|(refine ZZ Z 40 _ _ Z w.heap.size 0 (aA bs).toArray ?_ ?_ ?_ ?_ ?_ ?_;rfl;exact f.symm;exact r.2.1;exact r.2.2;exact bW;rw[show(aA bs).toArray.toList=aA bs from Z,i.out])|fail)
 refine Zx (jG 2 3 Z x.1 Z Z uCP r.1) Z ?_;exact⟨_,Z,x.2,Z⟩
def QZ(C:IO P)(v:Zm)(bs:Bs)(w:Zl)(hv:Arg33 w v bs)(r:rd P bs=F):eZ 11 #[v] w (.tuple #[.agg z33.toArray,fZ]):=by
 have p:E (∀W,kZ w W->eZ 50 #[v] W fZ):=λW o=>by
  have h:=EL C v bs W (hv.below o);rw[r]at h;exact h
 obtain⟨f,c⟩:=hE (lZ w z33 40);have g:E (FJ f w.heap.size z33/\kZ w f):=by rw[<-c.out];exact⟨aE (w:=w),aD (w:=w) _⟩
 obtain⟨s,k⟩:=hE (ZM z33.toArray);have q:E (z33.toArray.all (·.oneCell')=H):=by show _=_;decide +kernel
 go_enter func11,ntmps11;go_wp2_with (first|(refine bH (v:=jZ w.heap.size) (w':=f) Z (.alloc 40) Z ?_ ?_;(rw[<-c.out];kernel_rfl))|fail)
 apply(p f g.2).mono;rintro e j ⟨t,rfl,d,rfl⟩;have i:=mk2 (g.1.below d) (g.2.trans (d.mono g.2.size));obtain⟨l,b⟩:=hE (j.setCells w.heap.size 0 z33);have n:E (FJ l w.heap.size z33/\kZ w l):=by rw[<-b.out];exact⟨i.1.put Z,RG.below_setCells (Zo _) _ _ _ i.2⟩
 have m:=Hid.mk' (SB (w:=j));rw[k.out]at m;go_wp2_with (first|(refine fO (v:=s) (w':=j) Z 40 _ Z #[] ?_ ?_ ?_;kernel_rfl;exact m)|(refine ZZ Z 40 _ _ Z w.heap.size 0 z33.toArray ?_ ?_ ?_ ?_ ?_ ?_;rfl;exact k.symm;exact i.1.2.2;exact dB;exact q;rw[show z33.toArray.toList=z33 from Z,b.out])|fail)
 refine Zx (jG 2 3 (T:=40) Z n.1 Z Z uCP dB) Z ?_;exact⟨_,Z,n.2,Z⟩
end Go.Proofs.YtndpeoebngkhmaaGreat
