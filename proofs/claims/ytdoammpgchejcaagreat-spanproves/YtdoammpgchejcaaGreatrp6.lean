import Derived.Test.YtdoammpgchejcaaGreatrp5
set_option linter.unusedVariables false
set_option linter.defProp false
set_option linter.constructorNameAsVariable false
set_option linter.unusedSimpArgs false
set_option maxRecDepth 1000000
set_option maxHeartbeats 4000000
namespace Go.Proofs.YtdoammpgchejcaaGreat
open _root_ renaming Array->yt,Bool->zk,ByteArray->R,Fin->B,Int->Y,List->H,Nat->I,Option->zb,UInt8->yv,rfl->Z
open Go.Proofs.YtdoammpgchejcaaGreat renaming Fld->At,Gives->yy,Row->yz,i40->zy,oM->S,uZ->U,yFU->zd,yFV->zi,yFW->yw
open Go.RowKit renaming Hid->E
open Go.Sort renaming Holds->yx
open _root_.Bool renaming false->D,true->J
open _root_.Option renaming none->G,some->F
open EC NT RG SP
open _root_.And renaming intro->qh
open _root_.Array renaming getD_eq_getD_getElem?->YG,getElem?_eq_getElem->Y0,getElem?_eq_none->uz,getElem?_eq_some_iff->YX,getElem_append_left->yCx,length_toList->YM,replicate->YD,size->yj,size_append->Zi,size_replicate->YN,size_setIfInBounds->Zg
open _root_.Bool renaming and_eq_true->YJ
open _root_.ByteArray renaming size_append->yDg
open _root_.Decidable renaming byContradiction->yCZ
open _root_.Fin renaming ofNat->aj
open _root_.Go renaming Addr->ai,Calls->Zl,Exit->an,FuncId->ak,Oper->Y9,Operand->am,Program->Zw,TypeId->YW,Value->Yq,World->Yp,bodyPost_ret->YB,execOp->Za,run_append_own->xj,run_append_room_src->yE6,run_loadVar_mid->oX,run_underlying->uh,undef->ae,wpList_load_mid->Zu,wpList_plain->gH,wpList_store_mid->ZJ,wp_block->ZR,wp_cond_false->YY,wp_cond_true->Y5,wp_exit->fT,wp_ret->Zr,wp_seq->Yt,wp_skip->ZK
open _root_.Go.Act renaming put->Zo
open _root_.Go.Addr renaming add->oB
open _root_.Go.Builtin renaming append_->Zn,nextslicecap->yB8
open _root_.Go.Code renaming region->ZP
open _root_.Go.Exit renaming inBlock->ri
open _root_.Go.Instr renaming box->ZM,buildSlice->Z0,indexAt->ZW,sliceAt->gS
open _root_.Go.IntKind renaming i64->YQ,wrap_i64->Zy
open _root_.Go.Lib renaming bytesCells->xg,bytesWorld->ym,bytesWorld_size->yDf,wpList_append_run->Z9
open _root_.Go.Next renaming value->fI
open _root_.Go.Oper renaming semAt_some->yDG,wp->ZY
open _root_.Go.Region renaming ready->Y6
open _root_.Go.Result renaming andThen_ok->Zp
open _root_.Go.RowKit.Below renaming mono->yFw,refl->YH
open _root_.Go.RowKit.Hid renaming out->ru
open _root_.Go.Sem renaming run_bind->YU,run_pure->gM
open _root_.Go.Src renaming ofSlice->yEL
open _root_.Go.Value renaming agg->Y8,oneCell'->yEU,ownBlock->tz,slice->ZA
open _root_.Go.World renaming cell?->pn,cell?_of_block->Y1,freeze->yn,frozen?->ut,frozen?_of_block->ZZ,rangeAt_setCells_apart->Zv,size_alloc->YE
open _root_.Int renaming tdiv_eq_ediv_of_nonneg->sI
open _root_.List renaming append_nil->po,foldl_nil->yE4,foldl_cons->yDE,map_nil->xo,map_cons->pg,cons_append->ZI,drop->qg,drop_nil->yC1,drop_succ_cons->uw,drop_zero->ux,eq_nil_of_length_eq_zero->yDt,getElem?_append_left->Zc,getElem?_append_right->Zx,getElem?_cons_succ->YP,getElem?_cons_zero->YS,getElem?_eq_getElem->YC,getElem?_eq_none->qz,getElem?_eq_some_iff->YF,getElem?_map->ZE,getElem?_set_self->yD0,getElem?_toArray->YV,length_append->Yx,length_cons->Y2,length_map->YO,length_nil->Z2,map_append->pe,mem_append->ZN,mem_append_left->tE,mem_append_right->xz,mem_cons->Zb,mem_cons_of_mem->Zd,mem_cons_self->Zm,mem_map->YT,mem_of_getElem?->Y7,mem_of_mem_take->yCY,mem_singleton->ZX,nil_append->ZQ,nodup_cons->rx,nodup_nil->yE2,not_mem_nil->YI,setIfInBounds_toArray->Yw,set_cons_succ->Yy,set_cons_zero->Yz,take->gD,take_succ_cons->ts,take_zero->qt
open _root_.Nat renaming add_assoc->oz,add_sub_cancel->xq,add_zero->ao,div_eq_of_lt->pj,le_of_ble_eq_true->Zh,le_of_lt->ax,le_refl->Ys,le_trans->YA,lt_of_lt_of_le->Yr,lt_of_succ_le->rn,mod_eq_of_lt->YL,mod_lt->ZL,mul_add_div->yEX,mul_comm->Ze,mul_le_mul_left->xv,mul_le_mul_right->te,mul_pos->yEc,mul_succ->ty,mul_two->yFB,ne_of_gt->cW,not_lt_zero->p9,one_mul->px,pow_pos->oE,pow_succ->Z5,reduceAdd->Zs,reduceEqDiff->yr,sub_self->oF,zero_add->Yv,zero_le->aw,zero_mod->yFo
open _root_.Option renaming map_eq_some_iff->Yu,map_some->ur,some->YR
open _root_.Or renaming inl->Y3,inr->YZ
open _root_.Prod renaming fst->yDc,mk->ZV,snd->yDb
open _root_.UInt8 renaming ofNat->YK,toNat_inj->yEz,toNat_ofNat'->yCp
open Go.Proofs.Tryz
open Go.RowKit Go.Sort Go.Deep
variable {P:Nat}[NeZero P]{N:Nat}
variable {K L b base c g ga gx j k m r t:Nat}{Q Q':Nat->Prop}{T e:YW}{W W' w w':Yp}{a:Nat->Nat}{cap tmps:Array Yq}{d u z:Yq}{f:ak}{l l':List Nat}{rs:List (Nat × List Yq)}{t2:Tmp}{us vs xs ys:List Yq}{y:am}
namespace RG
structure S1 where
 p:Yq->Yp->Prop
 st:∀v w w',kZ w w'->p v w->p v w'
def pE(v:Yq):S1:=⟨λx _=>x=v,λ_ _ _ _ h=>h⟩
def pA:S1:=⟨λ_ _=>True,λ_ _ _ _ h=>h⟩
def pM(Q:I->Prop)(l:LB):S1:=⟨λv w=>SmQ Q w v l,λ_ _ _ k h=>h.keep (Kq.of_below k)⟩
def pS(Q:I->Prop)(n:I)(a:I->I):S1:=⟨λv w=>SLq Q w v n a,λ_ _ _ k h=>h.keep (Kq.of_below k)⟩
def pR(Q:I->Prop)(n:I)(G H:I->LB)(U:LB):S1:=⟨λv w=>GRq Q w v n G H U,λ_ _ _ k h=>h.keep (Kq.of_below k)⟩
def pI(T:YW)(p:S1):S1:=⟨λv w=>∃x,v=.iface T x/\p.p x w,λ_ w w' b ⟨x,h1,k⟩=>⟨x,h1,p.st x w w' b k⟩⟩
def pN(B:I)(cs:H Yq):S1:=⟨λv w=>∃k,v=jZ k/\B<=k/\yz w k cs,λ_ _ _ d ⟨k,h1,c,b⟩=>⟨k,h1,c,b.below d⟩⟩
def nth:H S1->I->S1
 | [],_=>pA
 | x :: _,0=>x
 | _ :: r,k+1=>nth r k
def gwL(L:H S1)(B:Yp->Prop)(k:∀w w',kZ w w'->B w->B w'):Gw:=⟨λi=>(nth L i).p,B,λi=>(nth L i).st,k⟩
variable {P:Zw}{ops:Array Y9}{Q:an->Act->Yp->Prop}{w:Yp}{a0:Act}{G:Gw}{k:Nat}{o:Y9}
def Wp{v:Yq}(ps:H (Tmp × Yq))(c:∀a W,PreG G ops a0 k o a W->AllE a ps)(hR:∀W,G.R k v W)(hs:∀W,(cI (ps.map (·.1)) o,(Za (evo (evl ps)) o).run P W)=(J,.ok (.value v) W):=by intro _;kernel_rfl):bM P Q G.flow ops a0 k o:=
 bE λa W b=>⟨ps,v,W,c a W b,hs W,YH _ _,hR W⟩
def Wq{t:Tmp}{v b:Yq}(c:a0.eval (.tmp t)=v)(hR:∀W,G.R k b W)(hf:nC ops k t=J:=by kernel_rfl)(hs:∀W,(cI [t] o,(Za (evo (evl [(t,v)])) o).run P W)=(J,.ok (.value b) W):=by intro _;kernel_rfl):bM P Q G.flow ops a0 k o:=
 Wp [(t,v)] (λa W d=>⟨(d.o t hf).trans c,yw⟩) hR hs
def Nw(j:I)(t:Tmp)(v b:Yq)(d:∀x W,G.R j x W->x=v)(hR:∀W,G.R k b W)(hd:(bZ o j,aP ops j)=(J,F t):=by kernel_rfl)(hs:∀W,(cI [t] o,(Za (evo (evl [(t,v)])) o).run P W)=(J,.ok (.value b) W):=by intro _;kernel_rfl):bM P Q G.flow ops a0 k o:=
 Wp [(t,v)] (λa W c=>⟨d _ W (c.n j t (congrArg yDc hd) (congrArg yDb hd)),yw⟩) hR hs
def GQ(j:I)(t:Tmp)(f:Yq->Yq)(hR:∀x W,G.R j x W->G.R k (f x) W)(hd:(bZ o j,aP ops j)=(J,F t):=by kernel_rfl)(hs:∀v W,(cI [t] o,(Za (evo (evl [(t,v)])) o).run P W)=(J,.ok (.value (f v)) W):=by intro _ _;kernel_rfl):bM P Q G.flow ops a0 k o:=
 bE λa W b=>⟨[(t,a.eval (.tmp t))],_,W,⟨Z,yw⟩,hs _ W,YH _ _,hR _ W (b.n j t (congrArg yDc hd) (congrArg yDb hd))⟩
def Wo{I:Sem Yq}(j:Nat)(t:Tmp)(c:Nat)(b:Tmp)(v u:Yq)(g:∀W,I.run P W=.ok d W)(i:∀x W,G.R j x W->x=v)(e:∀x W,G.R c x W->x=u)(hR:∀W,G.R k d W)(hd:((bZ o j,aP ops j),(bZ o c,aP ops c))=((J,F t),(J,F b)):=by kernel_rfl)(hs:(cI [t,b] o,Za (evo (evl [(t,v),(b,u)])) o)=(J,I >>= λv=>pure (fI v)):=by kernel_rfl):bM P Q G.flow ops a0 k o:=
 bE λa W f=>⟨[(t,v),(b,u)],d,W,⟨i _ W (f.n j t (congrArg (·.1.1) hd) (congrArg (·.1.2) hd)),e _ W (f.n c b (congrArg (·.2.1) hd) (congrArg (·.2.2) hd)),yw⟩,by
  rw[ZV.injEq]at hs⊢;refine⟨hs.1,?_⟩;rw[hs.2,YU,g W];rfl,YH _ _,hR W⟩
def zZ(j:I)(t:Tmp)(g off:I)(x:Yq)(e:(P.underlying T).map (·.isRow)=F D)(f:∀x W,G.R j x W->x=oZ g off)(d:∀W,G.B W->W.cell? ⟨g,off,none⟩=F x)(hR:∀W,G.R k x W)(hd:(bZ o j,aP ops j)=(J,F t):=by kernel_rfl)(ho:o.op=.load T (.tmp t):=by rfl):bM P Q G.flow ops a0 k o:=
 Db λa W b=>by
  have c:=yW b;refine⟨x,W,?_,YH _ _,hR W⟩;rw[Za,ho];dsimp only;rw[f _ W (c.n j t (congrArg yDc hd) (congrArg yDb hd)),YU,iH (d W c.b) e];rfl
def Wr{off:I}{cs:H Yq}(t:Tmp)(d:(P.underlying T).map (·.isRow)=F J)(e:(P.info? T).map (·.size)=F cs.length)(f:∀x W,G.R j x W->x=oZ g off)(c:∀W,G.B W->W.rangeAt g off cs)(hR:∀W,G.R k (.agg cs.toArray) W)(hd:(bZ o j,aP ops j)=(J,F t):=by kernel_rfl)(ho:o.op=.load T (.tmp t):=by rfl):bM P Q G.flow ops a0 k o:=
 jA t ho d λa W b=>⟨g,off,cs,f _ W (b.n j t (congrArg yDc hd) (congrArg yDb hd)),c W b.b,e,hR W⟩
def IY{cs:H Yq}(t:Tmp)(g off:I)(e:(P.underlying T).map (·.isRow)=F J)(f:(P.info? T).map (·.size)=F cs.length)(c:a0.eval (.tmp t)=oZ g off)(d:∀W,G.B W->W.rangeAt g off cs)(hR:∀W,G.R k (.agg cs.toArray) W)(hf:nC ops k t=J:=by kernel_rfl)(ho:o.op=.load T (.tmp t):=by rfl):bM P Q G.flow ops a0 k o:=
 jA t ho e λa W b=>⟨g,off,cs,(b.o t hf).trans c,d W b.b,f,hR W⟩
def Ut(t:Tmp)(g off:I)(x:Yq)(f:(P.underlying T).map (·.isRow)=F D)(d:a0.eval (.tmp t)=oZ g off)(e:∀W,G.B W->W.cell? ⟨g,off,none⟩=F x)(hR:∀W,G.R k x W)(hf:nC ops k t=J:=by kernel_rfl)(ho:o.op=.load T (.tmp t):=by rfl):bM P Q G.flow ops a0 k o:=
 Db λa W b=>by
  have c:=yW b;refine⟨x,W,?_,YH _ _,hR W⟩;rw[Za,ho];dsimp only;rw[c.o t hf,d,YU,iH (e W c.b) f];rfl
def ED(cs:H Yq)(T:YW)(hR:∀W W':Yp,yz W' W.heap.size cs->G.B W->G.R k (jZ W.heap.size) W')(hs:∀W,(cI [] o,(Za (evo (evl [])) o).run P W)=(J,.ok (.value (jZ W.heap.size)) (W.alloc (.cells cs.toArray T))):=by intro _;kernel_rfl):bM P Q G.flow ops a0 k o:=
 bE λa W b=>⟨[],_,_,trivial,hs W,aD _,hR W _ aF b.b⟩
def RU(f:ak)(args:yt Yq)(c:∀W,G.B W->Zl P f args W (rZ W λe W'=>G.R k e W'))(hs:∀W,(cI [] o,(Za (evo (evl [])) o).run P W)=(J,.ok (.enter f args) W):=by intro _;kernel_rfl):bM P Q G.flow ops a0 k o:=
 fC λa W b=>⟨[],f,args,trivial,hs W,c W b.b⟩
def IZ(j:I)(t:Tmp)(f:ak)(args:Yq->yt Yq)(c:∀x W,G.R j x W->G.B W->Zl P f (args x) W (rZ W λe W'=>G.R k e W'))(hd:(bZ o j,aP ops j)=(J,F t):=by kernel_rfl)(hs:∀x W,(cI [t] o,(Za (evo (evl [(t,x)])) o).run P W)=(J,.ok (.enter f (args x)) W):=by intro _ _;kernel_rfl):bM P Q G.flow ops a0 k o:=
 fC λa W b=>⟨[(t,a.eval (.tmp t))],f,_,⟨Z,yw⟩,hs _ W,c _ W (b.n j t (congrArg yDc hd) (congrArg yDb hd)) b.b⟩
def jJ(j:I)(t:Tmp)(c:I)(b:Tmp)(f:ak)(args:Yq->Yq->yt Yq)(g:∀x y W,G.R j x W->G.R c y W->G.B W->Zl P f (args x y) W (rZ W λe W'=>G.R k e W'))(hd:((bZ o j,aP ops j),(bZ o c,aP ops c))=((J,F t),(J,F b)):=by kernel_rfl)(hs:∀x y W,(cI [t,b] o,(Za (evo (evl [(t,x),(b,y)])) o).run P W)=(J,.ok (.enter f (args x y)) W):=by intro _ _ _;kernel_rfl):bM P Q G.flow ops a0 k o:=
 fC λa W d=>⟨[(t,a.eval (.tmp t)),(b,a.eval (.tmp b))],f,_,⟨Z,Z,yw⟩,hs _ _ W,g _ _ W (d.n j t (congrArg (·.1.1) hd) (congrArg (·.1.2) hd)) (d.n c b (congrArg (·.2.1) hd) (congrArg (·.2.2) hd)) d.b⟩
def Nx(j:I)(t:Tmp)(i:I)(d:Tmp)(c:I)(b:Tmp)(f:ak)(args:Yq->Yq->Yq->yt Yq)(l:∀x y z W,G.R j x W->G.R i y W->G.R c z W->G.B W->Zl P f (args x y z) W (rZ W λe W'=>G.R k e W'))(hd:((bZ o j,aP ops j),(bZ o i,aP ops i),(bZ o c,aP ops c))=((J,F t),(J,F d),(J,F b)):=by kernel_rfl)(hs:∀x y z W,(cI [t,d,b] o,(Za (evo (evl [(t,x),(d,y),(b,z)])) o).run P W)=(J,.ok (.enter f (args x y z)) W):=by intro _ _ _ _;kernel_rfl):bM P Q G.flow ops a0 k o:=
 fC λa W g=>⟨[(t,a.eval (.tmp t)),(d,a.eval (.tmp d)),(b,a.eval (.tmp b))],f,_,⟨Z,Z,Z,yw⟩,hs _ _ _ W,l _ _ _ W (g.n j t (congrArg (·.1.1) hd) (congrArg (·.1.2) hd)) (g.n i d (congrArg (·.2.1.1) hd) (congrArg (·.2.1.2) hd)) (g.n c b (congrArg (·.2.2.1) hd) (congrArg (·.2.2.2) hd)) g.b⟩
def RS(T:YW)(j:I)(t:Tmp)(c:I)(b:Tmp)(p:S1)(f:ak)(i:∀x W,G.R j x W->(pI T p).p x W)(g:∀x y W,p.p x W->G.R c y W->G.B W->Zl P f #[x,y] W (rZ W λe W'=>G.R k e W'))(hd:((bZ o j,aP ops j),(bZ o c,aP ops c))=((J,F t),(J,F b)):=by kernel_rfl)(hs:∀x y W,(cI [t,b] o,(Za (evo (evl [(t,.iface T x),(b,y)])) o).run P W)=(J,.ok (.enter f #[x,y]) W):=by intro _ _ _;kernel_rfl):bM P Q G.flow ops a0 k o:=
 fC λa W d=>by
  let⟨x,e,hx⟩:=i _ W (d.n j t (congrArg (·.1.1) hd) (congrArg (·.1.2) hd))
  exact⟨[(t,.iface T x),(b,a.eval (.tmp b))],f,_,⟨e,Z,yw⟩,hs _ _ W,g _ _ W hx (d.n c b (congrArg (·.2.1) hd) (congrArg (·.2.2) hd)) d.b⟩
end RG
namespace RG
variable {P:Zw}{ops:Array Y9}{Q:an->Act->Yp->Prop}{w:Yp}{a0:Act}{G:Gw}{k:Nat}{o:Y9}{T:YW}{g off:Nat}{cs:List Yq}{v u v' z:Yq}{I:Sem Yq}{f:ak}{t:Tmp}
def gO(t:Tmp)(v:Yq)(b:a0.eval (.tmp t)=v:=by kernel_rfl)(hR:∀W,G.R k v W:=by exact λ_=>rfl)(hf:nC ops k t=J:=by kernel_rfl)(hs:∀W,(cI [t] o,(Za (evo (evl [(t,v)])) o).run P W)=(J,.ok (.value v) W):=by intro _;kernel_rfl):bM P Q G.flow ops a0 k o:=Wq b hR hf hs
def gP(t:Tmp)(v b:Yq)(c:a0.eval (.tmp t)=v:=by kernel_rfl)(hR:∀W,G.R k b W:=by exact λ_=>rfl)(hf:nC ops k t=J:=by kernel_rfl)(hs:∀W,(cI [t] o,(Za (evo (evl [(t,v)])) o).run P W)=(J,.ok (.value b) W):=by intro _;kernel_rfl):bM P Q G.flow ops a0 k o:=Wq c hR hf hs
def gLo(t:Tmp)(c:∀W,G.B W->W.rangeAt g off cs)(d:(P.underlying T).map (·.isRow)=F J)(e:(P.info? T).map (·.size)=F cs.length)(b:a0.eval (.tmp t)=oZ g off:=by kernel_rfl)(hR:∀W,G.R k (.agg cs.toArray) W:=by exact λ_=>rfl)(hf:nC ops k t=J:=by kernel_rfl)(ho:o.op=.load T (.tmp t):=by rfl):bM P Q G.flow ops a0 k o:=IY t g off d e b c hR hf ho
def gLr(j:Nat)(t:Tmp)(b:∀W,G.B W->W.rangeAt g off cs)(c:(P.underlying T).map (·.isRow)=F J)(d:(P.info? T).map (·.size)=F cs.length)(e:∀x W,G.R j x W->x=oZ g off:=by exact λ_ _ h=>h)(hR:∀W,G.R k (.agg cs.toArray) W:=by exact λ_=>rfl)(hd:(bZ o j,aP ops j)=(J,F t):=by kernel_rfl)(ho:o.op=.load T (.tmp t):=by rfl):bM P Q G.flow ops a0 k o:=Wr t c d e b hR hd ho
def gX(j:Nat)(t:Tmp)(b:Nat)(c:Tmp)(e:∀W,I.run P W=.ok v' W)(f:∀x W,G.R j x W->x=v:=by exact λ_ _ h=>h)(d:∀x W,G.R b x W->x=u:=by exact λ_ _ h=>h)(hR:∀W,G.R k v' W:=by exact λ_=>rfl)(hd:((bZ o j,aP ops j),(bZ o b,aP ops b))=((J,F t),(J,F c)):=by kernel_rfl)(hs:(cI [t,c] o,Za (evo (evl [(t,v),(c,u)])) o)=(J,I >>= λv=>pure (fI v)):=by kernel_rfl):bM P Q G.flow ops a0 k o:=Wo j t b c v u e f d hR hd hs
def gC2(j:Nat)(t:Tmp)(b:Nat)(c:Tmp)(l:∀W,Zl P f #[v,u] W (rZ W λe W'=>e=v'))(g:∀x W,G.R j x W->x=v:=by exact λ_ _ h=>h)(d:∀x W,G.R b x W->x=u:=by exact λ_ _ h=>h)(hR:∀W,G.R k v' W:=by exact λ_=>rfl)(hd:((bZ o j,aP ops j),(bZ o b,aP ops b))=((J,F t),(J,F c)):=by kernel_rfl)(hs:∀x y W,(cI [t,c] o,(Za (evo (evl [(t,x),(c,y)])) o).run P W)=(J,.ok (.enter f #[x,y]) W):=by intro _ _ _;kernel_rfl):bM P Q G.flow ops a0 k o:=
 jJ j t b c f (λx y=>#[x,y]) (λx y W h1 m _=>by
  rw[g x W h1,d y W m];apply(l W).mono;rintro e W' ⟨a,rfl,i,rfl⟩;exact⟨_,Z,i,hR W'⟩) hd hs
def gC3(j:Nat)(t:Tmp)(g:Nat)(i:Tmp)(b:Nat)(c:Tmp)(r:∀W,Zl P f #[v,u,z] W (rZ W λe W'=>e=v'))(n:∀x W,G.R j x W->x=v:=by exact λ_ _ h=>h)(l:∀x W,G.R g x W->x=u:=by exact λ_ _ h=>h)(d:∀x W,G.R b x W->x=z:=by exact λ_ _ h=>h)(hR:∀W,G.R k v' W:=by exact λ_=>rfl)(hd:((bZ o j,aP ops j),(bZ o g,aP ops g),(bZ o b,aP ops b))=((J,F t),(J,F i),(J,F c)):=by kernel_rfl)(hs:∀x y z W,(cI [t,i,c] o,(Za (evo (evl [(t,x),(i,y),(c,z)])) o).run P W)=(J,.ok (.enter f #[x,y,z]) W):=by intro _ _ _ _;kernel_rfl):bM P Q G.flow ops a0 k o:=
 Nx j t g i b c f (λx y z=>#[x,y,z]) (λx y m W h1 s q _=>by
  rw[n x W h1,l y W s,d m W q];apply(r W).mono;rintro e W' ⟨a,rfl,p,rfl⟩;exact⟨_,Z,p,hR W'⟩) hd hs
end RG
def xI(s:R)(w:Yp):
 ∃cap w',(convert 9 23 (.string s)).run prog w=.ok (sZ w.heap.size s.size cap) w'/\s.size<=cap/\kZ w w'/\hZ w' w.heap.size 0 s.data/\w.heap.size<w'.heap.size:=by
 have b:s.size<=grownCap w s.size 0 5:=by
  unfold grownCap Question.cut;exact I.le_add_right _ _
 have hl:s.data.size=s.size:=rfl;refine⟨_,_,Lib.run_convert_string_bytes (P:=prog) w 9 23 5 s str9 slice22 int5,b,?_,?_,by rw[yDf];omega⟩
 .refine⟨?_,?_,?_,?_,λk c=>Lib.bytesWorld_at_old w 5 s k c⟩
  .unfold ym yn;rw[zi dC];rfl
  .unfold ym yn;rw[zi dC];rfl
  .unfold ym yn;rw[zi dC];rfl
  rw[yDf];omega
 intro j f;have g:=Lib.bytesWorld_at_new w 5 s;have d:(xg w 5 s).size=grownCap w s.size 0 5:=by
  rw[xg,Zi,yt.size_map,YN];omega
 have i:(xg w 5 s)=(s.data++YD (grownCap w s.size 0 5-s.size) 0).map encB:=by
  rw[xg,yt.map_append,yt.map_replicate];rfl
 have e:j<(s.data++YD (grownCap w s.size 0 5-s.size) 0).size:=by rw[Zi,YN];omega
 have c:(s.data++YD (grownCap w s.size 0 5-s.size) 0)[j]=s.data[j]!:=by
  rw[yCx f,getElem!_pos s.data j f]
 constructor
 .unfold pn;rw[g];simp only[Yv];rw[zi dC,i,yt.getElem?_map,Y0 e,ur,c]
 unfold ut;rw[g];simp only[Yv,d];simp;omega
def dL(n:I):Bs:=#[aR n 16777216,aR n 65536,aR n 256,aR n 1]
def MJ{n:I}(h:hZ w r 0 (dL n)):PartOk w (sZ r 4 4) (dL n).toList:=
 ⟨_,r,0,4,dL n,Z,Z,Ys _,Zh Z,YZ ⟨Z,h⟩⟩
def Qa:yy 70 #[U 1] (nv 1):=by
 intro w;go_enter func70,ntmps70;refine RG.M.enter [(0,.v (U 1))] 6 kR λa0 b=>?_
 refine Yt <| b.T [.m 0] [(0,RG.z 4)] [] [0,2] ⟨mk 0 49,yw⟩ λk i g d=>?_
 refine Yt <| d.T [.x (U 1),.x (nv 1),.x (nv 1),.u 0] [] [(0,3,wn 1)] [2] ⟨st,st,st,RG.pt zy,yw⟩ λe f c=>?_
 exact Zr (c.rr 0 Z u40 zy)
def jG(a:I):I:=if a=0 then 1 else a
def P5(O:Ord N){a:I}(j:a<N):yy 210 #[nv a] (nv (jG a)):=by
 intro w;have e:∀w:Yp,(binOp .eql 49 (nv a) (nv 0)).run prog w=.ok (.bool (decide (a=0))) w:=λw=>eqS (Yr j O.le) (show 0<top by unfold top;omega)
 let⟨d,hd⟩:=hE (decide (a=0))
 rw[hd.out]at e;go_enter func210,ntmps210;refine RG.M.enter [(0,.v (nv a))] 8 kR λa0 f=>?_
 refine Yt <| f.T [.m 0,.m 1] [(0,wn a),(1,RG.z 4)] [] [1,2] ⟨mk 0 49,mk 1 49,yw⟩ λs r o q i=>?_
 refine Yt <| Yt <| i.U [.x (nv a),.x (nv 0),.x (.bool d)] [1,2,5] ⟨ld u40 zy,st,aQ Z .eql 49 Z Z sx sx (λw=>kR) e,yw⟩ λp n k=>?_
 cases d with
 | true =>
  refine Y5 k.ev ?_;have g:=of_decide_eq_true hd;have b:jG a=1:=by unfold jG;rw[zd g]
  rw[b];refine Yt <| k.T [.c (nv 1),.u 1] [] [(1,1,wn 1)] [2] ⟨cl Qa,RG.pt zy,yw⟩ λl m c=>?_
  exact Zr (c.rr 1 Z u40 zy)
 | false =>
  refine YY k.ev ?_;have b:jG a=a:=by unfold jG;rw[zi (of_decide_eq_false hd.out)]
  rw[b];refine ZK<|Yt <| k.T [.x (nv a),.u 1] [] [(1,1,wn a)] [2] ⟨ld u40 zy,RG.pt zy,yw⟩ λl m c=>?_
  exact Zr (c.rr 1 Z u40 zy)
section
section
variable {P:Zw}{ops:Array Y9}{rest:List Y9}{op:Y9}{a:Act}{w w':Yp}{v:Yq}{Q:an->Act->Yp->Prop}
def rD{k:YW}{x:am}{o:I}(c:op.guard=G)(ho:op.op=.store k x y)(v:Yq)(hx:a.eval x=oZ b o)(i:a.eval y=v)(hv:v.cells=#[v])(h1:v.oneCell'=J)(g:w.there b o 1)(j:(P.info? k).map (·.size)=F 1)(h:wpList P ops Q rest (a.put op.dst ae) (w.setCells b o [v])):wpList P ops Q (op :: rest) a w:=
 gH c λ_ d=>by
  have f:=run_storeVar_mid (P:=P) w b o k #[v] g j (by simp[h1]);have e:storeVar k ⟨b,o,G⟩ v=storeVar k ⟨b,o,G⟩ (.agg #[v]):=by
   rw[storeVar,hv];rfl
  unfold ZY Za;simp only[ho,hx,i,Instr.storeAt,Instr.sureAddr,YU,gM,Zp,e,f];exact d _ _ h
def uI{g:yt YW}{x:Yq}(k:op.guard=G)(s t:Tmp)(ho:op.op=.call ⟨.value (.tmp s),#[.tmp t],g⟩)(hs:a.eval (.tmp s)=.func (.func f) #[] cap)(hx:a.eval (.tmp t)=x)(hf:∀args W,(callFunc f args).run P W=.ok (.enter f args) W){R:Yq->Yp->Prop}(d:Zl P f (#[x]++cap) w (Ret R))(h:∀v w',R v w'->wpList P ops Q rest (a.put op.dst v) w'):wpList P ops Q (op :: rest) a w:=
 gH k λK b=>by
  have c:(Za a.eval op).run P w=.ok (.enter f (#[x]++cap)) w:=by
   rw[Za,ho];have e:(#[Operand.tmp t].map a.eval)=#[x]:=by simp[hx]
   simp only[resolve,hs,Deferred.ofValue,YU,gM,Zp,invoke,e];exact hf _ w
  rw[ZY,c,Oper.upon_enter];refine d.mono ?_;rintro e w' ⟨v,rfl,hR⟩;exact b _ _ (h v w' hR)
end
end
def zL(n:I)(m:n<4294967296)(w:Yp):dZ 200 #[iZ n] w λe w'=>∃r,e=sZ r 4 4/\r<w'.heap.size/\hZ w' r 0 (dL n):=by
 have k:(n:Y)/16777216%256=SP.ub (aR n 16777216):=dG;have b0:(n:Y)/16777216=SP.ub (aR n 16777216):=S;clear k;have b1:(n:Y)/65536%256=SP.ub (aR n 65536):=dG;have l:(n:Y)/256%256=SP.ub (aR n 256):=dG;have o:(n:Y)%256=SP.ub (aR n 1):=oI n;have d:=mS w (x:=(aR n 16777216)) (y:=(aR n 65536)) (z:=(aR n 256)) (aR n 1);have i:E (dL n=#[aR n 16777216,aR n 65536,aR n 256,aR n 1]):=rfl;generalize aR n 16777216=g at *;generalize aR n 65536=f at *;generalize aR n 256=j at *;generalize aR n 1=c at *;have b:kZ w (w.alloc (.cells #[.int .u8 (SP.ub g),.int .u8 (SP.ub f),.int .u8 (SP.ub j),.int .u8 (SP.ub c)] 5)):=(YH _ _).alloc (Ys _) _;go_enter func200,ntmps200;go_wp2;go_ret;refine⟨_,Z,b,_,Z,by rw[YE];omega,?_⟩;rw[i.out];exact d
def IF(a:Bs)(i:a.size=33)(w:Yp):Zl prog 135 #[pvl a] w (rZ w λe w'=>Sm w.heap.size w' e [(1,a)]):=by
 have l:=Hid.mk' (AP i w);obtain⟨g,d⟩:=hE (w.alloc (.cells (aA a).toArray 103));rw[d.out]at l;have K:E (yz g w.heap.size (aA a)/\kZ w g):=by rw[<-d.out];exact⟨aF,aD _⟩
 obtain⟨va,f⟩:=hE (pvl a);have j:E ((ZM 103 va).run prog w=.ok (jZ w.heap.size) g):=by rw[<-f.out];exact l
 rw[f.out];go_enter func135,ntmps135;go_wp2_with (first|(refine aG (u:=va) (v:=jZ w.heap.size) (w':=g) Z 103 (.tmp 0) Z ?_ ?_ ?_;rfl;exact j)|fail)
 refine(gwL [pE (pvl a),pE (nv 1),pM (w.heap.size<=·) [(1,a)],pM (w.heap.size<=·) [(1,a)]] (λW=>yz W w.heap.size (aA a)/\kZ w W) (λW W' c h=>⟨h.1.below c,h.2.trans (c.mono h.2.size)⟩)).draws kR kR ⟨
  IY 1 w.heap.size 0 (cs:=(aA a)) uCP (by rw[aB i];exact gI) Z (λW b=>b.1.2.1) (λ_=>rfl),
  RU 70 #[U 1] λW b=>(Rz W).mono (by
   rintro e W' ⟨u,rfl,c,rfl⟩;exact⟨_,Z,c,Z⟩),
  jJ 0 3 1 4 64 (λx y=>#[x,y]) λx y W hx n b=>by
   obtain rfl:x=pvl a:=hx;obtain rfl:y=nv 1:=n;apply(BG a i 1 W).mono;rintro e W' ⟨u,rfl,c,k,rfl,m,hR⟩;exact⟨_,Z,c,Sm.one hR (YA b.2.size m) Z⟩,
  GQ 2 5 id λx W h=>h,yw⟩ ⟨K.1,K.2.drew⟩ ?_
 intro V m hR b;dsimp only[dF,Zs];go_wp2;go_ret;exact⟨_,Z,(mk1 (b.2)).out,(mk1 (hR 3 (rn (Zh kR)))).out⟩
def u9s:wZ 9:=wQ
def pH(n:I)(b:Bs):S1:=⟨λv W=>∃r,v=sZ r n n/\r<W.heap.size/\hZ W r 0 b,λ_ _ _ c ⟨r,h1,k,d⟩=>⟨r,h1,Yr k c.size,Holds.below d c k⟩⟩
noncomputable def hpN (P:I) [NeZero P] (lb:R) (i:I):Bs:=wr (.some (hpt P lb (dL i).toList):EC.Pt P)
def Ns{lb:R}{i:I}:(hpN P lb i).size=33:=aY _
def TJ(C:At P)(lb:R)(f:lb.size<=1000000)(i:I)(z:i<4294967296)(k:I)(w:Yp)(s:k<w.heap.size)(v:w.cell? ⟨k,0,G⟩=F (.string lb)):
 dZ 201 #[iZ i,jZ k] w λe w'=>Sm w.heap.size w' e [(1,hpN P lb i)]:=by
 let⟨T,hT⟩:=hE (hpN P lb i)
 have d:T.size=33:=hT.out▸Ns;rw[hT.out];have o:=λ(W:Yp) (n:zb ai) (m l:I) (q:PartOk W (.slice n m l) (dL i).toList)=>Jh C lb f n m l (dL i).toList W q
 have a:wr (.some (hpt P lb (dL i).toList):EC.Pt P)=T:=hT;rw[a]at o;go_enter func201,ntmps201;go_wp2_with fail
 refine(gwL [pE (.string lb),pE (iZ i),pH 4 (dL i),pE (pvl T),pM (w.heap.size<=·) [(1,T)],pM (w.heap.size<=·) [(1,T)]] (λW=>W.cell? ⟨k,0,G⟩=F (.string lb)/\kZ w W) (λW W' b h=>⟨by rw[b.cell (p:=⟨k,0,G⟩) (Yr s h.2.size)];exact h.1,h.2.trans (b.mono h.2.size)⟩)).draws kR kR ⟨
  Ut 1 k 0 (.string lb) u9s Z (λW c=>c.1) (λ_=>rfl),
  RG.gO 0 (iZ i),
  IZ 1 5 200 (λx=>#[x]) (λx W hx c=>by
   obtain rfl:x=iZ i:=hx;apply((Hid.mk' (λW=>zL i z W)) W).mono;rintro e W' ⟨u,rfl,b,r,rfl,h1,j⟩;exact⟨_,Z,b,r,Z,h1,j⟩),
  jJ 0 4 2 6 136 (λx y=>#[x,y]) (λx y W hx t c=>by
   obtain rfl:x=.string lb:=hx;obtain⟨r,rfl,h1,j⟩:=t;apply((Hid.mk' o) W _ _ _ (MJ j)).mono;rintro e W' ⟨u,rfl,b,rfl⟩;exact⟨_,Z,b,Z⟩),
  IZ 3 7 135 (λx=>#[x]) (λx W hx c=>by
   obtain rfl:x=pvl T:=hx;apply(IF T d W).mono;rintro e W' ⟨u,rfl,b,hs⟩;exact⟨_,Z,b,hs.q.mono λg j=>YA c.2.size j⟩),
  GQ 4 8 id (λx W h=>h),yw⟩ ⟨(mk1 v).out,(YH _ w).drew⟩ ?_
 intro V j hR c;dsimp only[dF,Zs];simp only[Zo,Yw,Yy,Yz];go_wp2;go_ret;exact⟨_,Z,(mk1 (c.2)).out,(mk1 (hR 5 (rn (Zh kR)))).out⟩
def uSu:prog.underlying 129=F (.slice 131):=kR
def iSu:(prog.info? 131).map (λi=>(i.size,decide (i.bytes<=4000),i.zero.isSome))=F (1,J,J):=kR
def Wm:gZ 131 1:=gQ
structure LsI(w W:Yp)(K n i:I)(T:I->LB):Prop where
 bl:kZ w W
 lt:K<W.heap.size
 th:W.there K 0 n
 ge:w.heap.size<=K
 el:∀j,j<i->∃x,W.cell? ⟨K,j,G⟩=F x/\SmQ (λg=>w.heap.size<=g/\g≠K) W x (T j)
def LsI.grow{n i:I}{T:I->LB}(h:LsI w W K n i T)(k:kZ W W'):LsI w W' K n i T:=
 ⟨h.bl.trans (k.mono h.bl.size),Yr h.lt k.size,jD h.th k h.lt,h.ge,λj c=>by
  let⟨x,h1,b⟩:=h.el j c
  exact⟨x,by rw[k.cell (p:=⟨K,j,G⟩) h.lt];exact h1,b.keep (Kq.of_below k)⟩⟩
def Kq.set{o:I}(k:∀g,Q g->g≠K):Kq Q W (W.setCells K o vs):=⟨by rw[setCells_size];exact Ys _,λg b _=>aL K vs o W g (k g b)⟩
def LsI.put{n i:I}{T:I->LB}{x:Yq}(h:LsI w W K n i T)(m:i<n)(hx:SmQ (λg=>w.heap.size<=g/\g≠K) W x (T i)):LsI w (W.setCells K i [x]) K n (i+1) T:=by
 have c:Kq (λg=>w.heap.size<=g/\g≠K) W (W.setCells K i [x]):=Kq.set λg d=>d.2
 refine⟨RG.below_setCells h.ge _ _ _ h.bl,by rw[setCells_size];exact h.lt,World.there_setCells h.th _ _ _,h.ge,λj o=>?_⟩;by_cases e:j=i
 .subst e;refine⟨x,?_,hx.keep c⟩;have:=World.rangeAt_setCells_same W K j [x] (λt b=>by
   have k:t=0:=by simp at b;omega
   subst k;have:=h.th j m;rwa[Yv]at this) 0 x Z
  exact this
 let⟨y,h1,l⟩:=h.el j S
 refine⟨y,?_,l.keep c⟩;have f:W.rangeAt K j [y]:=λt u b=>by
  have k:t=0:=by have:=(YF.1 b).1;simp at this;omega
  subst k;obtain rfl:y=u:=by simpa using b
  exact h1
 exact Zv f K i [x] (YZ (by simp;omega)) 0 y Z
def LsI.gl{n:I}{T:I->LB}(h:LsI w W K n n T):GLq (w.heap.size<=·) W (sZ K n n) n T:=
 ⟨K,0,n,Z,Ys _,h.ge,h.lt,λj b=>by
  let⟨x,h1,k⟩:=h.el j b
  exact⟨x,by rw[Yv];exact h1,k.mono λg c=>c.1⟩⟩
def SmQ.one{v:Yq}{l:LB}(h:SmQ Q W v l):v.cells=#[v]/\v.oneCell'=J:=by
 obtain⟨g,c,rfl,-⟩:=h;exact⟨Z,Z⟩
def BO(n:I)(L:n<=512)(f:ak)(cap:yt Yq)(hf:∀args W,(callFunc f args).run prog W=.ok (.enter f args) W)(T:I->LB)(w:Yp)
 (C:∀i W,i<n->kZ w W->dZ f (#[iZ i]++cap) W λe W'=>Sm W.heap.size W' e (T i)) :
 dZ 162 #[iZ n,.func (.func f) #[] cap] w λe w'=>GLq (w.heap.size<=·) w' e n T:=by
 obtain⟨C0,q,l⟩:=Eo uSu iSu n L;have k:=l w;obtain⟨K,r⟩:=yH w.heap.size;obtain⟨u,b⟩:=yH (w.alloc (.cells C0.toArray 131));have s:Ar w u K 1 n 0 (λ_=>[]):=Ar.new _ q b.out r.out;rw[b.out,r.out]at k;have K1:E (LsI w u K n 0 T):=⟨s.bl,s.lt,by have:=s.th;rwa[px]at this,by rw[r.out];exact Ys _,λj X=>absurd X (p9 _)⟩
 have N:=Hid.mk' C;have V:=Hid.mk' hf;obtain⟨fv,d⟩:=hE (Value.func (.func f) #[] cap);rw[d.out];clear s q l C hf b r;go_enter func162,ntmps162;go_wp2;clear k;go_loopg [11] n (λm s11 W=>∃i:I,i+m=n/\s11=iZ i/\E (LsI w W K n i T))
 case atStart=>exact⟨0,S,Z,K1⟩
 case round =>
  obtain⟨i,P,rfl,c⟩:=hrel;by_cases v:i<n
  .have y:(i:Y)<(n:Y):=S;have x:=atS K 0 (n:=n) n (i:=i) v;rw[show 0+1*i=i by omega]at x;go_wp2_with (first|(refine uI Z 16 17 Z (f:=f) (cap:=cap) (x:=(iZ i)) ?_ ?_ V.out (N i wr (Hid.mk' v).out c.bl) ?_;exact d.symm;rfl;intro e W' hR;refine ru ?_)|fail)
   obtain⟨hb,Q⟩:=hR;have z:=c.grow hb;have p:SmQ (λg=>w.heap.size<=g/\g≠K) W' e (T i):=Q.q.mono λg M=>⟨YA (YA c.bl.size (Ys _)) M,oN c.lt⟩
   have A:=mk1 (z.put v p);have O:E (W'.there K i 1):=λt ht=>by
    have o:t=0:=S;subst o;have:=z.th i v;rwa[Yv]at this
   have a:=Hid.mk' p.one;obtain⟨W4,o⟩:=hE (W'.setCells K i [e]);rw[o.out]at A;show wpList _ _ _ _ _ _;go_wp2_with (first|(refine rD Z (k:=131) Z (b:=K) (o:=i) e ?_ ?_ a.1 a.2 O.out Wm ?_;rfl;rfl;rw[o.out])|fail)
   go_roundg (gk-1)
   case measure=>omega
   case rel=>exact⟨i+1,S,Z,A⟩
  .have y:¬(i:Y)<(n:Y):=S;obtain rfl:i=n:=S;have o:=mk2 c.bl c.gl;go_wp2;go_ret;exact⟨_,Z,o.1,o.2⟩
def wC(C:At P)(lb:R)(c:lb.size<=1000000)(n:I)(o:n<=512)(w:Yp):
 dZ 134 #[.string lb,iZ n] w λe w'=>GLq (w.heap.size<=·) w' e n (λi=>[(1,hpN P lb i)]):=by
 let⟨j,b⟩:=hE (w.alloc (.cells #[.string lb] 9))
 let⟨k,l⟩:=hE w.heap.size
 have s:kZ w j:=b.out▸aD _;have hR:yz j k [.string lb]:=b.out▸l.out▸aF;have q:=Hid.mk' (BO n o 201 #[jZ k] (λ_ _=>kR) (λi=>[(1,hpN P lb i)]) j (λi W u m=>TJ C lb c i S k W (Yr hR.1 m.size) (by rw[m.cell (p:=⟨k,0,G⟩) hR.1];exact hR.2.1 0 _ Z)));have d:=Hid.mk' s;go_enter func134,ntmps134;go_wp2_with fail
 rw[b.out,l.out];refine q.mono ?_;rintro e t ⟨v,rfl,f,hG⟩;go_wp2;go_ret;exact⟨_,Z,(mk2 (d.trans (f.mono d.size)) (hG.mono λg r=>YA d.size r)).out⟩
noncomputable def hpU (P:I) [NeZero P]:Bs:=wr (.some (hpt P ⟨#[105,110,110,101,114]⟩ []):EC.Pt P)
def iGr:gZ 133 3:=gQ
def uGr:yZ 133:=yQ
noncomputable def gGT (P:I) [NeZero P] (i:I):LB:=[(1,hpN P ⟨#[108,101,102,116]⟩ i)]
noncomputable def hGT (P:I) [NeZero P] (i:I):LB:=[(1,hpN P ⟨#[114,105,103,104,116]⟩ i)]
noncomputable def uGT (P:I) [NeZero P]:LB:=[(1,hpU P)]
def GR(C:At P)(n:I)(hn:n<=512)(w:Yp):
 dZ 62 #[iZ n] w λe w'=>GRq (w.heap.size<=·) w' e n (gGT P) (hGT P) (uGT P):=by
 have z:=λW=>wC C ⟨#[108,101,102,116]⟩ dC n hn W
 have a:=λW=>wC C ⟨#[114,105,103,104,116]⟩ dC n hn W
 have hU:=λW:Yp=>Jh C ⟨#[105,110,110,101,114]⟩ dC none 0 0 [] W ⟨none,0,0,0,#[],Z,Z,Ys _,aw _,Y3 Z⟩
 have e0:wr (.some (hpt P ⟨#[105,110,110,101,114]⟩ []):EC.Pt P)=hpU P:=rfl;rw[e0]at hU;have hO:=λW=>IF (hpU P) (aY _) W
 obtain⟨U,N⟩:=yH (hpU P);have e1:uGT P=[(1,U)]:=by unfold uGT;rw[N.out]
 rw[e1];rw[N.out]at hU hO;have u:=Hid.mk' (qh z (qh a (qh hU hO)));have e2:(λi=>[(1,hpN P ⟨#[108,101,102,116]⟩ i)])=gGT P:=rfl;have e3:(λi=>[(1,hpN P ⟨#[114,105,103,104,116]⟩ i)])=hGT P:=rfl;rw[e2,e3]at u;generalize gGT P=G at u⊢;generalize hGT P=H at u⊢;clear z a hU hO e0 e1 e2 e3 C hn;obtain⟨O,T⟩:=yH (w.alloc (.cells #[nZ,nZ,nZ] 133));obtain⟨k,hk⟩:=yH w.heap.size;have K1:E (kZ w O/\yz O k [nZ,nZ,nZ]):=by rw[<-T.out,<-hk.out];exact⟨aD _,aF⟩
 go_enter func62,ntmps62;go_wp2_with fail
 rw[T.out,hk.out];refine(u.1 O).mono ?_;rintro e X ⟨v1,rfl,K,hG⟩;have y:E (kZ w X/\yz X k [nZ,nZ,nZ]/\GLq (k < ·) X v1 n G):=⟨K1.1.trans (K.mono K1.1.size),K1.2.below K,hG.mono λg o=>Yr K1.2.1 o⟩
 go_wp2_with fail
 refine(u.2.1 X).mono ?_;rintro e V ⟨v2,rfl,t,hG⟩;have M:E (kZ w V/\yz V k [nZ,nZ,nZ]/\GLq (k < ·) V v1 n G/\GLq (k < ·) V v2 n H):=⟨y.1.trans (t.mono y.1.size),y.2.1.below t,y.2.2.keep (Kq.of_below t),hG.mono λg o=>Yr y.2.1.1 o⟩
 go_wp2_with fail
 refine(u.2.2.1 V).mono ?_;rintro e x ⟨v,rfl,f,rfl⟩;have s:E (kZ w x/\yz x k [nZ,nZ,nZ]/\GLq (k < ·) x v1 n G/\GLq (k < ·) x v2 n H):=⟨M.1.trans (f.mono M.1.size),M.2.1.below f,M.2.2.1.keep (Kq.of_below f),M.2.2.2.keep (Kq.of_below f)⟩
 obtain⟨vu,L⟩:=hE (pvl U);have HO:E (∀W:Yp,dZ 135 #[vu] W λe w'=>Sm W.heap.size w' e [(1,U)]):=by rw[<-L.out];exact u.2.2.2
 rw[L.out];go_wp2_with fail
 refine(HO x).mono ?_;rintro e c ⟨v3,rfl,b,hS⟩;have d:E (kZ w c/\yz c k [nZ,nZ,nZ]/\GLq (k < ·) c v1 n G/\GLq (k < ·) c v2 n H/\SmQ (k < ·) c v3 [(1,U)]):=⟨s.1.trans (b.mono s.1.size),s.2.1.below b,s.2.2.1.keep (Kq.of_below b),s.2.2.2.keep (Kq.of_below b),hS.q.mono λg o=>Yr s.2.1.1 o⟩
 clear b hS s HO;obtain⟨l,j,c1,rfl,-⟩:=d.2.2.1;obtain⟨q,m,c2,rfl,-⟩:=d.2.2.2.1;obtain⟨p,r,rfl,-⟩:=d.2.2.2.2;obtain⟨A,Q⟩:∃A,E (c.setCells k 0 [qZ l j n c1,qZ q m n c2,sZ p [(1,U)].length r]=A):=⟨_,Hid.mk' Z⟩
 have K6:E (kZ w A/\yz A k [qZ l j n c1,qZ q m n c2,sZ p [(1,U)].length r]/\GRq (w.heap.size<=·) A (.agg #[qZ l j n c1,qZ q m n c2,sZ p [(1,U)].length r]) n G H [(1,U)]):=by
  rw[<-Q.out];have hq:∀g,k<g->w.heap.size<=g:=λg o=>by rw[hk.out];omega
  have kq:Kq (k < ·) c (c.setCells k 0 [qZ l j n c1,qZ q m n c2,sZ p [(1,U)].length r]):=Kq.set λg o=>cW o
  exact⟨RG.below_setCells (by rw[hk.out];exact Ys _) _ _ _ d.1,d.2.1.put Z,_,_,_,Z,(d.2.2.1.keep kq).mono hq,(d.2.2.2.1.keep kq).mono hq,(d.2.2.2.2.keep kq).mono hq⟩
 go_wp2_with (refine bY (v:=.agg #[qZ l j n c1,qZ q m n c2,sZ p [(1,U)].length r]) (w':=c) Z (.build 133 _) Z ?_ ?_;kernel_rfl;refine ru ?_)
 show wpList _ _ _ _ _ _;refine ZJ Z 133 _ _ Z k 0 #[qZ l j n c1,qZ q m n c2,sZ p [(1,U)].length r] ?_ ?_ (mk1 d.2.1.2.2).out iGr ?_ ?_
 .kernel_rfl
 .kernel_rfl
 .kernel_rfl
 rw[show(#[qZ l j n c1,qZ q m n c2,sZ p [(1,U)].length r]:yt Yq).toList=[qZ l j n c1,qZ q m n c2,sZ p [(1,U)].length r] from Z,Q.out];go_wp2;refine YB (aC 2 Z K6.2.1 Z uGr iGr) Z ?_;exact⟨_,Z,K6.1,K6.2.2⟩
def qU{o n i:I}(b:i<n)(w:Yp):(ZW 124 (qZ k o n c) (iZ i)).run prog w=.ok (oZ k (o+4*i)) w:=by
 go_simp
def prS(N:I)(a b:I->I):I->I
 | 0=>0
 | i+1=>sPl N (prS N a b i) (sTi N (b i) (a i))
def Cy{b:I->I}(k:0<N):∀i,prS N a b i<N
 | 0=>k
 | _+1=>ZL _ k
def bB{o:I}(h:yz W k vs)(b:k≠K):yz (W.setCells K o us) k vs:=yN h (by rw[setCells_size];exact Ys _) (aL K us o W k b)
def Hb(O:Ord N)(n:I)(hn:n<=512)(a b:I->I)(ha:∀i,i<n->a i<N)(d:∀i,i<n->b i<N)(va T:Yq)(w:Yp)(h1:SLq Q w va n a)(h2:SLq Q w T n b):
 Zl prog 78 #[va,T] w (rZ w λe w'=>e=nv (prS N a b n)):=by
 obtain⟨g1,o1,c1,rfl,-,-,h3,s⟩:=h1;obtain⟨g2,o2,c2,rfl,-,-,X,v⟩:=h2;refine hG w.heap.size λL j=>?_
 refine hG (w.alloc (.cells (wn 0).toArray 49)) λw1 o=>?_
 refine hG w1.heap.size λM m=>?_
 refine hG (w1.alloc (.cells (wn 0).toArray 49)) λw2 g=>?_
 have K2:E (Mp w w2 [(L,wn 0),(M,wn (prS N a b 0))] []):=((Mp.start w).new j o).new m g;have V:=mk4 ha d s v;clear ha d s v;go_enter func78,ntmps78;refine PW.bg [] ?_;refine PW.al j o ?_;refine PW.dn ?_;refine PW.bg [] ?_;refine PW.al m g ?_;refine PW.dn ?_;refine Yt ?_;refine PW.rg [iZ n,iZ 0] ?_;refine ZR ?_;clear o g j m;go_loopg [10] n (λgk s10 wr=>∃i:I,i+gk=n/\s10=iZ i/\E (Mp w wr [(L,wn 0),(M,wn (prS N a b i))] []))
 case atStart=>exact⟨0,S,Z,K2⟩
 case round =>
  clear K2;obtain⟨i,h4,rfl,K⟩:=hrel;refine PW.rg [.bool (decide ((i:Y)<(n:Y)))] ?_;by_cases r:i<n
  .have l:(i:Y)<(n:Y):=S;rw[decide_eq_true l];have h0:YQ.wrap ((i:Y)+1)=((i+1:I):Y):=by rw[Zy];omega
   have HT:=kF O (b i) (a i) (V.out.2.1 i r) (V.out.1 i r);have HP:=nP O (prS N a b i) (sTi N (b i) (a i)) (Cy O.pos (a:=a) (b:=b) i) (ZL _ O.pos);rw[show sPl N (prS N a b i) (sTi N (b i) (a i))=prS N a b (i+1) from Z]at HP;obtain⟨va,f⟩:=hE (nv (a i));obtain⟨T,y⟩:=hE (nv (b i));obtain⟨vt,t⟩:=hE (nv (sTi N (b i) (a i)));obtain⟨vp,c⟩:=hE (nv (prS N a b i));obtain⟨vr,C⟩:=hE (nv (prS N a b (i+1)));rw[y.out,f.out,t.out]at HT;rw[c.out,t.out,C.out]at HP;refine hG wr.heap.size λk7 z=>?_
   refine hG (wr.alloc (.cells (wn 0).toArray 49)) λw3 k=>?_
   refine hG (w3.setCells k7 0 (wn (a i))) λw4 u=>?_
   have q:=mk1 (K.out.new z k);have p:=mk1 (q.out.put 2 u);refine Yt ?_;refine Y5 Z ?_;refine ZK ?_;refine Yt ?_;refine ZR ?_;refine PW.bg [] ?_;refine PW.ns (qU (k:=g1) (o:=o1) (n:=n) (c:=c1) (i:=i) r wr) ?_;refine PW.ro (RG.range_below (V.out.2.2.1 i r) K.out.bl h3) f u40 zy ?_;refine PW.al z k ?_;refine PW.go [iZ i] ?_;refine PW.st u f (q.out.th 2) zy aM ?_;refine PW.dn ?_;refine AW.begin 10 10 ?_;refine AW.ro 0 (λW d=>((p.out.at_ 1).below d).2.1) c u40 zy ?_;refine AW.va 1 (.iface 49 vp) ?_;refine AW.mv 2 ?_;refine AW.mv 3 ?_;refine AW.iv 4 (qU (k:=g2) (o:=o2) (n:=n) (c:=c2) (i:=i) r) ?_;refine AW.ro 5 (λW d=>RG.range_below (V.out.2.2.2 i r) (p.out.bl.trans (d.mono p.out.bl.size)) X) y u40 zy ?_;refine AW.va 6 (.iface 49 T) ?_;refine AW.ro 7 (λW d=>((p.out.at_ 2).below d).2.1) f u40 zy ?_;refine AW.gi 8 (λ_=>HT _) λW1 _=>?_
   refine AW.gi 9 (λ_=>HP _) λW2 _=>?_
   refine AW.fi (us:=wn (prS N a b (i+1))) C aM zy (λd=>?_);have K5:=p.out.grow d;obtain⟨W3,A⟩:=hE (W2.setCells M 0 (wn (prS N a b (i+1))));have K6:=mk1 (Mp.pop (rs:=[(L,wn 0),(M,wn (prS N a b (i+1)))]) (x:=(k7,wn (a i))) (K5.put 1 A));rw[A.out];refine⟨K5.th 1,?_⟩;clear K q p K5 d;refine PW.bb [iZ (YQ.wrap ((i:Y)+1))] ?_;rw[h0];go_wp2;go_roundg (gk-1)
   case measure=>omega
   case rel=>exact⟨i+1,S,Z,K6⟩
  .have l:¬(i:Y)<(n:Y):=S;obtain rfl:i=n:=S;rw[decide_eq_false l];obtain⟨vp,c⟩:=hE (nv (prS N a b i));refine hG (wr.setCells L 0 (wn (prS N a b i))) λw3 k=>?_
   have q:=mk1 (K.out.put 0 k);refine Yt ?_;refine YY Z ?_;refine fT ?_;refine PW.bg (P:=prog) [] ?_;refine PW.ro (K.out.at_ 1).2.1 c u40 zy ?_;refine PW.st k c (K.out.th 0) zy aM ?_;refine PW.dn ?_;refine Zr ?_;refine YB (aC 4 (T:=49) Z (show yz w3 L (wn (prS N a b i)) from q.out.at_ 0) Z u40 zy) Z ?_;exact⟨_,Z,q.out.bl,Z⟩
def Fu:wZ 131:=wQ
structure CbM(w W:Yp)(v:Yq)(l:LB):Prop where
 bl:kZ w W
 sm:SmZ w.heap.size W v l
def CbM.grow{v:Yq}{l:LB}(h:CbM w W v l)(k:kZ W W'):CbM w W' v l:=⟨h.bl.trans (k.mono h.bl.size),h.sm.grow k⟩
def CbM.drew{v:Yq}{l:LB}(h:CbM w W v l):CbM w W.drew v l:=⟨h.bl.drew,h.sm.grow ⟨Z,Z,Z,Ys _,λ_ _=>rfl⟩⟩
def LS{B:I}{v:Yq}{l:LB}(h:SmZ B W v l):SmZ 0 W v l:=by
 rcases h with h|⟨g,c,h1,b,-,k⟩
 .exact Y3 h
 exact YZ ⟨g,c,h1,b,aw _,k⟩
def NW(O:Ord N)(n c:Nat)(h9:0<n)(h3:0<c)(hn:n<=512)(h6:c*n<=400)(a:Nat->Nat)(T:Nat->H (Nat × Bs))(ha:∀i,i<n->a i<N)(hT:∀i,i<n->TOk N (T i))(hl:∀i,i<n->(T i).length=c)(va vb:Yq)(w:Yp)(h1:SLq Q w va n a)(h2:GLq Q w vb n T):
 Zl prog 139 #[va,vb] w (rZ w λe w'=>Sm w.heap.size w' e (eO N a T n)):=by
 obtain⟨g1,o1,c1,rfl,-,-,h5,hm⟩:=h1;obtain⟨b,f,c2,rfl,-,-,h7,h8⟩:=h2;have k:E (Ord N/\(∀i,i<n->a i<N)/\(∀i,i<n->TOk N (T i))/\(∀i,i<n->(T i).length=c)/\(∀j,j<n->w.rangeAt g1 (o1+4*j) (wn (a j)))/\(∀j,j<n->∃x,w.cell? ⟨b,f+j,G⟩=F x/\SmQ Q w x (T j))/\g1<w.heap.size/\b<w.heap.size/\0<c/\c*n<=400/\0<n):=⟨O,ha,hT,hl,hm,h8,h5,h7,h3,h6,h9⟩
 obtain⟨d,hq,he⟩:=Yu.1 u40;have HD:E (prog.underlying 49=F d/\d.isRow=J):=⟨hq,he⟩
 go_enter func139,ntmps139;go_wp2;go_loopg [5,10] n (λm s5 s10 W=>∃i:Nat,i+m=n/\s10=iZ i/\E (CbM w W s5 (eO N a T i)))
 case atStart=>exact⟨0,S,Z,⟨YH _ _,Y3 ⟨Z,Z⟩⟩⟩
 case round =>
  obtain⟨i,hw,rfl,KM⟩:=hrel;by_cases s:i<n
  .have hk:(i:Y)<(n:Y):=S;have K:=Hid.mk' s;have ht:=qU (k:=g1) (o:=o1) (n:=n) (c:=c1) (i:=i) s;obtain⟨t,r⟩:=hE (wr.heap.size);obtain⟨W1,C⟩:=hE (wr.alloc (.cells #[U 0,U 0,U 0,U 0] 49));obtain⟨W2,P⟩:=hE (W1.setCells t 0 (wn (a i)));have F1:E (yz W1 t [U 0,U 0,U 0,U 0]/\kZ wr W1):=by rw[<-C.out,<-r.out];exact⟨aF (w:=wr),aD (w:=wr) _⟩
   have F2:E (yz W2 t (wn (a i))/\CbM w W2 u5 (eO N a T i)):=by
    rw[<-P.out];exact⟨F1.1.put Z,KM.grow (RG.below_setCells (by rw[r.out];exact Ys _) _ _ _ F1.2)⟩
   obtain⟨va,h0⟩:=hE (Y8 (wn (a i)).toArray);have HO:E ((wn (a i)).toArray.all (·.oneCell')=J):=aM;go_wp2_with (first|(refine Zu Z 49 _ Z g1 (o1+4*i) ?_ (wn (a i)) d ?_ ?_ ?_ ?_ ?_;rfl;exact(mk1 (RG.range_below (k.2.2.2.2.1 i s) KM.bl k.2.2.2.2.2.2.1)).out;exact HD.1;exact HD.2;exact zy;rw[h0.out])|(refine bY (v:=jZ t) (w':=W1) Z (.alloc 49) Z ?_ ?_;(rw[<-C.out,<-r.out];kernel_rfl))|(refine ZJ Z 49 _ _ Z t 0 (wn (a i)).toArray ?_ ?_ ?_ ?_ ?_ ?_;rfl;exact h0.symm;exact F1.1.2.2;exact zy;exact HO.out;rw[show(wn (a i)).toArray.toList=wn (a i) from Z,P.out])|fail)
   obtain⟨x,hp,h4⟩:=k.2.2.2.2.2.1 i s;have HX:=mk2 hp h4;obtain⟨l,o⟩:=hE (eO N a T i);have M:eO N a T (i+1)=l++(T i).map (tmT N (a i)):=by rw[<-o.out];rfl
   have hr:l.length=c*i:=by rw[<-o.out];exact eW N (a:=a) i λj hj=>k.2.2.2.1 j S
   have hu:c*i+c<=c*n:=by have:=xv c (Nat.succ_le_of_lt s);rwa[ty]at this
   have X:E (l.length<=500/\(T i).length<=500/\0<(T i).length/\TOk N l):=⟨by have:=k.2.2.2.2.2.2.2.2.2.1;omega,by rw[k.2.2.2.1 i s];have:=k.2.2.2.2.2.2.2.2.2.1;omega,by rw[k.2.2.2.1 i s];exact k.2.2.2.2.2.2.2.2.1,by rw[<-o.out];exact qK k.1.pos i λj hj=>k.2.2.1 j S⟩
   have HE:E (eO N a T (i+1)=l++(T i).map (tmT N (a i))):=M;rw[o.out]at F2;refine(gwL [pE u5,pE (.iface 131 u5),pE (.slice (F ⟨b,f,G⟩) n c2),pE (iZ i),pE (.pointer (F ⟨b,f+1*i,G⟩)),pE x,pE (.iface 131 x),pE (nv (a i)),pM (w.heap.size<=·) ((T i).map (tmT N (a i))),pM (w.heap.size<=·) (l++(T i).map (tmT N (a i))),pM (w.heap.size<=·) (l++(T i).map (tmT N (a i)))] (λW=>CbM w W u5 l/\yz W t (wn (a i))) (λW W' A h=>⟨h.1.grow A,h.2.below A⟩)).draws kR kR ⟨
    RG.gO 5 u5,
    Nw 0 15 u5 (.iface 131 u5) (λx W h=>h) (λ_=>rfl),
    RG.gO 1 (.slice (F ⟨b,f,G⟩) n c2),
    RG.gO 6 (iZ i),
    Wo 2 17 3 18 (.slice (F ⟨b,f,G⟩) n c2) (iZ i) (d:=(.pointer (F ⟨b,f+1*i,G⟩))) (I:=(ZW 129 (.slice (F ⟨b,f,G⟩) n c2) (iZ i))) (atS b f (n:=n) c2 (i:=i) K.out) (λx W h=>h) (λx W h=>h) (λ_=>rfl),
    zZ (T:=131) 4 19 b (f+1*i) x Fu (λx W h=>h) (λW q=>by rw[px,q.1.bl.cell (p:=⟨b,f+i,G⟩) k.2.2.2.2.2.2.2.1];exact HX.1) (λ_=>rfl),
    Nw 5 20 x (.iface 131 x) (λx W h=>h) (λ_=>rfl),
    IY (T:=49) 7 t 0 (cs:=(wn (a i))) u40 zy Z (λW q=>q.2.2.1) (λ_=>rfl),
    RS 131 6 21 7 22 (pE x) 164 (λx W h=>⟨_,h,Z⟩) (λz y W hx L q=>by
     obtain rfl:z=x:=hx;obtain rfl:y=nv (a i):=L;refine(gW k.1 (k.2.1 i K.out) 0 z (T i) (by have:=X.2.1;omega) (k.2.2.1 i K.out).szm (k.2.2.1 i K.out).lt W (HX.2.sm.grow q.1.bl)).mono ?_;rintro e W' ⟨u,rfl,A,hs⟩;exact⟨_,Z,A,hs.q.mono λg V=>YA q.1.bl.size V⟩),
    RS 131 1 16 8 23 (pE u5) 65 (λx W h=>⟨_,h,Z⟩) (λz y W hx L q=>by
     obtain rfl:z=u5:=hx;have L:=L;refine(kE 0 z y l ((T i).map (tmT N (a i))) (by rw[Yx,YO];have:=X.2.2.1;omega) X.1 (by rw[YO];exact X.2.1) X.2.2.2.sz ((k.2.2.1 i K.out).tm k.1.pos (a i)).sz W (LS q.1.sm) (YZ L.sm)).mono ?_;rintro e W' ⟨u,rfl,A,hs⟩;exact⟨_,Z,A,hs.q.mono λg V=>YA q.1.bl.size V⟩),
    GQ 9 24 id (λx W h=>h),yw⟩ ⟨F2.2.drew,F2.1⟩ ?_
   intro V W3 hc L;have q:E (CbM w W3 (V 10) (eO N a T (i+1))):=⟨L.1.bl,YZ (by rw[HE.out];exact hc 10 (rn (Zh kR)))⟩
   dsimp only[dF,Zs];go_wp2;go_roundg (gk-1)
   case measure=>omega
   case rel=>exact⟨i+1,S,Z,q⟩
  .have hk:¬(i:Y)<(n:Y):=S;obtain rfl:i=n:=S;have q:E (kZ w wr/\Sm w.heap.size wr u5 (eO N a T i)):=⟨KM.bl,by
    rcases KM.sm with⟨-,h⟩|h
    .exfalso;have:=eW N (a:=a) i k.2.2.2.1;rw[h]at this;have h2:=yEc k.2.2.2.2.2.2.2.2.1 k.2.2.2.2.2.2.2.2.2.2;rw[<-this]at h2;exact absurd h2 (Nat.lt_irrefl _)
    .exact h⟩
   go_wp2;go_ret;exact⟨_,Z,q.1,q.2⟩
def rSc:yZ 49:=u40
def nSc:gZ 49 4:=zy
def Bf(N x y n:I)(a:I->I)(i:I):I:=sPl N (sTi N (a i) x) (sTi N (a (n+i)) y)
def So{a:I}(h:a+b<4611686018427387904)(w:Yp):(binOp .add 3 (iZ a) (iZ b)).run prog w=.ok (iZ ((a+b:I):Y)) w:=by
 have h1:(a:Y)+(b:Y)<4611686018427387904:=S;have c:-4611686018427387904<(a:Y)+(b:Y):=S;have k:YQ.wrap ((a:Y)+(b:Y))=((a+b:I):Y):=by rw[Zy];omega
 go_simp
def NE(O:Ord N)(n:I)(hn:n<=500)(a:I->I)(x y:I)(hx:x<N)(hy:y<N)(ha:∀i,i<n+n->a i<N)(va:Yq)(w:Yp)(h1:SLq Q w va (n+n) a):
 Zl prog 160 #[va,nv x,nv y] w (rZ w λe w'=>SLq (w.heap.size<=·) w' e n (Bf N x y n a)):=by
 obtain⟨g,o,c,rfl,-,-,hg,hr⟩:=h1;obtain⟨C0,T,t⟩:=Eo uS4 iS4 n S;refine hG w.heap.size λk4 s=>?_
 refine hG (w.alloc (.cells (wn x).toArray 49)) λw1 m=>?_
 refine hG w1.heap.size λk5 f=>?_
 refine hG (w1.alloc (.cells (wn y).toArray 49)) λV d=>?_
 refine hG V.heap.size λK hK=>?_
 refine hG (V.alloc (.cells C0.toArray 49)) λw3 b=>?_
 have B1:=boxS x w;have B2:=boxS y w1;have mk:=t V;rw[s.out,m.out]at B1;rw[f.out,d.out]at B2;rw[hK.out,b.out]at mk;have l:=mk1 (((Mp.start w).new s m).new f d);have F0:=mk1 (FiL.new (C:=λj=>wn (Bf N x y n a j)) hK b T);have h0:YQ.wrap (((n+n:I):Y).tdiv 2)=(n:Y):=by rw[sI S,Zy];omega
 have X:=mk2 ha hr;obtain⟨vx,p⟩:=hE (nv x);obtain⟨vy,r⟩:=hE (nv y);rw[p.out]at B1⊢;rw[r.out]at B2⊢;clear ha hr t T m d b s f;go_enter func160,ntmps160;refine PW.bg [] ?_;refine PW.ns B1 ?_;refine PW.ns B2 ?_;refine PW.en [.slice G 0 0] ?_;refine PW.bg [iZ ((n+n:I):Y),iZ (YQ.wrap (((n+n:I):Y).tdiv 2))] ?_;rw[h0];refine PW.ns mk ?_;refine PW.en [sZ K n n] ?_;refine Yt ?_;refine PW.rg [iZ n,iZ 0] ?_;refine ZR ?_;go_loopg [15] n (λgk s15 wr=>∃i:I,i+gk=n/\s15=iZ i/\E (FiL 4 V wr K n i λj=>wn (Bf N x y n a j)))
 case atStart=>exact⟨0,S,Z,F0⟩
 case round =>
  clear F0;obtain⟨i,h3,rfl,F⟩:=hrel;refine PW.rg [.bool (decide ((i:Y)<(n:Y)))] ?_;by_cases hi:i<n
  .have q:(i:Y)<(n:Y):=S;rw[decide_eq_true q];have h2:YQ.wrap ((i:Y)+1)=((i+1:I):Y):=by rw[Zy];omega
   have bl:=mk1 (l.out.bl.trans (F.out.bl.mono l.out.bl.size));have HT:=kF O (a i) x (X.out.1 i S) hx;have HU:=kF O (a (n+i)) y (X.out.1 (n+i) S) hy;have HP:=nP O (sTi N (a i) x) (sTi N (a (n+i)) y) (ZL _ O.pos) (ZL _ O.pos);rw[show sPl N (sTi N (a i) x) (sTi N (a (n+i)) y)=Bf N x y n a i from Z]at HP;obtain⟨va,M⟩:=hE (nv (a i));obtain⟨vb,A⟩:=hE (nv (a (n+i)));obtain⟨vt,z⟩:=hE (nv (sTi N (a i) x));obtain⟨vu,u⟩:=hE (nv (sTi N (a (n+i)) y));obtain⟨vr,v⟩:=hE (nv (Bf N x y n a i));rw[M.out,p.out,z.out]at HT;rw[A.out,r.out,u.out]at HU;rw[z.out,u.out,v.out]at HP;refine Yt ?_;refine Y5 Z ?_;refine ZK ?_;refine Yt ?_;refine ZR ?_;refine PW.rg [iZ i] ?_;refine AW.begin 22 22 ?_;refine AW.mv 0 ?_;refine AW.mv 1 ?_;refine AW.mv 2 ?_;refine AW.mv 3 ?_;refine AW.iv 4 (qU (k:=g) (o:=o) (n:=(n+n)) (c:=c) (i:=i) S) ?_;refine AW.ro 5 (λW k=>RG.range_below (X.out.2 i S) (bl.out.trans (k.mono bl.out.size)) hg) M rSc nSc ?_;refine AW.va 6 (.iface 49 va) ?_;refine AW.ro 7 (λW k=>(((l.out.at_ 0).below F.out.bl).below k).2.1) p rSc nSc ?_;refine AW.mv 10 ?_;refine AW.mv 11 ?_;refine AW.va 12 (iZ n) ?_;refine AW.mv 13 ?_;refine AW.iv 14 (So (a:=n) (b:=i) S) ?_;refine AW.iv 15 (qU (k:=g) (o:=o) (n:=(n+n)) (c:=c) (i:=(n+i)) S) ?_;refine AW.ro 16 (λW k=>RG.range_below (X.out.2 (n+i) S) (bl.out.trans (k.mono bl.out.size)) hg) A rSc nSc ?_;refine AW.va 17 (.iface 49 vb) ?_;refine AW.ro 18 (λW k=>(((l.out.at_ 1).below F.out.bl).below k).2.1) r rSc nSc ?_;refine AW.gi 8 (λ_=>HT _) λW1 _=>?_
   refine AW.va 9 (.iface 49 vt) ?_;refine AW.gi 19 (λ_=>HU _) λW2 _=>?_
   refine AW.gi 20 (λ_=>HP _) λW3 _=>?_
   refine AW.ns 21 (qU (k:=K) (o:=0) (n:=n) (c:=n) (i:=i) hi W3) (YH _ _) ?_;rw[Yv];refine AW.fi (us:=wn (Bf N x y n a i)) v aM zy (λk=>?_);obtain⟨W4,L⟩:=hE (W3.setCells K (4*i) (wn (Bf N x y n a i)));obtain⟨th,F4⟩:=(F.out.grow k).put hi Z (λ_ _=>rfl) L;have F5:=mk1 F4;rw[L.out];refine⟨th,?_⟩;clear F F4 k bl th;refine PW.bb [iZ (YQ.wrap ((i:Y)+1))] ?_;rw[h2];go_wp2;go_roundg (gk-1)
   case measure=>omega
   case rel=>exact⟨i+1,S,Z,F5⟩
  .have q:¬(i:Y)<(n:Y):=S;obtain rfl:i=n:=S;rw[decide_eq_false q];refine Yt ?_;refine YY Z ?_;refine fT ?_;refine PW.rg (P:=prog) [sZ K i i] ?_;refine Zr ?_;go_ret;refine⟨_,Z,l.out.bl.trans (F.out.bl.mono l.out.bl.size),K,0,i,Z,Ys _,YA l.out.bl.size F.out.kl,F.out.lt,λj k=>?_⟩;rw[Yv];exact F.out.at_ j k
section
section
variable {P:Zw}{ops:Array Y9}{Q:an->Act->Yp->Prop}{p r fuel k off:Nat}{J:Iv}{o:Y9}{listed:Array Bool}{a a':Act}{w:Yp}{u:Yq}{t:Tmp}{T:YW}{y:am}
def AW.f1(hv:u.cells=#[u]/\u.oneCell'=true)(f:(P.info? T).map (·.size)=F 1)(h:J.p w->w.there k off 1/\Q .normal a' (w.setCells k off [u]))(ho:ops[p]? = F o:=by(simp only[YV,YP,YS])<;>rfl)(hd:o.dst=G:=by rfl)(g:o.guard=G:=by rfl)(c:o.op=.store T (.tmp t) y:=by rfl)(hx:a.eval (.tmp t)=oZ k off:=by rfl)(j:a.eval y=u:=by rfl)
 (d:a.put G ae=a':=by(simp only[Zo])<;>rfl) (b:(Y6 .any ops listed,Y6 .any ops (listed.setIfInBounds p true),J.b,(listed.setIfInBounds p true).getD p false,(listed.setIfInBounds p true).getD r false)=([p],[],true,true,true):=by kernel_rfl):AW P ops Q p r J (fuel+1) listed a w:=λi=>by
 simp only[ZV.injEq]at b;let⟨h1,e⟩:=h i
 subst d;exact anyS.sto ho T (.tmp t) y c k off u hv.1 hv.2 h1 f (Y3 b.2.2) (anyS.done b.2.1 e _) hx j b.1 g hd
end
variable {P:Nat}[NeZero P]{N:Nat}
def NF(O:Ord N)(n:I)(hn:n<=500)(c:I)(hc:c<=200)(he:0<c)(a:I->H (I × Bs))(x y:I)(hx:x<N)(hy:y<N)(ha:∀i,i<n+n->TOk N (a i)/\(a i).length=c)(va:Yq)(w:Yp)(h1:GLq Q w va (n+n) a):
 Zl prog 217 #[va,nv x,nv y] w (rZ w λe w'=>GLq (w.heap.size<=·) w' e n (vK N x y n a)):=by
 obtain⟨g,o,c1,rfl,-,-,M,hr⟩:=h1;obtain⟨C0,h0,L⟩:=Eo uSu iSu n S;refine hG w.heap.size λk4 v=>?_
 refine hG (w.alloc (.cells (wn x).toArray 49)) λw1 m=>?_
 refine hG w1.heap.size λk5 f=>?_
 refine hG (w1.alloc (.cells (wn y).toArray 49)) λz d=>?_
 refine hG z.heap.size λK hK=>?_
 refine hG (z.alloc (.cells C0.toArray 131)) λw3 b=>?_
 have B1:=boxS x w;have B2:=boxS y w1;have mk:=L z;rw[v.out,m.out]at B1;rw[f.out,d.out]at B2;rw[hK.out,b.out]at mk;have l:=mk1 (((Mp.start w).new v m).new f d);have V:=FiL.new (C:=λ_=>[]) hK b h0;have F0:E (LsI z w3 K n 0 (vK N x y n a)):=⟨V.bl,V.lt,by have:=V.th;rwa[px]at this,V.kl,λj hj=>absurd hj (p9 _)⟩
 have h2:YQ.wrap (((n+n:I):Y).tdiv 2)=(n:Y):=by rw[sI S,Zy];omega
 have HX:=mk2 ha hr;obtain⟨vx,q⟩:=hE (nv x);obtain⟨vy,u⟩:=hE (nv y);rw[q.out]at B1⊢;rw[u.out]at B2⊢;clear ha hr L h0 m d b v f V;go_enter func217,ntmps217;refine PW.bg [] ?_;refine PW.ns B1 ?_;refine PW.ns B2 ?_;refine PW.en [.slice G 0 0] ?_;refine PW.bg [iZ ((n+n:I):Y),iZ (YQ.wrap (((n+n:I):Y).tdiv 2))] ?_;rw[h2];refine PW.ns mk ?_;refine PW.en [sZ K n n] ?_;refine Yt ?_;refine PW.rg [iZ n,iZ 0] ?_;refine ZR ?_;go_loopg [15] n (λgk s15 wr=>∃i:I,i+gk=n/\s15=iZ i/\E (LsI z wr K n i (vK N x y n a)))
 case atStart=>exact⟨0,S,Z,F0⟩
 case round =>
  clear F0;obtain⟨i,hk,rfl,F⟩:=hrel;refine PW.rg [.bool (decide ((i:Y)<(n:Y)))] ?_;by_cases hi:i<n
  .have r:(i:Y)<(n:Y):=S;rw[decide_eq_true r];have h4:YQ.wrap ((i:Y)+1)=((i+1:I):Y):=by rw[Zy];omega
   have bl:=mk1 (l.out.bl.trans (F.out.bl.mono l.out.bl.size));obtain⟨x1,h9,h8⟩:=HX.out.2 i S;obtain⟨x2,h5,h7⟩:=HX.out.2 (n+i) S;have A:=HX.out.1 i S;have T:=HX.out.1 (n+i) S;have HT:=mk1 (λ(W:Yp) (hB:kZ w W)=>gW O hx 0 x1 (a i) (by rw[A.2];omega) A.1.szm A.1.lt W (h8.sm.grow hB));have HU:=mk1 (λ(W:Yp) (hB:kZ w W)=>gW O hy 0 x2 (a (n+i)) (by rw[T.2];omega) T.1.szm T.1.lt W (h7.sm.grow hB));rw[q.out]at HT;rw[u.out]at HU;have l1:((a i).map (tmT N x)).length=c:=by rw[YO];exact A.2
   have l2:((a (n+i)).map (tmT N y)).length=c:=by rw[YO];exact T.2
   refine Yt ?_;refine Y5 Z ?_;refine ZK ?_;refine Yt ?_;refine ZR ?_;refine PW.rg [iZ i] ?_;refine AW.begin 22 22 ?_;refine AW.mv 0 ?_;refine AW.mv 1 ?_;refine AW.mv 2 ?_;refine AW.mv 3 ?_;refine AW.iv 4 (atS g o (n:=(n+n)) c1 (i:=i) S) ?_;rw[px];refine AW.ce 5 Fu (λW k=>((bl.out.trans (k.mono bl.out.size)).cell (p:=⟨g,o+i,G⟩) M).trans h9) ?_;refine AW.va 6 (.iface 131 x1) ?_;refine AW.ro 7 (λW k=>(((l.out.at_ 0).below F.out.bl).below k).2.1) q rSc nSc ?_;refine AW.mv 10 ?_;refine AW.mv 11 ?_;refine AW.va 12 (iZ n) ?_;refine AW.mv 13 ?_;refine AW.iv 14 (So (a:=n) (b:=i) S) ?_;refine AW.iv 15 (atS g o (n:=(n+n)) c1 (i:=(n+i)) S) ?_;rw[px];refine AW.ce 16 Fu (λW k=>((bl.out.trans (k.mono bl.out.size)).cell (p:=⟨g,o+(n+i),G⟩) M).trans h5) ?_;refine AW.va 17 (.iface 131 x2) ?_;refine AW.ro 18 (λW k=>(((l.out.at_ 1).below F.out.bl).below k).2.1) u rSc nSc ?_;refine AW.ca 8 (λk=>HT.out _ (bl.out.trans (yFw k bl.out.size))) (λe w' h=>h.1) ?_;rintro y1 W1 ⟨X,s1⟩;have s1:Sm _ W1 y1 ((a i).map (tmT N x)):=s1;refine AW.va 9 (.iface 131 y1) ?_;refine AW.ca 19 (λk=>HU.out _ (bl.out.trans (yFw k bl.out.size))) (λe w' h=>h.1) ?_;rintro y2 W2 ⟨s,s2⟩;have s2:Sm _ W2 y2 ((a (n+i)).map (tmT N y)):=s2;refine AW.ca 20 (λ_=>kE 0 y1 y2 _ _ (by rw[Yx];omega) S S (mk1 (A.1.tm O.pos x)).out.sz (mk1 (T.1.tm O.pos y)).out.sz W2 (YZ (s1.q.sm.grow s)) (YZ s2.q.sm)) (λe w' h=>h.1) ?_;rintro y3 W3 ⟨h3,s3⟩;have s3:Sm W2.heap.size W3 y3 (vK N x y n a i):=s3;refine AW.ns 21 (atS K 0 (n:=n) n (i:=i) hi W3) (YH _ _) ?_;rw[Yv,px];have bb:SmQ (λg=>z.heap.size<=g/\g≠K) W3 y3 (vK N x y n a i):=s3.q.mono λg M=>by
    have h1:wr.heap.size<=W1.heap.size:=X.size;have:=s.size;have:=F.out.lt;have:=F.out.bl.size;omega
   refine AW.f1 s3.q.one Wm (λk=>?_);have F3:=F.out.grow k;have F4:=F3.put hi bb;obtain⟨W4,h6⟩:=hE (W3.setCells K i [y3]);rw[h6.out]at F4⊢;have F5:=mk1 F4;refine⟨λt ht=>?_,?_⟩
   .obtain rfl:t=0:=S;have:=F3.th i hi;rwa[Yv]at this
   clear F F4 F3 k bl bb s1 s2 s3 X s h3 HT HU;refine PW.bb [iZ (YQ.wrap ((i:Y)+1))] ?_;rw[h4];go_wp2;go_roundg (gk-1)
   case measure=>omega
   case rel=>exact⟨i+1,S,Z,F5⟩
  .have r:¬(i:Y)<(n:Y):=S;obtain rfl:i=n:=S;rw[decide_eq_false r];refine Yt ?_;refine YY Z ?_;refine fT ?_;refine PW.rg (P:=prog) [sZ K i i] ?_;refine Zr ?_;go_ret;exact⟨_,Z,l.out.bl.trans (F.out.bl.mono l.out.bl.size),F.out.gl.mono λg M=>YA l.out.bl.size M⟩
end
structure GOk(N n c:I)(G H:I->LB)(U:LB):Prop where
 n0:0<n
 c0:0<c
 cn:c*n<=64
 g:∀i,i<n->TOk N (G i)/\(G i).length=c
 h:∀i,i<n->TOk N (H i)/\(H i).length=c
 u:TOk N U
 u0:0<U.length
 u9:U.length<=16
def GOk.nle{n:I}{G H:I->LB}{U:LB}(h:GOk N n c G H U):n<=64:=by
 have h1:=h.cn;have:=te n h.c0;omega
def GOk.cle{n:I}{G H:I->LB}{U:LB}(h:GOk N n c G H U):c<=64:=by
 have h1:=h.cn;have:=xv c h.n0;omega
def UQ{b c k:Yq}:(ZM 133 (.agg #[b,c,k])).run prog w=.ok (jZ w.heap.size) (w.alloc (.cells #[b,c,k] 133)):=kR
def uGL:wZ 129:=wQ
def Es(O:Ord N)(n c:I)(G H:I->LB)(U:LB)(hG:GOk N n c G H U)(a b:I->I)(ha:∀i,i<n->a i<N)(j:∀i,i<n->b i<N)(v va p:Yq)(w:Yp)(h0:GRq Q w v n G H U)(h1:SLq Q w va n a)(h2:SLq Q w p n b):
 dZ 66 #[v,va,p] w λe w'=>Sm w.heap.size w' e (eO N a G n++eO N b H n):=by
 obtain⟨l,m,K,rfl,h3,h4,-⟩:=h0.ex;have A:=λ(W:Yp) (d:kZ w W)=>NW O n c hG.n0 hG.c0 (oN hG.nle) (oN hG.cn) a G ha (λi f=>(hG.g i f).1) (λi f=>(hG.g i f).2) va l W (h1.keep (Kq.of_below d)) (h3.keep (Kq.of_below d))
 have C:=λ(W:Yp) (d:kZ w W)=>NW O n c hG.n0 hG.c0 (oN hG.nle) (oN hG.cn) b H j (λi f=>(hG.h i f).1) (λi f=>(hG.h i f).2) p m W (h2.keep (Kq.of_below d)) (h4.keep (Kq.of_below d))
 have l1:(eO N a G n).length=c*n:=eW N n λi f=>(hG.g i f).2
 have l2:(eO N b H n).length=c*n:=eW N n λi f=>(hG.h i f).2
 have t1:TOk N (eO N a G n):=qK O.pos n λi f=>(hG.g i f).1
 have t2:TOk N (eO N b H n):=qK O.pos n λi f=>(hG.h i f).1
 have h5:=yEc hG.c0 hG.n0;have h6:=hG.cn;generalize eO N a G n=t at A l1 t1⊢;generalize eO N b H n=lb at C l2 t2⊢;have P:=λ(W:Yp) (u z:Yq) (hu:Sm 0 W u t) (hz:Sm 0 W z lb)=>kE 0 u z t lb (by rw[Yx];omega) S S t1.sz t2.sz W (YZ hu) (YZ hz)
 have M:=Hid.mk' (qh A (qh C P));let⟨L,s⟩:=hE (w.alloc (.cells #[l,m,K] 133))
 let⟨k,T⟩:=hE w.heap.size
 have X:E (yz L k [l,m,K]/\kZ w L):=by rw[<-s.out,<-T.out];exact⟨aF,aD _⟩
 let⟨v0,r⟩:=hE (Y8 #[l,m,K])
 have B1:E ((ZM 133 v0).run prog w=.ok (jZ k) L):=r.out▸s.out▸T.out▸UQ;rw[r.out];go_enter func66,ntmps66;go_wp2_with (first|(refine aG (u:=v0) (v:=jZ k) (w':=L) Z 133 (.tmp 0) Z ?_ ?_ ?_;rfl;exact B1)|fail)
 refine(gwL [pE va,pE (jZ k),pE l,pM (w.heap.size<=·) t,pE p,pE (oZ k 1),pE m,pM (w.heap.size<=·) lb,pM (w.heap.size<=·) (t++lb),pM (w.heap.size<=·) (t++lb)] (λW=>yz W k [l,m,K]/\kZ w W) (λW W' j h=>⟨h.1.below j,h.2.trans (j.mono h.2.size)⟩)).draws kR kR ⟨
  RG.gO 1 va,
  RG.gO 3 (jZ k),
  zZ 1 8 k 0 l uGL (λx W h=>h) (λW d=>d.1.2.1 0 _ Z) (λ_=>rfl),
  jJ 0 7 2 9 139 (λx y=>#[x,y]) (λx y W hx o d=>by
   obtain rfl:x=va:=hx;obtain rfl:y=l:=o;apply(M.1 W d.2).mono;rintro e W' ⟨u,rfl,j,hs⟩;exact⟨_,Z,j,hs.q.mono λg q=>YA d.2.size q⟩),
  RG.gO 2 p,
  gP 3 (jZ k) (oZ k 1),
  zZ 5 12 k 1 m uGL (λx W h=>h) (λW d=>d.1.2.1 1 _ Z) (λ_=>rfl),
  jJ 4 11 6 13 139 (λx y=>#[x,y]) (λx y W hx o d=>by
   obtain rfl:x=p:=hx;obtain rfl:y=m:=o;apply(M.2.1 W d.2).mono;rintro e W' ⟨u,rfl,j,hs⟩;exact⟨_,Z,j,hs.q.mono λg q=>YA d.2.size q⟩),
  jJ 3 10 7 14 65 (λx y=>#[x,y]) (λx y W hx o d=>by
   have hx:=hx;have o:=o;apply(M.2.2 W x y hx.sm o.sm).mono;rintro e W' ⟨u,rfl,j,hs⟩;exact⟨_,Z,j,hs.q.mono λg q=>YA d.2.size q⟩),
  GQ 8 15 id (λx W h=>h),yw⟩ ⟨X.1,X.2.drew⟩ ?_
 intro V o hR d;dsimp only[dF,Zs];simp only[Zo,Yw,Yy,Yz];go_wp2;go_ret;exact⟨_,Z,(mk1 (d.2)).out,(mk1 (hR 9 (rn (Zh kR)))).out⟩
def Qm(O:Ord N)(n c:I)(G H:I->List (I × Bs))(U:List (I × Bs))(hG:GOk N n c G H U)(a b:I->I)(ha:∀i,i<n->a i<N)(f:∀i,i<n->b i<N)(v va m:Yq)(w:Yp)(h0:GRq Q w v n G H U)(h1:SLq Q w va n a)(h2:SLq Q w m n b):
 Zl prog 158 #[v,va,m] w (rZ w λe w'=>Sm w.heap.size w' e (Nu N a b (prS N a b n) G H U n)):=by
 have A:=λ(W:Yp) (d:kZ w W)=>Es O n c G H U hG a b ha f v va m W (h0.keep (Kq.of_below d)) (h1.keep (Kq.of_below d)) (h2.keep (Kq.of_below d))
 have L:=λ(W:Yp) (d:kZ w W)=>Hb O n (by have:=hG.nle;omega) a b ha f va m W (h1.keep (Kq.of_below d)) (h2.keep (Kq.of_below d))
 obtain⟨q,r,j,rfl,-,-,h5⟩:=h0.ex;have t1:TOk N (eO N a G n):=qK O.pos n λi s=>(hG.g i s).1
 have t2:TOk N (eO N b H n):=qK O.pos n λi s=>(hG.h i s).1
 have h4:=yEc hG.c0 hG.n0;have h6:=hG.cn;unfold Nu;have pl:=Cy O.pos (a:=a) (b:=b) n;have t3:=hG.u.tm O.pos (prS N a b n);have l3:(U.map (tmT N (prS N a b n))).length<=16:=by rw[YO];exact hG.u9
 generalize prS N a b n=p at L pl t3 l3⊢;have K:=λ(W:Yp) (d:kZ w W)=>gW O pl 0 j U (by have:=hG.u9;omega) hG.u.szm hG.u.lt W (h5.sm.grow d)
 generalize U.map (tmT N p)=t at K t3 l3⊢;have t4:=t1.app t2;have l4:(eO N a G n++eO N b H n).length=c*n+c*n:=by rw[Yx,(eW N (a:=a) n λi s=>(hG.g i s).2),(eW N (a:=b) n λi s=>(hG.h i s).2)]
 generalize eO N a G n++eO N b H n=l at A t4 l4⊢;have h3:=λ(W:Yp) (u z:Yq) (hu:Sm 0 W u l) (hz:Sm 0 W z t)=>kE 0 u z l t (by rw[Yx];omega) S S t4.sz t3.sz W (YZ hu) (YZ hz)
 have X:=Hid.mk' (qh A (qh L (qh K h3)));obtain⟨T,P⟩:=hE (w.alloc (.cells #[q,r,j] 133));obtain⟨k,hk⟩:=hE (w.heap.size);have K1:E (yz T k [q,r,j]/\kZ w T):=by rw[<-P.out,<-hk.out];exact⟨aF (w:=w),aD (w:=w) _⟩
 obtain⟨v0,M⟩:=hE (Y8 #[q,r,j]);have B1:E ((ZM 133 v0).run prog w=.ok (jZ k) T):=by rw[<-M.out,<-P.out,<-hk.out];exact UQ
 rw[M.out];go_enter func158,ntmps158;go_wp2_with (first|(refine aG (u:=v0) (v:=jZ k) (w':=T) Z 133 (.tmp 0) Z ?_ ?_ ?_;rfl;exact B1.out)|fail)
 refine(gwL [pE (.agg #[q,r,j]),pE va,pE m,pM (w.heap.size<=·) l,pE (oZ k 2),pE j,pE va,pE m,pE (nv p),pM (w.heap.size<=·) t,pM (w.heap.size<=·) (l++t),pM (w.heap.size<=·) (l++t)] (λW=>yz W k [q,r,j]/\kZ w W) (λW W' f h=>⟨h.1.below f,h.2.trans (f.mono h.2.size)⟩)).draws kR kR ⟨
  IY (T:=133) 3 k 0 (cs:=[q,r,j]) uGr iGr Z (λW d=>d.1.2.1) (λ_=>rfl),
  RG.gO 1 va,
  RG.gO 2 m,
  Nx 0 7 1 8 2 9 66 (λx y z=>#[x,y,z]) (λx y z W hx o hz d=>by
   obtain rfl:x=.agg #[q,r,j]:=hx;obtain rfl:y=va:=o;obtain rfl:z=m:=hz;refine(X.1 W d.2).mono ?_;rintro e W' ⟨u,rfl,f,hs⟩;exact⟨_,Z,f,hs.q.mono λg C=>YA d.2.size C⟩),
  gP 3 (jZ k) (oZ k 2),
  zZ (T:=131) 4 11 k 2 j Fu (λx W h=>h) (λW d=>d.1.2.1 2 _ Z) (λ_=>rfl),
  RG.gO 1 va,
  RG.gO 2 m,
  jJ 6 13 7 14 78 (λx y=>#[x,y]) (λx y W hx o d=>by
   obtain rfl:x=va:=hx;obtain rfl:y=m:=o;refine(X.2.1 W d.2).mono ?_;rintro e W' ⟨u,rfl,f,rfl⟩;exact⟨_,Z,f,Z⟩),
  jJ 5 12 8 15 164 (λx y=>#[x,y]) (λx y W hx o d=>by
   obtain rfl:x=j:=hx;obtain rfl:y=nv p:=o;refine(X.2.2.1 W d.2).mono ?_;rintro e W' ⟨u,rfl,f,hs⟩;exact⟨_,Z,f,hs.q.mono λg C=>YA d.2.size C⟩),
  jJ 3 10 9 16 65 (λx y=>#[x,y]) (λx y W hx o d=>by
   have hx:=hx;have o:=o;refine(X.2.2.2 W x y hx.sm o.sm).mono ?_;rintro e W' ⟨u,rfl,f,hs⟩;exact⟨_,Z,f,hs.q.mono λg C=>YA d.2.size C⟩),
  GQ 10 17 id (λx W h=>h),yw⟩ ⟨K1.1,K1.2.drew⟩ ?_
 intro V w2 hR d;have o:=mk1 (hR 11 (rn (Zh kR)));have C:=mk1 (d.2);dsimp only[dF,Zs];simp only[Zo,Yw,Yy,Yz];go_wp2;go_ret;exact⟨_,Z,C.out,o.out⟩
section
abbrev Iv.mp(w:Yp)(rs:H (I × H Yq))(S:H Pq)(b:zk):Iv:=⟨λW=>Mp w W rs S,λ_ _ k h=>h.grow k,b⟩
def hQr{α:Sort _}{x:α}:E (x=x):=rfl
def nq{n:I}:E (Y8 (wn n).toArray=nv n):=rfl
def aq{c:H Yq}:E (Y8 c.toArray=.agg c.toArray):=rfl
section
variable {P:Zw}{ops:Array Y9}{rest:List Y9}{op:Y9}{a a':Act}{w W:Yp}{Q:an->Act->Yp->Prop}{d:Option Tmp}{x v:Yq}{t:Tmp}{rs:List (Nat × List Yq)}{S:List Pq}{k:Nat}{cs:List Yq}
def PM.nw(T:YW)(c:H Yq)(x:I->Yq)(K:Hid (Mp w W rs S)){F:I->H (I × H Yq)}{G:I->Act}(h:∀k W',Hid (Mp w W' (F k) S)->wpList P ops Q rest (G k) W')(hd:op.dst=d:=by rfl)(i:op.guard=none:=by rfl)(g:(Za a.eval op).run P W=.ok (.value (x W.heap.size)) (W.alloc (.cells c.toArray T)):=by kernel_rfl)(e:∀k,rs++[(k,c)]=F k:=by intro _;(simp only[ZI,ZQ])<;>rfl)(b:∀k,a.put d (x k)=G k:=by intro _;(simp only[Zo,Yw,Yy,Yz])<;>rfl):wpList P ops Q (op :: rest) a W:=by
 subst hd;exact gH i λj f=>by
  rw[ZY,g];refine f _ _ ?_;rw[b];exact h _ _ (K.new (c:=c) (T:=T) hQr hQr (e _))
def PM.al(T:YW)(c:H Yq)(K:Hid (Mp w W rs S)){F:I->H (I × H Yq)}{G:I->Act}(h:∀k W',Hid (Mp w W' (F k) S)->wpList P ops Q rest (G k) W')(hd:op.dst=d:=by rfl)(g:op.guard=none:=by rfl)(f:(Za a.eval op).run P W=.ok (.value (jZ W.heap.size)) (W.alloc (.cells c.toArray T)):=by kernel_rfl)(e:∀k,rs++[(k,c)]=F k:=by intro _;(simp only[ZI,ZQ])<;>rfl)(b:∀k,a.put d (jZ k)=G k:=by intro _;(simp only[Zo,Yw,Yy,Yz])<;>rfl):wpList P ops Q (op :: rest) a W:=
 PM.nw T c (λk=>jZ k) K h hd g f e b
def PM.st(i:I)(us:H Yq)(K:Hid (Mp w W rs S))(hv:Hid (.agg us.toArray=v)){b:H (I × H Yq)}(h:∀W',Hid (Mp w W' b S)->wpList P ops Q rest a' W')(d:rs[i]? = F (k,cs):=by rfl)(hl:us.length=cs.length:=by rfl)(hd:op.dst=G:=by rfl)(c:op.guard=G:=by rfl)(ho:op.op=.store T (.tmp t) y:=by rfl)(hx:a.eval (.tmp t)=jZ k:=by rfl)(f:a.eval y=v:=by rfl)(hT:(P.info? T).map (·.size)=F us.length:=by kernel_rfl)(h1:us.toArray.all (·.oneCell')=J:=by kernel_rfl)(e:rs.set i (k,us)=b:=by(simp only[Yy,Yz])<;>rfl)(g:a.put G ae=a':=by(simp only[Zo])<;>rfl):wpList P ops Q (op :: rest) a W:=
 PW.st hQr hv (K.th i d hl) hT h1 (h _ (K.put i hQr d hl e)) hd c ho hx f g
def PM.ro(i:I)(K:Hid (Mp w W rs S))(hv:Hid (.agg cs.toArray=v))(h:wpList P ops Q rest a' W)(f:rs[i]? = F (k,cs):=by rfl)(hd:op.dst=d:=by rfl)(b:op.guard=G:=by rfl)(ho:op.op=.load T (.tmp t):=by rfl)(hx:a.eval (.tmp t)=jZ k:=by rfl)(e:(P.underlying T).map (·.isRow)=F J:=by kernel_rfl)(hT:(P.info? T).map (·.size)=F cs.length:=by kernel_rfl)(c:a.put d v=a':=by(simp only[Zo,Yw,Yy,Yz])<;>rfl):wpList P ops Q (op :: rest) a W:=
 PW.ro (K.at_ i f).2.1 hv e hT h hd b ho hx c
def PM.ce(i o:I)(K:Hid (Mp w W rs S))(h:wpList P ops Q rest a' W)(g:rs[i]? = F (k,cs):=by rfl)(e:cs[o]? = F v:=by rfl)(hd:op.dst=d:=by rfl)(b:op.guard=G:=by rfl)(ho:op.op=.load T (.tmp t):=by rfl)(hx:a.eval (.tmp t)=oZ k o:=by rfl)(f:(P.underlying T).map (·.isRow)=F false:=by kernel_rfl)(c:a.put d v=a':=by(simp only[Zo,Yw,Yy,Yz])<;>rfl):wpList P ops Q (op :: rest) a W:=
 PW.ce (by have:=(K.at_ i g).2.1 o v e;rwa[Yv]at this) f h hd b ho hx c
def PM.gi{args:yt Yq}(K:Hid (Mp w W rs S))(b:Zl P f args W (rZ W λe w'=>e=x))(h:∀W',Hid (Mp w W' rs S)->wpList P ops Q rest a' W')(hd:op.dst=d:=by rfl)(c:op.guard=G:=by rfl)(hx:(Za a.eval op).run P W=.ok (.enter f args) W:=by kernel_rfl)(k:a.put d x=a':=by(simp only[Zo,Yw,Yy,Yz])<;>rfl):wpList P ops Q (op :: rest) a W:=
 PW.gi b (λW' g=>h W' (K.grow g)) hd c hx k
def PM.ca{args:yt Yq}{R:Yq->Yp->Prop}{F:Yq->Act}(K:Hid (Mp w W rs S))(k:Zl P f args W (rZ W λe w'=>R e w'))(h:∀e W',kZ W W'->R e W'->Hid (Mp w W' rs S)->wpList P ops Q rest (F e) W')(hd:op.dst=d:=by rfl)(b:op.guard=G:=by rfl)(hx:(Za a.eval op).run P W=.ok (.enter f args) W:=by kernel_rfl)(hf:∀e,a.put d e=F e:=by intro _;(simp only[Zo,Yw,Yy,Yz])<;>rfl):wpList P ops Q (op :: rest) a W:=
 PW.ca k (λe W' hR=>h e W' hR.1 hR.2 (K.grow hR.1)) hd b hx hf
end
section
variable {P:Zw}{ops:Array Y9}{Q:an->Act->Yp->Prop}{p r i fuel:Nat}{o:Y9}{listed:Array Bool}{a a':Act}{w0 w W:Yp}{d:Option Tmp}{x v:Yq}{t:Tmp}{T:YW}{b:Nat}{cs:List Yq}{rs rs':List (Nat × List Yq)}{S:List Pq}{c:Code}
def AM.bb{id:I}(p r:I)(K:Hid (Mp w W rs S))(h:AW P ops Q p r (Iv.mp w rs S J) ops.size (YD ops.size false) a W.drew)(k:P.follows .mixedOrders=J:=by kernel_rfl):(ZP id ops J).wp P Q a W:=AW.beg p r K.drew h k
def AM.bg{id:I}(p r:I)(K:Hid (Mp w W rs S))(h:AW P ops (Exit.then (c.wp P Q) Q) p r (Iv.mp w rs S J) ops.size (YD ops.size false) a W.drew)(k:P.follows .mixedOrders=J:=by kernel_rfl):((ZP id ops J).seq c).wp P Q a W:=Yt (AM.bb p r K h k)
def AM.ro{bb:zk}(i j:I)(hv:Hid (.agg cs.toArray=x))(h:AW P ops Q p r (Iv.mp w0 rs S bb) fuel (listed.setIfInBounds i J) a' w)(l:rs[j]? = F (b,cs):=by rfl)(ho:ops[i]? = F o:=by(simp only[YV,YP,YS])<;>rfl)(hd:o.dst=d:=by rfl)(f:o.guard=G:=by rfl)(k:o.op=.load T (.tmp t):=by rfl)(hx:a.eval (.tmp t)=jZ b:=by rfl)(e:(P.underlying T).map (·.isRow)=F J:=by kernel_rfl)(hT:(P.info? T).map (·.size)=F cs.length:=by kernel_rfl)
 (m:a.put d x=a':=by(simp only[Zo,Yw,Yy,Yz])<;>rfl) (g:aw1 ops p r (qw ops bb p r i) i listed=J:=by kernel_rfl) (n:∀c a w,Q (.panic c) (a.put o.dst x) w->Q (.panic c) a w:=by exact λ_ _ _ h=>h):AW P ops Q p r (Iv.mp w0 rs S bb) (fuel+1) listed a w:=
 AW.ro i (λW (h:Mp w0 W rs S)=>(h.at_ j l).2.1) hv e hT h ho hd f k hx m g n
def AM.ce{bb:zk}(i j off:I)(h:AW P ops Q p r (Iv.mp w0 rs S bb) fuel (listed.setIfInBounds i J) a' w)(l:rs[j]? = F (b,cs):=by rfl)(n:cs[off]? = F x:=by rfl)(ho:ops[i]? = F o:=by(simp only[YV,YP,YS])<;>rfl)(hd:o.dst=d:=by rfl)(f:o.guard=G:=by rfl)(k:o.op=.load T (.tmp t):=by rfl)(hx:a.eval (.tmp t)=oZ b off:=by rfl)(e:(P.underlying T).map (·.isRow)=F false:=by kernel_rfl)
 (m:a.put d x=a':=by(simp only[Zo,Yw,Yy,Yz])<;>rfl) (g:aw1 ops p r (qw ops bb p r i) i listed=J:=by kernel_rfl) (q:∀c a w,Q (.panic c) (a.put o.dst x) w->Q (.panic c) a w:=by exact λ_ _ _ h=>h):AW P ops Q p r (Iv.mp w0 rs S bb) (fuel+1) listed a w:=
 AW.ce i e (λW (h:Mp w0 W rs S)=>by have:=(h.at_ j l).2.1 off x n;rwa[Yv]at this) h ho hd f k hx m g q
def AM.fi(j:I)(hv:Hid (.agg us.toArray=v))(h:∀W,Hid (Mp w0 W rs' S)->Q .normal a' W)(c:rs[j]? = F (b,cs):=by rfl)(ho:ops[p]? = F o:=by(simp only[YV,YP,YS])<;>rfl)(hd:o.dst=G:=by rfl)(d:o.guard=G:=by rfl)(k:o.op=.store T (.tmp t) y:=by rfl)(hx:a.eval (.tmp t)=jZ b:=by rfl)(g:a.eval y=v:=by rfl)(hl:us.length=cs.length:=by kernel_rfl)(hT:(P.info? T).map (·.size)=F us.length:=by kernel_rfl)(h1:us.toArray.all (·.oneCell')=J:=by kernel_rfl)(e:rs.set j (b,us)=rs':=by(simp only[Yy,Yz])<;>rfl)
 (i:a.put G ae=a':=by(simp only[Zo])<;>rfl) (f:(Y6 .any ops listed,Y6 .any ops (listed.setIfInBounds p J),J,(listed.setIfInBounds p J).getD p false,(listed.setIfInBounds p J).getD r false)=([p],[],J,J,J):=by kernel_rfl):AW P ops Q p r (Iv.mp w0 rs S J) (fuel+1) listed a w:=
 AW.fi hv h1 hT (λ(K:Mp w0 w rs S)=>⟨K.th j c hl,h _ (K.put j hQr c hl e)⟩) ho hd d k hx g i f
end
end
def rL{P:Zw}{m:Func}(t i:Tmp)(o:m.results=#[.cell t T,.cell i e])(h:yz W k vs)(p:yz W c us)(q:tmps[t]? = F (jZ k))(l:tmps[i]? = F (jZ c))(g:(P.underlying T).map (·.isRow)=F J)(v:(P.info? T).map (·.size)=F vs.length)(b:(P.underlying e).map (·.isRow)=F J)(j:(P.info? e).map (·.size)=F us.length):(results m tmps).run P W=.ok (.tuple #[.agg vs.toArray,.agg us.toArray]) W:=by
 let⟨d,g,hd⟩:=Yu.1 g
 let⟨r,b,f⟩:=Yu.1 b
 have h1:=oX (P:=P) W k 0 T vs d h.2.1 g hd v;have s:=oX (P:=P) W c 0 e us r p.2.1 b f j;have u:tmps.getD t ae=jZ k:=by rw[YG,q];rfl
 have n:tmps.getD i ae=jZ c:=by rw[YG,l];rfl
 rw[results,o];simp only[yt.mapM_eq_mapM_toList,H.mapM_cons,H.mapM_nil,u,n,asAddr];simp[YU,h1,s]
section
variable {P:Zw}{ops:Array Y9}{rest:List Y9}{op:Y9}{a:Act}{w w':Yp}{v:Yq}{Q:an->Act->Yp->Prop}
def JC(k:op.guard=G)(T:YW)(t:Tmp)(_:op.op=.alloc T)(_:op.dst=F t)(c:(Za a.eval op).run P w=.ok (.value v) w')(h:wpList P ops Q rest (a.put op.dst v) w'):wpList P ops Q (op :: rest) a w:=
 gH k λK b=>by
  rw[ZY,c];exact b _ _ h
end
def Js(g o j:I):(⟨g,o,G⟩:ai).add j=⟨g,o+j,G⟩:=by
 unfold oB;by_cases k:j=0
 .subst k;rw[zd Z];rfl
 rw[zi k]
def LV{o n:I}(d:k<=c)(w:Yp):(gS 129 (qZ b o n c) G (F (iZ k)) G).run prog w=.ok (qZ b o k c) w:=by
 have h1:¬(k:Y)<0:=S;have e:(k:Y)<=(c:Y):=S;go_simp
def LU{n:I}(b o k:I)(d:k<n)(f:n<=c)(w:Yp):(gS 129 (qZ b o n c) (F (iZ k)) G G).run prog w=.ok (qZ b (o+k) (n-k) (c-k)) w:=by
 have h1:¬(k:Y)<0:=S;have i:(k:Y)<=(n:Y):=S;have g:¬c=k:=S;have e:=Js b o (1*k);rw[px]at e;go_simp
def FS(b o n c k:I)(d:k<=c)(w:Yp):(gS 124 (qZ b o n c) G (F (iZ k)) G).run prog w=.ok (qZ b o k c) w:=by
 have h1:¬(k:Y)<0:=S;have e:(k:Y)<=(c:Y):=S;go_simp
def FO{n:I}(b o k:I)(d:k<n)(f:n<=c)(w:Yp):(gS 124 (qZ b o n c) (F (iZ k)) G G).run prog w=.ok (qZ b (o+k*4) (n-k) (c-k)) w:=by
 have h1:¬(k:Y)<0:=S;have i:(k:Y)<=(n:Y):=S;have g:¬c=k:=S;have e:=Js b o (k*4);rw[Ze]at e;rw[Ze k 4];go_simp
def GLq.high{o n:I}{T:I->LB}(h:GLq Q W (qZ g o (n+n) c) (n+n) T):GLq Q W (qZ g (o+n) n (c-n)) n (λi=>T (n+i)):=by
 let⟨p,m,c',e,h1,l,d,b⟩:=h
 injection e with e1 e2 e3
 injection e1 with e1
 injection e1 with e1 e4
 subst e1 e3 e4;refine⟨g,o+n,c-n,Z,S,l,d,λj q=>?_⟩;let⟨x,k,f⟩:=b (n+j) S
 exact⟨x,by rw[oz];exact k,f⟩
def GLq.low{o n:I}{T:I->LB}(h:GLq Q W (qZ g o (n+n) c) (n+n) T):GLq Q W (qZ g o n c) n T:=by
 let⟨i,f,c',e,h1,d,k,b⟩:=h
 injection e with e1 e2 e3
 injection e1 with e1
 injection e1 with e1 e4
 subst e1 e3 e4;exact⟨g,o,c,Z,S,d,k,λj l=>b j S⟩
def SLq.high{o n:I}{T:I->I}(h:SLq Q W (qZ g o (n+n) c) (n+n) T):SLq Q W (qZ g (o+n*4) n (c-n)) n (λi=>T (n+i)):=by
 let⟨l,f,c',e,h1,d,b,k⟩:=h
 injection e with e1 e2 e3
 injection e1 with e1
 injection e1 with e1 e4
 subst e1 e3 e4;refine⟨g,o+n*4,c-n,Z,S,d,b,λj m=>?_⟩;have:=k (n+j) S;rw[show o+4*(n+j)=o+n*4+4*j by omega]at this;exact this
def SLq.low{o n:I}{T:I->I}(h:SLq Q W (qZ g o (n+n) c) (n+n) T):SLq Q W (qZ g o n c) n T:=by
 let⟨i,f,c',e,h1,d,k,b⟩:=h
 injection e with e1 e2 e3
 injection e1 with e1
 injection e1 with e1 e4
 subst e1 e3 e4;exact⟨g,o,c,Z,S,d,k,λj l=>b j S⟩
def CrR(Q:I->Prop)(w:Yp)(n:I)(G H:I->LB)(U:LB)(e:Yq)(w':Yp):Prop:=kZ w w'/\∃b k,e=.tuple #[.agg b,.agg k]/\b.size=3/\k.size=3/\b.all (·.oneCell')=J/\k.all (·.oneCell')=J/\GRq Q w' (.agg b) n (λi=>G (n+i)) H U/\GRq Q w' (.agg k) n G (λi=>H (n+i)) U
def Kx(n:I)(K:0<n)(X:n<=500)(G H:I->LB)(U:LB)(v:Yq)(w:Yp)(z:GRq Q w v (n+n) G H U):
 cZ 157 #[v] w (Ret (CrR Q w n G H U)):=by
 obtain⟨vg,vh,vu,rfl,s,p,t⟩:=z.ex;obtain⟨c,b,c1,rfl,y,-⟩:=id s;obtain⟨e,d,c2,rfl,u,-⟩:=id p;obtain⟨f,g,rfl,-⟩:=id t;have i:=mk5 s.high p.low s.low p.high t;have o:=LU c b (n:=(n+n)) (c:=c1) n S y;have m:=LU e d (n:=(n+n)) (c:=c2) n S u;rw[xq]at o m;have eq:YQ.wrap (((n+n:I):Y).tdiv 2)=(n:Y):=by rw[show((n+n:I):Y).tdiv 2=(n:Y) by rw[sI S];omega,Zy];omega
 clear z s p t;go_enter func157,ntmps157;refine PW.bg [] ?_;refine PM.al 133 [qZ c b (n+n) c1,qZ e d (n+n) c2,sZ f U.length g] (mk1 (Mp.start w)) λk w1 N=>?_
 refine PM.al 133 [nZ,nZ,nZ] N λa w2 T=>?_
 refine PM.al 133 [nZ,nZ,nZ] T λA V r=>?_
 refine PW.dn ?_;refine PW.bg [jZ k] ?_;refine PM.ce 0 0 r ?_;refine PW.en [iZ ((n+n:I):Y),iZ (YQ.wrap (((n+n:I):Y).tdiv 2)),iZ (YQ.wrap (((n+n:I):Y).tdiv 2))] ?_;rw[eq];refine Yt (P:=prog) ?_;refine AW.beg 23 23 (J:=⟨λW=>∃cs,Mp w W [(k,[qZ c b (n+n) c1,qZ e d (n+n) c2,sZ f U.length g]),(a,cs),(A,[nZ,nZ,nZ])] [],λ_ _ M ⟨_,h⟩=>⟨_,h.grow M⟩,true⟩) ⟨_,r.out.drew⟩ ?_;refine AW.va 0 (jZ k) ?_;refine AW.ce 1 uGL (λW ⟨_,h⟩=>(h.at_ 0).2.1 0 _ Z) ?_;refine AW.mv 2 ?_;refine AW.iv 3 o ?_;refine AW.va 4 (oZ k 1) ?_;refine AW.ce 5 uGL (λW ⟨_,h⟩=>(h.at_ 0).2.1 1 _ Z) ?_;refine AW.mv 6 ?_;refine AW.iv 7 (LV (b:=e) (o:=d) (n:=(n+n)) (c:=c2) (k:=n) S) ?_;refine AW.va 8 (oZ k 2) ?_;refine AW.ce 9 Fu (λW ⟨_,h⟩=>(h.at_ 0).2.1 2 _ Z) ?_;refine AW.va 10 (.agg #[qZ c (b+n) n (c1-n),qZ e d n c2,sZ f U.length g]) ?_;refine AW.va 11 (jZ k) ?_;refine AW.ce 12 uGL (λW ⟨_,h⟩=>(h.at_ 0).2.1 0 _ Z) ?_;refine AW.mv 13 ?_;refine AW.iv 14 (LV (b:=c) (o:=b) (n:=(n+n)) (c:=c1) (k:=n) S) ?_;refine AW.va 15 (oZ k 1) ?_;refine AW.ce 16 uGL (λW ⟨_,h⟩=>(h.at_ 0).2.1 1 _ Z) ?_;refine AW.mv 17 ?_;refine AW.iv 18 m ?_;refine AW.va 19 (oZ k 2) ?_;refine AW.ce 20 Fu (λW ⟨_,h⟩=>(h.at_ 0).2.1 2 _ Z) ?_;refine AW.va 21 (.agg #[qZ c b n c1,qZ e (d+n) n (c2-n),sZ f U.length g]) ?_;obtain⟨C,j⟩:=hE (V.drew.setCells a 0 [qZ c (b+n) n (c1-n),qZ e d n c2,sZ f U.length g]);have x:=mk1 (r.out.drew.put 1 j);obtain⟨L,l⟩:=hE (C.setCells A 0 [qZ c b n c1,qZ e (d+n) n (c2-n),sZ f U.length g]);have q:=mk1 (x.out.put 2 l);refine AW.ss 22 aq kR iGr j (λ_=>⟨r.out.drew.th 1,_,x.out⟩) ?_;refine AW.fi (us:=[qZ c b n c1,qZ e (d+n) n (c2-n),sZ f U.length g]) aq kR iGr (λ_=>⟨x.out.th 2,?_⟩);rw[l.out];refine Zr ?_;have O:=q.out.at_ 1;have r2:=q.out.at_ 2;refine YB (rL 2 3 (T:=133) (e:=133) Z O r2 Z Z uGr iGr uGr iGr) Z ?_;have kq:∀ {Q:I->Prop},Kq Q w L:=Kq.of_below q.out.bl;exact⟨_,Z,q.out.bl,_,_,Z,Z,Z,kR,kR,⟨_,_,_,Z,i.1.keep kq,i.2.1.keep kq,i.2.2.2.2.keep kq⟩,⟨_,_,_,Z,i.2.2.1.keep kq,i.2.2.2.1.keep kq,i.2.2.2.2.keep kq⟩⟩
def GRq.ar{v:Yq}{n:I}{G H:I->LB}{U:LB}(h:GRq Q W v n G H U):∃e:yt Yq,v=.agg e/\e.size=3/\e.all (·.oneCell')=J:=by
 obtain⟨c,d,g,rfl,⟨l,k,c1,rfl,-⟩,⟨i,b,c2,rfl,-⟩,⟨f,j,rfl,-⟩⟩:=h.ex;exact⟨_,Z,Z,kR⟩
def Qw(O:Ord N)(n c:I)(h2:0<n)(G H:I->List (I × Bs))(U:List (I × Bs))(hG:GOk N (n+n) c G H U)(x:I)(hx:x<N)(v:Yq)(w:Yp)(hQ:∀g,w.heap.size<=g->Q g)(P:GRq Q w v (n+n) G H U):
 Zl prog 161 #[v,nv x] w (rZ w λe w'=>GRq Q w' e n (vK N (sIn N x) x n G) (vK N x (sIn N x) n H) U):=by
 obtain⟨vg,vh,vu,rfl,h3,T,z⟩:=P.ex;have l:sIn N x<N:=ZL _ O.pos;have f:=λW=>Cq O x hx W
 have d:=λ(W:Yp) (C:kZ w W)=>NF O n (by have:=hG.nle;omega) c (by have:=hG.cle;omega) hG.c0 G (sIn N x) x l hx hG.g vg W (h3.keep (Kq.of_below C))
 have b:=λ(W:Yp) (C:kZ w W)=>NF O n (by have:=hG.nle;omega) c (by have:=hG.cle;omega) hG.c0 H x (sIn N x) hx l hG.h vh W (T.keep (Kq.of_below C))
 generalize vK N (sIn N x) x n G=G' at d⊢;generalize vK N x (sIn N x) n H=H' at b⊢;generalize sIn N x=xi at f d b;obtain⟨o,q,rfl,-⟩:=id z;have K:=mk3 f d b;have L:=mk2 z hQ;clear P h3 T z f d b hQ hG;go_enter func161,ntmps161;refine PW.bg [] ?_;refine PM.al 133 [vg,vh,sZ o U.length q] (mk1 (Mp.start w)) λa w1 K1=>?_
 refine PM.al 49 (wn x) K1 λk2 w2 K2=>?_
 refine PM.al 133 [.slice none 0 0,.slice none 0 0,.slice none 0 0] K2 λX w3 K3=>?_
 refine PW.dn ?_;refine PW.bg [] ?_;refine PM.ro 1 K3 nq ?_;refine PM.gi K3 (K.1 w3) λw4 K4=>?_
 refine PM.al 49 (RG.z 4) K4 λk4 w5 K5=>?_
 refine PM.st 3 (wn xi) K5 nq λu s=>?_
 refine PW.dn ?_;refine AM.bg 13 13 s ?_;refine AW.va 0 (jZ a) ?_;refine AM.ce 1 0 0 ?_;refine AM.ro 2 3 nq ?_;refine AM.ro 3 1 nq ?_;refine AW.va 5 (oZ a 1) ?_;refine AM.ce 6 0 1 ?_;refine AM.ro 7 1 nq ?_;refine AM.ro 8 3 nq ?_;refine AW.va 10 (oZ a 2) ?_;refine AM.ce 11 0 2 ?_;refine AW.ca 4 (λA=>K.2.1 _ A.bl) (λe w' h=>h.1) ?_;rintro e1 w7 ⟨j,V⟩;refine AW.ca 9 (λA=>K.2.2 _ A.bl) (λe w' h=>h.1) ?_;rintro e2 w8 ⟨m,h8⟩;have K8:=mk1 ((mk1 (s.out.drew.grow j)).out.grow m);have l3:X<u.heap.size:=(s.out.at_ 2).1;have s6:w.heap.size<=u.heap.size:=s.out.bl.size;have s7:u.heap.size<=w7.heap.size:=j.size;obtain⟨ga,p,ca,rfl,-⟩:=id V;obtain⟨t,y,cb,rfl,-⟩:=id h8;refine AW.va 12 (.agg #[.slice (F ⟨ga,p,none⟩) n ca,.slice (F ⟨t,y,none⟩) n cb,sZ o U.length q]) ?_;obtain⟨w9,k⟩:=hE (w8.setCells X 0 [.slice (F ⟨ga,p,none⟩) n ca,.slice (F ⟨t,y,none⟩) n cb,sZ o U.length q]);have M:=mk1 (K8.out.put 2 k);refine AW.fi (us:=[.slice (F ⟨ga,p,none⟩) n ca,.slice (F ⟨t,y,none⟩) n cb,sZ o U.length q]) aq kR iGr (λ_=>⟨K8.out.th 2,?_⟩);rw[k.out];refine Zr ?_;have r:=M.out.at_ 2;refine YB (aC 4 (T:=133) Z r Z uGr iGr) Z ?_;have f2:GLq (u.heap.size<=·) w9 (.slice (F ⟨ga,p,none⟩) n ca) n G':=by rw[<-k.out];exact(V.keep (Kq.of_below m)).keep (Kq.set λg i=>cW (Yr l3 i))
 have f3:GLq (w7.heap.size<=·) w9 (.slice (F ⟨t,y,none⟩) n cb) n H':=by rw[<-k.out];exact h8.keep (Kq.set λg i=>cW (Yr (Yr l3 s7) i))
 exact⟨_,Z,M.out.bl,⟨_,_,_,Z,f2.mono λg i=>L.2 g (YA s6 i),f3.mono λg i=>L.2 g (YA s6 (YA s7 i)),L.1.keep (Kq.of_below M.out.bl)⟩⟩
def lgV(r:I):Yq:=.agg #[jZ r]
def uLg:yZ 145:=yQ
def iLg:gZ 145 1:=gQ
def uLp:wZ 141:=wQ
def WR(r:I)(w:Yp):(ZM 145 (lgV r)).run prog w=.ok (jZ w.heap.size) (w.alloc (.cells #[jZ r] 145)):=kR
def iK{o:I}{L:Bs}(h:hZ W r 0 L)(k:r≠K):hZ (W.setCells K o vs) r 0 L:=λj b=>by
 have e:=aL K vs o W r k;rw[Y1 (a:=⟨r,0+j,G⟩) e,ZZ (a:=⟨r,0+j,G⟩) e];exact h j b
def J3(k:R)(w:Yp)(b:k.size<=1048576):dZ 144 #[.string k] w λe w'=>∃r,e=lgV r/\w.heap.size<=r/\r<w'.heap.size/\hZ w' r 0 (newL k.data.toList):=by
 obtain⟨L,s⟩:=hE (newL k.data.toList);rw[s.out];obtain⟨p,i⟩:=hE (w.alloc (.cells #[.pointer G] 145));have m:E (yz p w.heap.size [.pointer G]/\kZ w p):=by rw[<-i.out];exact⟨aF,aD _⟩
 go_enter func144,ntmps144;go_wp2_with fail
 rw[i.out];refine(JJ k p b).mono ?_;rintro e q ⟨u,rfl,c,r,rfl,n,o,f⟩;rw[s.out]at f;have t:=Yr m.1.1 n;have g:=mk4 (m.1.below c) (m.2.trans (c.mono m.2.size)) f o;obtain⟨j,d⟩:=hE (q.setCells w.heap.size 0 [jZ r]);have l:E (yz j w.heap.size [jZ r]/\kZ w j/\hZ j r 0 L/\r<j.heap.size):=by
  rw[<-d.out];exact⟨g.1.put Z,RG.below_setCells (Ys _) _ _ _ g.2.1,iK g.2.2.1 S,by rw[setCells_size];exact g.2.2.2⟩
 go_wp2_with (refine bY (v:=.agg #[jZ r]) (w':=q) Z (.build 145 _) Z ?_ ?_;kernel_rfl;refine ru ?_)
 show wpList _ _ _ _ _ _;refine ZJ Z 145 _ _ Z w.heap.size 0 #[jZ r] ?_ ?_ ?_ ?_ ?_ ?_
 .kernel_rfl
 .kernel_rfl
 .exact g.1.2.2
 .exact iLg
 .kernel_rfl
 rw[show(#[jZ r]).toList=[jZ r] from Z,d.out];go_wp2;refine YB (aC 2 Z l.1 Z uLg iLg) Z ?_;exact⟨_,Z,l.2.1,r,Z,S,l.2.2.2,l.2.2.1⟩
def Ba(O:Ord N)(r:I)(L:Bs)(w:Yp)(x:hZ w r 0 L)(hl:L.size=32):
 cZ 209 #[.agg #[jZ r]] w (Ret λe w'=>SP.Only r 0 32 w w'/\hZ w' r 0 (aN L)/\e=nv (cha N L)):=by
 have t:=Holds.lt x S;obtain⟨b,k⟩:=yH ((w.alloc (.cells #[jZ r] 143)).alloc (.cells #[U 0,U 0,U 0,U 0] 49));have p:E (yz b (w.heap.size+1) [U 0,U 0,U 0,U 0]/\kZ w b/\hZ b r 0 L/\b.rangeAt w.heap.size 0 [jZ r]):=by
  rw[<-k.out];have c:kZ w ((w.alloc (.cells #[jZ r] 143)).alloc (.cells #[U 0,U 0,U 0,U 0] 49)):=(aD _).alloc (by rw[YE];omega) _;have hR:=aF (w:=(w.alloc (.cells #[jZ r] 143))) (c:=[U 0,U 0,U 0,U 0]) (T:=49);rw[YE]at hR;exact⟨hR,c,Holds.below x c t,((aF).alloc _).2.1⟩
 clear x;obtain⟨d,n,j⟩:=Yu.1 u124;have C:E (prog.underlying 143=F d/\d.isRow=J):=⟨n,j⟩
 clear n j;have A:=FT O r L ⟨#[99,104,97,108,108,101,110,103,101]⟩ b dC p.2.2.1 hl;have f:mG N (wY L (⟨#[99,104,97,108,108,101,110,103,101]⟩:R).data.toList 64)=cha N L:=rfl;have g:mX L (⟨#[99,104,97,108,108,101,110,103,101]⟩:R).data.toList=aN L:=rfl;rw[f,g]at A;have q:(aN L).size=32:=aW;have z:=Hid.mk' A;obtain⟨m,y⟩:=hE (cha N L);obtain⟨L',c⟩:=hE (aN L);rw[y.out,c.out]at z;rw[c.out]at q;rw[y.out,c.out];go_enter func209,ntmps209;go_wp2_with (refine Zu Z 143 _ Z w.heap.size 0 ?_ [jZ r] d ?_ ?_ ?_ ?_ ?_;kernel_rfl;(rw[k.out];exact p.2.2.2);exact C.1;exact C.2;exact i124;rw[k.out])
 refine z.mono ?_;rintro e M ⟨v,rfl,a,K,rfl⟩;have P:=Holds.lt K S;have o:=mk3 (p.1.only a S) ((SP.Only.of_below p.2.1 Z t).trans a) K;obtain⟨s,l⟩:=hE (M.setCells (w.heap.size+1) 0 (wn m));have u:E (yz s (w.heap.size+1) (wn m)/\SP.Only r 0 32 w s/\hZ s r 0 L'):=by rw[<-l.out];exact⟨o.1.put Z,bX o.2.1 t S,iK o.2.2 S⟩
 obtain⟨Q,i⟩:=hE (nv m);rw[i.out];go_wp2_with (refine ZJ Z 49 _ _ Z (w.heap.size+1) 0 (wn m).toArray ?_ ?_ ?_ ?_ ?_ ?_;rfl;exact i.symm;exact o.1.2.2;exact zy;exact aM;rw[show(wn m).toArray.toList=wn m from Z,l.out])
 refine YB (aC 2 Z u.1 Z u40 zy) Z ?_;exact⟨_,Z,u.2.1,u.2.2,Z⟩
def chS(N:I)(L:Bs):I:=jG (cha N L)
def Da{L:Bs}[NeZero N](h1:1<N)(b:cha N L<N):chS N L=(rW N L).val:=by
 unfold chS rW VX jG;generalize cha N L=c at b;have hv:(ofF N c).val=c:=YL b;by_cases k:c=0
 .subst k;rw[zd Z,zd MS];exact(YL h1).symm
 rw[zi k,zi (λe=>k (by rw[<-hv,e];exact yFo N)),hv]
def AA(O:Ord N)(r:I)(L:Bs)(w:Yp)(C:hZ w r 0 L)(hl:L.size=32):
 cZ 147 #[lgV r] w (Ret λe w'=>SP.Only r 0 32 w w'/\hZ w' r 0 (aN L)/\e=nv (chS N L)):=by
 have x:=Holds.lt C S;obtain⟨b,f⟩:=yH ((w.alloc (.cells #[jZ r] 145)).alloc (.cells #[U 0,U 0,U 0,U 0] 49));have s:E (yz b (w.heap.size+1) [U 0,U 0,U 0,U 0]/\kZ w b/\hZ b r 0 L/\b.rangeAt w.heap.size 0 [jZ r]):=by
  rw[<-f.out];have k:kZ w ((w.alloc (.cells #[jZ r] 145)).alloc (.cells #[U 0,U 0,U 0,U 0] 49)):=(aD _).alloc (by rw[YE];omega) _;have hR:=aF (w:=(w.alloc (.cells #[jZ r] 145))) (c:=[U 0,U 0,U 0,U 0]) (T:=49);rw[YE]at hR;exact⟨hR,k,Holds.below C k x,((aF).alloc _).2.1⟩
 clear C;obtain⟨d,l,i⟩:=Yu.1 u124;have T:E (prog.underlying 143=F d/\d.isRow=J):=⟨l,i⟩
 clear l i;have y:cha N L<N:=pO O;have o:=λW=>P5 O y W
 have z:jG (cha N L)=chS N L:=rfl;rw[z]at o;have t:(aN L).size=32:=aW;obtain⟨m,M⟩:=hE (cha N L);obtain⟨q,V⟩:=hE (chS N L);obtain⟨L',k⟩:=hE (aN L);have P:=Hid.mk' (Ba O r L b s.2.2.1 hl);have K:=Hid.mk' o;rw[M.out,k.out]at P;rw[M.out,V.out]at K;rw[k.out]at t;rw[V.out,k.out];unfold lgV;go_enter func147,ntmps147;go_wp2_with (refine Zu Z 143 _ Z w.heap.size 0 ?_ [jZ r] d ?_ ?_ ?_ ?_ ?_;kernel_rfl;(rw[f.out];exact s.2.2.2);exact T.1;exact T.2;exact i124;rw[f.out])
 refine P.mono ?_;rintro e w4 ⟨v,rfl,Q,X,rfl⟩;have n:=Holds.lt X S;have A:=mk3 (s.1.only Q S) ((SP.Only.of_below s.2.1 Z x).trans Q) X;go_wp2_with fail
 refine(K w4).mono ?_;rintro e w6 ⟨v6,rfl,c,rfl⟩;have p:=mk3 (A.1.below c) (A.2.1.trans (SP.Only.of_below c Z n)) (Holds.below A.2.2 c n);obtain⟨u,j⟩:=hE (w6.setCells (w.heap.size+1) 0 (wn q));have a:E (yz u (w.heap.size+1) (wn q)/\SP.Only r 0 32 w u/\hZ u r 0 L'):=by rw[<-j.out];exact⟨p.1.put Z,bX p.2.1 x S,iK p.2.2 S⟩
 obtain⟨vm,g⟩:=hE (nv q);rw[g.out];go_wp2_with (refine ZJ Z 49 _ _ Z (w.heap.size+1) 0 (wn q).toArray ?_ ?_ ?_ ?_ ?_ ?_;rfl;exact g.symm;exact p.1.2.2;exact zy;exact aM;rw[show(wn q).toArray.toList=wn q from Z,j.out])
 refine YB (aC 2 Z a.1 Z u40 zy) Z ?_;exact⟨_,Z,a.2.1,a.2.2,Z⟩
structure CaI(w W:Yp)(k r:I)(X Y L:Bs):Prop where
 on:SP.Only r 0 32 w W
 r0:yz W k [jZ r]
 r1:yz W (k+1) (aA X)
 r2:yz W (k+2) (aA Y)
 r3:yz W (k+3) [U 0,U 0,U 0,U 0]
 lg:hZ W r 0 L
def CaI.grow{X Y L:Bs}(h:CaI w W k r X Y L)(hl:L.size=32)(b:kZ W W'):CaI w W' k r X Y L:=
 have c:=Holds.lt h.lg S
 ⟨h.on.trans (SP.Only.of_below b Z c),h.r0.below b,h.r1.below b,h.r2.below b,h.r3.below b,Holds.below h.lg b c⟩
def CaI.say{X Y L L':Bs}(h:CaI w W k r X Y L)(d:r<k)(b:SP.Only r 0 32 W W')(c:hZ W' r 0 L'):CaI w W' k r X Y L':=
 ⟨h.on.trans b,h.r0.only b S,h.r1.only b S,h.r2.only b S,h.r3.only b S,c⟩
def vN(O:Ord N)(r:I)(L X Y:Bs)(l1 l2:R)(h1:l1.size<=1048576)(h2:l2.size<=1048576)(hX:X.size=33)(hY:Y.size=33)(w:Yp)(hL:hZ w r 0 L)(hl:L.size=32):
 cZ 146 #[lgV r,.string l1,pvl X,.string l2,pvl Y] w (Ret λe w'=>SP.Only r 0 32 w w'/\hZ w' r 0 (aN (jR l1.data.toList l2.data.toList L X Y))/\e=nv (chS N (jR l1.data.toList l2.data.toList L X Y))):=by
 have hr:=Holds.lt hL S;obtain⟨M,a⟩:=yH (iF L l1.data.toList X.toList);have s1:M.size=32:=by rw[<-a.out];exact bV
 obtain⟨y,C⟩:=yH (iF M l2.data.toList Y.toList);have s2:y.size=32:=by rw[<-C.out];exact bV
 have e2:jR l1.data.toList l2.data.toList L X Y=y:=by unfold jR;rw[a.out,C.out]
 rw[e2];obtain⟨k,T⟩:=yH w.heap.size;obtain⟨c,n⟩:=yH (w.alloc (.cells #[jZ r] 145));obtain⟨b,j⟩:=yH (c.alloc (.cells (aA X).toArray 103));obtain⟨f,i⟩:=yH (b.alloc (.cells (aA Y).toArray 103));obtain⟨P,A⟩:=yH (f.alloc (.cells #[U 0,U 0,U 0,U 0] 49));have z1:c.heap.size=k+1:=by rw[<-n.out,YE,T.out]
 have z2:b.heap.size=k+2:=by rw[<-j.out,YE,z1]
 have z3:f.heap.size=k+3:=by rw[<-i.out,YE,z2]
 have Q:r<k:=by rw[<-T.out];exact hr
 have HK:E (w.heap.size<=k):=by show _<=_;rw[T.out];exact Ys _
 have K4:E (CaI w P k r X Y L):=by
  have b1:kZ w c:=by rw[<-n.out];exact aD _
  have g:kZ c b:=by rw[<-j.out];exact aD _
  have o:kZ b f:=by rw[<-i.out];exact aD _
  have l:kZ f P:=by rw[<-A.out];exact aD _
  have p:yz c k [jZ r]:=by rw[<-n.out,<-T.out];exact aF (w:=w)
  have r2:yz b (k+1) (aA X):=by rw[<-j.out,<-z1];exact aF (w:=c)
  have t:yz f (k+2) (aA Y):=by rw[<-i.out,<-z2];exact aF (w:=b)
  have s:yz P (k+3) [U 0,U 0,U 0,U 0]:=by rw[<-A.out,<-z3];exact aF (w:=f)
  have bb:kZ w P:=((b1.trans (g.mono b1.size)).trans (o.mono (YA b1.size g.size))).trans (l.mono (YA b1.size (YA g.size o.size)));exact⟨SP.Only.of_below bb Z hr,((p.below g).below o).below l,(r2.below o).below l,t.below l,s,Holds.below hL bb hr⟩
 obtain⟨vl,h6⟩:=yH (lgV r);obtain⟨vX,h3⟩:=yH (pvl X);obtain⟨vY,h7⟩:=yH (pvl Y);have B1:E ((ZM 145 vl).run prog w=.ok (jZ k) c):=by rw[<-h6.out,<-n.out,<-T.out];exact WR r w
 have B2:E ((ZM 103 vX).run prog c=.ok (jZ (k+1)) b):=by rw[<-h3.out,<-j.out,<-z1];exact AP hX c
 have B3:E ((ZM 103 vY).run prog b=.ok (jZ (k+2)) f):=by rw[<-h7.out,<-i.out,<-z2];exact AP hY b
 have HZ:E (f.heap.size=k+3):=z3;rw[h6.out,h3.out,h7.out];have HC:E (Ord N/\l1.size<=1048576/\l2.size<=1048576/\X.size=33/\Y.size=33):=⟨O,h1,h2,hX,hY⟩
 clear hL z1 z2 z3 n j i T e2 O h1 h2 hX hY;go_enter func146,ntmps146;go_wp2_with (first|(refine aG (u:=vl) (v:=jZ k) (w':=c) Z 145 (.tmp 0) Z ?_ ?_ ?_;rfl;exact B1.out)|(refine aG (u:=vX) (v:=jZ (k+1)) (w':=b) Z 103 (.tmp 2) Z ?_ ?_ ?_;rfl;exact B2.out)|(refine aG (u:=vY) (v:=jZ (k+2)) (w':=f) Z 103 (.tmp 4) Z ?_ ?_ ?_;rfl;exact B3.out)|(refine JC (v:=jZ (k+3)) (w':=P) Z 49 10 Z Z ?_ ?_;(rw[<-A.out,<-HZ.out];kernel_rfl))|fail)
 refine(gwL [pE (jZ k),pE (jZ k),pE (jZ r),pE (.string l1),pE (sZ (k+1) 33 33)] (λW=>CaI w W k r X Y L) (λW W' hb h=>h.grow hl hb)).tail2 5 kR kR kR ⟨
  RG.gO 5 (jZ k),
  Nw 0 11 (jZ k) (jZ k) (λx W h=>h) (λ_=>rfl),
  zZ (T:=141) 1 12 k 0 (jZ r) uLp (λx W h=>h) (λW s=>s.r0.2.1 0 _ Z) (λ_=>rfl),
  RG.gO 1 (.string l1),
  gP 7 (jZ (k+1)) (sZ (k+1) 33 33),yw⟩ (K4.grow hl ⟨Z,Z,Z,Ys _,λ_ _=>rfl⟩) ?_
 intro V w5 hR s;have g:V 2=jZ r:=hR 2 dC;have o:V 3=.string l1:=hR 3 dC;have l:V 4=sZ (k+1) 33 33:=hR 4 dC;dsimp only[dF,Zs,gD,qg];simp only[Zo,Yw,Yy,Yz];rw[g,o,l];have t:=Hid.mk' s;clear hR s g o l K4;generalize V 0=s0;generalize V 1=hc;go_wp2_with fail
 refine(Dl r L l1 (F ⟨k+1,0,G⟩) 33 33 X.toList w5 HC.2.1 (SU t.lg) hl (yO HC.2.2.2.1 t.r1)).mono ?_;rintro e w6 ⟨rfl,z,p⟩;rw[a.out]at p;have K6:E (CaI w w6 k r X Y M):=t.say Q z (SS p);clear z p t;go_wp2_with fail
 refine(gwL [pE (jZ k),pE (jZ k),pE (jZ r),pE (.string l2),pE (sZ (k+2) 33 33)] (λW=>CaI w W k r X Y M) (λW W' hb h=>h.grow s1 hb)).tail2 5 kR kR kR ⟨
  RG.gO 5 (jZ k),
  Nw 0 17 (jZ k) (jZ k) (λx W h=>h) (λ_=>rfl),
  zZ (T:=141) 1 18 k 0 (jZ r) uLp (λx W h=>h) (λW s=>s.r0.2.1 0 _ Z) (λ_=>rfl),
  RG.gO 3 (.string l2),
  gP 9 (jZ (k+2)) (sZ (k+2) 33 33),yw⟩ (K6.grow s1 ⟨Z,Z,Z,Ys _,λ_ _=>rfl⟩) ?_
 intro V w7 hR s;have g:V 2=jZ r:=hR 2 dC;have o:V 3=.string l2:=hR 3 dC;have l:V 4=sZ (k+2) 33 33:=hR 4 dC;dsimp only[dF,Zs,gD,qg];simp only[Zo,Yw,Yy,Yz];rw[g,o,l];have t:=Hid.mk' s;clear hR s g o l K6;generalize V 0=ha;generalize V 1=s3;go_wp2_with fail
 refine(Dl r M l2 (F ⟨k+2,0,G⟩) 33 33 Y.toList w7 HC.2.2.1 (SU t.lg) s1 (yO HC.2.2.2.2 t.r2)).mono ?_;rintro e w8 ⟨rfl,z,p⟩;rw[C.out]at p;have K8:E (CaI w w8 k r X Y y):=t.say Q z (SS p);clear z p t;have HS:=Hid.mk' (AA HC.1 r y w8 K8.lg s2);have h9:(aN y).size=32:=aW;obtain⟨q,hq⟩:=yH (chS N y);obtain⟨L3,K⟩:=yH (aN y);rw[hq.out,K.out]at HS;rw[K.out]at h9;obtain⟨d,h8,h5⟩:=Yu.1 uLg;have HD:E (prog.underlying 145=F d/\d.isRow=J):=⟨h8,h5⟩
 clear h8 h5;go_wp2_with (first|(refine Zu Z 145 (.tmp 5) Z k 0 ?_ [jZ r] d ?_ ?_ ?_ ?_ ?_;rfl;exact K8.r0.2.1;exact HD.1;exact HD.2;exact iLg;skip)|fail)
 refine HS.mono ?_;rintro e w9 ⟨v,rfl,z,p,rfl⟩;have K9:E (CaI w w9 k r X Y L3):=K8.say Q z p;clear z p K8 HS;obtain⟨wa,h0⟩:=yH (w9.setCells (k+3) 0 (wn q));have KA:E (yz wa (k+3) (wn q)/\SP.Only r 0 32 w wa/\hZ wa r 0 L3):=by
  have he:=HZ.out;rw[<-h0.out];exact⟨K9.r3.put Z,bX K9.on hr (oN HK.out),iK K9.lg S⟩
 obtain⟨vm,h4⟩:=yH (nv q);rw[h4.out];go_wp2_with (refine ZJ Z 49 _ _ Z (k+3) 0 (wn q).toArray ?_ ?_ ?_ ?_ ?_ ?_;rfl;exact h4.symm;exact K9.r3.2.2;exact nSc;exact aM (n:=q);rw[show(wn q).toArray.toList=wn q from Z,h0.out])
 refine YB (aC 10 (T:=49) Z KA.1 Z rSc nSc) Z ?_;exact⟨_,Z,KA.2.1,by rw[K.out];exact KA.2.2,by rw[hq.out];rfl⟩
def yA:prog.underlying 24=F (.slice 23):=kR
def GM:(prog.info? 23).map (λi=>(i.size,i.bytes,i.zero.map λz=>z.cells.size))=F (1,24,F 1):=kR
def oW(g o j:I):(⟨g,o,G⟩:ai).add j=⟨g,o+j,G⟩:=by
 unfold oB;by_cases k:j=0
 .subst k;rw[zd Z];rfl
 rw[zi k]
structure VL(w:Yp)(q:zb ai)(m:I)(ys:H Yq):Prop where
 len:ys.length=m
 nil:q=G->m=0
 cells:ys=[]\/∃b o,q=F ⟨b,o,G⟩/\b<w.heap.size/\∀(j:I) u,ys[j]? = F u->w.cell? ⟨b,o+j,G⟩=F u
 one:∀u∈ys,u.oneCell'=J
def VL.below{q:zb ai}(h:VL w q m ys)(c:Below w.heap.size w w'):VL w' q m ys:=
 ⟨h.len,h.nil,by
  rcases h.cells with d|⟨b,o,h1,k,e⟩
  .exact Y3 d
  exact YZ ⟨b,o,h1,Yr k c.size,λj u f=>by rw[c.cell (p:=⟨b,o+j,G⟩) k];exact e j u f⟩,h.one⟩
structure GLs(w W:Yp)(v:Yq)(xs:H Yq):Prop where
 bl:Below w.heap.size w W
 ow:W.ownsRow w.heap.size 23 1 v xs.length xs
 nn:v.ownBlock≠G
def GLs.lt{v:Yq}(h:GLs w W v xs):∃g cap,v=sZ g xs.length cap/\w.heap.size<=g/\g<W.heap.size:=by
 rcases id h.ow with⟨-,⟨rfl,c⟩|⟨g,cap,cur,rfl,h1,k,-⟩⟩
 .exact absurd Z h.nn
 refine⟨g,cap,Z,h1,?_⟩;by_cases b:g<W.heap.size
 .exact b
 rw[uz S]at k;cases k
def GLs.below{v:Yq}(h:GLs w W v xs)(c:Below W.heap.size W W'):GLs w W' v xs:=by
 refine⟨h.bl.trans (c.mono h.bl.size),?_,h.nn⟩;rcases h.ow with⟨b,h1|⟨g,cap,cur,h1,e,k,d⟩⟩
 .exact⟨b,Y3 h1⟩
 refine⟨b,YZ ⟨g,cap,cur,h1,e,?_,d⟩⟩;rw[c.block g (by
  by_cases f:g<W.heap.size
  .exact f
  rw[uz S]at k;cases k)]
 exact k
def GLs.app2{v:Yq}{q:zb ai}(h:GLs w W v xs)(hx:VL W q m ys)(Q:xs.length+m<=1000000):
 ∃n W',(Zn #[24,24] 24 #[v,.slice q m c]).run prog W=.ok n W'/\GLs w W' n (xs++ys)/\W.heap.size<=W'.heap.size:=by
 let⟨i,s,r⟩:=Yu.1 GM
 simp only[ZV.injEq]at r;let⟨h1,M,K⟩:=r
 let⟨z,L,p⟩:=Yu.1 K
 obtain⟨g,cap,rfl,C,x⟩:=h.lt;cases q with
 | none =>
  have t:=hx.nil Z;subst t;obtain rfl:ys=[]:=H.length_eq_zero_iff.1 hx.len;rcases id h.ow with⟨-,⟨d,-⟩|⟨A,f,cur,d,T,O,y,N⟩⟩
  .cases d
  injection d with d _ h0'
  injection d with d
  injection d with d
  subst d h0';refine⟨_,_,yE6 (P:=prog) W 24 24 24 23 i yA s g 0 xs.length cap (.slice G 0 c) 0 [] (Src.ofNil (e':=23) _ yA c) y (λj e=>by cases e) (λj e=>by cases e),?_,Ys _⟩;rw[H.append_nil];exact h
 | some a =>
  let⟨n,W',N,r2,d,y⟩:=xj (P:=prog) W w.heap.size 24 24 23 i z 1 24 yA s L h1 M p dC _ xs.length xs h.ow a m c ys (by rw[hx.len];omega)
   (λj u e=>by
    rcases hx.cells with rfl|⟨b,o,O,-,t⟩
    .cases e
    obtain rfl:=YR.inj O;rw[oW];exact t j u e) hx.one (by unfold maxLen;omega) S h.bl.size
  refine⟨n,W',N,⟨⟨by rw[d.os,h.bl.os],by rw[d.tape,h.bl.tape],by rw[d.output,h.bl.output],YA h.bl.size d.size,λk e=>?_⟩,?_,?_⟩,d.size⟩
  .rw[d.block k (Yr e h.bl.size) (by simp[tz];omega)];exact h.bl.block k e
  .rw[Yx,hx.len];exact r2
  rcases r2.2 with⟨t,-⟩|⟨A,f,cur,rfl,-⟩
  .have:=(y.1 t).1;exact absurd this (by simp)
  simp[tz]
def GLs.app{v:Yq}{q:zb ai}(h:GLs w W v xs)(hx:VL W q m ys)(b:xs.length+m<=1000000):
 ∃k W',(Zn #[24,24] 24 #[v,.slice q m c]).run prog W=.ok k W'/\GLs w W' k (xs++ys):=by
 obtain⟨k,W',h1,d,-⟩:=h.app2 (c:=c) hx b;exact⟨k,W',h1,d⟩
section
def Hid.mkP{p:Prop}(h:p):Hid p:=h
section
variable {P:Zw}{ops:Array Y9}{rest:List Y9}{op:Y9}{a:Act}{w w':Yp}{v:Yq}{Q:an->Act->Yp->Prop}
def dO(k:op.guard=G)(X:Op)(_:op.op=X)(c:(Za a.eval op).run P w=.ok (.value v) w')(h:wpList P ops Q rest (a.put op.dst v) w'):wpList P ops Q (op :: rest) a w:=
 gH k λK b=>by
  rw[ZY,c];exact b _ _ h
end
def bK(o:Obj):Below w.heap.size w (w.alloc o):=(YH _ _).alloc (Ys _) _
def iO{cs:yt Yq}{v:Yq}(h:cs[j]? = F v):(w.alloc (.cells cs T)).cell? ⟨w.heap.size,j,G⟩=F v:=by
 unfold World.alloc pn;simp[h]
def Qs:GLs w (w.alloc (.cells #[] 23)) (sZ w.heap.size 0 0) []:=
 ⟨bK _,⟨Z,.inr ⟨w.heap.size,0,#[],Z,Ys _,yt.getElem?_push_size,Ys _,aw _,Z,Z⟩⟩,by simp[tz]⟩
def LA(h1:∀u∈ys,u.oneCell'=J):VL (w.alloc (.cells ys.toArray T)) (F (aZ w.heap.size)) ys.length ys:=
 ⟨Z,λh=>by(cases h),YZ ⟨w.heap.size,0,Z,by rw[YE];omega,λj u k=>by rw[Yv];exact iO (by simpa using k)⟩,h1⟩
def CN{C A qA qB:zb ai}{x c1 z c2 nA cA nB cB:I}{k f:H Yq}(w:Yp)(K:VL w C x k)(hR:VL w A z f)(h1:x<=1000)(h2:z<=1000):
 Zl prog 46 #[.agg #[.slice C x c1,.slice A z c2,.slice qA nA cA,.slice qB nB cB]] w λe w'=>∃v,e=.returned v/\GLs w w' v (k++f++[.slice qA nA cA,.slice qB nB cB]):=by
 let⟨l,n⟩:=hE (w.alloc (.cells #[.slice C x c1,.slice A z c2,.slice qA nA cA,.slice qB nB cB] 26))
 let⟨a,s⟩:=hE (l.alloc (.cells #[] 23))
 have e1:l.heap.size=w.heap.size+1:=by rw[<-n.out,YE]
 have b1:Below w.heap.size w l:=n.out▸bK _;have L:GLs l a (.slice (F ⟨l.heap.size,0,G⟩) 0 0) []:=s.out▸Qs;have l1:=K.len;have l2:=hR.len;let⟨v3,Q,i,t⟩:=L.app (c:=c1) ((K.below b1).below (s.out▸bK _)) (by rw[Z2];omega)
 rw[ZQ]at t;let⟨v4,o,b,y⟩:=t.app (c:=c2) ((hR.below b1).below t.bl) S
 let⟨M,r⟩:=hE (o.alloc (.cells #[.slice qA nA cA,.slice qB nB cB] 23))
 have O:Below o.heap.size o M:=r.out▸bK _;let⟨v6,w6,d,u⟩:=(y.below O).app (c:=2) (q:=F ⟨o.heap.size,0,G⟩) (m:=2) (ys:=[.slice qA nA cA,.slice qB nB cB]) (by
  rw[<-r.out];exact LA (by simp[yEU])) (by rw[Yx];omega)
 have cell:∀(W:Yp) (j:I) v,Below l.heap.size l W->(#[.slice C x c1,.slice A z c2,.slice qA nA cA,.slice qB nB cB]:yt Yq)[j]? = F v->W.cell? ⟨w.heap.size,j,G⟩=F v:=λW j v V X=>by
  rw[V.cell (p:=⟨w.heap.size,j,G⟩) (by show w.heap.size<_;omega),<-n.out];exact iO X
 have k0:=cell a 0 _ L.bl Z;have k1:=cell Q 1 _ t.bl Z;have k2:=cell o 2 _ y.bl Z;have k3:=cell o 3 _ y.bl Z;obtain⟨a3,p3,rfl,-⟩:=t.lt;obtain⟨a4,p4,rfl,-⟩:=y.lt;obtain⟨a6,p6,rfl,-⟩:=u.lt;have T:E (GLs w w6 (.slice (F ⟨a6,0,G⟩) (k++f++[ZA qA nA cA,ZA qB nB cB]).length p6) (k++f++[.slice qA nA cA,.slice qB nB cB])):=by
  refine⟨b1.trans (u.bl.mono b1.size),?_,u.nn⟩;rcases u.ow with⟨P,N|⟨g,cap,cur,N,x2,x3⟩⟩
  .exact⟨P,Y3 N⟩
  exact⟨P,YZ ⟨g,cap,cur,N,S,x3⟩⟩
 generalize h0:(k++f++[ZA qA nA cA,ZA qB nB cB]).length=N6 at d T;generalize h4:(k++f).length=N4 at b d;generalize h3:k.length=N3 at i b;have N:=Hid.mkP i;have H2:=Hid.mkP b;have P:=Hid.mkP d;clear i b d cell L t y u b1 O K hR e1;go_enter func46,ntmps46;go_wp2_with (first|(refine dO (v:=.pointer (F ⟨w.heap.size,0,G⟩)) (w':=l) Z (.box 26 (.tmp 0)) Z ?_ ?_;(rw[<-n.out];kernel_rfl))|(refine dO (v:=.slice (F ⟨l.heap.size,0,G⟩) 0 0) (w':=a) Z (.buildSlice 24 0 #[]) Z ?_ ?_;(rw[<-s.out];kernel_rfl))|(refine dO (v:=.slice (F ⟨o.heap.size,0,G⟩) 2 2) (w':=M) Z (.buildSlice 24 2 #[(0,.tmp 14),(1,.tmp 16)]) Z ?_ ?_;(rw[<-r.out];kernel_rfl))|(at_builtin;refine Z9 a Z _ _ _ _ Z _ _ Z Z _ _ N ?_)|(at_builtin;refine Z9 Q Z _ _ _ _ Z _ _ Z Z _ _ H2 ?_)|(at_builtin;refine Z9 M Z _ _ _ _ Z _ _ Z Z _ _ P ?_)|fail)
 go_ret;exact⟨_,Z,T⟩
end
structure Sv where
 q:zb ai
 n:I
 c:I
def Sv.v(s:Sv):Yq:=.slice s.q s.n s.c
def rgC(a b c d e f g l r x y:Sv):H Yq:=[a.v,b.v,c.v,d.v,e.v,f.v,g.v,l.v,r.v,x.v,y.v]
def uIn:yZ 26:=yQ
def iIn:gZ 26 4:=gQ
def Ou(a b c d e f g l r x y:Sv){n i:H Yq}(w:Yp)(hL:VL w l.q l.n n)(hR:VL w r.q r.n i)(h1:l.n<=1000)(h2:r.n<=1000):
 Zl prog 9 #[.agg (rgC a b c d e f g l r x y).toArray] w λe' w'=>∃v,e'=.returned v/\GLs w w' v (n++i++[x.v,y.v]++[a.v,b.v,c.v,d.v,e.v,f.v,g.v]):=by
 let⟨K,C,ca⟩:=a;let⟨qb,Q,cb⟩:=b;let⟨A,M,cc⟩:=c;let⟨qd,nd,cd⟩:=d;let⟨qe,ne,ce⟩:=e;let⟨qf,X,cf⟩:=f;let⟨O,ng,P⟩:=g
 let⟨ql,nl,cl⟩:=l;let⟨qr,nr,cr⟩:=r;let⟨V,nx,N⟩:=x;let⟨T,L,z⟩:=y
 dsimp only[Sv.v,rgC]at *;let⟨cs,k⟩:=hE ([.slice K C ca,.slice qb Q cb,.slice A M cc,.slice qd nd cd,.slice qe ne ce,.slice qf X cf,.slice O ng P,.slice ql nl cl,.slice qr nr cr,.slice V nx N,.slice T L z]:H Yq)
 rw[k.out];let⟨w1,t⟩:=hE (w.alloc (.cells cs.toArray 28))
 have e1:w1.heap.size=w.heap.size+1:=by rw[<-t.out,YE]
 have b1:Below w.heap.size w w1:=t.out▸bK _;have l1:=hL.len;have l2:=hR.len;have cell:E (∀(W:Yp) (j:I) v,Below w1.heap.size w1 W->cs[j]? = F v->W.cell? ⟨w.heap.size,j,G⟩=F v):=λW j v hb hj=>by
  rw[hb.cell (p:=⟨w.heap.size,j,G⟩) (by show w.heap.size<_;omega),<-t.out];exact iO (by simpa using hj)
 have h5:E (w1.rangeAt w.heap.size 7 [.slice ql nl cl,.slice qr nr cr,.slice V nx N,.slice T L z]):=λj u hj=>by
  refine cell w1 (7+j) u (YH _ _) ?_;rw[<-k.out];match j,hj with
  | 0,h=>exact h
  | 1,h=>exact h
  | 2,h=>exact h
  | 3,h=>exact h
 let⟨dI,h6,h7⟩:=Yu.1 uIn
 have h3:=Hid.mkP b1;have HL:E (n.length+i.length<=2000):=by show _<=_;omega
 go_enter func9,ntmps9;go_wp2_with (first|(refine dO (v:=.pointer (F ⟨w.heap.size,0,G⟩)) (w':=w1) Z (.box 28 (.tmp 0)) Z ?_ ?_;(rw[<-t.out,<-k.out];kernel_rfl))|(refine Zu Z 26 _ Z w.heap.size 7 ?_ [.slice ql nl cl,.slice qr nr cr,.slice V nx N,.slice T L z] dI ?_ ?_ ?_ ?_ ?_;rfl;exact h5;exact h6;exact h7;exact iIn;skip)|fail)
 apply(CN (c1:=cl) (c2:=cr) (qA:=V) (nA:=nx) (cA:=N) (qB:=T) (nB:=L) (cB:=z) w1 (hL.below b1) (hR.below b1) h1 h2).mono;rintro e' o ⟨v2,rfl,s⟩;have k0:=cell o 0 (.slice K C ca) s.bl (by rw[<-k.out];rfl);have k1:=cell o 1 (.slice qb Q cb) s.bl (by rw[<-k.out];rfl);have k2:=cell o 2 (.slice A M cc) s.bl (by rw[<-k.out];rfl);have k3:=cell o 3 (.slice qd nd cd) s.bl (by rw[<-k.out];rfl);have k4:=cell o 4 (.slice qe ne ce) s.bl (by rw[<-k.out];rfl);have k5:=cell o 5 (.slice qf X cf) s.bl (by rw[<-k.out];rfl);have k6:=cell o 6 (.slice O ng P) s.bl (by rw[<-k.out];rfl);let⟨w3,h0⟩:=hE (o.alloc (.cells #[.slice K C ca,.slice qb Q cb,.slice A M cc,.slice qd nd cd,.slice qe ne ce,.slice qf X cf,.slice O ng P] 23))
 have b3:Below o.heap.size o w3:=h0.out▸bK _;let⟨v4,w4,h4,g4⟩:=(s.below b3).app (c:=7) (q:=F ⟨o.heap.size,0,G⟩) (m:=7) (ys:=[.slice K C ca,.slice qb Q cb,.slice A M cc,.slice qd nd cd,.slice qe ne ce,.slice qf X cf,.slice O ng P]) (by
  rw[<-h0.out];exact LA (by simp[yEU])) (by have:=HL;rw[Yx,Yx];simp only[Y2,Z2];omega)
 obtain⟨a2,p2,rfl,-⟩:=s.lt;obtain⟨a4,p4,rfl,-⟩:=g4.lt;have K4:E (GLs w w4 (.slice (F ⟨a4,0,G⟩) (n++i++[ZA V nx N,ZA T L z]++[ZA K C ca,ZA qb Q cb,ZA A M cc,ZA qd nd cd,ZA qe ne ce,ZA qf X cf,ZA O ng P]).length p4) (n++i++[ZA V nx N,ZA T L z]++[ZA K C ca,ZA qb Q cb,ZA A M cc,ZA qd nd cd,ZA qe ne ce,ZA qf X cf,ZA O ng P])):=by
  refine⟨h3.trans (g4.bl.mono h3.size),?_,g4.nn⟩;have:=h3.size;rcases g4.ow with⟨x0,x1|⟨g,cap,cur,x1,x2,x3⟩⟩
  .exact⟨x0,Y3 x1⟩
  exact⟨x0,YZ ⟨g,cap,cur,x1,S,x3⟩⟩
 generalize h9:(n++i++[ZA V nx N,ZA T L z]++[ZA K C ca,ZA qb Q cb,ZA A M cc,ZA qd nd cd,ZA qe ne ce,ZA qf X cf,ZA O ng P]).length=N4 at h4 K4;generalize h8:(n++i++[ZA V nx N,ZA T L z]).length=N2 at h4⊢;go_wp2_with (first|(refine dO (v:=.slice (F ⟨o.heap.size,0,G⟩) 7 7) (w':=w3) Z (.buildSlice 24 7 #[(0,.tmp 9),(1,.tmp 11),(2,.tmp 13),(3,.tmp 15),(4,.tmp 17),(5,.tmp 19),(6,.tmp 21)]) Z ?_ ?_;(rw[<-h0.out];kernel_rfl))|(at_builtin;refine Z9 w3 Z _ _ _ _ Z _ _ Z Z _ _ (Hid.mkP h4).out ?_)|fail)
 go_ret;exact⟨_,Z,K4⟩
def uRg:yZ 28:=yQ
def iRg:gZ 28 11:=gQ
def GLs.cell{n:I}(h:GLs w W (sZ g n c) xs)(j:I)(u:Yq)(k:xs[j]? = F u):W.cell? ⟨g,j,G⟩=F u:=by
 have:=h.ow.cells (g:=g) Z j u k;rw[oW,Yv]at this;exact this
def Qj{n i:I}(g c:I)(k:i<n)(w:Yp):(ZW 24 (sZ g n c) (iZ i)).run prog w=.ok (oZ g i) w:=by
 go_simp
def Pt(W:Yp)(u:Yq)(b:SP.Bs):Prop:=∃q c,u=.slice q (yj b) c/\(b.size=0\/∃g o,q=F ⟨g,o,G⟩/\g<W.heap.size/\yx SP.encB W g o b)
def Pt.below{b:SP.Bs}(h:Pt W u b)(d:Below W.heap.size W W'):Pt W' u b:=by
 obtain⟨q,c,h1,i|⟨g,o,e,k,f⟩⟩:=h
 .exact⟨q,c,h1,Y3 i⟩
 exact⟨q,c,h1,YZ ⟨g,o,e,Yr k d.size,SP.Holds.below f d k⟩⟩
def Pt.conv{b:SP.Bs}(h:Pt W u b):(convert 23 9 u).run prog W=.ok (.string ⟨b⟩) W:=by
 obtain⟨q,c,rfl,d|⟨g,o,rfl,f,k⟩⟩:=h
 .obtain rfl:b=#[]:=yt.eq_empty_of_size_eq_zero d;cases q with
  | none=>exact run_convert_bytes_nil (P:=prog) (w:=W) 23 5 SP.slice22 SP.int5 0 c 9 SP.str9
  | some a=>exact run_convert_bytes_back (P:=prog) W 23 9 5 a c [] SP.slice22 SP.int5 SP.str9 (λj e=>by cases e)
 exact SP.conv_str prog 23 9 5 SP.slice22 SP.int5 SP.str9 W g o _ c b k Z
def inV(l r x y:Sv):H Yq:=[l.v,r.v,x.v,y.v]
def lE{cs:H Yq}:(w.alloc (.cells cs.toArray T)).rangeAt w.heap.size 0 cs:=λj u k=>by rw[Yv];exact iO (by simpa using k)
def range_below{o:I}{cs:H Yq}(h:w.rangeAt b o cs)(c:Below w.heap.size w w')(k:b<w.heap.size):w'.rangeAt b o cs:=λj u d=>by rw[c.cell (p:=⟨b,o+j,G⟩) k];exact h j u d
theorem DO(l r x y l' N T V:Sv){o n s p:H Yq}(w:Yp)(hL:VL w l.q l.n o)(hR:VL w r.q r.n n)(P:VL w l'.q l'.n s)(L:VL w N.q N.n p)(h1:l.n<=1000)(h2:r.n<=1000)(hl:l'.n=l.n)(hr:N.n=r.n)
 (hE:∀(j:I),j<l.n+r.n+2->∃u v b,(o++n++[x.v,y.v])[j]? = F u/\(s++p++[T.v,V.v])[j]? = F v/\Pt w u b/\Pt w v b) :
 Zl prog 45 #[.agg (inV l r x y).toArray,.agg (inV l' N T V).toArray] w λe' w'=>e'=.returned (.bool J)/\Below w.heap.size w w':=by
 obtain⟨cs,f⟩:=yH (inV l r x y:H Yq);obtain⟨a,m⟩:=yH (inV l' N T V:H Yq);obtain⟨d,K⟩:=yH (w.alloc (.cells cs.toArray 26));obtain⟨k,C⟩:=yH (d.alloc (.cells a.toArray 26));have e1:d.heap.size=w.heap.size+1:=by rw[<-K.out,YE]
 have e2:k.heap.size=d.heap.size+1:=by rw[<-C.out,YE]
 have b1:Below w.heap.size w d:=by rw[<-K.out];exact bK _
 have b2:Below d.heap.size d k:=by rw[<-C.out];exact bK _
 have g:=b1.trans (b2.mono b1.size);have r1:=range_below (w:=d) (by rw[<-K.out];exact lE (w:=w) (cs:=cs)) b2 S;have r2:k.rangeAt d.heap.size 0 a:=by rw[<-C.out];exact lE (w:=d) (cs:=a)
 have c0:=r1 0 l.v (by rw[<-f.out];rfl);have c1:=r1 1 r.v (by rw[<-f.out];rfl);have d0:=r2 0 l'.v (by rw[<-m.out];rfl);have d1:=r2 1 N.v (by rw[<-m.out];rfl);rw[Yv]at c0 c1 d0 d1;have len1:E (cs.length=4):=by rw[<-f.out];rfl
 have len2:E (a.length=4):=by rw[<-m.out];rfl
 have hA:E (Zl prog 46 #[.agg cs.toArray] k λe w'=>∃v,e=.returned v/\GLs k w' v (o++n++[x.v,y.v])):=by
  rw[<-f.out];exact CN k (hL.below g) (hR.below g) h1 h2
 have hB:E (∀c,Below k.heap.size k c->Zl prog 46 #[.agg a.toArray] c λe w'=>∃v,e=.returned v/\GLs c w' v (s++p++[T.v,V.v])):=λc hb=>by
  rw[<-m.out];exact CN c ((P.below g).below hb) ((L.below g).below hb) S S
 have O:E ((o++n++[x.v,y.v]).length=l.n+r.n+2):=by
  show _=_;rw[Yx,Yx,hL.len,hR.len];rfl
 have A:E ((s++p++[T.v,V.v]).length=l.n+r.n+2):=by
  show _=_;rw[Yx,Yx,P.len,L.len,hl,hr];rfl
 have HE:=Hid.mkP hE;generalize o++n++[x.v,y.v]=XS at hA O HE;generalize s++p++[T.v,V.v]=ZS at hB A HE;have HB:=Hid.mkP g;have h3:E (∀c,Below k.heap.size k c->c.rangeAt d.heap.size 0 a):=λc hb=>range_below r2 hb S
 have h9:=Hid.mkP r1;rw[f.out,m.out];obtain⟨ql,nl,cl⟩:=l;obtain⟨qr,nr,cr⟩:=r;obtain⟨hg,h7,he⟩:=l';obtain⟨ha,h5,hc⟩:=N
 dsimp only[Sv.v]at *;subst hl hr;obtain⟨dI,X,h0⟩:=Yu.1 uIn;obtain⟨M,hM⟩:=yH (h7+h5+2);rw[hM.out]at O A HE;have hj:M<=2002:=oN hM.out;clear e1 e2 b1 b2 g r1 r2 hL hR P L hE;go_enter func45,ntmps45;go_wp2_with (first|(refine dO (v:=.pointer (F ⟨w.heap.size,0,G⟩)) (w':=d) Z (.box 26 (.tmp 0)) Z ?_ ?_;(rw[<-K.out,<-f.out];kernel_rfl))|(refine dO (v:=.pointer (F ⟨d.heap.size,0,G⟩)) (w':=k) Z (.box 26 (.tmp 1)) Z ?_ ?_;(rw[<-C.out,<-m.out];kernel_rfl))|(refine Zu Z 26 _ Z w.heap.size 0 ?_ cs dI ?_ ?_ ?_ ?_ ?_;rfl;exact h9.out;exact X;exact h0;(rw[len1.out];exact iIn);skip)|fail)
 refine hA.mono ?_;rintro e' c ⟨v3,rfl,W⟩;have h6:=Hid.mkP (h3 c W.bl);have h8:=Hid.mkP (hB c W.bl);obtain⟨a3,p3,rfl,-⟩:=W.lt;have K3:=Hid.mkP W;clear W hA hB h3 c0 c1 d0 d1;rw[O.out]at K3⊢;go_wp2_with (first|(refine Zu Z 26 _ Z d.heap.size 0 ?_ a dI ?_ ?_ ?_ ?_ ?_;rfl;exact h6.out;exact X;exact h0;(rw[len2.out];exact iIn);skip)|fail)
 refine h8.mono ?_;rintro e' w4 ⟨v4,rfl,g4⟩;obtain⟨a4,p4,rfl,-⟩:=g4.lt;have t:E (GLs k w4 (.slice (F ⟨a3,0,G⟩) M p3) XS/\GLs c w4 (.slice (F ⟨a4,0,G⟩) M p4) ZS/\Below w.heap.size w w4):=by
  rw[A.out]at g4;have z:=K3.below g4.bl;exact⟨z,g4,HB.trans (z.bl.mono HB.size)⟩
 rw[A.out];go_wp2;go_loopg [7] M (λgk s7 wr=>∃i:I,i+gk=M/\s7=.int .i64 i/\E (GLs k wr (.slice (F ⟨a3,0,G⟩) M p3) XS/\GLs c wr (.slice (F ⟨a4,0,G⟩) M p4) ZS/\Below w.heap.size w wr))
 case atStart=>exact⟨0,S,Z,t⟩
 case round =>
  obtain⟨i,hi,rfl,t⟩:=hrel;by_cases Q:i<M
  .have h4:=S;obtain⟨u,v,b,hu,hv,pu,pv⟩:=HE.out i Q;have z:∀q,Below wr.heap.size wr (wr.drewN q):=λq=>⟨Z,Z,Z,Ys _,λ_ _=>rfl⟩
   have k1:=λq=>((pu.below t.2.2).below (z q)).conv
   have k2:=λq=>((pv.below t.2.2).below (z q)).conv
   have x1:=t.1.cell i u hu;have x2:=t.2.1.cell i v hv;have K5:E (∀q,GLs k (wr.drewN q) (.slice (F ⟨a3,0,G⟩) M p3) XS/\GLs c (wr.drewN q) (.slice (F ⟨a4,0,G⟩) M p4) ZS/\Below w.heap.size w (wr.drewN q)):=λq=>⟨t.1.below (z q),t.2.1.below (z q),t.2.2.trans ((z q).mono t.2.2.size)⟩
   obtain⟨qu,cu,rfl,-⟩:=pu;obtain⟨qv,cv,rfl,-⟩:=pv;have j1:=Qj a3 (n:=M) p3 (i:=i) Q;have j2:=Qj a4 (n:=M) p4 (i:=i) Q;go_wp2;go_quiet (fail);go_wp2;go_roundg (gk-1)
   case measure=>omega
   case rel=>exact⟨i+1,S,Z,K5.out _⟩
  .have h4:=S;go_wp2;go_ret;exact⟨Z,t.2.2⟩
structure Rg where
 a:Sv
 b:Sv
 c:Sv
 d:Sv
 e:Sv
 f:Sv
 g:Sv
 l:Sv
 r:Sv
 x:Sv
 y:Sv
def Rg.cs(p:Rg):H Yq:=rgC p.a p.b p.c p.d p.e p.f p.g p.l p.r p.x p.y
def Rg.all(p:Rg)(b k:H Yq):H Yq:=b++k++[p.x.v,p.y.v]++[p.a.v,p.b.v,p.c.v,p.d.v,p.e.v,p.f.v,p.g.v]
theorem DN(p k:Rg){m l o n:H Yq}(w:Yp)(hL:VL w p.l.q p.l.n m)(hR:VL w p.r.q p.r.n l)(P:VL w k.l.q k.l.n o)(C:VL w k.r.q k.r.n n)(h1:p.l.n<=1000)(h2:p.r.n<=1000)(hl:k.l.n=p.l.n)(hr:k.r.n=p.r.n)
 (hE:∀(j:I),j<p.l.n+p.r.n+9->∃u v b,(p.all m l)[j]? = F u/\(k.all o n)[j]? = F v/\Pt w u b/\Pt w v b) :
 Zl prog 7 #[.agg p.cs.toArray,.agg k.cs.toArray] w λe' w'=>e'=.returned (.bool J)/\Below w.heap.size w w':=by
 obtain⟨cs,x⟩:=yH (p.cs:H Yq);obtain⟨a,z⟩:=yH (k.cs:H Yq);obtain⟨g,O⟩:=yH (w.alloc (.cells cs.toArray 28));obtain⟨f,L⟩:=yH (g.alloc (.cells a.toArray 28));have e1:g.heap.size=w.heap.size+1:=by rw[<-O.out,YE]
 have e2:f.heap.size=g.heap.size+1:=by rw[<-L.out,YE]
 have b1:Below w.heap.size w g:=by rw[<-O.out];exact bK _
 have b2:Below g.heap.size g f:=by rw[<-L.out];exact bK _
 have d:Below w.heap.size w f:=b1.trans (b2.mono b1.size);have r1:f.rangeAt w.heap.size 0 cs:=range_below (w:=g) (by rw[<-O.out];exact lE (w:=w) (cs:=cs)) b2 S;have r2:f.rangeAt g.heap.size 0 a:=by rw[<-L.out];exact lE (w:=g) (cs:=a)
 have len1:E (cs.length=11):=by rw[<-x.out];rfl
 have len2:E (a.length=11):=by rw[<-z.out];rfl
 have i1:E (f.rangeAt w.heap.size 7 (inV p.l p.r p.x p.y)):=λj u V=>by
  have:=r1 (7+j) u (by
   rw[<-x.out];match j,V with
   | 0,h=>exact h
   | 1,h=>exact h
   | 2,h=>exact h
   | 3,h=>exact h)
  rw[Yv]at this;exact this
 have i2:E (f.rangeAt g.heap.size 7 (inV k.l k.r k.x k.y)):=λj u V=>by
  have:=r2 (7+j) u (by
   rw[<-z.out];match j,V with
   | 0,h=>exact h
   | 1,h=>exact h
   | 2,h=>exact h
   | 3,h=>exact h)
  rw[Yv]at this;exact this
 have lX:(m++l++[p.x.v,p.y.v]).length=p.l.n+p.r.n+2:=by rw[Yx,Yx,hL.len,hR.len];rfl
 have lZ:(o++n++[k.x.v,k.y.v]).length=p.l.n+p.r.n+2:=by rw[Yx,Yx,P.len,C.len,hl,hr];rfl
 have hI:E (Zl prog 45 #[.agg (inV p.l p.r p.x p.y).toArray,.agg (inV k.l k.r k.x k.y).toArray] f λe' w'=>e'=.returned (.bool J)/\Below f.heap.size f w'):=by
  refine DO p.l p.r p.x p.y k.l k.r k.x k.y f (hL.below d) (hR.below d) (P.below d) (C.below d) h1 h2 hl hr (λj V=>?_);obtain⟨u,v,b,r,c,s,t⟩:=hE j S;unfold Rg.all at r c;rw[Zc (by rw[lX];exact V)]at r;rw[Zc (by rw[lZ];exact V)]at c;exact⟨u,v,b,r,c,s.below d,t.below d⟩
 have hA:E (∀c,Below f.heap.size f c->Zl prog 9 #[.agg cs.toArray] c λe w'=>∃v,e=.returned v/\GLs c w' v (p.all m l)):=λc K=>by
  rw[<-x.out];exact Ou p.a p.b p.c p.d p.e p.f p.g p.l p.r p.x p.y c ((hL.below d).below K) ((hR.below d).below K) h1 h2
 have hB:E (∀c,Below f.heap.size f c->Zl prog 9 #[.agg a.toArray] c λe w'=>∃v,e=.returned v/\GLs c w' v (k.all o n)):=λc K=>by
  rw[<-z.out];exact Ou k.a k.b k.c k.d k.e k.f k.g k.l k.r k.x k.y c ((P.below d).below K) ((C.below d).below K) S S
 have Q:E ((p.all m l).length=p.l.n+p.r.n+9):=by
  show _=_;unfold Rg.all;rw[Yx,lX];rfl
 have A:E ((k.all o n).length=p.l.n+p.r.n+9):=by
  show _=_;unfold Rg.all;rw[Yx,lZ];rfl
 have HE:=Hid.mkP hE;generalize p.all m l=XS at hA Q HE;generalize k.all o n=ZS at hB A HE;have HB:=Hid.mkP d;have h7:E (∀c,Below f.heap.size f c->c.rangeAt w.heap.size 0 cs):=λc K=>range_below r1 K S
 have h9:E (∀c,Below f.heap.size f c->c.rangeAt g.heap.size 0 a):=λc K=>range_below r2 K S
 rw[x.out,z.out];obtain⟨dI,h3,h8⟩:=Yu.1 uIn;obtain⟨dR,W,ha⟩:=Yu.1 uRg;obtain⟨M,hM⟩:=yH (p.l.n+p.r.n+9);rw[hM.out]at Q A HE;have hm:M<=2009:=oN hM.out;obtain⟨iv,h5⟩:=yH (inV p.l p.r p.x p.y);obtain⟨jv,h0⟩:=yH (inV k.l k.r k.x k.y);have he:E (iv.length=4):=by rw[<-h5.out];rfl
 have hk:E (jv.length=4):=by rw[<-h0.out];rfl
 rw[h5.out]at i1 hI;rw[h0.out]at i2 hI;clear e1 e2 b1 b2 d r1 r2 hL hR P C hE lX lZ hl hr h1 h2;go_enter func7,ntmps7;go_wp2_with (first|(refine dO (v:=.pointer (F ⟨w.heap.size,0,G⟩)) (w':=g) Z (.box 28 (.tmp 0)) Z ?_ ?_;(rw[<-O.out,<-x.out];kernel_rfl))|(refine dO (v:=.pointer (F ⟨g.heap.size,0,G⟩)) (w':=f) Z (.box 28 (.tmp 1)) Z ?_ ?_;(rw[<-L.out,<-z.out];kernel_rfl))|(refine Zu Z 26 _ Z w.heap.size 7 ?_ iv dI ?_ ?_ ?_ ?_ ?_;rfl;exact i1.out;exact h3;exact h8;(rw[he.out];exact iIn);skip)|(refine Zu Z 26 _ Z g.heap.size 7 ?_ jv dI ?_ ?_ ?_ ?_ ?_;rfl;exact i2.out;exact h3;exact h8;(rw[hk.out];exact iIn);skip)|fail)
 refine hI.mono ?_;rintro e' t ⟨rfl,y⟩;have K2:=Hid.mkP y;have h6:=Hid.mkP (h7 t y);clear y hI i1 i2;go_wp2_with (first|(refine Zu Z 28 _ Z w.heap.size 0 ?_ cs dR ?_ ?_ ?_ ?_ ?_;rfl;exact h6.out;exact W;exact ha;(rw[len1.out];exact iRg);skip)|fail)
 refine(hA t K2.out).mono ?_;rintro e' c ⟨v3,rfl,g3⟩;have N:Below f.heap.size f c:=K2.trans (g3.bl.mono K2.size);have X:=Hid.mkP (h9 c N);have h4:=Hid.mkP (hB c N);obtain⟨a3,p3,rfl,-⟩:=g3.lt;have K3:=Hid.mkP g3;have hg:=Hid.mkP N;clear g3 N hA hB h9 h7 h6;rw[Q.out]at K3⊢;go_wp2_with (first|(refine Zu Z 28 _ Z g.heap.size 0 ?_ a dR ?_ ?_ ?_ ?_ ?_;rfl;exact X.out;exact W;exact ha;(rw[len2.out];exact iRg);skip)|fail)
 refine h4.mono ?_;rintro e' w4 ⟨v4,rfl,g4⟩;obtain⟨a4,p4,rfl,-⟩:=g4.lt;have r:E (GLs t w4 (.slice (F ⟨a3,0,G⟩) M p3) XS/\GLs c w4 (.slice (F ⟨a4,0,G⟩) M p4) ZS/\Below w.heap.size w w4):=by
  rw[A.out]at g4;have s:=HB.trans (K2.mono HB.size);have T:=K3.below g4.bl;exact⟨T,g4,s.trans (T.bl.mono s.size)⟩
 clear g4 h4 K3 X hg K2;rw[A.out];go_wp2;go_loopg [8] M (λgk s7 wr=>∃i:I,i+gk=M/\s7=.int .i64 i/\E (GLs t wr (.slice (F ⟨a3,0,G⟩) M p3) XS/\GLs c wr (.slice (F ⟨a4,0,G⟩) M p4) ZS/\Below w.heap.size w wr))
 case atStart=>exact⟨0,S,Z,r⟩
 case round =>
  clear r;obtain⟨i,hi,rfl,r⟩:=hrel;by_cases T:i<M
  .have hc:(i:Y)<(M:Y):=S;obtain⟨u,v,b,hu,hv,pu,pv⟩:=HE.out i T;have s:∀q,Below wr.heap.size wr (wr.drewN q):=λq=>⟨Z,Z,Z,Ys _,λ_ _=>rfl⟩
   have k1:=λq=>((pu.below r.2.2).below (s q)).conv
   have k2:=λq=>((pv.below r.2.2).below (s q)).conv
   have x1:=r.1.cell i u hu;have x2:=r.2.1.cell i v hv;have K5:E (∀q,GLs t (wr.drewN q) (.slice (F ⟨a3,0,G⟩) M p3) XS/\GLs c (wr.drewN q) (.slice (F ⟨a4,0,G⟩) M p4) ZS/\Below w.heap.size w (wr.drewN q)):=λq=>⟨r.1.below (s q),r.2.1.below (s q),r.2.2.trans ((s q).mono r.2.2.size)⟩
   obtain⟨qu,cu,rfl,-⟩:=pu;obtain⟨qv,cv,rfl,-⟩:=pv;generalize yj b=nb at k1 k2 x1 x2;have j1:=Qj a3 (n:=M) p3 (i:=i) T;have j2:=Qj a4 (n:=M) p4 (i:=i) T;clear hu hv s r;go_wp2;go_quiet (fail);go_wp2;go_roundg (gk-1)
   case measure=>omega
   case rel=>exact⟨i+1,S,Z,K5.out _⟩
  .have hc:¬(i:Y)<(M:Y):=S;go_wp2;go_ret;exact⟨Z,r.2.2⟩
def Em{n:I}(h:c<n):yB8 n c<=2*n+768:=by
 unfold yB8;split
 .omega
 split
 .omega
 simp only[Builtin.growBy];repeat' split
 all_goals omega
def Nq:(prog.info? 5).map (λi=>(i.size,i.bytes,i.zero.map λz=>z.cells.size))=F (1,1,F 1):=kR
def bC(b:SP.Bs):H Yq:=b.toList.map SP.encB
def Oe(b:SP.Bs):(bC b).length=b.size:=by unfold bC;simp
def UX(a b:SP.Bs):bC (a++b)=bC a++bC b:=by unfold bC;simp
def rQ{n size:I}{i:TypeInfo}{v s:Yq}{f:H Yq}{a:ai}(hT:prog.underlying T=F (.slice e))(K:prog.info? e=F i)(V:i.zero=F z)(C:i.size=size)(L:i.bytes<=1000)
 (d:W.ownsRow base e size v n xs) (hs:Src prog size T (.slice (F a) m c) m f W) (k:n+m<=1000000000)
 (p:(Zn #[T,T] T #[v,.slice (F a) m c]).run prog W=.ok s W'):s.ownBlock=v.ownBlock\/(s.ownBlock=F W.heap.size/\Below W.heap.size W W'):=by
 subst C;have k:∀(q:zb ai) (cap:I) (olds:H Yq),v=.slice q n cap->cap<n+m->(Builtin.firstCells i.size n (.slice q n cap)).run prog W.drew=.ok olds.toArray W.drew->s.ownBlock=v.ownBlock\/(s.ownBlock=F W.heap.size/\Below W.heap.size W W'):=λq cap olds hv M t=>by
  have h1:=Em (n:=(n+m)) (c:=cap) M;have y:yB8 (n+m) cap*i.bytes<=(2*(n+m)+768)*1000:=I.mul_le_mul h1 L;have r:=run_append_grow_src (P:=prog) W T T T e i z hT K V q n cap olds t (.slice (F a) m c) m f hs M S (YA y (by clear h1 y;omega));rw[hv,r]at p;injection p with hr1 b
  right;refine⟨by rw[<-hr1];rfl,?_⟩;rw[<-b];exact(⟨Z,Z,Z,Ys _,λ_ _=>rfl⟩:Below W.heap.size W W.drew).trans (bK (w:=W.drew) _)
 rcases id d with⟨-,⟨rfl,rfl⟩|⟨g,cap,cur,rfl,X,N,g3,g4,Q,g6⟩⟩
 .by_cases A:m=0
  .subst A;have O:=p;obtain⟨w,b⟩:∃w,(Zn #[T,T] T #[.slice G 0 0,.slice (F a) 0 c]).run prog W=.ok (.slice G 0 0) w:=by
    rcases hs.kind with⟨e',o⟩|o<;>exact⟨_,by simp[Zn,uh hT,uh o,sizeOf,typeInfo,K,hs.len,hs.cells];rfl⟩
   rw[b]at p;injection p with hr1 b
   left;rw[<-hr1]
  .exact k G 0 [] Z S (run_firstCells_none W.drew i.size 0 0 0)
 .by_cases o:n+m<=cap
  .have r:=yE6 (P:=prog) W T T T e i hT K g 0 n cap (.slice (F a) m c) m f hs o
    (λj w=>by
     have A:n*i.size+j<cur.size:=by
      rw[Q];have h1:j<m*i.size:=by rw[<-hs.newsLen];exact w
      have y:(n+m)*i.size<=cap*i.size:=te _ o;rw[I.add_mul]at y;omega
     simp[pn,N,Yv,Y0 A])
    (λj w=>by simp[ut,N])
   rw[r]at p;injection p with hr1 b
   left;rw[<-hr1];rfl
  .refine k (F ⟨g,0,G⟩) cap xs Z S ?_;exact run_firstCells_some W.drew i.size n ⟨g,0,G⟩ n cap xs d.1 (λj u w=>by rw[World.cell?_drew];exact d.cells (g:=g) Z j u w)
structure Ap1(W W':Yp)(v v':Yq):Prop where
 os:W'.os=W.os
 tape:W'.tape=W.tape
 output:W'.output=W.output
 size:W.heap.size<=W'.heap.size
 keep:∀g,g<W.heap.size->v.ownBlock≠F g->W'.heap[g]? = W.heap[g]?
 mv:v'.ownBlock=v.ownBlock\/((∃g,v'.ownBlock=F g/\W.heap.size<=g)/\∀g,g<W.heap.size->W'.heap[g]? = W.heap[g]?)
def cG{n:I}{v:Yq}(h:W.ownsRow base e k v n xs)(c:∀g,v.ownBlock=F g->W'.heap[g]? = W.heap[g]?):W'.ownsRow base e k v n xs:=by
 rcases h with⟨b,h1|⟨g,cap,cur,rfl,i,f,d⟩⟩
 .exact⟨b,Y3 h1⟩
 exact⟨b,YZ ⟨g,cap,cur,Z,i,by rw[c g Z];exact f,d⟩⟩
def cY{n:I}{v:Yq}(h:W.ownsRow base e k v n xs)(b:v.ownBlock=F g):base<=g/\g<W.heap.size/\∃cur,W.heap[g]? = F (.cells cur e (0,0)):=by
 rcases h with⟨i,⟨rfl,-⟩|⟨d,cap,cur,rfl,f,c,j⟩⟩
 .cases b
 obtain rfl:d=g:=YR.inj b;refine⟨f,?_,cur,c⟩;by_cases b:d<W.heap.size
 .exact b
 rw[uz S]at c;cases c
def zC{n:I}{v x:Yq}(hT:prog.underlying T=F (.slice e))(M:(prog.info? e).map (λi=>(i.size,i.bytes,i.zero.map λz=>z.cells.size))=F (1,k,F 1))(q:k<=1000)
 (b:W.ownsRow base e 1 v n xs) (hx:x.oneCell'=J) (d:n<=100000000) (l:base<=W.heap.size) :
 ∃f W',(Zn #[T,T] T #[v,sZ W.heap.size 1 1]).run prog (W.alloc (.cells #[x] e))=.ok f W'/\W'.ownsRow base e 1 f (n+1) (xs++[x])/\Ap1 W W' v f:=by
 let⟨i,y,s⟩:=Yu.1 M
 simp only[ZV.injEq]at s;let⟨h1,N,L⟩:=s
 let⟨z,w,r⟩:=Yu.1 L
 have o:=bK (w:=W) (.cells #[x] e);have K:(W.alloc (.cells #[x] e)).heap.size=W.heap.size+1:=YE _ _;have ho:(W.alloc (.cells #[x] e)).ownsRow base e 1 v n xs:=cG b (λg d=>o.block g (cY b d).2.1);have t:∀(j:I) u,[x][j]? = F u->(W.alloc (.cells #[x] e)).cell? ((⟨W.heap.size,0,G⟩:ai).add j)=F u:=λj u C=>by
  rw[oW,Yv];exact iO (by simpa using C)
 have l:∀u∈[x],u.oneCell'=J:=λu A=>by
  obtain rfl:u=x:=by simpa using A
  exact hx
 obtain⟨f,W',a,r2,m,-⟩:=xj (P:=prog) (W.alloc (.cells #[x] e)) base T T e i z 1 k hT y w h1 N r dC v n xs ho (aZ W.heap.size) 1 1 [x] Z t l (by unfold maxLen;omega) (by
  have:(n+1)*k<=(n+1)*1000:=xv _ q;omega) S
 refine⟨f,W',a,r2,m.os,m.tape,m.output,oN m.size,λg d hv=>?_,?_⟩
 .rw[m.block g S (λh=>hv h.symm),o.block g d]
 rcases(rQ (c:=1) hT y w h1 S ho (yEL (P:=prog) (size:=1) (W.alloc (.cells #[x] e)) hT (aZ W.heap.size) 1 1 [x] Z t l) S a)with h|⟨h,p⟩
 .exact Y3 h
 refine YZ ⟨⟨_,h,S⟩,λg d=>?_⟩;rw[p.block g S,o.block g d]
def TyQ(W:Yp)(L g:I):Prop:=g<W.heap.size/\(g<L\/∃cur,W.heap[g]? = F (.cells cur 5 (0,0)))
def TyQ.keep(h:TyQ W L g)(hs:W.heap.size<=W'.heap.size)(e:W'.heap[g]? = W.heap[g]?):TyQ W' L g:=⟨Yr h.1 hs,by rw[e];exact h.2⟩
def Nn{b:SP.Bs}(h:yx SP.encB W k 0 b)(e:W'.heap[k]? = W.heap[k]?):yx SP.encB W' k 0 b:=λj c=>by
 rw[Y1 (a:=⟨k,0+j,G⟩) e,ZZ (a:=⟨k,0+j,G⟩) e];exact h j c
def OwQ(W:Yp)(L B:I)(v:Yq)(b:SP.Bs):Prop:=W.ownsRow B 5 1 v b.size (bC b)\/∃g,v=sZ g b.size b.size/\B<=g/\g<L/\g<W.heap.size/\yx SP.encB W g 0 b
def OwQ.keep{B:I}{v:Yq}{b:SP.Bs}(h:OwQ W L B v b)(hs:W.heap.size<=W'.heap.size)(k:∀g,v.ownBlock=F g->W'.heap[g]? = W.heap[g]?):OwQ W' L B v b:=by
 rcases h with h|⟨g,rfl,f,c,d,e⟩
 .exact Y3 (cG h k)
 exact YZ ⟨g,Z,f,c,Yr d hs,Nn e (k g Z)⟩
def OwQ.lt{B:I}{v:Yq}{b:SP.Bs}(h:OwQ W L B v b)(d:v.ownBlock=F g):B<=g/\TyQ W L g:=by
 rcases h with h|⟨f,rfl,c,k,e,i⟩
 .let⟨h1,c,k⟩:=cY h d
  exact⟨h1,c,YZ k⟩
 obtain rfl:f=g:=YR.inj d;exact⟨c,e,Y3 k⟩
def Gy{B:I}{b:SP.Bs}(h:W.ownsRow B 5 1 (sZ g b.size c) b.size (bC b)):yx SP.encB W g 0 b:=λk d=>by
 obtain⟨-,-,cur,h1⟩:=cY h (g:=g) Z;refine⟨?_,by simp[ut,h1]⟩;have e:=h.cells (g:=g) Z k (SP.encB b[k]!) (by
  rw[bC,ZE,YC (by simpa using d),ur,getElem!_pos b k d];simp)
 rw[oW]at e;exact e
def OwQ.set{B:I}{b:SP.Bs}{x:yv}(h:OwQ W L B (sZ g b.size c) b)(o:k<b.size):OwQ (W.setCell ⟨g,k,G⟩ (SP.encB x)) L B (sZ g b.size c) (b.setIfInBounds k x):=by
 rw[OwQ,Zg];rcases h with h|⟨p,e,n,m,l,i⟩
 .left;have:=(h.stored k (SP.encB x)).1;have e:bC (b.setIfInBounds k x)=(bC b).set k (SP.encB x):=by unfold bC;rw[yt.toList_setIfInBounds,H.map_set]
  rw[e];exact this
 right;simp only[ZA.injEq,YR.injEq,Addr.mk.injEq,and_true,true_and]at e;obtain⟨rfl,rfl⟩:=e;refine⟨g,Z,n,m,by rw[World.size_setCell];exact l,λj d=>?_⟩;rw[Zg]at d;have f:=i j d;rw[Yv]at f⊢;rw[World.frozen?_setCell];refine⟨?_,f.2⟩;rw[getElem!_pos (b.setIfInBounds k x) j (by rw[Zg];exact d),yt.getElem_setIfInBounds d];by_cases e:k=j
 .subst e;rw[zd Z];exact World.cell?_setCell_same _ _ _ f.1
 rw[zi e,World.cell?_setCell_other _ _ _ _ (by intro x;injection x with _ x _;exact e x)];rw[<-getElem!_pos b j d];exact f.1
def LD:prog.underlying 23=F (.slice 5):=kR
def OwQ.app{B:I}{v:Yq}{b:SP.Bs}{x:yv}(h:OwQ W L B v b)(N:b.size<=100000000)(V:B<=W.heap.size):
 ∃k W',(Zn #[23,23] 23 #[v,sZ W.heap.size 1 1]).run prog (W.alloc (.cells #[SP.encB x] 5))=.ok k W'/\OwQ W' L B k (b++#[x])/\Ap1 W W' v k:=by
 have s:(b++#[x]).size=b.size+1:=by rw[Zi];rfl
 have r:bC (b++#[x])=bC b++[SP.encB x]:=by rw[UX];rfl
 rcases h with h|⟨g,rfl,h2,h3,O,K⟩
 .let⟨k,W',o,r2,d⟩:=zC LD Nq S h (x:=SP.encB x) Z N V
  refine⟨k,W',o,Y3 ?_,d⟩;rw[s,r];exact r2
 let⟨i,hi,w⟩:=Yu.1 Nq
 simp only[ZV.injEq]at w;let⟨M,g2,Q⟩:=w
 let⟨z,hz,p⟩:=Yu.1 Q
 have q:=bK (w:=W) (.cells #[SP.encB x] 5);have X:(W.alloc (.cells #[SP.encB x] 5)).heap.size=W.heap.size+1:=YE _ _;let⟨k,W',o,r2,d⟩:=run_append_arg_grows (P:=prog) (W.alloc (.cells #[SP.encB x] 5)) 23 23 5 i z 1 1 LD hi hz M g2 p dC (aZ g) b.size b.size (bC b) (by rw[Oe,I.mul_one]) (λj u f=>by
  have c:j<b.size:=by have:=(YF.1 f).1;rw[Oe]at this;exact this
  have e:u=SP.encB b[j]!:=by
   unfold bC at f;rw[ZE,YC (by simpa using c),ur]at f;rw[<-YR.inj f,getElem!_pos b j c];simp
  rw[oW,Y1 (a:=⟨g,0+j,G⟩) (q.block g O),e];exact(K j c).1) ⟨W.heap.size,0,G⟩ 1 1 [SP.encB x] Z (λj u f=>by
  rw[oW,Yv];exact iO (by simpa using f)) S (by unfold maxLen;omega) S
 have hv:∃c,k.ownBlock=F c/\(W.alloc (.cells #[SP.encB x] 5)).heap.size<=c:=by
  rcases r2.2 with⟨-,m⟩|⟨c,cap,cur,rfl,l,-⟩
  .omega
  exact⟨c,Z,l⟩
 let⟨c,m,T⟩:=hv
 have t:∀y,y<W.heap.size->W'.heap[y]? = W.heap[y]?:=λy n=>by rw[d.block y S (by simp),q.block y n]
 refine⟨k,W',o,Y3 ?_,d.os,d.tape,d.output,oN d.size,λy n _=>t y n,YZ ⟨⟨c,m,S⟩,t⟩⟩;rw[s,r];rcases r2 with⟨C,l|⟨y,cap,cur,l,q2,q3⟩⟩
 .exact⟨C,Y3 l⟩
 exact⟨C,YZ ⟨y,cap,cur,l,S,q3⟩⟩
def RV(W:Yp)(L:I)(v:Yq)(b:SP.Bs):Prop:=(b.size=0/\v=nZ)\/∃g c,v=sZ g b.size c/\TyQ W L g/\yx SP.encB W g 0 b
def RV.keep{v:Yq}{b:SP.Bs}(h:RV W L v b)(hs:W.heap.size<=W'.heap.size)(k:∀g,v.ownBlock=F g->W'.heap[g]? = W.heap[g]?):RV W' L v b:=by
 rcases h with h|⟨g,c,rfl,h1,d⟩
 .exact Y3 h
 exact YZ ⟨g,c,Z,h1.keep hs (k g Z),Nn d (k g Z)⟩
def RV.of{B:I}{v:Yq}{b:SP.Bs}(h:OwQ W L B v b):RV W L v b:=by
 rcases h with h|⟨g,rfl,e,k,c,d⟩
 .rcases id h with⟨f,⟨rfl,h1⟩|⟨g,cap,cur,rfl,e,k,c⟩⟩
  .exact Y3 ⟨h1,Z⟩
  exact YZ ⟨g,cap,Z,⟨(cY h Z).2.1,YZ ⟨cur,k⟩⟩,Gy h⟩
 exact YZ ⟨g,b.size,Z,⟨c,Y3 k⟩,d⟩
def RV.slice{v:Yq}{b:SP.Bs}(h:RV W L v b):∃q c,v=.slice q b.size c:=by
 rcases h with⟨h,rfl⟩|⟨g,c,rfl,-⟩
 .exact⟨G,0,by rw[h]⟩
 exact⟨_,_,Z⟩
def RV.at{v:Yq}{b:SP.Bs}(h:RV W L v b)(d:k<b.size):∃g c,v=sZ g b.size c/\W.cell? ⟨g,k,G⟩=F (SP.encB b[k]!)/\W.frozen? ⟨g,k,G⟩=false:=by
 rcases h with⟨h,-⟩|⟨g,c,rfl,-,e⟩
 .omega
 have:=e k d;rw[Yv]at this;exact⟨g,c,Z,this⟩
def RV.pt{v:Yq}{b:SP.Bs}(h:RV W L v b):Pt W v b:=by
 rcases h with⟨h1,rfl⟩|⟨g,c,rfl,h1,k⟩
 .exact⟨G,0,by rw[h1],Y3 h1⟩
 exact⟨_,_,Z,YZ ⟨g,0,Z,h1.1,k⟩⟩
def CP{b x:SP.Bs}(h:yx SP.encB W g 0 (b++x)):yx SP.encB W g 0 b:=λj k=>by
 have:=h j (by rw[Zi];omega);rw[getElem!_pos (b++x) j (by rw[Zi];omega),yCx k,<-getElem!_pos b j k]at this;exact this
def RV.typ{v:Yq}{b:SP.Bs}(h:RV W L v b)(k:v.ownBlock=F g):TyQ W L g:=by
 rcases h with⟨-,rfl⟩|⟨d,c,rfl,h1,-⟩
 .cases k
 obtain rfl:d=g:=YR.inj k;exact h1
def TyQ.ne{cur:yt Yq}{t:YW}(h:TyQ W L g)(e:L<=k)(c:W.heap[k]? = F (.cells cur t (0,0)))(d:t≠5):k≠g:=by
 rintro rfl;rcases h.2 with h1|⟨b,h1⟩
 .omega
 rw[c]at h1;injection h1 with h1
 injection h1 with _ h1 _
 exact d h1
def Jq{n:I}{v x:Yq}(k:W.ownsRow base 23 1 v n xs)(hx:x.oneCell'=J)(b:W.cell? ⟨ga,0,G⟩=F x)(M:n<=1000)(C:base<=W.heap.size):
 ∃d W',(Zn #[24,24] 24 #[v,sZ ga 1 1]).run prog W=.ok d W'/\W'.ownsRow base 23 1 d (n+1) (xs++[x])/\Ap1 W W' v d:=by
 let⟨i,w,q⟩:=Yu.1 GM
 simp only[ZV.injEq]at q;let⟨h1,L,K⟩:=q
 let⟨z,t,p⟩:=Yu.1 K
 have s:∀(j:I) u,[x][j]? = F u->W.cell? ((⟨ga,0,G⟩:ai).add j)=F u:=λj u r=>by
  rw[oW,Yv];have e:j=0:=by have:=(YF.1 r).1;simp at this;omega
  subst e;obtain rfl:x=u:=by simpa using r
  exact b
 have e:∀u∈[x],u.oneCell'=J:=λu A=>by
  obtain rfl:u=x:=by simpa using A
  exact hx
 obtain⟨d,W',y,r2,f,-⟩:=xj (P:=prog) W base 24 24 23 i z 1 24 yA w t h1 L p dC v n xs k (aZ ga) 1 1 [x] Z s e (by unfold maxLen;omega) S C;refine⟨d,W',y,r2,f.os,f.tape,f.output,f.size,λg m hv=>f.block g m (λh=>hv h.symm),?_⟩;rcases(rQ (c:=1) yA w t h1 S k (yEL (P:=prog) (size:=1) W yA (aZ ga) 1 1 [x] Z s e) S y)with h|⟨h,o⟩
 .exact Y3 h
 exact YZ ⟨⟨_,h,Ys _⟩,λg m=>o.block g m⟩
section
variable {Q Q':Nat->Prop}{W:Yp}{v:Yq}{n:Nat}
def SmQ.mono2{l:LB}(h:SmQ Q W v l)(e:∀g,g<W.heap.size->Q g->Q' g):SmQ Q' W v l:=by
 let⟨g,c,h1,f,b,k,d⟩:=h
 exact⟨g,c,h1,f,e g k b,k,d⟩
def SLq.mono2(h:SLq Q W v n a)(e:∀g,g<W.heap.size->Q g->Q' g):SLq Q' W v n a:=by
 let⟨g,o,c,h1,f,b,k,d⟩:=h
 exact⟨g,o,c,h1,f,e g k b,k,d⟩
def GLq.mono2{T:I->LB}(h:GLq Q W v n T)(b:∀g,g<W.heap.size->Q g->Q' g):GLq Q' W v n T:=by
 let⟨g,o,c,h1,i,d,k,e⟩:=h
 refine⟨g,o,c,h1,i,b g k d,k,λj m=>?_⟩;let⟨x,l,f⟩:=e j m
 exact⟨x,l,f.mono2 b⟩
def GRq.mono2{G H:I->LB}{U:LB}(h:GRq Q W v n G H U)(k:∀g,g<W.heap.size->Q g->Q' g):GRq Q' W v n G H U:=by
 let⟨f,i,e,h1,d,b,c⟩:=h.ex
 exact⟨f,i,e,h1,d.mono2 k,b.mono2 k,c.mono2 k⟩
end
def ElQ(Q:I->Prop)(m:I)(W:Yp)(x:Yq)(b:Bs):Prop:=∃k c,x=sZ k m c/\m<=c/\b.size=m/\Q k/\k<W.heap.size/\hZ W k 0 b
section
variable {Q Q':Nat->Prop}{W W':Yp}{x:Yq}{m:Nat}{b:Bs}
def ElQ.keep(h:ElQ Q m W x b)(d:Kq Q W W'):ElQ Q m W' x b:=by
 let⟨k,c,h1,n,i,f,g,l⟩:=h
 refine⟨k,c,h1,n,i,f,Yr g d.size,λj o=>?_⟩;have e:=d.block k f g;rw[Y1 (a:=⟨k,0+j,G⟩) e,ZZ (a:=⟨k,0+j,G⟩) e];exact l j o
def ElQ.mono2(h:ElQ Q m W x b)(i:∀g,g<W.heap.size->Q g->Q' g):ElQ Q' m W x b:=by
 let⟨k,c,h1,l,e,f,d,j⟩:=h
 exact⟨k,c,h1,l,e,i k d f,d,j⟩
def ElQ.one(h:ElQ Q m W x b):x.cells=#[x]/\x.oneCell'=J:=by
 obtain⟨k,c,rfl,-⟩:=h;exact⟨Z,Z⟩
end
def r33(g:I):Yq:=sZ g 33 33
def r32(g:I):Yq:=sZ g 32 32
def iI{a:Bs}(f:a.size=33):Zl prog 142 #[pvl a] w (rZ w λe w'=>ElQ (w.heap.size<=·) 33 w' e a/\∃g,e=r33 g):=by
 have i:=Hid.mk' (AP f w);obtain⟨c,b⟩:=hE (w.alloc (.cells (aA a).toArray 103));rw[b.out]at i;have K:E (yz c w.heap.size (aA a)/\kZ w c):=by rw[<-b.out];exact⟨aF,aD _⟩
 obtain⟨va,k⟩:=hE (pvl a);have d:E ((ZM 103 va).run prog w=.ok (jZ w.heap.size) c):=by rw[<-k.out];exact i
 rw[k.out];have hs:=Vr w.heap.size;go_enter func142,ntmps142;go_wp2_with (first|(refine aG (u:=va) (v:=jZ w.heap.size) (w':=c) Z 103 (.tmp 0) Z ?_ ?_ ?_;rfl;exact d))
 go_ret;exact⟨_,Z,K.2,⟨w.heap.size,33,Z,S,f,Ys _,K.1.1,row_holds K.1⟩,_,Z⟩
structure TlL(Q:I->Prop)(base i:I)(W:Yp)(v:Yq)(B:I->Bs):Prop where
 ex:∃xs,W.ownsRow base 23 1 v i xs/\∀j,j<i->∃x,xs[j]? = F x/\ElQ Q 33 W x (B j)
def Eg{f n:I}{v:Yq}(h1:W.ownsRow b T 1 v n xs)(c:W.ownsRow f T 1 v n ys):xs=ys:=by
 have l:=h1.1;have i:=c.1;rcases id h1 with⟨-,⟨-,d⟩|⟨g,cap,cur,rfl,-⟩⟩
 .subst d;rw[yDt (by omega:xs.length=0),yDt (by omega:ys.length=0)]
 refine H.ext_getElem? λj=>?_
 by_cases m:j<n
 .have e:=h1.cells (g:=g) Z j xs[j] (YC S);have k:=c.cells (g:=g) Z j ys[j] (YC S);rw[e]at k;rw[YC (by omega:j<xs.length),YC (by omega:j<ys.length)];exact k
 rw[qz S,qz S]
section
variable {w W W' W1:Yp}{r k iL iR n:Nat}{cL cR vL vR v va vb:Yq}{Lb Rb:Nat->Bs}{L:Bs}{a b:Nat->Nat}{G H:Nat->List (Nat × Bs)}{U:List (Nat × Bs)}
def TlL.lt{i:I}{B:I->Bs}(h:TlL Q base i W v B)(k:v.ownBlock=F g):base<=g/\g<W.heap.size:=by
 obtain⟨xs,h1,-⟩:=h.ex;have:=cY h1 k;exact⟨this.1,this.2.1⟩
def TlL.keep{i:I}{B:I->Bs}(h:TlL Q base i W v B)(k:Kq Q W W')(ho:∀g,v.ownBlock=F g->W'.heap[g]? = W.heap[g]?):TlL Q base i W' v B:=by
 let⟨xs,h1,d⟩:=h.ex
 refine⟨xs,cG h1 ho,λj e=>?_⟩;let⟨x,b,c⟩:=d j e
 exact⟨x,b,c.keep k⟩
def TlL.mono2{i:I}{B:I->Bs}(h:TlL Q base i W v B)(c:∀g,g<W.heap.size->Q g->Q' g):TlL Q' base i W v B:=by
 let⟨xs,h1,d⟩:=h.ex
 refine⟨xs,h1,λj e=>?_⟩;let⟨x,k,b⟩:=d j e
 exact⟨x,k,b.mono2 c⟩
def LX{o:I}(h:SP.Only r 0 32 w W)(b:w.heap.size=k)(c:r<k)(d:k<=K):SP.Only r 0 32 w (W.setCells K o vs):=bX h S S
end
section
open SPA
variable {P:Nat}[NeZero P]{N:Nat}[NeZero N]
abbrev wP[NeZero P](X:OnP P):Bs:=wr X.1
def pX(a b:I->B N):∀n,prS N (λi=>(a i).val) (λi=>(b i).val) n=(Md.pr a b n).val
 | 0=>(yFo N).symm
 | n+1=>by
  show sPl N (prS N _ _ n) (sTi N (b n).val (a n).val)=(Md.pr a b n+a n*b n).val;rw[pX a b n,mM,jN];unfold sTi;rw[Ze]
omit [NeZero N] in
theorem EG(x y:B N)(n:I)(a:I->B N)(i:I):Bf N x.val y.val n (λi=>(a i).val) i=(Md.fS x y n a i).val:=by
 show sPl N (sTi N (a i).val x.val) (sTi N (a (n+i)).val y.val)=(x*a i+y*a (n+i)).val;rw[mM,jN,jN];unfold sTi;rw[Ze (a i).val,Ze (a (n+i)).val]
omit [NeZero N] in
theorem GT{n:I}{G H:I->LB}{U:LB}{g h:I->OnP P}{u:OnP P}(l:0<n)(f:0<c)(b:c*n<=64)(hG:Gd N n c G g)(d:Gd N n c H h)(j:Tl N U u)(e:0<U.length)(m:U.length<=16):GOk N n c G H U:=
 ⟨l,f,b,λi k=>⟨(hG.tl i k).ok,hG.len i k⟩,λi k=>⟨(d.tl i k).ok,d.len i k⟩,j.ok,e,m⟩
omit [NeZero N] in
theorem Tl.point(C:At P)(O:Ord N)(k:∀r:EC.Pt P,On r->mul N r=G){l:LB}{X:OnP P}(hT:Tl N l X)(b:0<l.length)(c:l.length<=512){v:Yq}(h:Sm 0 w v l):
 eZ 67 #[v] w (pvl (wr X.1)):=by
 have:=h.point C O k b c hT.lt hT.pts;rw[hT.sum]at this;exact this
def iCP:gZ 103 33:=gQ
def LW(C:At P)(O:Ord N)(k:∀r:EC.Pt P,On r->mul N r=none){G H:I->LB}{U:LB}{g h:I->OnP P}{u:OnP P}(q:0<m)(w:0<c)(j:c*m<=64)(hG:Gd N m c G g)(o:Gd N m c H h)(n:Tl N U u)(p:0<U.length)(s:U.length<=16)(a b:I->B N):
 ∃l,(∀(W:Yp) (v va f:Yq),GRq Q W v m G H U->SLq Q W va m (λi=>(a i).val)->SLq Q W f m (λi=>(b i).val)->dZ 158 #[v,va,f] W λe w'=>Sm W.heap.size w' e l) /\
  (∀(W:Yp) (v:Yq),Sm 0 W v l->eZ 67 #[v] W (pvl (wr ((aI C k).hd a b g h u m).1))):=by
 let⟨hT,hl⟩:=Up C k hG o n (d:=U.length) Z a b
 rw[<-pX]at hT hl;refine⟨_,λW v va f h1 x t=>Qm O m c G H U (GT q w j hG o n p s) _ _ (λi _=>(a i).isLt) (λi _=>(b i).isLt) v va f W h1 x t,λW v hv=>hT.point C O k (by rw[hl];omega) (by rw[hl];omega) hv⟩
end
section
abbrev pqS(v:Yq)(n:I)(a:I->I):Pq:=⟨λQ W=>SLq Q W v n a,λ_ _ _ k h=>h.keep k,λ_ _ _ m h=>h.mono2 m⟩
abbrev pqG(v:Yq)(n:I)(G H:I->LB)(U:LB):Pq:=⟨λQ W=>GRq Q W v n G H U,λ_ _ _ k h=>h.keep k,λ_ _ _ m h=>h.mono2 m⟩
def zH{o B:I}(h:SP.Only r o m w W)(c:B<=w.heap.size)(k:B<=r):Below B w W:=⟨h.os,h.tape,h.output,h.size,λg b=>h.block g S S⟩
namespace Mp
variable {w W W':Yp}{rs rs':List (Nat × List Yq)}{S:List Pq}{r:Nat}{L L':Bs}
def say(h:Mp w W rs S)(i:I)(k:SP.Only r 0 32 W W')(d:hZ W' r 0 L')(c:rs[i]? = F (r,aA L):=by rfl)(e:rs.set i (r,aA L')=rs':=by(simp only[Yy,Yz])<;>rfl):Mp w W' rs' S:=by
 subst e;have b:=h.lt (key c);refine h.turn c (h.bl.trans (zH k h.bl.size b.1)) k.size (λg f hl=>k.block g hl f) (nQ d (Yr b.2 k.size))
def log(h:Mp w W rs S)(i:I)(k:rs[i]? = F (r,aA L):=by rfl):hZ W r 0 L:=row_holds (h.at_ i k)
end Mp
def Row.upd{o:I}(h:yz W k vs)(hl:o+us.length<=vs.length):yz (W.setCells k o us) k (rep vs o us):=by
 have f:=PutTo.store (after:=rep vs o us) h.2.2 h.2.1 hl λj=>RG.rep_at hl j
 refine⟨by rw[setCells_size];exact h.1,f.range,?_⟩;rw[fE hl];exact f.there
def Row.th2{o n:I}(h:yz W k vs)(hl:o+n<=vs.length):W.there k o n:=λj b=>by
 have:=h.2.2 (o+j) (by omega);rwa[Yv]at this
section
variable {ι:Type}{V:ι->Yq}{O:ι->Yp->Prop}{w W W':Yp}
def gO(V:ι->Yq)(O:ι->Yp->Prop)(d:∀x W W',O x W->(∀g,(V x).ownBlock=F g->W'.heap[g]? = W.heap[g]?)->O x W')(hl:∀x W g,O x W->(V x).ownBlock=F g->b<=g/\g<W.heap.size)(x:ι):Pq:=⟨λQ W=>O x W/\∀g,(V x).ownBlock=F g->Q g,λ_ _ _ k h=>⟨d _ _ _ h.1 λg c=>k.block g (h.2 g c) (hl _ _ _ h.1 c).2,h.2⟩,λ_ _ _ m h=>⟨h.1,λg c=>m g (hl _ _ _ h.1 c).2 (h.2 g c)⟩⟩
def gB(V:ι->Yq)(ls:H ι)(g:I):Prop:=∃x∈ls,(V x).ownBlock=F g
def gN(V:ι->Yq)(ls:H ι)(s:Pq):Pq:=⟨λQ W=>s.p (λg=>Q g/\¬gB V ls g) W,λ_ _ _ k h=>s.kp _ _ _ ⟨k.size,λg b=>k.block g b.1⟩ h,λ_ _ _ m h=>s.mo _ _ _ (λg hl b=>⟨m g hl b.1,b.2⟩) h⟩
def gA(V:ι->Yq)(ls:H ι):Prop:=∀(i j:I) (x y:ι),ls[i]? = F x->ls[j]? = F y->i≠j->∀g,(V x).ownBlock=F g->(V y).ownBlock≠F g
def RX{S:H Pq}{ls:H ι}{i:I}{x y:ι}(q:∀x W W',O x W->(∀g,(V x).ownBlock=F g->W'.heap[g]? = W.heap[g]?)->O x W')(hl:∀x W g,O x W->(V x).ownBlock=F g->w.heap.size<=g/\g<W.heap.size)(K:Mp w W rs (ls.map (gO V O q hl)++S.map (gN V ls)))(A:gA V ls)(r:ls[i]? = F x)(r2:O y W')(B:Ap1 W W' (V x) (V y)):Mp w W' rs ((ls.set i y).map (gO V O q hl)++S.map (gN V (ls.set i y)))/\gA V (ls.set i y):=by
 have L:=Y7 r;have hx:(gO V O q hl x).p (Nk rs) W:=K.ob _ (tE _ (YT.2 ⟨x,L,Z⟩));have n:=(YF.1 r).1;have C:∀g,(V x).ownBlock=F g->w.heap.size<=g/\g<W.heap.size:=λg k=>hl _ _ _ hx.1 k
 have own:∀y∈ls,(gO V O q hl y).p (Nk rs) W:=λy T=>K.ob _ (tE _ (YT.2 ⟨y,T,Z⟩))
 have t:∀g,(V y).ownBlock=F g->(V x).ownBlock=F g\/W.heap.size<=g:=λg k=>by
  rcases B.mv with m|⟨⟨d,m,c⟩,-⟩
  .exact Y3 (m ▸ k)
  rw[m]at k;exact YZ (YR.inj k ▸ c)
 have nk:∀g,(V y).ownBlock=F g->Nk rs g:=λg k=>(t g k).elim (hx.2 g) (K.nk g)
 have mem:∀z∈ls.set i y,z=y\/∃j,j≠i/\ls[j]? = F z:=λz c=>by
  let⟨j,d,e⟩:=H.mem_iff_getElem.1 c
  rw[H.length_set]at d;rw[H.getElem_set]at e;by_cases f:i=j
  .rw[zd f]at e;exact Y3 e.symm
  rw[zi f]at e;exact YZ ⟨j,λh=>f h.symm,by rw[<-e];exact YC d⟩
 refine⟨⟨⟨B.os.trans K.bl.os,B.tape.trans K.bl.tape,B.output.trans K.bl.output,YA K.bl.size B.size,λg k=>(B.keep g (Yr k K.bl.size) λe=>oN ((C g e).1)).trans (K.bl.block g k)⟩,λz c=>⟨(K.rw z c).1,yN (K.rw z c).2 B.size (B.keep _ (K.rw z c).2.1 λe=>hx.2 _ e (YT.2 ⟨z,c,Z⟩))⟩,K.nd,λs hs=>?_⟩,?_⟩
 .rcases ZN.1 hs with hs|hs
  .obtain⟨z,c,rfl⟩:=YT.1 hs;rcases mem z c with rfl|⟨j,d,c⟩
   .exact⟨r2,nk⟩
   have f:=own z (Y7 c);exact⟨q _ _ _ f.1 λg k=>B.keep g (hl _ _ _ f.1 k).2 λe=>A i j x z r c (Ne.symm d) g e k,f.2⟩
  obtain⟨f,l,rfl⟩:=YT.1 hs;have h1:f.p (λg=>Nk rs g/\¬gB V ls g) W:=K.ob _ (xz _ (YT.2 ⟨f,l,Z⟩));have o:f.p (λg=>Nk rs g/\¬gB V (ls.set i y) g) W:=f.mo _ _ _ (λg hl k=>⟨k.1,λ⟨z,c,e⟩=>by
   rcases mem z c with rfl|⟨j,d,c⟩
   .rcases t g e with h|h
    .exact k.2 ⟨x,L,h⟩
    omega
   exact k.2 ⟨z,Y7 c,e⟩⟩) h1
  exact f.kp _ _ _ ⟨B.size,λg k hl=>by
   rcases B.mv with m|⟨-,m⟩
   .exact B.keep g hl λe=>k.2 ⟨y,H.mem_iff_getElem?.2 ⟨i,yD0 n⟩,m.trans e⟩
   exact m g hl⟩ o
 have o:∀(j:I) z,(ls.set i y)[j]? = F z->(j=i/\z=y)\/(j≠i/\ls[j]? = F z):=λj z d=>by
  by_cases e:i=j
  .subst e;rw[yD0 n]at d;exact Y3 ⟨Z,(YR.inj d).symm⟩
  rw[H.getElem?_set_ne e]at d;exact YZ ⟨λh=>e h.symm,d⟩
 intro a b z u X M f g k c;rcases o a z X with⟨N,Q⟩|⟨-,p⟩
 .rcases o b u M with⟨v,-⟩|⟨-,l⟩
  .exact f (N.trans v.symm)
  rw[Q]at k;rcases t g k with h|h
  .exact A i b x u r l (N ▸ f) g h c
  have:=(hl _ _ _ (own u (Y7 l)).1 c).2;omega
 rcases o b u M with⟨v,P⟩|⟨-,l⟩
 .rw[P]at c;rcases t g c with h|h
  .exact A a i z x p r (v ▸ f) g k h
  have:=(hl _ _ _ (own z (Y7 p)).1 k).2;omega
 exact A a b z u p l f g k c
end
structure Gl where
 v:Yq
 xs:H Yq
def pgk(x:Gl)(W W':Yp)(h:W.ownsRow b 23 1 x.v x.xs.length x.xs)(k:∀g,x.v.ownBlock=F g->W'.heap[g]? = W.heap[g]?):W'.ownsRow b 23 1 x.v x.xs.length x.xs:=cG h k
def pgl(x:Gl)(W:Yp)(g:I)(h:W.ownsRow b 23 1 x.v x.xs.length x.xs)(k:x.v.ownBlock=F g):b<=g/\g<W.heap.size:=⟨(cY h k).1,(cY h k).2.1⟩
def pgO(b:I):Gl->Pq:=gO Gl.v _ (pgk (b:=b)) (pgl (b:=b))
abbrev gbk(ls:H Gl)(g:I):Prop:=gB Gl.v ls g
abbrev pgN(ls:H Gl)(s:Pq):Pq:=gN Gl.v ls s
def gL(b:I)(ls:H Gl)(S:H Pq):H Pq:=ls.map (pgO b)++S.map (pgN ls)
abbrev ApG(ls:H Gl):Prop:=gA Gl.v ls
def pgE(xs:H Yq)(B:I->Bs):Pq:=⟨λQ W=>∀(j:I) x,xs[j]? = F x->ElQ Q 33 W x (B j),λ_ _ _ k h j x hx=>(h j x hx).keep k,λ_ _ _ m h j x hx=>(h j x hx).mono2 m⟩
def pgW(w:Yp)(r:I):Pq:=⟨λQ W=>w.heap.size<=W.heap.size/\∀g,g<w.heap.size->g≠r->Q g/\W.heap[g]? = w.heap[g]?,λ_ _ _ k h=>⟨YA h.1 k.size,λg b c=>⟨(h.2 g b c).1,(k.block g (h.2 g b c).1 (Yr b h.1)).trans (h.2 g b c).2⟩⟩,λ_ _ _ m h=>⟨h.1,λg b c=>⟨m g (Yr b h.1) (h.2 g b c).1,(h.2 g b c).2⟩⟩⟩
def pqB(v:Yq)(m:I)(X:Bs):Pq:=⟨λQ W=>ElQ Q m W v X,λ_ _ _ k h=>h.keep k,λ_ _ _ m h=>h.mono2 m⟩
def xF{x:Yq}{b:Bs}(h:ElQ Q 33 W x b):(pgE [x] (λ_=>b)).p Q W:=λj y k=>by
 obtain rfl:x=y:=by
  match j,k with
  | 0,k=>exact YR.inj k
 exact h
def yY{x:Yq}{B:I->Bs}{n:I}(b:xs.length=n)(h:(pgE xs B).p Q W)(hx:(pgE [x] (λ_=>B n)).p Q W):(pgE (xs++[x]) B).p Q W:=λj y k=>by
 by_cases c:j<xs.length
 .rw[Zc c]at k;exact h j y k
 obtain rfl:j=n:=by
  have:=(YF.1 k).1;rw[Yx,H.length_singleton]at this;omega
 rw[Zx (by omega),b,oF]at k;exact hx 0 y k
def ID{n:I}{B:I->Bs}(k:l.length=n)(h:(pgE (l.map r33) B).p Q W)(hx:(pgE [r33 gx] (λ_=>B n)).p Q W):(pgE ((l++[gx]).map r33) B).p Q W:=by
 rw[pe];exact yY (n:=n) (by rw[YO];exact k) h hx
def pgB(n:I):Pq:=⟨λ_ W=>n<=W.heap.size,λ_ _ _ k h=>YA h k.size,λ_ _ _ _ h=>h⟩
def nd2{n:I}(h:(l++l').Nodup)(hl:∀g∈l++l',g<n)(h1:n<=gx)(e:gx<b):((l++[gx])++(l'++[b])).Nodup:=by
 have c:∀g∈l,g<n:=λg k=>hl g (tE _ k)
 have d:∀g∈l',g<n:=λg k=>hl g (xz _ k)
 simp only[H.nodup_append,ZN,ZX,rx,YI,not_false_eq_true,yE2,and_true,true_and]at *;grind
section
variable {w W:Yp}{rs:List (Nat × List Yq)}{S S':List Pq}{ls:List Gl}{i:Nat}{x y:Gl}
variable {rs':List (Nat × List Yq)}
def Mp.drop(n:I)(h:Mp w W rs S)(e:rs.take n=rs':=by(simp only[ts,qt])<;>rfl):Mp w W rs' S:=by
 subst e;have hs:∀g,g∈(rs.take n).map (·.1)->g∈rs.map (·.1):=λg k=>by
  obtain⟨x,hx,rfl⟩:=YT.1 k;exact YT.2 ⟨x,yCY hx,Z⟩
 exact⟨h.bl,λx hx=>h.rw x (yCY hx),h.nd.sublist ((H.take_sublist n rs).map _),λs b=>s.mo _ _ _ (λg _ k hh=>k (hs g hh)) (h.ob s b)⟩
def Mg.nil(h:Mp w W rs S)(d:∀x∈ls,x=⟨nZ,[]⟩):Mp w W rs (gL b ls S)/\ApG ls:=by
 have ho:∀x∈ls,∀g,x.v.ownBlock≠F g:=λx hx g e=>by rw[d x hx]at e;cases e
 refine⟨⟨h.bl,h.rw,h.nd,λs hs=>?_⟩,λi j x y l m _ g k=>absurd k (ho x (Y7 l) g)⟩;rcases ZN.1 hs with hs|hs
 .obtain⟨x,hx,rfl⟩:=YT.1 hs;exact⟨by rw[d x hx];exact⟨Z,Y3 ⟨Z,Z⟩⟩,λg e=>absurd e (ho _ hx g)⟩
 .obtain⟨f,c,rfl⟩:=YT.1 hs;exact f.mo _ _ _ (λg _ k=>⟨k,λ⟨x,hx,e⟩=>ho x hx g e⟩) (h.ob f c)
def Mg.app(K:Mp w W rs (gL w.heap.size ls S))(A:ApG ls)(k:ls[i]? = F x)(r2:W'.ownsRow w.heap.size 23 1 y.v y.xs.length y.xs)(B:Ap1 W W' x.v y.v):Mp w W' rs (gL w.heap.size (ls.set i y) S)/\ApG (ls.set i y):=
 RX pgk pgl K A k r2 B
def Mg.get(K:Mp w W rs (gL b ls S))(j:I){s:Pq}(k:S[j]? = F s:=by rfl):s.p (λg=>Nk rs g/\¬gbk ls g) W:=K.ob _ (xz _ (YT.2 ⟨s,Y7 k,Z⟩))
def Mg.li(K:Mp w W rs (gL b ls S))(j:I)(k:ls[j]? = F x:=by rfl):W.ownsRow b 23 1 x.v x.xs.length x.xs:=(K.ob _ (tE _ (YT.2 ⟨x,Y7 k,Z⟩))).1
def Mg.has(K:Mp w W rs (gL b ls S))(hs:∀s∈S',s.p (λg=>Nk rs g/\¬gbk ls g) W):Mp w W rs (gL b ls S'):=⟨K.bl,K.rw,K.nd,λs h=>by
 rcases ZN.1 h with h|h
 .exact K.ob s (tE _ h)
 obtain⟨c,k,rfl⟩:=YT.1 h;exact hs c k⟩
def Mg.ad(K:Mp w W rs (gL b ls S))(s:Pq)(hs:s.p (λg=>Nk rs g/\¬gbk ls g) W)(e:S++[s]=S':=by(simp only[ZI,ZQ])<;>rfl):Mp w W rs (gL b ls S'):=e ▸ Mg.has K λx hx=>by
 rcases ZN.1 hx with hx|hx
 .exact K.ob _ (xz _ (YT.2 ⟨x,hx,Z⟩))
 rw[ZX.1 hx];exact hs
def Mg.q(_:Mp w W rs (gL b ls S)):∃Q,Hid ((λg=>Nk rs g/\¬gbk ls g)=Q):=⟨_,Z⟩
def Mg.lb(K:Mp w W rs (gL b ls S))(hx:x∈ls)(g:I)(k:x.v.ownBlock=F g):Nk rs g:=(K.ob _ (tE _ (YT.2 ⟨x,hx,Z⟩)):(pgO b x).p _ _).2 g k
def Mg.nk(K:Mp w W rs (gL b ls S))(g:I)(k:W.heap.size<=g):Nk rs g/\¬gbk ls g:=⟨K.nk g k,λ⟨x,hx,e⟩=>by
 have:=(cY (K.ob _ (tE _ (YT.2 ⟨x,hx,Z⟩)):(pgO b x).p _ _).1 e).2.1;omega⟩
end
section
variable {P:Zw}{ops:Array Y9}{Q:an->Act->Yp->Prop}{p r fuel:Nat}{o:Y9}{listed:Array Bool}{a a':Act}{w w':Yp}{u:Yq}{t:Tmp}{T:YW}{k off:Nat}{J:Iv}
def AW.s1(i:I)(d:u.cells=#[u])(h1:u.oneCell'=true)(s:(P.info? T).map (·.size)=F 1)(l:Hid (w.setCells k off [u]=w'))(h:J.p w->w.there k off 1/\J.p w')(e:AW P ops Q p r J fuel (listed.setIfInBounds i true) a' w')(ho:ops[i]? = F o:=by(simp only[YV,YP,YS])<;>rfl)(hd:o.dst=G:=by rfl)(f:o.guard=G:=by rfl)(b:o.op=.store T (.tmp t) y:=by rfl)(hx:a.eval (.tmp t)=oZ k off:=by rfl)(m:a.eval y=u:=by rfl)
 (n:a.put G ae=a':=by(simp only[Zo])<;>rfl) (g:Y6 .any ops listed=[i]:=by kernel_rfl):AW P ops Q p r J (fuel+1) listed a w:=λj=>by
 let⟨q,c⟩:=h j
 obtain rfl:=l;subst n;exact anyS.sto ho T (.tmp t) y b k off u d h1 q s (YZ c) (e c) hx m g f hd
end
end
namespace RG
inductive Hq where
 | v (x:Yq)
 | n (c:H Yq)
 | p (s:S1)
def Hq.s(b:I):Hq->S1
 | .v x=>pE x
 | .n c=>pN b c
 | .p s=>s
def isV(hs:H Hq)(k:I):zk:=match hs[k]? with|some (.v _)=>J|_=>D
def vq(hs:H Hq)(U:I->Yq)(k:I):Yq:=match hs[k]? with|some (.v x)=>x|_=>U k
def elo(b:yt Y9)(a0:Act)(hs:H Hq)(U:I->Yq)(k:I)(o:Y9)(t:Tmp):zb Yq:=
 match (H.range k).find? (λj=>bZ o j && aP b j == F t) with
 | some j=>F (vq hs U j)
 | none=>bif nC b k t then F (a0.eval (.tmp t)) else G
def el(b:yt Y9)(a0:Act)(hs:H Hq)(U:I->Yq)(k:I)(o:Y9):H (Tmp × Yq):=o.op.operands.toList.filterMap λx=>match x with | .tmp t=>(elo b a0 hs U k o t).map λv=>(t,v)|_=>G
def dU(k:yt Y9)(a:Act)(j:I):Yq:=match aP k j with|some t=>a.eval (.tmp t)|none=>ae
def qD(b:I):∀(hs:H Hq) (j:I) (q:Hq),hs[j]? = F q->nth (hs.map (Hq.s b)) j=q.s b
 | [],_,_,h=>by simp at h
 | x :: r,0,q,h=>by
  obtain rfl:x=q:=by simpa using h
  rfl
 | x :: r,j+1,q,h=>qD b r j q (by simpa using h)
abbrev gQ(hs:H Hq)(b:I)(B:Yp->Prop)(k:∀w w',kZ w w'->B w->B w'):Gw:=gwL (hs.map (Hq.s b)) B k
variable {P:Zw}{ops:Array Y9}{Q:an->Act->Yp->Prop}{w W:Yp}{a0 a:Act}{k b:Nat}{o:Y9}{hs:List Hq}{B:Yp->Prop}{hB:∀w w',Below w.heap.size w w'->B w->B w'}
def Ly{U:I->Yq}{x:Yq}(h:(nth (hs.map (Hq.s b)) j).p x W)(hx:U j=x):vq hs U j=x:=by
 unfold vq;split
 .rename_i y e
  rw[qD b hs j _ e]at h;exact(show x=y from h).symm
 exact hx
def Ot{a:Act}:∀(ps:H (Tmp × Yq)),(∀x∈ps,a.eval (.tmp x.1)=x.2)->AllE a ps
 | [],_=>trivial
 | x :: r,h=>⟨h x Zm,Ot r λy k=>h y (Zd _ k)⟩
def Ao(c:PreG (gQ hs b B hB) ops a0 k o a W):AllE a (el ops a0 hs (dU ops a) k o):=Ot _ λx hx=>by
 let⟨y,d,e⟩:=H.mem_filterMap.1 hx
 cases y with
 | tmp t =>
  dsimp only at e;obtain⟨v,hv,rfl⟩:=Yu.1 e;unfold elo at hv;split at hv
  .rename_i j hj
   have h1:=H.find?_some hj;simp only[YJ,beq_iff_eq]at h1;obtain rfl:=YR.inj hv;exact(Ly (c.n j t h1.1 h1.2) (by unfold dU;rw[h1.2])).symm
  cases hf:nC ops k t with
  | false=>rw[hf]at hv;cases hv
  | true =>
   rw[hf]at hv;obtain rfl:=YR.inj hv;exact c.o t hf
 | const v=>cases e
 | global g=>cases e
 | func f=>cases e
def Mc{U:I->Yq}(h:isV hs k=J):(nth (hs.map (Hq.s b)) k).p (vq hs U k) W:=by
 unfold isV at h;split at h
 .rename_i x e
  rw[qD b hs k _ e];rw[vq,e];rfl
 cases h
def gv(h:∀U W,((isV hs k,cI ((el ops a0 hs U k o).map (·.1)) o),(Za (evo (evl (el ops a0 hs U k o))) o).run P W)=((J,J),.ok (.value (vq hs U k)) W):=by intro _ _;kernel_rfl):bM P Q (gQ hs b B hB).flow ops a0 k o:=bE λa W c=>by
 have e:=h (dU ops a) W;simp only[ZV.injEq]at e;exact⟨_,_,W,Ao c,by rw[e.1.2,e.2],YH _ _,Mc e.1.1⟩
def gl{t:Tmp}{off:I}{cs:H Yq}(l:∀W,B W->W.rangeAt g off cs)(ho:o.op=.load T (.tmp t):=by rfl)(i:(P.underlying T).map (·.isRow)=F J:=by kernel_rfl)(m:(P.info? T).map (·.size)=F cs.length:=by kernel_rfl)(h:∀U,((isV hs k,((el ops a0 hs U k o).map (·.1)).contains t),evl (el ops a0 hs U k o) t,vq hs U k)=((J,J),oZ g off,.agg cs.toArray):=by intro _;kernel_rfl):bM P Q (gQ hs b B hB).flow ops a0 k o:=jA t ho i λa W c=>by
 have e:=h (dU ops a);simp only[ZV.injEq]at e;let⟨⟨f,d⟩,e3,j⟩:=e
 exact⟨g,off,cs,by rw[(Ao c).ev t (by simpa using d),e3],l W c.b,m,by rw[<-j];exact Mc f⟩
def gm{i c:Yp}{S:H Pq}{e:∀w w',kZ w w'->kZ c w->kZ c w'}{t:Tmp}{cs:H Yq}(K:E (Mp i c rs S))(j:I)(f:rs[j]? = F (g,cs):=by rfl)(ho:o.op=.load T (.tmp t):=by rfl)(d:(P.underlying T).map (·.isRow)=F J:=by kernel_rfl)(l:(P.info? T).map (·.size)=F cs.length:=by kernel_rfl)(h:∀U,((isV hs k,((el ops a0 hs U k o).map (·.1)).contains t),evl (el ops a0 hs U k o) t,vq hs U k)=((J,J),jZ g,.agg cs.toArray):=by intro _;kernel_rfl):bM P Q (gQ hs b (λW=>kZ c W) e).flow ops a0 k o:=
 gl (λW h=>((K.grow h).at_ j f).2.1) ho d l h
def gc{args:yt Yq}{x:Yq}(l:∀W,B W->Zl P f args W (rZ W λe W'=>e=x))(h:∀U W,((isV hs k,cI ((el ops a0 hs U k o).map (·.1)) o),vq hs U k,(Za (evo (evl (el ops a0 hs U k o))) o).run P W)=((J,J),x,.ok (.enter f args) W):=by intro _ _;kernel_rfl):bM P Q (gQ hs b B hB).flow ops a0 k o:=fC λa W c=>by
 have e:=h (dU ops a) W;simp only[ZV.injEq]at e;let⟨⟨g,d⟩,e3,i⟩:=e
 refine⟨_,f,args,Ao c,by rw[d,i],(l W c.b).mono ?_⟩;rintro r W' ⟨v,rfl,j,rfl⟩;exact⟨_,Z,j,by rw[<-e3];exact Mc g⟩
def gC{args:(I->Yq)->yt Yq}(g:∀U W,(∀j,bZ o j=J->(aP ops j).isSome=J->(nth (hs.map (Hq.s b)) j).p (U j) W)->B W->Zl P f (args U) W (rZ W λe W'=>(nth (hs.map (Hq.s b)) k).p e W'))(h:∀U W,(cI ((el ops a0 hs U k o).map (·.1)) o,(Za (evo (evl (el ops a0 hs U k o))) o).run P W)=(J,.ok (.enter f (args U)) W):=by intro _ _;kernel_rfl):bM P Q (gQ hs b B hB).flow ops a0 k o:=fC λa W c=>by
 have e:=h (dU ops a) W;simp only[ZV.injEq]at e;refine⟨_,f,_,Ao c,by rw[e.1,e.2],g _ W (λj h1 i=>?_) c.b⟩;let⟨t,d⟩:=zb.isSome_iff_exists.1 i
 have:=c.n j t h1 d;rw[dU,d];exact this
def gn(T:YW){c:H Yq}(f:∀W,B W->b<=W.heap.size)(e:hs[k]? = F (.n c):=by rfl)(h:∀W,(cI [] o,(Za (evo (evl [])) o).run P W)=(J,.ok (.value (jZ W.heap.size)) (W.alloc (.cells c.toArray T))):=by intro _;kernel_rfl):bM P Q (gQ hs b B hB).flow ops a0 k o:=
 ED c T (λW W' hR d=>by
  show(nth (hs.map (Hq.s b)) k).p _ W';rw[qD b hs k _ e];exact⟨_,Z,f W d,hR⟩) h
def wV(hs:H Hq)(U:I->Yq):H Y9->I->Act->Act
 | [],_,a=>a
 | o :: r,i,a=>wV hs U r (i+1) (a.put o.dst (vq hs U i))
def Cx(V U:I->Yq):∀(l:H Y9) (i:I) (a:Act),(∀j,i<=j->j<i+l.length->V j=vq hs U j)->dF V l i a=wV hs U l i a
 | [],_,_,_=>rfl
 | o :: r,i,a,h=>by
  show dF V r (i+1) _=wV hs U r (i+1) _;rw[h i (Ys _) (by rw[Y2];omega)];exact Cx V U r (i+1) _ λj h1 k=>h j (by omega) (by rw[Y2];omega)
def Mq.st{id:I}{S:H Pq}{o:Y9}{c:H Yq}{G:I->(I->Yq)->Act}{F:I->H (I × H Yq)}(hs:H Hq)(n al:I)(K:Hid (Mp w W rs S))
 (h:jQ P Q (gQ hs W.heap.size (λW'=>kZ W W') (λ_ _ l h=>h.trans (l.mono h.size))).flow ops a0 0 (ops.toList.take n))
 (u:∀U k d,(∀i,i<n->(nth (hs.map (Hq.s W.heap.size)) i).p (vq hs (λi=>if i=al then jZ k else U i) i) d)->kZ W d->Hid (Mp w d (F k) S)->wpList P ops Q [o] (G k U) d)
 (f:hs[al]? = some (.n c):=by rfl) (hd:ops.toList.drop n=[o]:=by rfl) (y:∀k,rs++[(k,c)]=F k:=by intro _;(simp only[ZI,ZQ])<;>rfl) (hG:∀k U,wV hs (λi=>if i=al then jZ k else U i) (ops.toList.take n) 0 a0=G k U:=by(intro _ _;rfl))
 (g:(decide (n<ops.size) && lL ops n && decide (al<n))=J:=by kernel_rfl) (v:P.follows .mixedOrders=J:=by kernel_rfl) (z:C7 ops a0.tmps.size=J:=by kernel_rfl):(ZP id ops J).wp P Q a0 W:=by
 rw[YJ,decide_eq_true_eq]at g;refine Gw.tail2 _ n g.1 v z h (YH _ _).drew λV d hR r=>?_
 rw[hd];let⟨k,x,m,l⟩:(pN W.heap.size c).p (V al) d:=by
  have e:(nth (hs.map (Hq.s W.heap.size)) al).p (V al) d:=hR al g.2;rw[qD _ hs al _ f]at e;exact e
 have s:(λi=>if i=al then jZ k else V i)=V:=funext λi=>by
  split
  .rename_i e;rw[e,x]
  rfl
 have f:∀j,j<n->V j=vq hs V j:=λj p=>(Ly (b:=W.heap.size) (hR j p) Z).symm
 rw[Cx (hs:=hs) V V (ops.toList.take n) 0 a0 λj _ p=>f j (by rw[H.length_take]at p;omega)];have q:=hG k V;rw[s]at q;rw[q];exact u V k d (λi t=>by rw[s,<-f i t];exact hR i t) r (K.add r l m (y k))
end RG
section
open SPA
variable {P:Nat}[NeZero P]{N:Nat}[NeZero N]
def SI:yZ 26:=yQ
def Ul:gZ 26 4:=gQ
def DjF(B:I)(W:Yp)(t:I)(k b c d:Yq):Prop:=∃gA gB l m,c=r32 gA/\d=r32 gB/\(gA :: gB :: (l++m)).Nodup/\W.ownsRow 0 23 1 k t (l.map r33)/\W.ownsRow 0 23 1 b t (m.map r33)/\∀g,g∈gA :: gB :: (l++m)->B<=g/\g<W.heap.size
structure OnB(r:I)(w W:Yp):Prop where
 os:W.os=w.os
 tape:W.tape=w.tape
 output:W.output=w.output
 size:w.heap.size<=W.heap.size
 block:∀g,g<w.heap.size->g≠r->W.heap[g]? = w.heap[g]?
def OnB.new{B:I}(h:OnB r w W)(c:B<=w.heap.size)(k:B<=r):Below B w W:=⟨h.os,h.tape,h.output,h.size,λg b=>h.block g S S⟩
def Mp.sayB{k:H (I × H Yq)}{S:H Pq}{L L':Bs}(h:Mp w W rs S)(i:I)(b:OnB r W W')(j:hZ W' r 0 L')(d:rs[i]? = F (r,aA L):=by rfl)(e:rs.set i (r,aA L')=k:=by(simp only[Yy,Yz])<;>rfl):Mp w W' k S:=by
 subst e;have c:=h.lt (key d);exact h.turn d (h.bl.trans (b.new h.bl.size c.1)) b.size (λg f hl=>b.block g hl f) (nQ j (Yr c.2 b.size))
structure PhR(w:Yp)(r t:I)(Lb Rb:I->Bs)(L:Bs)(A B:Bs)(e:Yq)(w':Yp):Prop where
 on:OnB r w w'
 ex:∃vL vR vA vB,e=.agg #[vL,vR,vA,vB]/\TlL (λ_=>True) w.heap.size t w' vL Lb/\TlL (λ_=>True) w.heap.size t w' vR Rb/\ElQ (w.heap.size<=·) 32 w' vA A/\ElQ (w.heap.size<=·) 32 w' vB B
 lg:hZ w' r 0 L
 dj:∀vL vR vA vB,e=.agg #[vL,vR,vA,vB]->DjF w.heap.size w' t vL vR vA vB
def uLL:wZ 24:=wQ
def iLL:gZ 24 1:=gQ
def UL{X Y:Bs}(O:Ord N)(i:IsP N)(r:I)(L:Bs)(A B:OnP P)(f:X=wP A)(g:Y=wP B):∃(s:Bs) (c:Fin N),E (chF N L A B=(s,c)/\s.size=32)/\E (∀W:Yp,hZ W r 0 L->L.size=32->cZ 146 #[lgV r,.string ⟨#[108,101,102,116]⟩,pvl X,.string ⟨#[114,105,103,104,116]⟩,pvl Y] W (Ret λe w'=>SP.Only r 0 32 W w'/\hZ w' r 0 s/\e=nv c.val)):=by
 subst f g;have e:chF N L A B=(aN (jR [108,101,102,116] [114,105,103,104,116] L (wP A) (wP B)),rW N (jR [108,101,102,116] [114,105,103,104,116] L (wP A) (wP B))):=by unfold chF;dsimp only
 refine⟨_,_,⟨e,aW⟩,λW h1 j=>?_⟩;have k:=vN O r L (wP A) (wP B) ⟨#[108,101,102,116]⟩ ⟨#[114,105,103,104,116]⟩ dC dC (aY A.1) (aY B.1) W h1 j;have d:jR (⟨#[108,101,102,116]⟩:R).data.toList (⟨#[114,105,103,104,116]⟩:R).data.toList L (wP A) (wP B)=jR [108,101,102,116] [114,105,103,104,116] L (wP A) (wP B):=rfl;rw[d]at k;have b:∀M,cha N M<N:=λM=>pO O
 generalize jR [108,101,102,116] [114,105,103,104,116] L (wP A) (wP B)=M at k;rw[Da i.1 (b M)]at k;exact k
def own_base{n:I}{v:Yq}(h:W.ownsRow base e k v n xs)(i:b<=base):W.ownsRow b e k v n xs:=by
 rcases h with⟨c,h1|⟨g,cap,cur,rfl,f,d⟩⟩
 .exact⟨c,Y3 h1⟩
 exact⟨c,YZ ⟨g,cap,cur,Z,YA i f,d⟩⟩
omit [NeZero N] in
theorem iE(O:Ord N){a:I}(c:a<N)(w:Yp):dZ 141 #[nv a] w λe w'=>ElQ (w.heap.size<=·) 32 w' e (bx a)/\∃g,e=r32 g:=by
 apply(sK O c w).mono;rintro e w' ⟨v,rfl,k,b,rfl⟩;exact⟨_,Z,b.bel,⟨k,32,Z,Ys _,bP a,b.le,b.lt,cb_holds b.range b.there⟩,k,Z⟩
def iB1:gZ 23 1:=gQ
def UO{n:I}:(Z0 24 1 #[(0,sZ k n c)]).run prog w=.ok (sZ w.heap.size 1 1) (w.alloc (.cells #[sZ k n c] 23)):=kR
def TlL.one{i:I}{v:Yq}{B:I->Bs}(h:TlL Q base i W v B):v.cells=#[v]/\v.oneCell'=J:=by
 obtain⟨xs,⟨-,⟨rfl,-⟩|⟨g,cap,cur,rfl,-⟩⟩,-⟩:=h.ex<;>exact⟨Z,Z⟩
def WP{x:Yq}{b:Bs}(h:ElQ Q 33 W x b):(Z0 24 1 #[(0,x)]).run prog w=.ok (sZ w.heap.size 1 1) (w.alloc (.cells #[x] 23)):=by
 obtain⟨k,c,rfl,-⟩:=h;exact UO
def nfB{b:zk}(h:b=J):¬b=D:=λe=>by rw[h]at e;cases e
def VK(m:I):((m+m:I):Y).tdiv 2=(m:Y):=by rw[sI S];omega
structure Rnd(r m:I)(G H G' H':I->LB)(U l1 l2:LB)(a b a' b':I->I)(s s' X Y:Bs)(x xi:I):Prop where
 m0:0<m
 m5:m<=500
 sX:X.size=33
 sY:Y.size=33
 ss:s'.size=32
 hl:∀(W:Yp) (v va vb:Yq),GRq (λ_=>True) W v m (λj=>G (m+j)) H U->SLq (λ_=>True) W va m a->SLq (λ_=>True) W vb m (λj=>b (m+j))->dZ 158 #[v,va,vb] W λe w'=>Sm W.heap.size w' e l1
 pl:∀(W:Yp) (v:Yq),Sm 0 W v l1->eZ 67 #[v] W (pvl X)
 hr:∀(W:Yp) (v va vb:Yq),GRq (λ_=>True) W v m G (λj=>H (m+j)) U->SLq (λ_=>True) W va m (λj=>a (m+j))->SLq (λ_=>True) W vb m b->dZ 158 #[v,va,vb] W λe w'=>Sm W.heap.size w' e l2
 pr:∀(W:Yp) (v:Yq),Sm 0 W v l2->eZ 67 #[v] W (pvl Y)
 ch:∀W:Yp,hZ W r 0 s->s.size=32->cZ 146 #[lgV r,.string ⟨#[108,101,102,116]⟩,pvl X,.string ⟨#[114,105,103,104,116]⟩,pvl Y] W (Ret λe w'=>SP.Only r 0 32 W w'/\hZ w' r 0 s'/\e=nv x)
 iv:∀W:Yp,eZ 159 #[nv x] W (nv xi)
 fa:∀(W:Yp) (v:Yq),SLq (λ_=>True) W v (m+m) a->dZ 160 #[v,nv x,nv xi] W λe w'=>SLq (W.heap.size<=·) w' e m a'
 fb:∀(W:Yp) (v:Yq),SLq (λ_=>True) W v (m+m) b->dZ 160 #[v,nv xi,nv x] W λe w'=>SLq (W.heap.size<=·) w' e m b'
 fg:∀(Q:I->Prop) (W:Yp) (v:Yq),(∀g,W.heap.size<=g->Q g)->GRq Q W v (m+m) G H U->dZ 161 #[v,nv x] W λe w'=>GRq Q w' e m G' H' U
def EN(w:Yp)(r:I):Yp:={ w with heap:=w.heap.extract 0 r }
omit [NeZero P] [NeZero N] in
theorem qI(h:r<=w.heap.size):(EN w r).heap.size=r:=by
 show(w.heap.extract 0 r).size=r;rw[yt.size_extract];omega
omit [NeZero P] [NeZero N] in
theorem EM(h:r<=w.heap.size):Below (EN w r).heap.size (EN w r) w:=⟨Z,Z,Z,by rw[qI h];exact h,λg k=>by
 rw[qI h]at k;show w.heap[g]? = (w.heap.extract 0 r)[g]?;rw[yt.getElem?_extract];simp;omega⟩
omit [NeZero P] [NeZero N] in
theorem Nf{c:Yp}{S:H Pq}{ls:H Gl}{i:I}{v:Yq}(K:Mp c W rs (gL c.heap.size ls S))(A:ApG ls)(d:ls[i]? = F ⟨v,l.map r33⟩)(n:l.length<=900)(e:W.cell? ⟨ga,0,G⟩=F (r33 gx)):∃k W',(Zn #[24,24] 24 #[v,sZ ga 1 1]).run prog W=.ok k W'/\Mp c W' rs (gL c.heap.size (ls.set i ⟨k,(l++[gx]).map r33⟩) S)/\ApG (ls.set i ⟨k,(l++[gx]).map r33⟩)/\W.heap.size<=W'.heap.size/\k.cells=#[k]/\k.oneCell'=J:=by
 let⟨k,W',j,r2,B⟩:=Jq (x:=r33 gx) (Mg.li K i d) Z e (by rw[YO];omega) K.bl.size
 have b:W'.ownsRow c.heap.size 23 1 k ((l++[gx]).map r33).length ((l++[gx]).map r33):=by
  rw[pe,Yx,YO]at *;exact r2
 let⟨m,f⟩:=Mg.app (y:=⟨k,(l++[gx]).map r33⟩) K A d b B
 refine⟨k,W',j,m,f,B.size,?_⟩;rcases r2 with⟨-,⟨rfl,-⟩|⟨g,cc,cur,rfl,-⟩⟩<;>exact⟨Z,Z⟩
def S7(k e c:I)(b f:Yq)(d g:H Yq)(l:yt zk)(W:Yp):Prop:=(l.getD 13 D=D->W.cell? ⟨k,0,G⟩=F b)/\(l.getD 15 D=D->W.cell? ⟨k,1,G⟩=F f)/\W.rangeAt e 0 d/\W.rangeAt c 0 g
omit [NeZero P] [NeZero N] in
theorem S7.i{k f c:I}{b g:Yq}{d j:H Yq}{i:I}(h1:i≠13)(m:i≠15)(l:yt zk)(W:Yp)(h:S7 k f c b g d j (l.setIfInBounds i J) W):S7 k f c b g d j l W:=⟨λe=>h.1 (by rw[getD_set_ne false h1];exact e),λe=>h.2.1 (by rw[getD_set_ne false m];exact e),h.2.2⟩
omit [NeZero P] [NeZero N] in
theorem Gv{B n:I}{v:Yq}(h:W.ownsRow b T 1 v n xs)(d:∀g,v.ownBlock=F g->B<=g):W.ownsRow B T 1 v n xs:=by
 rcases h with⟨k,h1|⟨g,cap,cur,rfl,e,c⟩⟩
 .exact⟨k,Y3 h1⟩
 exact⟨k,YZ ⟨g,cap,cur,Z,d g Z,c⟩⟩
omit [NeZero P] [NeZero N] in
theorem CC{n:I}{v:Yq}(h:W.ownsRow b T 1 v n xs):v.oneCell'=J:=by
 rcases h with⟨-,⟨rfl,-⟩|⟨g,cap,cur,rfl,-⟩⟩<;>rfl
omit [NeZero P] [NeZero N] in
theorem RZ{n B:I}{A:Bs}(h:ElQ Q m W (sZ g n n) A)(i:B<=g):ElQ (B<=·) m W (sZ g n n) A:=by
 obtain⟨k,c,b,f,e3,-,d,e⟩:=h;obtain rfl:=YR.inj (congrArg tz b);exact⟨g,c,b,f,e3,i,d,e⟩
omit [NeZero P] [NeZero N] in
theorem TK{n gA gB:I}{f i:Yq}{L A B:Bs}{Lb Rb:I->Bs}{s1 s2 s3:Pq}(K:Mp (EN w r) W ((r,aA L) :: rs) (gL (EN w r).heap.size [⟨f,l.map r33⟩,⟨i,l'.map r33⟩] [pgW w r,s1,s2,s3,pgE (l.map r33) Lb,pgE (l'.map r33) Rb,pqB (r32 gA) 32 A,pqB (r32 gB) 32 B]))(h1:l.length=t)(z:l'.length=t)(C:(l++l').Nodup)(p:∀g∈l++l',w.heap.size<=g/\g<n)(M:n<=gA)(h6:gA<gB)(h7:gB<W.heap.size)(T:w.heap.size<=n):PhR w r t Lb Rb L A B (.agg #[f,i,r32 gA,r32 gB]) W:=by
 have q:w.heap.size<=W.heap.size/\∀g,g<w.heap.size->g≠r->(Nk ((r,aA L) :: rs) g/\¬gbk [⟨f,l.map r33⟩,⟨i,l'.map r33⟩] g)/\W.heap[g]? = w.heap[g]?:=Mg.get K 0;have up:∀x∈([⟨f,l.map r33⟩,⟨i,l'.map r33⟩]:H Gl),∀g,x.v.ownBlock=F g->w.heap.size<=g:=λx hx g k=>yCZ λu=>by
  have c:g≠r:=λe=>Mg.lb K hx g k (by rw[e];simp)
  exact(q.2 g (by omega) c).1.2 ⟨x,hx,k⟩
 have o:=Gv (Mg.li K 0) (up _ Zm);have s:=Gv (Mg.li K 1) (up _ (Zd _ Zm));rw[YO,h1]at o;rw[YO,z]at s;have y:∀ {m:H I}{v:Yq}{X:I->Bs}{Q:I->Prop},m.length=t->W.ownsRow w.heap.size 23 1 v t (m.map r33)->(pgE (m.map r33) X).p Q W->TlL (λ_=>True) w.heap.size t W v X:=λ{m v X Q} O ho c=>⟨m.map r33,ho,λj V=>by
  have e:(m.map r33)[j]? = F (r33 m[j]):=by rw[ZE,YC (by omega)];rfl
  exact⟨_,e,(c j _ e).mono2 λ_ _ _=>trivial⟩⟩
 refine⟨⟨K.bl.os,K.bl.tape,K.bl.output,q.1,λg k u=>(q.2 g k u).2⟩,⟨f,i,r32 gA,r32 gB,Z,y h1 o (Mg.get K 4),y z s (Mg.get K 5),RZ (Mg.get K 6) (by omega),RZ (Mg.get K 7) (by omega)⟩,K.log 0,λa b d e c=>?_⟩;injection c with c
 simp only[yt.mk.injEq,H.cons.injEq,and_true]at c;obtain⟨rfl,rfl,rfl,rfl⟩:=c;refine⟨gA,gB,l,l',Z,Z,?_,own_base o (aw _),own_base s (aw _),λg k=>?_⟩
 .rw[rx,rx];refine⟨λe=>?_,λe=>?_,C⟩
  .rcases Zb.1 e with e|e
   .omega
   have:=(p _ e).2;omega
  have:=(p _ e).2;omega
 rcases Zb.1 k with rfl|k
 .omega
 rcases Zb.1 k with rfl|k
 .omega
 have:=p _ k;omega
omit [NeZero P] [NeZero N] in
theorem PL{I:Nat->(Nat->List (Nat × Bs))->(Nat->List (Nat × Bs))->Prop}(O:Ord N)(t:Nat)(ht:t<=6)(A B:Nat->Nat->Nat)(S Lb Rb:Nat->Bs)(U:List (Nat × Bs))(r:Nat)(b5:∀i G H,i<t->I i G H->∃m l1 l2 G' H' x xi,2^(t-i)=m+m/\2^(t-(i+1))=m/\Rnd r m G H G' H' U l1 l2 (A i) (B i) (A (i+1)) (B (i+1)) (S i) (S (i+1)) (Lb i) (Rb i) x xi/\I (i+1) G' H')(hA:A t 0<N)(k:B t 0<N)(v0 ki kj:Yq)(w:Yp)(hL:yx encB w r 0 (S 0))(kd:(S 0).size=32){G0 H0:Nat->List (Nat × Bs)}(hI:I 0 G0 H0)(hv:GRq (·≠r) w v0 (2^t) G0 H0 U)(ha:SLq (·≠r) w ki (2^t) (A 0))(C:SLq (·≠r) w kj (2^t) (B 0)):
 Zl prog 83 #[lgV r,v0,ki,kj] w (Ret (PhR w r t Lb Rb (S t) (bx (A t 0)) (bx (B t 0)))):=by
 have hr:=Holds.lt hL (by rw[kd];decide);obtain⟨x1,x2,x3,rfl,-⟩:=id hv.ex;obtain⟨c,hc⟩:=hE (EN w r);have bi:E (c.heap.size=r):=by rw[<-hc.out];exact qI (ax hr)
 have nk:∀g,Nk [(r,aA (S 0))] g↔g≠r:=λg=>by simp[Nk]
 have K0:E (Mp c w [(r,aA (S 0))] [pgW w r,pqG (.agg #[x1,x2,x3]) (2^t) G0 H0 U,pqS ki (2^t) (A 0),pqS kj (2^t) (B 0),pgE (([]:List Nat).map r33) Lb,pgE (([]:List Nat).map r33) Rb]):=by
  refine⟨by rw[<-hc.out];exact EM (ax hr),λx hx=>?_,by simp,λs hs=>?_⟩
  .obtain rfl:=ZX.1 hx;exact⟨Nat.le_of_eq bi.out,nQ hL hr⟩
  .simp only[Zb,YI,or_false]at hs;rcases hs with rfl|rfl|rfl|rfl|rfl|rfl
   .exact⟨Ys _,λg o f=>⟨(nk g).2 f,Z⟩⟩
   .exact hv.mono2 λg _ o=>(nk g).2 o
   .exact ha.mono2 λg _ o=>(nk g).2 o
   .exact C.mono2 λg _ o=>(nk g).2 o
   .exact λj x hx=>by cases hx
   .exact λj x hx=>by cases hx
 have HS:=mk4 b5 hA k ht;have kf:=mk2 hI kd;clear b5 hA k ht hI hL kd hv ha C;go_enter func83,ntmps83;refine PW.bg [] ?_;refine PM.al 145 [jZ r] K0 λk1 w1 K1=>?_
 refine PM.al 133 [x1,x2,x3] K1 λk2 w2 K2=>?_
 refine PM.al 26 [.slice none 0 0,.slice none 0 0,.slice none 0 0,.slice none 0 0] K2 λk3 w3 K3=>?_
 refine PW.dn ?_;refine PW.bg [] ?_;refine PM.al 26 [.slice none 0 0,.slice none 0 0,.slice none 0 0,.slice none 0 0] K3 λf w4 K4=>?_
 refine PW.dn ?_;refine Yt ?_;refine ZR ?_;have KL:=mk1 (Mg.nil (ls:=[⟨.slice none 0 0,[]⟩,⟨.slice none 0 0,[]⟩]) (b:=c.heap.size) K4.out (by simp));go_loopg [2,3] t (λmm s2 s3 wr=>∃i:Nat,i+mm=t/\E (∃(l l':List Nat) (z u x1 x2 x3:Yq) (G H:Nat->List (Nat × Bs)),I i G H/\(l.length=i/\l'.length=i/\(l++l').Nodup/\(∀g∈l++l',w.heap.size<=g/\g<wr.heap.size))/\(S i).size=32/\ApG [⟨z,l.map r33⟩,⟨u,l'.map r33⟩]/\Mp c wr [(r,aA (S i)),(k1,[jZ r]),(k2,[x1,x2,x3]),(k3,[.slice none 0 0,.slice none 0 0,.slice none 0 0,.slice none 0 0]),(f,[z,u,.slice none 0 0,.slice none 0 0])] (gL c.heap.size [⟨z,l.map r33⟩,⟨u,l'.map r33⟩] [pgW w r,pqG (.agg #[x1,x2,x3]) (2^(t-i)) G H U,pqS s2 (2^(t-i)) (A i),pqS s3 (2^(t-i)) (B i),pgE (l.map r33) Lb,pgE (l'.map r33) Rb])))
 case atStart=>exact⟨0,oM,[],[],_,_,x1,x2,x3,_,_,kf.1,⟨Z,Z,yE2,λg o=>(YI o).elim⟩,kf.2,KL.2,KL.1⟩
 case round =>
  clear K0 K1 K2 K3 K4 KL kf;obtain⟨i,bm,KM⟩:=hrel;by_cases hi:i<t
  .obtain⟨l,l',z,u,y1,y2,y3,G,H,hI,hN,kr,hp,hK⟩:=KM.out;obtain⟨m,l1,l2,G',H',x,xi,e1,e2,R,b4⟩:=HS.1 i G H hi hI;rw[e1]at hK;obtain⟨ga,M,ca,rfl,bf,-⟩:=(Mg.get hK 2:SLq _ wr _ _ _)
   obtain⟨K,T,cb,rfl,b8,-⟩:=(Mg.get hK 3:SLq _ wr _ _ _)
   have K0:=mk1 (Mg.ad hK (pgB wr.heap.size) (Ys _));have q:=mk6 hN kr hp e2 b4 hi;have hk:=Mg.get K0.out 0;have kh:w.heap.size<=wr.heap.size:=hk.1;clear hk;have be:=R.m0;have bc:=R.m5;have R:=mk1 R;have ba:(1:Y)<((m+m:Nat):Y):=oM;have eq:YQ.wrap (((m+m:Nat):Y).tdiv 2)=(m:Y):=by rw[VK,Zy];omega
   have kz:=FS ga M (m+m) ca m oM;have kk:=FO K T (n:=(m+m)) (c:=cb) m oM b8;have kl:=FO ga M (n:=(m+m)) (c:=ca) m oM bf;have kp:=FS K T (m+m) cb m oM;rw[xq]at kk kl;clear KM hK hI hN kr hp e1 e2 b4;refine Yt ?_;refine PW.rg [iZ ((m+m:Nat):Y),.bool (decide ((1:Y)<((m+m:Nat):Y)))] ?_;rw[decide_eq_true ba];refine Y5 Z ?_;refine ZK ?_;refine ZR ?_;refine PW.rg [iZ ((m+m:Nat):Y),iZ (YQ.wrap (((m+m:Nat):Y).tdiv 2)),iZ (YQ.wrap (((m+m:Nat):Y).tdiv 2))] ?_;rw[eq];refine PW.bg [] ?_;refine PM.ro 2 K0 aq ?_;refine PW.ca (Kx m be bc G H U (.agg #[y1,y2,y3]) wr (Mg.get K0.out 1)) ?_;rintro e W1 ⟨b3,f1,f2,rfl,-,-,kw,b7,ke,kg⟩;obtain⟨p1,p2,p3,ef,-⟩:=id ke.ex;obtain⟨q1,q2,q3,eg,-⟩:=id kg.ex;obtain rfl:=Y8.inj ef;obtain rfl:=Y8.inj eg;have K1:=mk1 (Mg.ad (Mg.ad (K0.out.grow b3) (pqG (.agg #[p1,p2,p3]) m (λj=>G (m+j)) H U) ke) (pqG (.agg #[q1,q2,q3]) m G (λj=>H (m+j)) U) kg);clear K0 b3 ke kg ef eg;refine PW.go [.agg #[p1,p2,p3],.agg #[q1,q2,q3]] ?_;refine PM.al 133 [.slice none 0 0,.slice none 0 0,.slice none 0 0] K1 λk5 w5 y=>?_
   refine PM.al 133 [.slice none 0 0,.slice none 0 0,.slice none 0 0] y λk6 w6 K6=>?_
   refine PM.st 5 [p1,p2,p3] K6 aq (λw7 K7=>?_) (h1:=kw);refine PM.st 6 [q1,q2,q3] K7 aq (λw8 L=>?_) (h1:=b7);clear K1 y K6 K7;refine PW.dn ?_;refine Yt ?_;refine Mq.st [.v (.agg #[p1,p2,p3]),.v (.slice (F ⟨ga,M,none⟩) (m+m) ca),.v (iZ m),.v (.slice (F ⟨ga,M,none⟩) m ca),.v (.slice (F ⟨K,T,none⟩) (m+m) cb),.v (iZ m),.v (.slice (F ⟨K,T+m*4,none⟩) m (cb-m)),.p (pM (λ_=>True) l1),.v (pvl (Lb i)),.n z33] 10 9 L ⟨gm L 5,gv,gv,RG.gX 1 29 2 30 kz,gv,gv,RG.gX 4 32 5 33 kk,
    RG.gC (λU W _ k=>(R.out.hl W (.agg #[p1,p2,p3]) (.slice (F ⟨ga,M,none⟩) m ca) (.slice (F ⟨K,T+m*4,none⟩) m (cb-m)) ((Mg.get (L.out.grow k) 7:GRq _ _ _ _ _ _ _).mono λ_ _=>trivial) ((Mg.get (L.out.grow k) 2:SLq _ _ _ _ _).low.mono λ_ _=>trivial) ((Mg.get (L.out.grow k) 3:SLq _ _ _ _ _).high.mono λ_ _=>trivial)).mono (by
     rintro e W' ⟨v,rfl,C,hs⟩;exact⟨_,Z,C,hs.q.mono λ_ _=>trivial⟩)),
    RG.gC (args:=λU=>#[U 7]) (λU W h k=>R.out.pl W (U 7) (h 7 kR kR).sm),gn 103 (λW k=>k.size),yw⟩ (λV k7 a hR k K9=>?_)
   clear hR k;dsimp only[wV,vq,YP,YS,Zs,gD,YV,yr,reduceIte];simp only[Zo,Yw,Yy,Yz];have sX:=R.out.sX;have sY:=R.out.sY;have lX:(aA (Lb i)).length=z33.length:=aB sX;have lY:(aA (Rb i)).length=z33.length:=aB sY;refine PM.st 7 (aA (Lb i)) K9 hQr (λwa Ka=>?_) (hl:=lX) (hT:=by rw[aB sX];exact iCP) (h1:=eH);refine PW.dn ?_;clear L K9;refine Yt ?_;refine Mq.st [.v (.agg #[q1,q2,q3]),.v (.slice (F ⟨ga,M,none⟩) (m+m) ca),.v (iZ m),.v (.slice (F ⟨ga,M+m*4,none⟩) m (ca-m)),.v (.slice (F ⟨K,T,none⟩) (m+m) cb),.v (iZ m),.v (.slice (F ⟨K,T,none⟩) m cb),.p (pM (λ_=>True) l2),.v (pvl (Rb i)),.n z33] 10 9 Ka ⟨gm Ka 6,gv,gv,RG.gX 1 38 2 39 kl,gv,gv,RG.gX 4 41 5 42 kp,
    RG.gC (λU W _ k=>(R.out.hr W (.agg #[q1,q2,q3]) (.slice (F ⟨ga,M+m*4,none⟩) m (ca-m)) (.slice (F ⟨K,T,none⟩) m cb) ((Mg.get (Ka.out.grow k) 8:GRq _ _ _ _ _ _ _).mono λ_ _=>trivial) ((Mg.get (Ka.out.grow k) 2:SLq _ _ _ _ _).high.mono λ_ _=>trivial) ((Mg.get (Ka.out.grow k) 3:SLq _ _ _ _ _).low.mono λ_ _=>trivial)).mono (by
     rintro e W' ⟨v,rfl,C,hs⟩;exact⟨_,Z,C,hs.q.mono λ_ _=>trivial⟩)),
    RG.gC (args:=λU=>#[U 7]) (λU W h k=>R.out.pr W (U 7) (h 7 kR kR).sm),gn 103 (λW k=>k.size),yw⟩ (λV k8 a hR k Kb=>?_)
   clear hR k;dsimp only[wV,vq,YP,YS,Zs,gD,YV,yr,reduceIte];simp only[Zo,Yw,Yy,Yz];refine PM.st 8 (aA (Rb i)) Kb hQr (λwc Kc=>?_) (hl:=lY) (hT:=by rw[aB sY];exact iCP) (h1:=eH);refine PW.dn ?_;clear Ka Kb kz kk kl kp kw b7;have Kd:=mk1 (Mg.has (S':=[pgW w r,pqG (.agg #[y1,y2,y3]) (m+m) G H U,pqS (.slice (F ⟨ga,M,none⟩) (m+m) ca) (m+m) (A i),pqS (.slice (F ⟨K,T,none⟩) (m+m) cb) (m+m) (B i),pgE (l.map r33) Lb,pgE (l'.map r33) Rb,pgB wr.heap.size]) Kc.out.drew (λs hs=>by
    simp only[Zb,YI,or_false]at hs;rcases hs with rfl|rfl|rfl|rfl|rfl|rfl|rfl
    .exact Mg.get Kc.out.drew 0
    .exact Mg.get Kc.out.drew 1
    .exact Mg.get Kc.out.drew 2
    .exact Mg.get Kc.out.drew 3
    .exact Mg.get Kc.out.drew 4
    .exact Mg.get Kc.out.drew 5
    .exact Mg.get Kc.out.drew 6))
   clear Kc;obtain⟨dP,kc,kb⟩:=Yu.1 uCP;have iX:(prog.info? 103).map (·.size)=F (aA (Lb i)).length:=by rw[aB sX];exact iCP
   have iY:(prog.info? 103).map (·.size)=F (aA (Rb i)).length:=by rw[aB sY];exact iCP
   refine Yt ?_;refine anyS.begin (S7 f k7 k8 z u (aA (Lb i)) (aA (Rb i))) kR ?_;have a:∀(ll:yt zk) (W:Yp) (S0:List Pq),Mp c W [(r,aA (S i)),(k1,[jZ r]),(k2,[y1,y2,y3]),(k3,[.slice none 0 0,.slice none 0 0,.slice none 0 0,.slice none 0 0]),(f,[z,u,.slice none 0 0,.slice none 0 0]),(k5,[p1,p2,p3]),(k6,[q1,q2,q3]),(k7,aA (Lb i)),(k8,aA (Rb i))] S0->S7 f k7 k8 z u (aA (Lb i)) (aA (Rb i)) ll W:=λll W S0 h=>⟨λ_=>(h.at_ 4).2.1 0 _ Z,λ_=>(h.at_ 4).2.1 1 _ Z,(h.at_ 7).2.1,(h.at_ 8).2.1⟩
   have bS:∀p,Bef (S7 f k7 k8 z u (aA (Lb i)) (aA (Rb i))) p wc.drew:=λp=>⟨#[],by simp,a _ _ _ Kd.out⟩
   have hd:=a;refine anyS.val (i:=0) (d:=F 46) (x:=jZ f) Z 13 (S7.i dC dC) (bS 13) (a _ _ _ Kd.out) ?_;refine anyS.cel (i:=1) (d:=F 47) (x:=z) Z 13 (S7.i dC dC) 24 46 f 0 Z uLL (λW ⟨l,e,h⟩=>h.1 e) (bS 13) (a _ _ _ Kd.out) ?_;refine anyS.row (i:=2) (d:=F 48) (cs:=aA (Lb i)) Z 13 (S7.i dC dC) 103 13 k7 0 dP Z kc kb iX (λW ⟨l,e,h⟩=>h.2.2.1) (bS 13) (a _ _ _ Kd.out) ?_;refine anyS.val (i:=6) (d:=F 52) (x:=oZ f 1) Z 13 (S7.i dC dC) (bS 13) (a _ _ _ Kd.out) ?_;refine anyS.cel (i:=7) (d:=F 53) (x:=u) Z 15 (S7.i dC dC) 24 52 f 1 Z uLL (λW ⟨l,e,h⟩=>h.2.1 e) (bS 15) (a _ _ _ Kd.out) ?_;refine anyS.row (i:=8) (d:=F 54) (cs:=aA (Rb i)) Z 14 (S7.i dC dC) 103 14 k8 0 dP Z kc kb iY (λW ⟨l,e,h⟩=>h.2.2.2) (bS 14) (a _ _ _ Kd.out) ?_;refine anyS.cal (i:=3) (d:=F 49) Z (iI sX (w:=wc.drew)) (λxa we h8=>?_);obtain⟨gx,rfl⟩:=h8.2.2;have Ke:=mk1 (Mg.ad (Kd.out.grow h8.1) (pgE [r33 gx] (λ_=>Lb i)) (xF (h8.2.1.mono2 λg _ o=>Mg.nk Kd.out g o)));refine⟨a _ _ _ Ke.out,?_⟩;have Kf:=mk1 (Ke.out.grow (aD (w:=we) (.cells #[r33 gx] 23)));refine anyS.ins (i:=4) (d:=F 50) (v:=sZ we.heap.size 1 1) (w':=we.alloc (.cells #[r33 gx] 23)) (I:=Z0 24 1 #[(0,r33 gx)]) Z (UO (k:=gx) (n:=33) (c:=33) (w:=we)) (a _ _ _ Kf.out) ?_;obtain⟨he,wg,kt,Kg,Ag,zg,oL⟩:=Nf Kf.out q.2.2.1 (i:=0) Z (by have:=q.1.1;have:=HS.2.2.2;have:=q.2.2.2.2.2;omega) (ga:=we.heap.size) (gx:=gx) ((aF (w:=we) (c:=[r33 gx]) (T:=23)).2.1 0 _ Z);refine anyS.ins (i:=5) (d:=F 51) (v:=he) (w':=wg) (I:=Zn #[24,24] 24 #[z,sZ we.heap.size 1 1]) Z kt (a _ _ _ Kg) ?_;refine anyS.val (i:=12) (d:=F 58) (x:=jZ f) Z 13 (S7.i dC dC) ⟨#[],by simp,a _ _ _ Kg⟩ (a _ _ _ Kg) ?_;refine anyS.cal (i:=9) (d:=F 55) Z (iI sY (w:=wg)) (λxd wh hq=>?_);obtain⟨Q,rfl⟩:=hq.2.2;have Kh:=mk1 (Mg.ad (Kg.grow hq.1) (pgE [r33 Q] (λ_=>Rb i)) (xF (hq.2.1.mono2 λg _ o=>Mg.nk Kg g o)));refine⟨a _ _ _ Kh.out,?_⟩;have Ki:=mk1 (Kh.out.grow (aD (w:=wh) (.cells #[r33 Q] 23)));refine anyS.ins (i:=10) (d:=F 56) (v:=sZ wh.heap.size 1 1) (w':=wh.alloc (.cells #[r33 Q] 23)) (I:=Z0 24 1 #[(0,r33 Q)]) Z (UO (k:=Q) (n:=33) (c:=33) (w:=wh)) (a _ _ _ Ki.out) ?_;obtain⟨ka,wj,b2,Kj,Aj,zj,oR⟩:=Nf Ki.out Ag (i:=1) Z (by have:=q.1.2.1;have:=HS.2.2.2;have:=q.2.2.2.2.2;omega) (ga:=wh.heap.size) (gx:=Q) ((aF (w:=wh) (c:=[r33 Q]) (T:=23)).2.1 0 _ Z);refine anyS.ins (i:=11) (d:=F 57) (v:=ka) (w':=wj) (I:=Zn #[24,24] 24 #[u,sZ wh.heap.size 1 1]) Z b2 (a _ _ _ Kj) ?_;have h4:=Kj.at_ 4;obtain⟨wk,h9⟩:=hE (wj.setCells f 0 [he]);have Kk:=mk1 (Kj.upd 4 h9 (h4.upd (Zh Z)));simp only[rep,ts,qt,uw,ux,ZI,ZQ,Y2,Z2,Zs,Yy,Yz,yC1]at Kk;have sk:∀l,l.getD 13 D=true->S7 f k7 k8 z u (aA (Lb i)) (aA (Rb i)) l (wj.setCells f 0 [he]):=λl e=>by
    rw[h9.out];exact⟨λh=>(by rw[e]at h;cases h),λ_=>(Kk.out.at_ 4).2.1 1 _ Z,(Kk.out.at_ 7).2.1,(Kk.out.at_ 8).2.1⟩
   refine anyS.sto (i:=13) (d:=none) Z 24 (.tmp 58) (.tmp 51) Z f 0 he oL.1 oL.2 (h4.th2 (Zh Z)) iLL (sk _ kR) ?_;refine anyS.nxt (i:=14) (d:=F 59) (x:=oZ f 1) Z (sk _ kR) ?_;have h5:=Kk.out.at_ 4;obtain⟨wl,hm⟩:=hE (wk.setCells f 1 [ka]);have Kl:=mk1 (Kk.out.upd 4 hm (h5.upd (Zh Z)));simp only[rep,ts,qt,uw,ux,ZI,ZQ,Y2,Z2,Zs,Yy,Yz,yC1]at Kl;rw[h9.out];refine anyS.sto (i:=15) (d:=none) Z 24 (.tmp 59) (.tmp 57) Z f 1 ka oR.1 oR.2 (h5.th2 (Zh Z)) iLL ?_ ?_
   .rw[hm.out];exact⟨λe=>absurd e (nfB kR),λe=>absurd e (nfB kR),(Kl.out.at_ 7).2.1,(Kl.out.at_ 8).2.1⟩
   rw[hm.out];simp only[Zo,Yw,Yy,Yz];refine anyS.done kR ?_ _;obtain⟨kx,cx,ex,-,-,X,h6,-⟩:=h8.2.1;obtain⟨ky,cy,ey,-,-,hj,hu,-⟩:=hq.2.1;obtain rfl:=YR.inj (congrArg tz ex);obtain rfl:=YR.inj (congrArg tz ey);have zw:E (wr.heap.size<=gx/\gx<Q/\Q<wl.heap.size):=by
    have a1:wr.heap.size<=wc.drew.heap.size:=Mg.get Kd.out 6;have a2:gx<we.heap.size:=h6;have a3:wc.drew.heap.size<=gx:=X;have a4:wg.heap.size<=Q:=hj;have a5:Q<wh.heap.size:=hu;have a6:(we.alloc (.cells #[r33 gx] 23)).heap.size<=wg.heap.size:=zg;have a7:(wh.alloc (.cells #[r33 Q] 23)).heap.size<=wj.heap.size:=zj;have a8:wl.heap.size=wj.heap.size:=by rw[<-hm.out,<-h9.out,setCells_size,setCells_size]
    rw[YE]at a6 a7;show _/\_/\_;omega
   have Kp:=mk1 (Mg.has (S':=[pgW w r,pqG (.agg #[y1,y2,y3]) (m+m) G H U,pqS (.slice (F ⟨ga,M,none⟩) (m+m) ca) (m+m) (A i),pqS (.slice (F ⟨K,T,none⟩) (m+m) cb) (m+m) (B i),pgE ((l++[gx]).map r33) Lb,pgE ((l'++[Q]).map r33) Rb,pgB wl.heap.size]) Kl.out (λs hs=>by
    simp only[Zb,YI,or_false]at hs;rcases hs with rfl|rfl|rfl|rfl|rfl|rfl|rfl
    .exact Mg.get Kl.out 0
    .exact Mg.get Kl.out 1
    .exact Mg.get Kl.out 2
    .exact Mg.get Kl.out 3
    .exact ID q.1.1 (Mg.get Kl.out 4) (Mg.get Kl.out 7)
    .exact ID q.1.2.1 (Mg.get Kl.out 5) (Mg.get Kl.out 8)
    .exact Ys _))
   have HM:=mk3 Aj kh (nd2 q.1.2.2.1 (λg o=>(q.1.2.2.2 g o).2) zw.1 zw.2.1);clear Kd Ke Kf Kg Kh Ki Kj Kk Kl Ag Aj h8 hq oL oR zg zj h4 h5 h9 hm sk a hd bS kt b2 X h6 hj hu ex ey;refine PW.bg [] ?_;refine PM.ro 1 Kp aq ?_;refine PM.ro 7 Kp (v:=pvl (Lb i)) hQr ?_ (hT:=iX);refine PM.ro 8 Kp (v:=pvl (Rb i)) hQr ?_ (hT:=iY);refine PW.ca (R.out.ch wl (Kp.out.log 0) q.2.1) ?_;rintro e wm ⟨hO,hH,rfl⟩;have Kq:=mk1 (Kp.out.say 0 hO hH);clear Kp hO hH;refine PM.al 49 (RG.z 4) Kq λk9 bj Kr=>?_
   refine PM.st 9 (wn x) Kr nq λwo Ks=>?_
   refine PW.dn ?_;refine PW.bg [] ?_;refine PM.ro 9 Ks nq ?_;refine PM.gi Ks (R.out.iv wo) λwp Kt=>?_
   refine PM.al 49 (RG.z 4) Kt λbn wq Ku=>?_
   refine PM.st 10 (wn xi) Ku nq λwu Kv=>?_
   refine PW.dn ?_;clear Kq Kr Ks Kt Ku;obtain⟨Qn,hw⟩:=Mg.q Kv.out;have hy:∀ {W:Yp},kZ wu W->∀g,W.heap.size<=g->Qn g:=λk g o=>by rw[<-hw.out];exact Mg.nk (Kv.out.grow k) g o
   refine(RG.gQ [.v (.slice (F ⟨ga,M,none⟩) (m+m) ca),.v (nv x),.v (nv xi),.p (RG.pS Qn m (A (i+1))),.v (.slice (F ⟨K,T,none⟩) (m+m) cb),.v (nv xi),.v (nv x),.p (RG.pS Qn m (B (i+1))),.v (.agg #[y1,y2,y3]),.v (nv x),.p (pR Qn m G' H' U)] wu.heap.size (λW=>kZ wu W) (λ_ _ C h=>h.trans (C.mono h.size))).tail2 11 kR kR kR ⟨gv,gm Kv 9,gm Kv 10,
    RG.gC (λU W _ k=>(R.out.fa W (.slice (F ⟨ga,M,none⟩) (m+m) ca) ((Mg.get (Kv.out.grow k) 2:SLq _ _ _ _ _).mono λ_ _=>trivial)).mono (by
     rintro e W' ⟨v,rfl,C,hs⟩;exact⟨_,Z,C,hs.mono (hy k)⟩)),
    gv,gm Kv 10,gm Kv 9,
    RG.gC (λU W _ k=>(R.out.fb W (.slice (F ⟨K,T,none⟩) (m+m) cb) ((Mg.get (Kv.out.grow k) 3:SLq _ _ _ _ _).mono λ_ _=>trivial)).mono (by
     rintro e W' ⟨v,rfl,C,hs⟩;exact⟨_,Z,C,hs.mono (hy k)⟩)),
    gm Kv 2,gm Kv 9,
    RG.gC (λU W _ k=>R.out.fg Qn W (.agg #[y1,y2,y3]) (hy k) (by rw[<-hw.out];exact Mg.get (Kv.out.grow k) 1)),yw⟩ (YH _ _).drew ?_
   intro V wv hR k;have h3:SLq Qn wv (V 3) m (A (i+1)):=hR 3 dC;have h7:SLq Qn wv (V 7) m (B (i+1)):=hR 7 dC;have h0:GRq Qn wv (V 10) m G' H' U:=hR 10 dC;obtain⟨ef,k0,-,bh⟩:=h0.ar;obtain⟨z1,z2,z3,km,-⟩:=id h0.ex;obtain rfl:=Y8.inj (k0.symm.trans km);rw[k0]at h0;dsimp only[dF,Zs,gD,qg];simp only[Zo,Yw,Yy,Yz];rw[k0];generalize V 3=na at h3⊢;generalize V 7=nb at h7⊢;rw[<-hw.out]at h3 h7 h0;have Kw:=mk1 (Mg.ad (Mg.ad (Mg.ad (Kv.out.grow k) (pqS na m (A (i+1))) h3) (pqS nb m (B (i+1))) h7) (pqG (.agg #[z1,z2,z3]) m G' H' U) h0);clear hR k h3 h7 h0 k0 km hw hy Kv;refine PW.go [na,nb] ?_;refine PM.st 2 [z1,z2,z3] Kw aq (λwz Kz=>?_) (h1:=bh);refine PW.dn ?_;have y:=mk1 (Mp.drop 5 Kz.out);have hz:wl.heap.size<=wz.heap.size:=Mg.get y.out 6;have KE:E (∃(l l':List Nat) (z u x1 x2 x3:Yq) (G H:Nat->List (Nat × Bs)),I (i+1) G H/\(l.length=i+1/\l'.length=i+1/\(l++l').Nodup/\(∀g∈l++l',w.heap.size<=g/\g<wz.heap.size))/\(S (i+1)).size=32/\ApG [⟨z,l.map r33⟩,⟨u,l'.map r33⟩]/\Mp c wz [(r,aA (S (i+1))),(k1,[jZ r]),(k2,[x1,x2,x3]),(k3,[.slice none 0 0,.slice none 0 0,.slice none 0 0,.slice none 0 0]),(f,[z,u,.slice none 0 0,.slice none 0 0])] (gL c.heap.size [⟨z,l.map r33⟩,⟨u,l'.map r33⟩] [pgW w r,pqG (.agg #[x1,x2,x3]) (2^(t-(i+1))) G H U,pqS na (2^(t-(i+1))) (A (i+1)),pqS nb (2^(t-(i+1))) (B (i+1)),pgE (l.map r33) Lb,pgE (l'.map r33) Rb])):=by
    show ∃l l' z u x1 x2 x3 G H,_;rw[q.2.2.2.1];refine⟨l++[gx],l'++[Q],he,ka,z1,z2,z3,G',H',q.2.2.2.2.1,⟨by rw[Yx,q.1.1];rfl,by rw[Yx,q.1.2.1];rfl,HM.2.2,λg o=>?_⟩,R.out.ss,HM.1,Mg.has y.out λs hs=>?_⟩
    .have h1:g∈l++l'\/g=gx\/g=Q:=by
      simp only[ZN,Zb,YI,or_false]at o⊢;grind
     have h2:=zw.out;have h3:=HM.2.1;rcases h1 with h1|rfl|rfl
     .have:=q.1.2.2.2 g h1;omega
     .omega
     .omega
    .simp only[Zb,YI,or_false]at hs;rcases hs with rfl|rfl|rfl|rfl|rfl|rfl
     .exact Mg.get y.out 0
     .exact Mg.get y.out 9
     .exact Mg.get y.out 7
     .exact Mg.get y.out 8
     .exact Mg.get y.out 4
     .exact Mg.get y.out 5
   have bk:=q.2.2.2.2.2;clear Kw Kz y hz zw HM;go_wp2;go_roundg (gk-1)
   case measure=>omega
   case rel=>exact⟨i+1,by omega,KE⟩
  .obtain rfl:i=t:=oM;obtain⟨l,l',z,u,y1,y2,y3,G,H,-,hN,-,hp,hK⟩:=KM.out;rw[oF,Nat.pow_zero]at hK;obtain⟨ga,M,ca,rfl,-,qa,V,ku⟩:=(Mg.get hK 2:SLq _ wr _ _ _)
   obtain⟨K,T,cb,rfl,-,qb,b6,ko⟩:=(Mg.get hK 3:SLq _ wr _ _ _)
   have na:ga≠f:=λe=>qa.1 (by rw[e];simp)
   have nb:K≠f:=λe=>qb.1 (by rw[e];simp)
   have J0:=mk1 (qh V (qh b6 (qh (ku 0 dC) (ko 0 dC))));have K0:=mk1 hK;have hk:=Mg.get hK 0;have kh:w.heap.size<=wr.heap.size:=hk.1;clear hk;have q:=mk2 hN hp;clear KM hK hN hp qa qb V b6 ku ko;refine Yt ?_;refine PW.rg [iZ 1,.bool D] ?_;refine YY Z ?_;refine fT ?_;refine Yt (P:=prog) ?_;refine AW.beg 9 11 (J:=⟨λW=>ga<W.heap.size/\K<W.heap.size/\W.rangeAt ga (M+4*0) (wn (A i 0))/\W.rangeAt K (T+4*0) (wn (B i 0)),λW W' C h=>⟨Yr h.1 C.size,Yr h.2.1 C.size,RG.range_below h.2.2.1 C h.1,RG.range_below h.2.2.2 C h.2.1⟩,D⟩) J0.out ?_;refine AW.mv 0 ?_;refine AW.iv 1 (qU (k:=ga) (o:=M) (n:=1) (c:=ca) (i:=0) dC) ?_;refine AW.ro 2 (λW h=>h.2.2.1) nq rSc nSc ?_;refine AW.mv 4 ?_;refine AW.iv 5 (qU (k:=K) (o:=T) (n:=1) (c:=cb) (i:=0) dC) ?_;refine AW.ro 6 (λW h=>h.2.2.2) nq rSc nSc ?_;refine AW.ca 3 (λ_=>iE O HS.2.1 _) (λe w' h=>h.1) ?_;rintro e w2 ⟨bd,kv,gA,rfl⟩;have K2:=mk1 (Mg.ad (K0.out.drew.grow bd) (pqB (r32 gA) 32 (bx (A i 0))) (kv.mono2 λg _ o=>Mg.nk K0.out.drew g o));refine AW.va 8 (oZ f 2) ?_;refine AW.ca 7 (λ_=>iE O HS.2.2.1 _) (λe w' h=>h.1) ?_;rintro e w3 ⟨b9,kn,gB,rfl⟩;have K3:=mk1 (Mg.ad (K2.out.grow b9) (pqB (r32 gB) 32 (bx (B i 0))) (kn.mono2 λg _ o=>Mg.nk K2.out g o));have h4:=K3.out.at_ 4;obtain⟨w4,Q⟩:=hE (w3.setCells f 2 [r32 gA]);have K4:=mk1 (K3.out.upd 4 Q (h4.upd (Zh Z)));simp only[rep,ts,qt,uw,ux,ZI,ZQ,Y2,Z2,Zs,Yy,Yz,yC1]at K4;have h5:=K4.out.at_ 4;obtain⟨w5,a⟩:=hE (w4.setCells f 3 [r32 gB]);have y:=mk1 (K4.out.upd 4 a (h5.upd (Zh Z)));simp only[rep,ts,qt,uw,ux,ZI,ZQ,Y2,Z2,Zs,Yy,Yz,yC1]at y;refine AW.s1 9 Z Z iB1 Q (λh=>⟨h4.th2 (Zh Z),?_⟩) ?_
   .obtain⟨j1,j2,j3,j4⟩:=h;rw[<-Q.out];exact⟨by rw[setCells_size];exact j1,by rw[setCells_size];exact j2,Zv j3 _ _ _ (Y3 na),Zv j4 _ _ _ (Y3 nb)⟩
   refine AW.nx 10 (oZ f 3) ?_;refine AW.s1 11 Z Z iB1 a (λh=>⟨h5.th2 (Zh Z),?_⟩) ?_
   .obtain⟨j1,j2,j3,j4⟩:=h;rw[<-a.out];exact⟨by rw[setCells_size];exact j1,by rw[setCells_size];exact j2,Zv j3 _ _ _ (Y3 na),Zv j4 _ _ _ (Y3 nb)⟩
   refine AW.dn λ_=>?_
   obtain⟨kx,cx,ex,-,-,X,h6,-⟩:=kv;obtain⟨ky,cy,ey,-,-,hj,hu,-⟩:=kn;obtain rfl:=YR.inj (congrArg tz ex);obtain rfl:=YR.inj (congrArg tz ey);have z5:w5.heap.size=w3.heap.size:=by rw[<-a.out,<-Q.out,setCells_size,setCells_size]
   have X:wr.heap.size<=gA:=X;have h6:gA<w2.heap.size:=h6;have hj:w2.heap.size<=gB:=hj;have hu:gB<w3.heap.size:=hu;have K6:=mk1 (Mg.ad y.out (pgB w5.heap.size) (Ys _));have o1:=CC (Mg.li y.out 0);have o2:=CC (Mg.li y.out 1);clear K2 K3 K4 h4 h5 Q a ex ey J0 K0 y;refine PW.bg [] ?_;refine PM.ro 4 K6 aq ?_;refine PM.st 3 [z,u,r32 gA,r32 gB] K6 aq (λw6 K7=>?_) (h1:=by simp[o1,o2,show ∀g,(r32 g).oneCell'=true from λ_=>rfl]);refine PW.dn ?_;refine Zr ?_;have Kr:=K7.out.at_ 3;refine YB (aC 8 (T:=26) Z Kr Z SI Ul) Z ?_;have zz:w5.heap.size<=w6.heap.size:=Mg.get K7.out 8;have L:=K7.out;rw[<-hc.out]at L;refine⟨_,Z,TK (n:=wr.heap.size) (s1:=pgW w r) (s2:=pgW w r) (s3:=pgW w r) (Mg.has L λs hs=>?_) q.1.1 q.1.2.1 q.1.2.2.1 q.1.2.2.2 X (by omega) (by omega) kh⟩;simp only[Zb,YI,or_false]at hs;rcases hs with rfl|rfl|rfl|rfl|rfl|rfl|rfl|rfl
   .exact Mg.get L 0
   .exact Mg.get L 0
   .exact Mg.get L 0
   .exact Mg.get L 0
   .exact Mg.get L 4
   .exact Mg.get L 5
   .exact Mg.get L 6
   .exact Mg.get L 7
def Vy{u:OnP P}{U:LB}{q:Md.Ps Bs (B N) (OnP P)}(C:At P)(O:Ord N)(k:∀r:EC.Pt P,On r->mul N r=none)(K:IsP N)(y:Tl N U u)(i:0<U.length)(g:U.length<=16)(e:0<m)(d:0<c)(t:c*(m+m)<=64){G H:I->LB}(hG:Gd N (m+m) c G q.g)(o:Gd N (m+m) c H q.h):
 ∃l1 l2 b f x l,Rnd r m G H b f U l1 l2 (λj=>(q.a j).val) (λj=>(q.b j).val) (λj=>(((aI C k).jS (chF N) ivF u m q).a j).val) (λj=>(((aI C k).jS (chF N) ivF u m q).b j).val) q.s ((aI C k).jS (chF N) ivF u m q).s (wP ((aI C k).pL u m q)) (wP ((aI C k).pT u m q)) x l/\Gd N m (c+c) b ((aI C k).jS (chF N) ivF u m q).g/\Gd N m (c+c) f ((aI C k).jS (chF N) ivF u m q).h:=by
 have f:c*m<=64:=oN (xv c (show m<=m+m by omega));have A:m<=64:=oN (te m d);let⟨l1,p,z⟩:=LW (Q:=λ_=>True) C O k e d f hG.high o.low y i g q.a (λj=>q.b (m+j))
 let⟨l2,s,w⟩:=LW (Q:=λ_=>True) C O k e d f hG.low o.high y i g (λj=>q.a (m+j)) q.b
 let⟨sx,b,n,a⟩:=UL O K r q.s ((aI C k).pL u m q) ((aI C k).pT u m q) Z Z
 have l:(aI C k).jS (chF N) ivF u m q=⟨sx,Md.fS b (ivF b) m q.a,Md.fS (ivF b) b m q.b,(aI C k).fP (ivF b) b m q.g,(aI C k).fP b (ivF b) m q.h⟩:=by
  rw[Md.jS,n.1]
 rw[l];refine⟨l1,l2,_,_,b.val,(ivF b).val,⟨e,by omega,aY _,aY _,n.2,p,z,s,w,a,λW=>Cq O b.val b.isLt W,λW v h=>?_,λW v h=>?_,λQ W v L h=>Qw O m c e G H U (GT (by omega) d t hG o y i g) b.val b.isLt v W L h⟩,hG.fold C k (ivF b) b,o.fold C k b (ivF b)⟩
 .have:=NE O m (by omega) _ b.val (ivF b).val b.isLt (ivF b).isLt (λj _=>(q.a j).isLt) v W h;rw[show Bf N b.val (ivF b).val m (λj=>(q.a j).val)=_ from funext (EG b (ivF b) m q.a)]at this;exact this
 have:=NE O m (by omega) _ (ivF b).val b.val (ivF b).isLt b.isLt (λj _=>(q.b j).isLt) v W h;rw[show Bf N (ivF b).val b.val m (λj=>(q.b j).val)=_ from funext (EG (ivF b) b m q.b)]at this;exact this
def PN{u:OnP P}{Lb Rb:Nat->Bs}(C:At P)(O:Ord N)(k:∀r:EC.Pt P,On r->mul N r=none)(M:IsP N)(a:t<=6)(q:Md.Ps Bs (B N) (OnP P))(A z:Nat->LB)(U:LB)(p:Gd N (2^t) 1 A q.g)(n:Gd N (2^t) 1 z q.h)(V:Tl N U u)(y:0<U.length)(g:U.length<=16)(m:∀j,Lb j=wP ((aI C k).pLi (chF N) ivF u t q j))(l:∀j,Rb j=wP ((aI C k).pTi (chF N) ivF u t q j))(v0 c d:Yq)(w:Yp)(T:hZ w r 0 q.s)(o:q.s.size=32)(hv:GRq (·≠r) w v0 (2^t) A z U)(X:SLq (·≠r) w c (2^t) (λi=>(q.a i).val))(W:SLq (·≠r) w d (2^t) (λi=>(q.b i).val)):
 cZ 83 #[lgV r,v0,c,d] w (Ret (PhR w r t Lb Rb ((aI C k).pst (chF N) ivF u t q t).s (bx (((aI C k).pst (chF N) ivF u t q t).a 0).val) (bx (((aI C k).pst (chF N) ivF u t q t).b 0).val))):=by
 refine PL (I:=λi G H=>Gd N (2^(t-i)) (2^i) G ((aI C k).pst (chF N) ivF u t q i).g/\Gd N (2^(t-i)) (2^i) H ((aI C k).pst (chF N) ivF u t q i).h) O t a (λi j=>(((aI C k).pst (chF N) ivF u t q i).a j).val) (λi j=>(((aI C k).pst (chF N) ivF u t q i).b j).val) (λi=>((aI C k).pst (chF N) ivF u t q i).s) Lb Rb U r (λi G H hi s=>?_) (B.isLt _) (B.isLt _) v0 c d w T o ⟨p,n⟩ hv X W;have v:t-i=t-(i+1)+1:=by omega
 have b:2^(t-i)=2^(t-(i+1))+2^(t-(i+1)):=by rw[v,Z5,yFB]
 have e:2^(i+1)=2^i+2^i:=by rw[Z5,yFB]
 have f:2^i*(2^(t-(i+1))+2^(t-(i+1)))<=64:=by
  rw[<-b,<-Nat.pow_add,show i+(t-i)=t by omega];exact YA (Nat.pow_le_pow_right dC a) dC
 rw[b]at s;obtain⟨l1,l2,L,Q,x,K,R,h1,h2⟩:=Vy C O k M (r:=r) (u:=u) (U:=U) V y g (oE dC) (oE dC) f s.1 s.2;refine⟨_,l1,l2,L,Q,x,K,b,Z,?_,?_⟩
 .rw[m,l];exact R
 rw[e];exact⟨h1,h2⟩
end
section
open SPA
def hvA(n:I):Yq:=if n=1 then .tuple #[iZ 0,tZ] else if n=2 then .tuple #[iZ 1,tZ] else if n=4 then .tuple #[iZ 2,tZ] else if n=8 then .tuple #[iZ 3,tZ] else if n=16 then .tuple #[iZ 4,tZ] else if n=32 then .tuple #[iZ 5,tZ] else if n=64 then .tuple #[iZ 6,tZ] else .tuple #[iZ 0,fZ]
def Nv(n:I)(c:n=1\/n=2\/n=4\/n=8\/n=16\/n=32\/n=64\/n=128)(w:Yp):eZ 57 #[iZ n] w (hvA n):=by
 let⟨b,k⟩:∃b,b=n:=⟨_,Z⟩
 rcases c with rfl|rfl|rfl|rfl|rfl|rfl|rfl|rfl
 all_goals
  go_enter func57,ntmps57;go_wp2;go_loopg [5] 7 (λm s5 W=>W=w/\((m=7/\s5=iZ 0)\/(m=6/\s5=iZ 1/\1<b)\/(m=5/\s5=iZ 2/\2<b)\/(m=4/\s5=iZ 3/\4<b)\/(m=3/\s5=iZ 4/\8<b)\/(m=2/\s5=iZ 5/\16<b)\/(m=1/\s5=iZ 6/\32<b)\/(m=0/\s5=iZ 7/\64<b)))
  exact⟨Z,Y3 ⟨Z,Z⟩⟩;obtain⟨rfl,h⟩:=hrel;rcases h with⟨rfl,rfl⟩|⟨rfl,rfl,hl⟩|⟨rfl,rfl,hl⟩|⟨rfl,rfl,hl⟩|⟨rfl,rfl,hl⟩|⟨rfl,rfl,hl⟩|⟨rfl,rfl,hl⟩|⟨rfl,rfl,hl⟩
  all_goals
   first
    | (exfalso;omega)
    | skip
  all_goals
   go_wp2;first
    | (go_ret2;exact⟨_,Z,YH _ _,Z⟩)
    | (go_roundg 6;(case measure=>omega);(case rel=>exact⟨Z,by simp[k]⟩))
    | (go_roundg 5;(case measure=>omega);(case rel=>exact⟨Z,by simp[k]⟩))
    | (go_roundg 4;(case measure=>omega);(case rel=>exact⟨Z,by simp[k]⟩))
    | (go_roundg 3;(case measure=>omega);(case rel=>exact⟨Z,by simp[k]⟩))
    | (go_roundg 2;(case measure=>omega);(case rel=>exact⟨Z,by simp[k]⟩))
    | (go_roundg 1;(case measure=>omega);(case rel=>exact⟨Z,by simp[k]⟩))
    | (go_roundg 0;(case measure=>omega);(case rel=>exact⟨Z,by simp[k]⟩))
end
section
open SPA
variable {P:Nat}[NeZero P]{N:Nat}[NeZero N]
noncomputable def gPt (C:At P) (lb:R) (i:I):OnP P:=⟨.some (hpt P lb (dL i).toList),zX C⟩
noncomputable def lPt (C:At P) (lb:R) (x:H yv):OnP P:=⟨.some (hpt P lb x),zX C⟩
noncomputable def uPt (C:At P):OnP P:=lPt C ⟨#[105,110,110,101,114]⟩ []
omit [NeZero N] in
theorem Rc(C:At P)(h1:1<N)(lb:R)(i:I):Tl N [(1,hpN P lb i)] (gPt C lb i):=Tl.one C h1 (gPt C lb i)
omit [NeZero N] in
theorem Vl(C:At P)(h1:1<N)(lb:R)(x:H yv):Tl N [(1,wr (.some (hpt P lb x):EC.Pt P))] (lPt C lb x):=Tl.one C h1 (lPt C lb x)
omit [NeZero N] in
theorem I1(C:At P)(h1:1<N)(n:I):Gd N n 1 (gGT P) (gPt C ⟨#[108,101,102,116]⟩):=⟨λi _=>Rc C h1 _ i,λ_ _=>rfl⟩
omit [NeZero N] in
theorem Aa(C:At P)(h1:1<N)(n:I):Gd N n 1 (hGT P) (gPt C ⟨#[114,105,103,104,116]⟩):=⟨λi _=>Rc C h1 _ i,λ_ _=>rfl⟩
omit [NeZero N] in
theorem yF(C:At P)(h1:1<N):Tl N (uGT P) (uPt C):=Vl C h1 _ _
def Nr(k:t<=6):hvA (2^t)=.tuple #[iZ t,tZ]:=by
 match t,k with
 | 0,_=>rfl
 | 1,_=>rfl
 | 2,_=>rfl
 | 3,_=>rfl
 | 4,_=>rfl
 | 5,_=>rfl
 | 6,_=>rfl
 | n+7,h=>omega
def MI(k:t<=6):2^t=1\/2^t=2\/2^t=4\/2^t=8\/2^t=16\/2^t=32\/2^t=64\/2^t=128:=by
 match t,k with
 | 0,_=>decide
 | 1,_=>decide
 | 2,_=>decide
 | 3,_=>decide
 | 4,_=>decide
 | 5,_=>decide
 | 6,_=>decide
 | n+7,h=>omega
def ElQ.off{x:Yq}{b:Bs}(h:ElQ Q m W x b)(o:0<m)(j:yz W k (nZ :: vs)):ElQ (·≠k) m W x b:=by
 let⟨g,c,h1,n,l,p,i,f⟩:=h
 refine⟨g,c,h1,n,l,?_,i,f⟩;rintro rfl;have d:=(f 0 S).1;have e:=j.2.1 0 _ Z;rw[show(0+0:I)=0 from Z]at d e;rw[e]at d;cases d
end
section
open Go.Shelf
attribute [local go_sem] yDG
end
section
open Go.Shelf
attribute [local go_sem] yDG
end
def o33:Bs:=YD 33 0
def EY(x:yv)(r:H yv):beV (x :: r)=x.toNat*256^r.length+beV r:=by
 have h:=fK [x] r;rw[show [x]++r=x :: r from Z]at h;rw[h];simp[beV]
section
def Jk:∀(l r:H yv),l.length=r.length->beV l=beV r->l=r
 | [],[],_,_=>rfl
 | x :: l,y :: r,hl,h=>by
  have h1:l.length=r.length:=I.succ.inj hl;rw[EY,EY,h1]at h;have b1:=Ob l;rw[h1]at b1;have k:0<256^r.length:=oE dC;have c:(x.toNat*256^r.length+beV l)/256^r.length=x.toNat:=by
   rw[Ze,yEX k,pj b1,ao]
  have b:(y.toNat*256^r.length+beV r)/256^r.length=y.toNat:=by
   rw[Ze,yEX k,pj (Ob r),ao]
  have e3:x.toNat=y.toNat:=by rw[<-c,<-b,h]
  have d:=yEz.1 e3;subst d;rw[Jk l r h1 S]
def WN{b:Bs}(hs:b.size=32){n:I}(k:n<top)(h:beV b.toList=n):bx n=b:=by
 have:=Jk (bx n).toList b.toList (by rw[YM,YM,bP,hs]) (by rw[Df k,h]);exact yt.toList_inj.1 this
variable {P:Nat}[NeZero P]
end
section
open SPA
variable {P:Nat}[NeZero P]{N:Nat}[NeZero N]
def Ow(g j:I):(⟨g,0,G⟩:ai).add j=⟨g,j,G⟩:=by
 simp[oB];exact λh=>h.symm
def J2{n:I}(h:W.ownsRow base e 1 (sZ g n c) n xs)(k:xs[j]? = F u):W.cell? ⟨g,j,G⟩=F u:=by
 have:=h.cells (g:=g) Z j u k;rw[Ow]at this;exact this
def Gx{n:I}{v:Yq}(h:W.ownsRow base e 1 v n xs)(b:0<n):∃g c,v=sZ g n c:=by
 rcases h with⟨-,⟨-,k⟩|⟨g,cap,cur,rfl,-⟩⟩
 .omega
 exact⟨g,cap,Z⟩
def TlL.below{v:Yq}{B:I->Bs}(h:TlL Q base t W v B)(k:kZ W W'):TlL Q base t W' v B:=h.keep (Kq.of_below k) λg b=>k.block g (h.lt b).2
end
namespace RG
variable {P:Zw}{ops:Array Y9}{Q:an->Act->Yp->Prop}{w0:Yp}{k0:Nat}{X:List Nat}{its:List It}{bl:List Bl}{olds:List (Tmp × SV)}{i:Nat}{o:Y9}{it:It}
def Hg{v1 v2 v:Yq}(b:it.kind=.stay)(op:BinOp)(c:YW)(ho:o.op=.binOp op T (.const v1) (.tmp t2) c)(k:it.out=.v v)(d:∀(μ:I->I) (a:Act),Known ops i its olds it.need μ a->a.eval (.tmp t2)=v2)(e:∀w,(eqGuard op T (.const v1) (.tmp t2) v1 v2).run P w=.ok () w)(f:∀w,(binOp op T v1 v2).run P w=.ok v w):Cert P Q w0 k0 X ops i its bl olds o it:=by
 refine cN b λμ a w g _=>?_
 rw[Za,ho,k];dsimp only;rw[d μ a g];show(((eqGuard op T (.const v1) (.tmp t2) v1 v2) >>= λ_=>binOp op T v1 v2) >>= λv=>pure (fI v)).run P w=_;rw[YU,YU,e];dsimp only[Result.andThen];rw[f];rfl
end RG
def X4{k:R}(h:k.size<=1000000)(w:Yp):(binOp .add 9 (.string ⟨#[112,111,105,110,116,32]⟩) (.string k)).run prog w=.ok (.string (⟨#[112,111,105,110,116,32]⟩++k)) w:=by
 have c:(⟨#[112,111,105,110,116,32]⟩:R).size=6:=rfl;have b:6+k.size<=9223372036854775807:=S;go_simp
def Sb{i:I}{u:yv}(h:(i:Y)=ub u)(b:i<256)(w:Yp):(convert 3 5 (iZ i)).run prog w=.ok (.int .u8 (ub u)) w:=by
 have h1:IntKind.u8.wrap (ub u)=ub u:=by
  have k:=u.toNat_lt;unfold ub;simp[IntKind.wrap,IntKind.bits,IntKind.signed];omega
 rw[h];go_simp
def Xg(i:I)(c:zk):H It:=[.x 9 [] (iZ i),.x 10 [(9,0)] (.bool c)]
def Ym(k s:R)(i:I)(u:yv)(T:Bs)(n:I)(ok:zk):H It:=[.c 14 [] rv0,.x 15 [] (.string k),.x 16 [(15,1)] (.string ((⟨#[112,111,105,110,116,32]⟩:R)++k)),.x 17 [] (.string s),.x 18 [] (iZ i),.x 19 [(18,4)] (.int .u8 (ub u)),⟨F 20,[(19,5)],(.s 1 1 1),.make 1⟩,.x 21 [(20,6)] (.string ⟨#[u]⟩),⟨F 22,[(17,3),(21,7)],(.s 2 2 2),.make 2⟩,.c 23 [(16,2),(22,8)] (.string ⟨T⟩),.c 24 [(14,0),(23,9)] (.tuple #[nv n,.bool ok]),.x 13 [(24,10)] (.tuple #[nv n,.bool ok]),.x 25 [(13,11)] (nv n),.x 26 [(13,11)] (.bool ok),.m 6 [] 3,.u [(6,14),(25,12)] 3,.x 7 [(26,13)] (.bool ok)]
def Yl(ok:zk):H It:=[.x 27 [] (.bool ok),.x 28 [(27,0)] (.bool (!ok))]
def Yk(n:I)(x y:B P)(ok:zk):H It:=[.x 30 [] (nv n),.c 31 [(30,0)] (.tuple #[rv x y 1,.bool ok]),.x 29 [(31,1)] (.tuple #[rv x y 1,.bool ok]),.x 32 [(29,2)] (rv x y 1),.x 33 [(29,2)] (.bool ok),.m 8 [] 4,.u [(8,5),(32,3)] 4,.x 7 [(33,4)] (.bool ok)]
def Yj(ok:zk):H It:=[.x 34 [] (.bool ok)]
def Xf(i:I):H It:=[.x 11 [] (iZ i),.x 12 [(11,0)] (iZ ((i+1:I):Y)),.x 5 [(12,1)] (iZ ((i+1:I):Y))]
def Yi(x y:B P):H It:=[.c 36 [] (rv x y 1),.u [(36,0)] 0]
def AN{k:R}{b:H yv}{i:I}(h:cands P k b i=[])(c:cand P k b i=G):cands P k b (i+1)=[]:=by rw[fJ,h,c];rfl
def Un{k:R}{b:H yv}{i:I}{q:B P × B P}(e:i<256)(h:cands P k b i=[])(c:cand P k b i=F q):hpt P k b=q:=by
 have h1:cands P k b (i+1)=[q]:=by rw[fJ,h,c];rfl
 let⟨r,d⟩:=BX (P:=P) k b (i:=i+1) (j:=256) S
 rw[hpt,<-d,h1];rfl
def Qk{k:R}{b:H yv}(h:cands P k b 256=[]):hpt P k b=(gX P,gY P):=by
 rw[hpt,h];rfl
def Qu(l x:H yv)(y:H yv):(bL l [x,y]).length=l.length+x.length+y.length+12:=by
 unfold bL;simp[jB];omega
def Gf(b s:R)(u:yv)(hl:b.size<=4096)(hs:s.size<=4096)(k:I)(w:Yp)(h:w.rangeAt k 0 [.string s,.string ⟨#[u]⟩]/\k<w.heap.size):
 eZ 90 #[.string ((⟨#[112,111,105,110,116,32]⟩:R)++b),sZ k 2 2] w (.string ⟨jE ((⟨#[112,111,105,110,116,32]⟩:R)++b).data.toList [s.data.toList,[u]]⟩):=by
 have f:((⟨#[112,111,105,110,116,32]⟩:R)++b).size=6+b.size:=yDg;refine(rN ((⟨#[112,111,105,110,116,32]⟩:R)++b) (F (aZ k)) 2 [s,⟨#[u]⟩] w S (Zh Z) (YZ ⟨k,0,Z,λj d=>?_⟩) (λj d=>?_) ?_).mono ?_
 .have c:j=0\/j=1:=by simp at d;omega
  rcases c with rfl|rfl
  .exact h.1 0 _ Z
  .exact h.1 1 _ Z
 .have c:j=0\/j=1:=by simp at d;omega
  rcases c with rfl|rfl
  .show s.size<=_;omega
  .show 1<=1048576;decide
 .show(bL ((⟨#[112,111,105,110,116,32]⟩:R)++b).data.toList [s.data.toList,[u]]).length<=_;rw[Qu];have c:((⟨#[112,111,105,110,116,32]⟩:R)++b).data.toList.length=6+b.size:=by rw[YM];exact f
  rw[c,YM];show 6+b.size+s.size+1+12<=_;omega
 .rintro e w' ⟨rfl,c⟩;exact⟨_,Z,c,Z⟩
def Cw(C:Fl3 P)(c s:R)(hl:c.size<=4096)(t:s.size<=4096):yy 91 #[.string c,.string s] (rv (hpt P c s.data.toList).1 (hpt P c s.data.toList).2 1):=by
 intro w;go_enter func91,ntmps91;refine RG.M.enter [(0,.v (.string c)),(1,.v (.string s))] 37 kR λa0 M0=>?_
 repeat apply Yt
 refine M0.T [.m 0] [(0,RG.z 12)] [] [0,1,4] ⟨mk 0 68,yw⟩ λk4 a1 w1 M1=>?_
 repeat apply Yt
 refine M1.U [.x (iZ 0)] [0,1,4,5] ⟨st,yw⟩ λa2 w2 M2=>?_
 repeat apply Yt
 refine ZR<|wp_loop_ghost (λm a wr=>∃i:I,i+m=256/\Hid (cands P c s.data.toList i=[])/\RG.M w w.heap.size [] 37 [RG.z 12] [k4] [(0,.v (.string c)),(1,.v (.string s)),(4,.p 0 0),(5,.v (iZ i))] a wr) 256 ⟨0,Z,Z,M2⟩ ?_
 intro m' a wr;rintro⟨i,h8,f,q⟩;by_cases M:i<256
 .obtain⟨u,hu⟩:∃u:yv,(i:Y)=ub u:=⟨YK i,by
   show _=(((YK i).toNat:I):Y);rw[yCp,YL S]⟩
  have O:YK i=u:=by
   apply yEz.1;rw[yCp,YL S];have h:(i:Y)=((u.toNat:I):Y):=hu;omega
  obtain⟨T,hT⟩:=yH (jE ((⟨#[112,111,105,110,116,32]⟩:R)++c).data.toList [s.data.toList,[u]]);have v:T.size=32:=hT.out▸dD;have d:cand P c s.data.toList i=if beV T.toList<P then(rt (aj P (beV T.toList)*aj P (beV T.toList)*aj P (beV T.toList)+7)).map λy=>(aj P (beV T.toList),y) else G:=by
   unfold cand;rw[O,hT.out]
  have Gf:∀(K s':R) (u':yv),K.size<=4096->s'.size<=4096->∀(k:I) (w:Yp),w.rangeAt k 0 [.string s,.string ⟨#[u]⟩]/\k<w.heap.size->eZ 90 #[.string ((⟨#[112,111,105,110,116,32]⟩:R)++c),sZ k 2 2] w (.string ⟨T⟩):=λ_ _ _ _ _ k w h=>by
   rw[<-hT.out];exact Go.Proofs.YtdoammpgchejcaaGreat.Gf c s u hl t k w h
  obtain⟨n,ok,L,W⟩:∃n ok,yy 85 #[rv0,.string ⟨T⟩] (.tuple #[nv n,.bool ok])/\(cand P c s.data.toList i=G/\ok=D\/ok=J/\∃(x z:B P) (b:zk),yy 172 #[nv n] (.tuple #[rv x z 1,.bool b])/\(b=D/\cand P c s.data.toList i=G\/b=J/\cand P c s.data.toList i=F (x,z))):=by
   rw[d];by_cases hx:beV T.toList<P
   .have g:beV T.toList=(aj P (beV T.toList)).val:=(YL hx).symm;generalize aj P (beV T.toList)=x at g⊢;rw[zd hx];refine⟨_,J,JR C (bs:=T) v g,YZ ⟨Z,?_⟩⟩;cases j:rt (x*x*x+7) with
    | none=>exact⟨x,0,D,Pv C x j,Y3 ⟨Z,Z⟩⟩
    | some y=>exact⟨x,y,J,Iu C x y j,YZ ⟨Z,Z⟩⟩
   .rw[zi hx];exact⟨_,D,JS C (bs:=T) v hx,Y3 ⟨Z,Z⟩⟩
  repeat apply Yt
  refine q.u (Xg i J) [(0,.v (.string c)),(1,.v (.string s)),(4,.p 0 0),(5,.v (iZ i)),(10,.v tZ)] ⟨st,aH Z .lss (T:=3) 3 (t1:=9) (v1:=(iZ i)) (v2:=(iZ 256)) (v:=tZ) Z Z sx (λw=>kR) (oG (n:=256) M),yw⟩ λh0 N j=>?_
  repeat apply Yt
  refine Y5 j.ev<|ZK<|Yt<|ZR ?_
  repeat apply Yt
  refine j.d (Ym c s i u T n ok) [(6,[.int .u8 (ub u)]),(8,[.string s,.string ⟨#[u]⟩]),(14,RG.z 4)] [(3,15,wn n)] [RG.z 12,[.int .u8 (ub u)],[.string s,.string ⟨#[u]⟩],wn n] [(0,.v (.string c)),(1,.v (.string s)),(4,.p 0 0),(5,.v (iZ i)),(6,.p 3 0),(7,.v (.bool ok))] ⟨cl bR,st,Hg Z .add (T:=9) 9 (t2:=15) (v1:=(.string ⟨#[112,111,105,110,116,32]⟩)) (v2:=(.string c)) (v:=(.string ((⟨#[112,111,105,110,116,32]⟩:R)++c))) Z Z sx (λw=>kR) (X4 (k:=c) S),st,st,qM Z 3 5 (t:=18) (v:=(iZ i)) (b:=(.int .u8 (ub u))) Z Z sx (Sb hu M),AK 1 Z Z (T:=23) (E:=5) (t:=19) (v:=(.int .u8 (ub u))) Z Z sx (bs1 (ub u)),AE Z (b:=1) 6 Z Z Z kR kR 23 9 (t:=20) (n:=1) (.string ⟨#[u]⟩) Z Z sx (λw k h=>str1 u w k h),mk 2 9,cr [2] (λμ w' _ hs=>Gf c s u hl t (μ 2) w' (hs 2 (H.Mem.head _) _ Z (H.cons_ne_nil _ _))) λ_ _=>kR,cl L,st,st,st,mk 3 54,RG.pt i33,st,yw⟩ λb1 b2 b3 Q X p=>?_
  repeat apply Yt
  refine p.u (Yl ok) [(0,.v (.string c)),(1,.v (.string s)),(4,.p 0 0),(5,.v (iZ i)),(6,.p 3 0),(28,.v (.bool (!ok)))] ⟨st,st,yw⟩ λh6 h4 l=>?_
  rcases W with⟨d,rfl⟩|⟨rfl,x,z,b,h3,hb⟩
  .repeat apply Yt
   refine Y5 l.ev<|fT ?_
   dsimp only[Exit.then,ri];rw[zd Z];repeat apply Yt
   refine l.u (Xf i) [(0,.v (.string c)),(1,.v (.string s)),(4,.p 0 0),(5,.v (iZ ((i+1:I):Y)))] ⟨st,aH Z .add (T:=3) 3 (t1:=11) (v1:=(iZ i)) (v2:=(iZ 1)) (v:=(iZ ((i+1:I):Y))) Z Z sx (λw=>kR) (AY (a:=i) (b:=1) S S),st,yw⟩ λA r g=>?_
   show ∃V,_;exact⟨m'-1,S,i+1,S,AN f d,RG.M.drop (cs:=[RG.z 12]) (cs2:=[_,_,_]) (ks:=[k4]) (ks2:=[_,_,_]) g Z Z⟩
  .repeat apply Yt
   refine YY l.ev<|ZK ?_
   repeat apply Yt
   refine l.t (Yk n x z b) [(5,RG.z 12)] [(4,6,ws x++(ws z++ws (1:B P)))] [RG.z 12,[.int .u8 (ub u)],[.string s,.string ⟨#[u]⟩],wn n,ws x++(ws z++ws (1:B P))] [(0,.v (.string c)),(1,.v (.string s)),(4,.p 0 0),(5,.v (iZ i)),(7,.v (.bool b)),(8,.p 4 0)] ⟨ld u33 i33,cl h3,st,st,st,mk 4 68,RG.pt i56,st,yw⟩ λb4 h9 ha h2=>?_
   repeat apply Yt
   refine h2.u (Yj b) [(0,.v (.string c)),(1,.v (.string s)),(4,.p 0 0),(5,.v (iZ i)),(8,.p 4 0),(34,.v (.bool b))] ⟨st,yw⟩ λh7 h5 o=>?_
   rcases hb with⟨rfl,d⟩|⟨rfl,d⟩
   .repeat apply Yt
    refine YY o.ev<|ZK ?_
    repeat apply Yt
    refine o.u (Xf i) [(0,.v (.string c)),(1,.v (.string s)),(4,.p 0 0),(5,.v (iZ ((i+1:I):Y)))] ⟨st,aH Z .add (T:=3) 3 (t1:=11) (v1:=(iZ i)) (v2:=(iZ 1)) (v:=(iZ ((i+1:I):Y))) Z Z sx (λw=>kR) (AY (a:=i) (b:=1) S S),st,yw⟩ λA r g=>?_
    show ∃V,_;exact⟨m'-1,S,i+1,S,AN f d,RG.M.drop (cs:=[RG.z 12]) (cs2:=[_,_,_,_]) (ks:=[k4]) (ks2:=[_,_,_,_]) g Z Z⟩
   .have V:hpt P c s.data.toList=(x,z):=Un M f d;rw[V];repeat apply Yt
    refine Y5 o.ev ?_;repeat apply Yt
    refine o.T [.x (rv x z 1),.u 0] [] [(0,1,ws x++(ws z++ws (1:B P)))] [4] ⟨ld u56 i56,RG.pt i56,yw⟩ λA r g=>?_
    exact Zr (g.rr 0 Z u56 i56 (hv:=rfl))
 .have d:i=256:=S;have V:hpt P c s.data.toList=(gX P,gY P):=Qk (by have h:=f;rw[d]at h;exact h);rw[V];have hG:yy 97 #[] (rv (gX P) (gY P) 1):=Tw C;repeat apply Yt
  refine q.u (Xg i D) [(0,.v (.string c)),(1,.v (.string s)),(4,.p 0 0),(5,.v (iZ i)),(10,.v fZ)] ⟨st,aH Z .lss (T:=3) 3 (t1:=9) (v1:=(iZ i)) (v2:=(iZ 256)) (v:=fZ) Z Z sx (λw=>kR) (vF (n:=256) M),yw⟩ λh0 N j=>?_
  repeat apply Yt
  refine YY j.ev<|fT ?_
  dsimp only[Exit.then,ri];rw[zd Z];repeat apply Yt
  refine j.t (Yi (gX P) (gY P)) [] [(0,1,ws (gX P)++(ws (gY P)++ws (1:B P)))] [ws (gX P)++(ws (gY P)++ws (1:B P))] [(4,.p 0 0)] ⟨cl hG,RG.pt i56,yw⟩ λQ X p=>?_
  exact Zr (p.rr 0 Z u56 i56 (hv:=rfl))
section
open SPA
variable {P:Nat}
def CW(n:I)(m:n<4294967296)(w:Yp):eZ 25 #[iZ n] w (.string ⟨dL n⟩):=by
 have k:(n:Y)/16777216%256=SP.ub (aR n 16777216):=dG (n:=n) (d:=16777216);have b0:(n:Y)/16777216=SP.ub (aR n 16777216):=S;clear k;have b1:(n:Y)/65536%256=SP.ub (aR n 65536):=dG (n:=n) (d:=65536);have l:(n:Y)/256%256=SP.ub (aR n 256):=dG (n:=n) (d:=256);have o:(n:Y)%256=SP.ub (aR n 1):=oI n;have c:=SP.conv_str prog 23 9 5 slice22 int5 str9 _ _ 0 4 4 _ (mS w (x:=(aR n 16777216)) (y:=(aR n 65536)) (z:=(aR n 256)) (aR n 1)) Z;have i:E (dL n=#[aR n 16777216,aR n 65536,aR n 256,aR n 1]):=rfl;rw[i.out];generalize aR n 16777216=g at *;generalize aR n 65536=f at *;generalize aR n 256=j at *;generalize aR n 1=d at *;have b:kZ w (w.alloc (.cells #[.int .u8 (SP.ub g),.int .u8 (SP.ub f),.int .u8 (SP.ub j),.int .u8 (SP.ub d)] 5)):=(YH _ _).alloc (Ys _) _;go_enter func25,ntmps25;go_wp2;go_ret;exact⟨_,Z,b,Z⟩
def Vf:prog.underlying 65=F (.slice 68):=kR
def Wk:(prog.info? 68).map (λi=>(i.size,i.bytes,i.zero.map λz=>z.cells.size))=F (12,96,F 12):=kR
theorem Oo{v:Yq}(t:T3 P)(b:W.ownsRow base 68 12 v k xs)(hR:yz W g (tw t))(w:k<=1000000)(l:base<=W.heap.size):
 ∃c W',(Zn #[65,65] 65 #[v,sZ g 1 1]).run prog W=.ok c W'/\W'.ownsRow base 68 12 c (k+1) (xs++tw t)/\W.grownBy W' v.ownBlock:=by
 let⟨i,r,e⟩:=Yu.1 Wk
 simp only[ZV.injEq]at e;let⟨h1,q,o⟩:=e
 let⟨z,p,d⟩:=Yu.1 o
 obtain⟨c,W',s,r2,n,-⟩:=xj (P:=prog) W base 65 65 68 i z 12 96 Vf r p h1 q d dC v k xs b (aZ g) 1 1 (tw t) Z
  (λj u m=>by
   have:=hR.2.1 j u m;rw[Yv]at this;rw[show(⟨g,0,G⟩:ai).add j=⟨g,j,G⟩ by unfold oB;split<;>simp_all];exact this) (λu f=>H.all_eq_true.1 (Fw t) u f) (by unfold maxLen;omega) S l
 exact⟨c,W',s,r2,n⟩
def RwQ(s:I)(f:I->H Yq)(Q:I->Prop)(W:Yp)(v:Yq)(n:I):Prop:=∃g o c,v=qZ g o n c/\n<=c/\Q g/\g<W.heap.size/\∀j,j<n->W.rangeAt g (o+s*j) (f j)
section
variable {s:Nat}{f:Nat->List Yq}{Q Q':Nat->Prop}{W W':Yp}{v:Yq}{n g o m c:Nat}
def RwQ.keep(h:RwQ s f Q W v n)(k:Kq Q W W'):RwQ s f Q W' v n:=by
 let⟨g,o,c,h1,m,b,d,e⟩:=h
 refine⟨g,o,c,h1,m,b,Yr d k.size,λj p i u l=>?_⟩;rw[Y1 (a:=⟨g,o+s*j+i,G⟩) (k.block g b d)];exact e j p i u l
def RwQ.mono(h:RwQ s f Q W v n)(e:∀g,g<W.heap.size->Q g->Q' g):RwQ s f Q' W v n:=by
 let⟨g,o,c,h1,i,b,k,d⟩:=h
 exact⟨g,o,c,h1,i,e g k b,k,d⟩
def RwQ.low(h:RwQ s f Q W (qZ g o (m+m) c) (m+m)):RwQ s f Q W (qZ g o m c) m:=by
 let⟨l,i,c',e,h1,d,k,b⟩:=h
 injection e with e1 e2 e3
 injection e1 with e1
 injection e1 with e4 e5
 subst e3 e4 e5;exact⟨g,o,c,Z,S,d,k,λj n=>b j S⟩
def RwQ.high(h:RwQ s f Q W (qZ g o (m+m) c) (m+m)):RwQ s (λj=>f (m+j)) Q W (qZ g (o+s*m) m (c-m)) m:=by
 let⟨l,i,c',e,h1,d,k,b⟩:=h
 injection e with e1 e2 e3
 injection e1 with e1
 injection e1 with e4 e5
 subst e3 e4 e5;refine⟨g,o+s*m,c-m,Z,S,d,k,λj n=>?_⟩;have:=b (m+j) S;rw[I.mul_add,<-oz]at this;exact this
def RwQ.at(h:RwQ s f Q W (qZ g o n c) n)(b:j<n):W.rangeAt g (o+s*j) (f j):=by
 obtain⟨i,d,c',e,-,-,-,k⟩:=h;injection e with e1 e2 e3
 injection e1 with e1
 injection e1 with e4 e5
 subst e3 e4 e5;exact k j b
def mW(f:I->H Yq):I->H Yq
 | 0=>[]
 | n+1=>mW f n++f n
def gR(hs:∀j,(f j).length=s):∀n,(mW f n).length=s*n
 | 0=>rfl
 | n+1=>by rw[mW,Yx,gR hs n,hs,ty]
def xM(hs:∀j,(f j).length=s):∀(n j i:I) (u:Yq),j<n->(f j)[i]? = F u->(mW f n)[s*j+i]? = F u
 | 0,_,_,_,h,_=>absurd h (p9 _)
 | n+1,j,i,u,h,hu=>by
  rw[mW];by_cases b:j<n
  .have k:=xM hs n j i u b hu;rw[Zc (YF.1 k).1];exact k
  obtain rfl:j=n:=S;rw[Zx (by rw[gR hs];omega),gR hs,I.add_sub_cancel_left];exact hu
def RwQ.of_own(hs:∀j,(f j).length=s)(h:W.ownsRow base T s v n (mW f n))(m:0<n):RwQ s f (base<=·) W v n:=by
 have d:=λg=>h.cells (g:=g)
 rcases h with⟨-,⟨-,l⟩|⟨g,cap,cur,rfl,h1,e,c,-⟩⟩
 .omega
 refine⟨g,0,cap,Z,c,h1,(YX.1 e).1,λj b i u k=>?_⟩;have:=d g Z (s*j+i) u (xM hs n j i u b k);rw[Ow]at this;rw[Yv];exact this
end
abbrev PtQ(Q:I->Prop)(W:Yp)(v:Yq)(n:I)(t:I->T3 P):Prop:=RwQ 12 (λj=>tw (t j)) Q W v n
abbrev QH(t:I->T3 P):I->H Yq:=mW λj=>tw (t j)
def PtQ.of_own{n:I}{v:Yq}{t:I->T3 P}(h:W.ownsRow base 68 12 v n (QH t n))(k:0<n):PtQ (base<=·) W v n t:=RwQ.of_own (λ_=>rfl) h k
end
section
open SPA
def below_grown{n:I}{s:I}{v:Yq}(b:kZ w W)(ho:W.ownsRow w.heap.size e s v n xs)(c:W.grownBy W' v.ownBlock):kZ w W':=by
 refine⟨c.os.trans b.os,c.tape.trans b.tape,c.output.trans b.output,YA b.size c.size,λg d=>?_⟩;rw[c.block g (Yr d b.size) ?_]
 .exact b.block g d
 rcases ho with⟨-,⟨rfl,-⟩|⟨k,cap,cur,rfl,h1,-⟩⟩
 .exact λh=>by cases h
 intro h;injection h with h
 have h:g=k:=h;omega
def own_below{n s:I}{v:Yq}(ho:w.ownsRow base e s v n xs)(f:kZ w W):W.ownsRow base e s v n xs:=by
 rcases ho with⟨b,h|⟨k,cap,cur,h1,g,c,d⟩⟩
 .exact⟨b,Y3 h⟩
 exact⟨b,YZ ⟨k,cap,cur,h1,g,by rw[f.block k (YX.1 c).1];exact c,d⟩⟩
def zB{n s:I}{v:Yq}(h:W.ownsRow base e s v n xs)(b:0<n):∃g c,v=sZ g n c:=by
 rcases h with⟨-,⟨-,k⟩|⟨g,cap,cur,rfl,-⟩⟩
 .omega
 exact⟨g,cap,Z⟩
def zP:H Yq:=H.replicate 12 (U 0)
def uP3:yZ 68:=yQ
def iP3:gZ 68 12:=gQ
omit [NeZero P] in
theorem Ii(t:T3 P):(tw t).toArray.all (·.oneCell')=J:=kR
omit [NeZero P] in
theorem X7(t:T3 P)(w:Yp):(Z0 65 1 #[(0,tv t)]).run prog w=.ok (sZ w.heap.size 1 1) (w.alloc (.cells (tw t).toArray 68)):=kR
noncomputable def bsP (P:I) [NeZero P] (k:R) (i:I):T3 P:=((hpt P k (dL i).toList).1,(hpt P k (dL i).toList).2,1)
def Jl(C:Fl3 P)(k:R)(hl:k.size<=4096)(n:I)(Q:0<n)(u:n<=64)(w:Yp):dZ 26 #[.string k,iZ n] w λe w'=>w'.ownsRow w.heap.size 68 12 e n (QH (bsP P k) n):=by
 obtain⟨t,K⟩:=hE (bsP P k);have hH:E (∀i,i<n->yy 91 #[.string k,.string ⟨dL i⟩] (tv (t i))):=by
  intro i _;have:=Cw C k ⟨dL i⟩ hl (show 4<=4096 by decide);rw[<-K.out];exact this
 rw[K.out];go_enter func26,ntmps26;go_wp2;go_loopg [5,6] n (λm s5 s6 W=>∃i:I,i+m=n/\s6=iZ i/\E (kZ w W/\W.ownsRow w.heap.size 68 12 s5 i (QH t i)))
 case atStart=>exact⟨0,S,Z,⟨YH _ _,Z,Y3 ⟨Z,Z⟩⟩⟩
 case round =>
  obtain⟨i,V,rfl,c⟩:=hrel;by_cases N:i<n
  .have a:=Hid.mk' N;have j:(i:Y)<(n:Y):=S;have z:YQ.wrap ((i:Y)+1)=((i+1:I):Y):=by rw[Zy];have:=(mk2 Q u).2;omega
   obtain⟨vt,b⟩:=hE (tv (t i));have Hh:=hH i N;rw[b.out]at Hh;refine Yt<|PW.rg [.bool (decide ((i:Y)<(n:Y)))] ?_
   rw[decide_eq_true j];refine Y5 rfl<|ZK<|Yt<|ZR<|PW.bg [] ?_
   refine PW.gi (CW i S wr) λO q=>?_
   refine PW.gi (Hh O) λA v=>?_
   refine hG A.heap.size λg7 d=>?_
   refine hG (lZ A zP 68) λX g=>?_
   refine hG (X.setCells g7 0 (tw (t i))) λs f=>?_
   have M:=mk1 ((((Mp.start wr).grow q).grow v).new d g);have o:=mk1 (M.put 0 f);refine PW.al d g ?_;refine PW.st f b (M.th 0) iP3 (Ii (t i)) ?_;refine PW.dn ?_;refine PW.bb (P:=prog) [] ?_;refine PW.ro (o.at_ 0).2.1 b uP3 iP3 ?_;have l:=aD (w:=s) (.cells (tw (t i)).toArray 68);have L:=X7 (t i) s;have p:=mk2 (c.1.trans ((o.bl.trans (l.mono o.bl.size)).mono c.1.size)) (own_below c.2 (o.bl.trans (l.mono o.bl.size)));obtain⟨T,W6,y,x,r⟩:=Oo (t i) p.2 (aF (w:=s) (c:=(tw (t i))) (T:=68)) S p.1.size;rw[b.out]at L;refine PW.ns L ?_;refine PW.ns y ?_;refine PW.en [T] ?_;refine PW.bb (P:=prog) [iZ (YQ.wrap ((i:Y)+1))] ?_;rw[z];go_wp2;go_roundg (gk-1)
   case measure=>have:=a;omega
   case rel=>exact⟨i+1,oN a,Z,mk2 (below_grown p.1 p.2 r) x⟩
  .have j:=S;have b:i=n:=S;go_wp2;go_ret;have:=c.2;rw[b]at this;exact⟨_,Z,c.1,this⟩
def Jm{k:R}{n:I}(C:Fl3 P)(hl:k.size<=4096)(d:0<n)(b:n<=64):dZ 26 #[.string k,iZ n] w λe w'=>PtQ (w.heap.size<=·) w' e n (bsP P k)/\∃g c,e=sZ g n c:=
 (Jl C k hl n d b w).mono (by
  rintro e w' ⟨v,rfl,f,h⟩;exact⟨_,Z,f,PtQ.of_own h d,zB h d⟩)
end
section
open SPA
namespace RG
variable {P:Zw}{ops:Array Y9}{Q:an->Act->Yp->Prop}{w:Yp}{a0:Act}{G:Gw}{k:Nat}{o:Y9}
def Ws(j:I)(t:Tmp)(v:Yq)(cs:H Yq)(T:YW)(c:∀x W,G.R j x W->x=v)(hR:∀W W':Yp,yz W' W.heap.size cs->G.B W->G.R k (sZ W.heap.size 1 1) W')(hd:(bZ o j,aP ops j)=(J,F t):=by kernel_rfl)(hs:∀W,(cI [t] o,(Za (evo (evl [(t,v)])) o).run P W)=(J,.ok (.value (sZ W.heap.size 1 1)) (W.alloc (.cells cs.toArray T))):=by intro _;kernel_rfl):bM P Q G.flow ops a0 k o:=
 bE λa W b=>⟨[(t,v)],_,_,⟨c _ W (b.n j t (congrArg yDc hd) (congrArg yDb hd)),yw⟩,hs W,aD _,hR W _ aF b.b⟩
def pB(cs:H Yq):S1:=⟨λv w=>∃g,v=sZ g 1 1/\yz w g cs,λ_ _ _ b ⟨g,h1,k⟩=>⟨g,h1,k.below b⟩⟩
end RG
variable {P:Nat}[NeZero P]
def Ji{n:I}:(ZM 54 (nv n)).run prog w=.ok (jZ w.heap.size) (w.alloc (.cells (wn n).toArray 54)):=kR
def Og{o n i:I}(b:i<n)(w:Yp):(ZW 65 (qZ k o n c) (iZ i)).run prog w=.ok (oZ k (o+12*i)) w:=by
 go_simp
def mxT(x y:I)(b k:I->T3 P)(j:I):T3 P:=plF (tmF x (b j) 256) (tmF y (k j) 256)
def MZ(C:Fl3 P)(x y:I)(hx:x<top)(hy:y<top)(n:I)(hn:0<n)(h9:n<=64)(f d:I->T3 P)(pa pb:I->EC.Pt P)(Q:∀j,j<n->FracT (f j) (pa j))(h0:∀j,j<n->FracT (d j) (pb j))(va vb:Yq)(w:Yp)(hA:PtQ (λ_=>True) w va n f)(q:PtQ (λ_=>True) w vb n d):
 dZ 105 #[nv x,va,nv y,vb] w λe w'=>PtQ (w.heap.size<=·) w' e n (mxT x y f d):=by
 obtain⟨ga,L,ca,rfl,hm,-,K,h5⟩:=hA;obtain⟨A,X,cb,rfl,he,-,h2,h4⟩:=q;obtain⟨k,hk⟩:=hE (w.heap.size);obtain⟨o,r⟩:=hE (lZ w (wn x) 54);obtain⟨b,a⟩:=hE (lZ o (wn y) 54);have z1:o.heap.size=k+1:=by rw[<-r.out,YE,hk.out]
 have b1:kZ w o:=r.out▸aD _;have b2:kZ o b:=a.out▸aD _;have r1:yz o k (wn x):=r.out▸hk.out▸aF (w:=w);have r2:yz b (k+1) (wn y):=by rw[<-a.out,<-z1];exact aF (w:=o)
 have l:=b1.trans (b2.mono b1.size);have p:E (yz b k (wn x)/\yz b (k+1) (wn y)/\ga<b.heap.size/\A<b.heap.size/\(∀j,j<n->b.rangeAt ga (L+12*j) (tw (f j)))/\(∀j,j<n->b.rangeAt A (X+12*j) (tw (d j)))/\kZ w b):=⟨r1.below b2,r2,Yr K l.size,Yr h2 l.size,λj s=>RG.range_below (h5 j s) l K,λj s=>RG.range_below (h4 j s) l h2,l⟩
 have cT:E (∀j,j<n->yy 43 #[nv x,tv (f j)] (tv (tmF x (f j) 256))/\yy 43 #[nv y,tv (d j)] (tv (tmF y (d j) 256))/\yy 27 #[tv (tmF x (f j) 256),tv (tmF y (d j) 256)] (tv (mxT x y f d j))):=λj s=>⟨lQ C x hx (f j) (Q j s),lQ C y hy (d j) (h0 j s),(FracT.plus C (yE C (by unfold top at hx;omega) (Q j s) 256 (Ys _)) (yE C (by unfold top at hy;omega) (h0 j s) 256 (Ys _))).1⟩
 obtain⟨t,ht⟩:=hE (mxT x y f d);rw[ht.out]at cT;rw[ht.out];have B1:E ((ZM 54 (nv x)).run prog w=.ok (jZ k) o):=r.out▸hk.out▸Ji (n:=x) (w:=w);have B2:E ((ZM 54 (nv y)).run prog o=.ok (jZ (k+1)) b):=by rw[<-a.out,<-z1];exact Ji (n:=y) (w:=o)
 have HN:=mk2 hn h9;obtain⟨vx,O⟩:=hE (nv x);obtain⟨vy,T⟩:=hE (nv y);rw[O.out]at B1;rw[T.out]at B2;rw[O.out,T.out];go_enter func105,ntmps105;go_wp2_with (first|(refine aG (u:=vx) (v:=jZ k) (w':=o) Z 54 (.tmp 0) Z ?_ ?_ ?_;rfl;exact B1)|(refine aG (u:=vy) (v:=jZ (k+1)) (w':=b) Z 54 (.tmp 2) Z ?_ ?_ ?_;rfl;exact B2)|fail)
 go_loopg [9,10] n (λm s9 s10 W=>∃i:I,i+m=n/\s10=iZ i/\E (kZ b W/\W.ownsRow b.heap.size 68 12 s9 i (QH t i)))
 case atStart=>exact⟨0,S,Z,⟨YH _ _,Z,Y3 ⟨Z,Z⟩⟩⟩
 case round =>
  obtain⟨i,hp,rfl,c⟩:=hrel;by_cases hi:i<n
  .have h7:=S;have z:=Hid.mk' hi;go_wp2_with fail
   have hc:=c.1.drew;obtain⟨c1,c2,c3⟩:=cT i z;refine(gwL [pE u9,pE (nv x),pE (qZ ga L n ca),pE (iZ i),pE (oZ ga (L+12*i)),pE (tv (f i)),pE (tv (tmF x (f i) 256)),pE (nv y),pE (qZ A X n cb),pE (iZ i),pE (oZ A (X+12*i)),pE (tv (d i)),pE (tv (tmF y (d i) 256)),pE (tv (t i)),pB (tw (t i))] (λW=>kZ wr W) (λW W' hb h=>h.trans (hb.mono h.size))).tail2 15 kR kR kR ⟨
    RG.gO 9 u9,
    gLo 4 (λW q=>RG.range_below p.1.2.1 (c.1.trans (q.mono c.1.size)) p.1.1) u33 i33,
    RG.gO 1 (qZ ga L n ca),
    RG.gO 10 (iZ i),
    RG.gX 2 19 3 20 (Og (k:=ga) (o:=L) (n:=n) (c:=ca) (i:=i) z),
    gLr 4 21 (λW q=>RG.range_below (p.2.2.2.2.1 i z) (c.1.trans (q.mono c.1.size)) p.2.2.1) uP3 iP3,
    gC2 1 18 5 22 c1,
    gLo 6 (λW q=>RG.range_below p.2.1.2.1 (c.1.trans (q.mono c.1.size)) p.2.1.1) u33 i33,
    RG.gO 3 (qZ A X n cb),
    RG.gO 10 (iZ i),
    RG.gX 8 25 9 26 (Og (k:=A) (o:=X) (n:=n) (c:=cb) (i:=i) z),
    gLr 10 27 (λW q=>RG.range_below (p.2.2.2.2.2.1 i z) (c.1.trans (q.mono c.1.size)) p.2.2.2.1) uP3 iP3,
    gC2 7 24 11 28 c2,
    gC2 6 23 12 29 c3,
    Ws 13 30 (tv (t i)) (tw (t i)) 68 (λx W h=>h) (λW W' h _=>⟨_,Z,h⟩),yw⟩ (YH _ _).drew ?_
   intro V W9 N h3;obtain⟨g8,M,r8⟩:∃g,V 14=sZ g 1 1/\yz W9 g (tw (t i)):=N 14 dC;have K9:=mk2 (c.1.trans (h3.mono c.1.size)) (own_below c.2 h3);obtain⟨v',W6,h8,ha,h6⟩:=Oo (t i) K9.2 r8 (by have:=HN.2;have:=z;omega) K9.1.size;dsimp only[dF,Zs,gD,qg];simp only[Zo,Yw,Yy,Yz];rw[N 0 dC,M];go_wp2_with (first|(refine kC (x:=u9) (y:=sZ g8 1 1) (v:=v') (w':=W6) Z _ _ 65 Z ?_ ?_ ?_ ?_;rfl;rfl;exact(Hid.mk' h8).out)|fail)
   go_roundg (gk-1)
   case measure=>have:=z;omega
   case rel=>exact⟨i+1,oN z,Z,mk2 (below_grown K9.1 K9.2 h6) ha⟩
  .have h7:=S;have z:i=n:=S;go_wp2;go_ret;have:=c.2;rw[z]at this;exact⟨_,Z,p.2.2.2.2.2.2.trans (c.1.mono p.2.2.2.2.2.2.size),(PtQ.of_own this HN.1).mono λg _ M=>YA p.2.2.2.2.2.2.size M⟩
end
end Go.Proofs.YtdoammpgchejcaaGreat
