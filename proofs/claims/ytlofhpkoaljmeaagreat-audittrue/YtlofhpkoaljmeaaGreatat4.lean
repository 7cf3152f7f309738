import Derived.RangeFuncNested
import Derived.RangeFuncBound
import Derived.RangeFuncCalls
import Derived.RangeFuncLeaves
import Derived.Shelf.Abstract
import Derived.Shelf.RegionOpen
import Derived.WalkKit
import Derived.OwnWalkIn
import Derived.TacticsInMore
import Derived.LoopNIn
import Derived.LoopIn
import Derived.Deep.RegionHeld3
import Derived.Deep.RegionWith
import Derived.Deep.LoopGhost
import Derived.Deep.CutRange
import Derived.Deep.DeepCutAuto
import Derived.Deep.OwnRows
import Derived.Great.BuildSlice
import Derived.Lib.LazyBuf
import Derived.Laws.AppendOwn
import Derived.Laws.IdiomCopy
import Derived.Lib.AppendZeros
import Derived.Deep.AppendSrc
import Derived.Test.YtlofhpkoaljmeaaGreatat3
set_option linter.unusedVariables false
set_option linter.defProp false
set_option linter.constructorNameAsVariable false
set_option linter.unusedSimpArgs false
set_option maxRecDepth 1000000
set_option maxHeartbeats 4000000
namespace Go.Proofs.YtlofhpkoaljmeaaGreat
open EC NT RG SP
open _root_.Array renaming all_eq_true'->ZJ,any_eq_true'->yAF,ext_getElem?->yDx,getD_eq_getD_getElem?->XU,getElem?_eq_getElem->Ye,getElem?_eq_some_iff->X9,getElem?_replicate->yAZ,getElem?_setIfInBounds->ZF,getElem?_toList->YI,length_toList->X0,mapM_eq_mapM_toList->yAl,replicate->XW,replicate_succ->yB1,replicate_zero->yB0,size_append->Ys,size_extract->yAd,size_replicate->X8,size_setIfInBounds->YT,toArray_toList->yBn,toList_replicate->yC8
open _root_.Bool renaming and_eq_true->XZ,or_eq_false_iff->yDn,or_eq_true->yAc,true_or->yAU
open _root_.Classical renaming byContradiction->Zw
open _root_.Fin renaming ofNat->Z2
open _root_.Go renaming Addr->Y4,Exit->yAN,Oper->Yw,Operand->yAp,Program->YO,Tmp->ZC,TypeId->Yj,Value->XG,World->XF,bodyPost_ret->XR,execOp->Ym,run_append_own->yBu,run_loadVar_mid->yAH,run_underlying->yA8,size_madeCells->yDs,undef->ZB,wpList_load_mid->YG,wpList_plain->ZT,wpList_store_mid->Yi,wpOp_mono->yCj,wp_cond_false->Yh,wp_cond_true->YH,wp_region_any->yEU,wp_ret->Zj,wp_seq->XL
open _root_.Go.Act renaming put->Yo
open _root_.Go.Addr renaming add->yBZ
open _root_.Go.Builtin renaming append_->YK,clear_->yDD,zeroCells->Zy
open _root_.Go.Code renaming region->Zg
open _root_.Go.Fence renaming wide->yCP
open _root_.Go.Instr renaming arrayAt->yEj,box->Yu,build->yBC,buildSlice->YF,findAsking->yDL,findKey->yEi,indexAt->YV,loadAt->yCm,lookup->yC5,makeMap->yEh,makeSlice->yAq,mapUpdate->yBR,sliceAt->ZH,sureAddr->yAP
open _root_.Go.IntKind renaming i64->Yt,wrap_i64->Zo
open _root_.Go.KeepsOthers renaming alloc->yEg,setCell->yCs
open _root_.Go.Lib renaming run_append_nil_zeros->yC4,wpList_append_run->yAs
open _root_.Go.Next renaming value->ZW
open _root_.Go.Oper renaming about->yDC,semAt_eq->yCW,semAt_some->yBY,upon_enter->ZU,wp->Y8
open _root_.Go.OwnFrom renaming and->yD5
open _root_.Go.Region renaming binds->Y3,ready->Yq,wanted->Zd
open _root_.Go.Result renaming andThen_ok->YE
open _root_.Go.RowKit.Below renaming heap_alloc->yDJ,refl->XX
open _root_.Go.Sem renaming run->yEA,run_bind->X6,run_pure->Zu
open _root_.Go.Value renaming agg->Yg
open _root_.Go.World renaming cell?->YY,cell?_of_block->Yb,frozen?->Zt,frozen?_of_block->Y6,ownsRow_made->yDt,ownsRow_nil->yCe,putObj->yC2,rangeAt_setCells_apart->Yr,rangeAt_setCells_same->YW,size_alloc->XS,there->yEq,there_setCells->Za
open _root_.Int renaming natCast_add->yCG,natCast_mul->yAx,toNat_natCast->yBW
open _root_.List renaming all_eq_true->Yv,append_nil->yAt,append_toArray->yCb,cons_append->ZS,countP_replicate->yDh,drop->Z5,eq_nil_iff_forall_not_mem->yCz,ext_getElem?->yBK,filter_sublist->yDr,finRange->yEm,flatMap_append->yBp,flatMap_cons->yCi,getElem?_append_left->X1,getElem?_append_right->X4,getElem?_eq_getElem->XV,getElem?_eq_none->ZR,getElem?_eq_some_iff->XT,getElem?_map->YC,getElem?_of_mem->ZK,getElem?_range->yBw,getElem?_take->ZE,getElem?_toArray->Yp,getElem_cons_succ->yDa,getElem_mem->YS,length_append->XP,length_cons->YA,length_filter_le->yDf,length_map->X7,length_nil->ZD,length_range->yAb,length_take->Z8,mapM_cons->yBB,mapM_nil->yBN,map_append->Y5,map_cons->yAg,map_nil->yCx,map_toArray->yDR,mem_append->Zh,mem_cons->Zc,mem_cons_of_mem->Yx,mem_cons_self->YL,mem_filter->yBT,mem_finRange->yDI,mem_flatMap->yCw,mem_map->YD,mem_of_mem_take->yDj,mem_range->Y9,mem_toArray->yAu,nil_append->Z1,nodup_cons->yA3,nodup_finRange->yB4,not_mem_nil->Yf,pairwise_map->yDH,prefix_rfl->yD1,push_toArray->yCv,range->YB,range_succ->yA2,setIfInBounds_toArray->XJ,set_cons_succ->XM,set_cons_zero->XO,size_toArray->YJ,take->Z4,take_add_one->yCu,take_length->yCt
open _root_.List.Pairwise renaming imp->yCN
open _root_.Nat renaming add_comm->yEx,add_mod->yB8,add_zero->yAi,div_add_mod->yB3,le_add_right->yBU,le_of_ble_eq_true->YM,le_of_lt->yAm,le_refl->XH,le_trans->XN,lt_of_lt_of_le->XI,lt_of_succ_le->Z7,lt_or_ge->Zx,lt_succ_self->yB2,mod_eq_of_lt->Ya,mod_lt->Zi,mul_comm->YN,mul_le_mul->ZP,mul_le_mul_right->yAv,mul_mod->yAz,mul_succ->yA1,mul_zero->yCQ,ne_of_gt->Zs,not_lt_zero->yAh,reduceAdd->YQ,reduceSub->yDi,sub_zero->yBI,zero_add->XQ,zero_le->Zq
open _root_.Option renaming isSome_iff_exists->YP,map_eq_some_iff->XK,some->X5
open _root_.Or renaming inl->Yk,inr->Yd
open _root_.Prod renaming mk->Zl
open _root_.UInt8 renaming ofNat->XY
open Go.Proofs.Tryz
open Go.RowKit Go.Sort Go.Deep
section
open Go.Shelf
attribute [local go_sem] yBY
section
variable {F:Fence}{n:Nat}{P:YO}{ops:Array Yw}{rest:List Yw}{op:Yw}{a:Act}{w:XF}{Q:yAN->Act->XF->Prop}
def kD{k:Yj}{x:yAp}{b o:Nat}{cs:List XG}(g:op.guard=none)(ho:op.op=.load k x)(hx:a.eval x=oZ b o)(d:TypeDesc)(l:w.rangeAt b o cs)(m:P.underlying k=some d)(hd:d.isRow=true)(j:(P.info? k).map (·.size)=some cs.length)(h:wpListIn F n P ops Q rest (a.put op.dst (.agg cs.toArray)) w):wpListIn F n P ops Q (op :: rest) a w:=
 wpListIn_plain g λK i=>by
  refine⟨λf hf=>(by unfold yDC at hf;rw[ho]at hf;cases hf),?_⟩;rw[yCW _ _ _ (λc=>by rw[ho];intro e;cases e)];unfold Ym;simp only[ho,hx,yCm,yAP,X6,Zu,YE,yAH w b o k cs d l m hd j];exact i _ _ h
def bN{x y:yAp}{b:Nat}{k:Array XG}(g:op.guard=none)(d:Yj)(ho:op.op=.store d x y)(o:Nat)(hx:a.eval x=oZ b o)(j:a.eval y=.agg k)(p:w.there b o k.size)(m:(P.info? d).map (·.size)=some k.size)(l:k.all (·.oneCell')=true)(h:wpListIn F n P ops Q rest (a.put op.dst ZB) (w.setCells b o k.toList)):wpListIn F n P ops Q (op :: rest) a w:=
 wpListIn_plain g λK i=>by
  refine⟨λf hf=>(by unfold yDC at hf;rw[ho]at hf;cases hf),?_⟩;rw[yCW _ _ _ (λc=>by rw[ho];intro e;cases e)];unfold Ym;simp only[ho,hx,j,Instr.storeAt,yAP,X6,Zu,YE,run_storeVar_mid w b o d k p m l];exact i _ _ h
end
def Row(W:XF)(k:Nat)(vs:List XG):Prop:=k<W.heap.size/\W.rangeAt k 0 vs/\W.there k 0 vs.length
def rM{k:Nat}{vs:List XG}:Own (λ(_:Unit) W=>Row W k vs):=λs A B row c b e=>by
 refine⟨XI c.1 b.size,λj v d=>?_,λj d=>?_⟩
 .exact cell_kept (c.2.1 j v d) b e
 .have f:=c.2.1 j vs[j] (XV d);have g:=cell_kept f b e;exact⟨by rw[g];rfl,(frozen_kept f b e).trans (c.2.2 j d).2⟩
def oK{k:Nat}:∀(vs:List XG) (o:Nat) (W:XF),KeepsOthers W (W.setCells k o vs)
 | [],_,W=>KeepsOthers.refl W
 | v :: vs,o,W=>(yCs W ⟨k,o,none⟩ v).trans (oK vs (o+1) _)
def Row.alloc{W:XF}{k:Nat}{vs:List XG}(h:Row W k vs)(o:Obj):Row (W.alloc o) k vs:=
 rM () W (W.alloc o) none h (World.grownBy_alloc W o none) (λ_ e=>by cases e)
def Row.putObj{W:XF}{k D:Nat}{vs:List XG}(h:Row W k vs){o:Obj}(c:W.heap[D]? = some o)(ho:o.isCells=false)(b:Obj):Row (W.putObj D b) k vs:=
 rM () W (W.putObj D b) (some D) h (grownBy_putObj' W D b) (λr e=>by cases e;exact⟨_,c,ho⟩)
def Row.below{W W':XF}{k:Nat}{vs:List XG}(h:Row W k vs)(c:kZ W W'):Row W' k vs:=by
 have e:=c.block k h.1;refine⟨XI h.1 c.size,λj v b=>?_,λj b=>?_⟩
 .exact(Yb e).trans (h.2.1 j v b)
 .have d:=h.2.2 j b;exact⟨by rw[Yb e];exact d.1,(Y6 e).trans d.2⟩
def aF{T:Yj}{P:YO}{c:Func}{tmps:Array XG}{W:XF}{k:Nat}{vs:List XG}(t:ZC)(j:c.results=#[.cell t T])(h:Row W k vs)(f:tmps[t]? = some (jZ k))(b:(P.underlying T).map (·.isRow)=some true)(e:(P.info? T).map (·.size)=some vs.length):(results c tmps).run P W=.ok (.agg vs.toArray) W:=by
 obtain⟨d,b,hd⟩:=XK.1 b;have i:=yAH (P:=P) W k 0 T vs d h.2.1 b hd e;have g:tmps.getD t ZB=jZ k:=by rw[XU,f];rfl
 unfold results;rw[j];simp only[yAl,yBB,yBN,g,asAddr];simp[X6,i]
def Row.put{W:XF}{k:Nat}{vs us:List XG}(h:Row W k vs)(b:us.length=vs.length):Row (W.setCells k 0 us) k us:=
 ⟨by rw[setCells_size];exact h.1,YW W k 0 us (by rw[b];exact h.2.2),by rw[b];exact Za h.2.2 _ _ _⟩
def Row.other{W:XF}{k j:Nat}{vs us:List XG}(h:Row W k vs)(b:k≠j):Row (W.setCells j 0 us) k vs:=
 ⟨by rw[setCells_size];exact h.1,Yr h.2.1 j 0 us (Yk b),Za h.2.2 _ _ _⟩
variable {P:Nat}[NeZero P]
def OT(C:Fld P)(lb:Array XG)(L:List (Fin P × Fin P))(N:Nat)(w:XF)
 (z:∀n,SeqStopsK yCP n prog 117 lb (λx:Fin P × Fin P=>#[pv x.1 x.2]) (Below w.heap.size) (λxs=>xs=L) (λb=>b <+: L) N w) :
 cZ 67 #[.func (.func 117) #[] lb] w (rZ w λe w'=>e=pv (L.headD (gX P,gY P)).1 (L.headD (gX P,gY P)).2):=by
 refine(callsIn_wide (n:=5)).1 ?_;refine callsIn_of_wp_marks func67 rfl trivial ?_ rfl;simp only[ntmps67,YJ,YA,ZD,YQ,yDi,yB1,yB0,yCv,yCb,Z1,ZS]
 gi_wp2
 have E:=Made.alloc w [uZ 0,uZ 0,uZ 0,uZ 0,uZ 0,uZ 0,uZ 0,uZ 0] 131;have y:Row (w.alloc (.cells #[uZ 0,uZ 0,uZ 0,uZ 0,uZ 0,uZ 0,uZ 0,uZ 0] 131)) w.heap.size [uZ 0,uZ 0,uZ 0,uZ 0,uZ 0,uZ 0,uZ 0,uZ 0]:=⟨E.lt,E.range,E.there⟩
 have m:kZ w (w.alloc (.cells #[uZ 0,uZ 0,uZ 0,uZ 0,uZ 0,uZ 0,uZ 0,uZ 0] 131)):=E.bel;clear E;obtain⟨a,p⟩:∃a,a=w.alloc (.cells #[uZ 0,uZ 0,uZ 0,uZ 0,uZ 0,uZ 0,uZ 0,uZ 0] 131):=⟨_,rfl⟩
 have H:a.heap.size=w.heap.size+1:=by rw[p,XS]
 rw[<-p]at y m⊢;clear p;refine wpIn_rangeFunc_ownH (α:=Fin P × Fin P) rfl dC (gf:=117) (lb:=lb) rfl trivial (enters_of func117 kR rfl) (z 4) belowK_t (belowK_b oM) m (λ_=>rfl)
  (λb W=>(b=[]/\Row W w.heap.size [uZ 0,uZ 0,uZ 0,uZ 0,uZ 0,uZ 0,uZ 0,uZ 0])/\kZ w W)
  (λc b W=>(c=.ret/\∃x:Fin P × Fin P,b=[x]/\Row W w.heap.size (ws x.1++ws x.2))/\kZ w W)
  (yD5 (Own.from (λs A B row k f j=>⟨k.1,rM () A B row k.2 f j⟩) _) (ownFrom_below (XH _) oM))
  (λc=>yD5 (Own.from (λs A B row k f j=>⟨k.1,k.2.imp λx hx=>⟨hx.1,rM () A B row hx.2 f j⟩⟩) _) (ownFrom_below (XH _) oM))
  ⟨⟨rfl,y⟩,m⟩
  (λx u W=>∃Bx,w.heap.size<Bx/\Row W Bx (ws x.1++ws x.2)/\u = { tmps:=#[.func (.func 117) #[] lb,ZB,jZ w.heap.size,jZ Bx,.func (.func 117) #[] lb,pv x.1 x.2,ZB,ZB],defers:=[] })
  (λx u=>Own.from (λs A B row k f j=>k.imp λBx hx=>⟨hx.1,rM () A B row hx.2.1 f j,hx.2.2⟩) _) ?assign ?body ?done ?stop
 case assign =>
  intro l b x W K q i;have f:=Made.alloc W [uZ 0,uZ 0,uZ 0,uZ 0,uZ 0,uZ 0,uZ 0,uZ 0] 131;have g:=f.there
  gi_wp2_with (refine bN rfl 131 rfl 0 rfl rfl g i109 kR ?_)
  have k:=q.1.2.1;have o:Below w.heap.size W ((W.alloc (.cells #[uZ 0,uZ 0,uZ 0,uZ 0,uZ 0,uZ 0,uZ 0,uZ 0] 131)).setCells W.heap.size 0 (ws x.1++ws x.2)):=
   RG.below_setCells (yAm k) _ _ _ ((XX _ W).alloc (yAm k) _)
  exact i _ _ (((yEg W _).trans (oK _ _ _)).from _) o ⟨⟨q.1.1,(q.1.2.alloc _).other (Nat.ne_of_lt k)⟩,q.2.trans o⟩
   ⟨W.heap.size,k,Row.put (vs:=[uZ 0,uZ 0,uZ 0,uZ 0,uZ 0,uZ 0,uZ 0,uZ 0]) ⟨f.lt,f.range,f.there⟩ rfl,rfl⟩
 case body =>
  rintro l b x u W I ⟨r,j⟩ ⟨⟨rfl,k⟩,t⟩ ⟨Bx,G,A,rfl⟩ F;obtain⟨d,f,q⟩:=XK.1 iM;have o:=A.2.1;have g:=k.2.2
  gi_wp2_with (first|refine kD rfl rfl rfl d o f q i109 ?_|refine bN rfl 131 rfl 0 rfl rfl g i109 kR ?_)
  exact⟨(oK _ _ _).from _,⟨rfl,x,rfl,k.put rfl⟩,RG.below_setCells (XH _) _ _ _ t⟩
 case done =>
  rintro D ys W G rfl ⟨⟨rfl,k⟩,t⟩ i;have g:=k.2.2
  gi_wp2_with fail
  refine⟨trivial,(callsIn_wide.2 (Fz C _)).mono ?_⟩;rintro e A ⟨v,rfl,j,rfl⟩;have f:Row A w.heap.size [uZ 0,uZ 0,uZ 0,uZ 0,uZ 0,uZ 0,uZ 0,uZ 0]:=k.below j;have u:=f.2.2
  gi_wp2_with (refine bN rfl 131 rfl 0 rfl rfl u i109 kR ?_)
  have o:(A.setCells w.heap.size 0 (ws (gX P)++ws (gY P))).heap[D]? = some (.deferred (some [])):=by
   rw[aE _ _ _ _ oM,j.block D (X9.1 i).1];exact i
  have F:kZ w (A.setCells w.heap.size 0 (ws (gX P)++ws (gY P))):=RG.below_setCells (XH _) _ _ _ (t.trans (j.mono t.size));have q:Row (A.setCells w.heap.size 0 (ws (gX P)++ws (gY P))) w.heap.size (ws (gX P)++ws (gY P)):=f.put rfl;refine⟨by simp,.inl ⟨_,_,rfl,run_takeDeferred o,?_⟩⟩;exact⟨_,aF 2 rfl (q.putObj o rfl _) rfl iM i109,_,rfl,F.trans (belowK_b (w:=a) oM _ D _ _ G o rfl rfl),rfl⟩
 case stop =>
  rintro D c b W G f ⟨⟨rfl,x,rfl,k⟩,t⟩ i
  gi_wp2
  obtain⟨o,j⟩:=f;have g:L=x :: o:=j.symm;rw[g];refine⟨by simp,.inl ⟨_,_,rfl,run_takeDeferred i,?_⟩⟩;exact⟨_,aF 2 rfl (k.putObj i rfl _) rfl iM i109,_,rfl,t.trans (belowK_b (w:=a) oM _ D _ _ G i rfl rfl),rfl⟩
end
section
variable {P:Nat}[NeZero P]{N:Nat}
def kK{w W:XF}{k e d b c:Nat}(h:Kept w k [⟨k,0,d,b,c,0⟩,⟨e,0,0,0,0,0⟩] W):W.cell? ⟨k,0,none⟩=some (uZ d)/\W.cell? ⟨k,1,none⟩=some (uZ b)/\W.cell? ⟨k,2,none⟩=some (uZ c)/\W.cell? ⟨k,3,none⟩=some (uZ 0)/\Kept w k [⟨k,0,d,b,c,0⟩,⟨e,0,0,0,0,0⟩] W:=⟨h.head.c0,h.head.c1,h.head.c2,h.head.c3,h⟩
def lM{w W:XF}{k e d b c:Nat}(h:W.cell? ⟨k,0,none⟩=some (uZ d)/\W.cell? ⟨k,1,none⟩=some (uZ b)/\W.cell? ⟨k,2,none⟩=some (uZ c)/\W.cell? ⟨k,3,none⟩=some (uZ 0)/\Kept w k [⟨k,0,d,b,c,0⟩,⟨e,0,0,0,0,0⟩] W):Kept w k [⟨k,0,d,b,c,0⟩,⟨e,0,0,0,0,0⟩] W:=h.2.2.2.2
def Ep{w W:XF}{k e d b c:Nat}{o:Obj}(h:W.cell? ⟨k,0,none⟩=some (uZ d)/\W.cell? ⟨k,1,none⟩=some (uZ b)/\W.cell? ⟨k,2,none⟩=some (uZ c)/\W.cell? ⟨k,3,none⟩=some (uZ 0)/\Kept w k [⟨k,0,d,b,c,0⟩,⟨e,0,0,0,0,0⟩] W):(W.alloc o).cell? ⟨k,0,none⟩=some (uZ d)/\(W.alloc o).cell? ⟨k,1,none⟩=some (uZ b)/\(W.alloc o).cell? ⟨k,2,none⟩=some (uZ c)/\(W.alloc o).cell? ⟨k,3,none⟩=some (uZ 0)/\Kept w k [⟨k,0,d,b,c,0⟩,⟨e,0,0,0,0,0⟩] (W.alloc o):=kK ((lM h).alloc o)
def CM{w W:XF}{k e d b c:Nat}{o:Obj}(h:W.drew.cell? ⟨k,0,none⟩=some (uZ d)/\W.drew.cell? ⟨k,1,none⟩=some (uZ b)/\W.drew.cell? ⟨k,2,none⟩=some (uZ c)/\W.drew.cell? ⟨k,3,none⟩=some (uZ 0)/\Kept w k [⟨k,0,d,b,c,0⟩,⟨e,0,0,0,0,0⟩] W.drew):(W.alloc o).drew.cell? ⟨k,0,none⟩=some (uZ d)/\(W.alloc o).drew.cell? ⟨k,1,none⟩=some (uZ b)/\(W.alloc o).drew.cell? ⟨k,2,none⟩=some (uZ c)/\(W.alloc o).drew.cell? ⟨k,3,none⟩=some (uZ 0)/\Kept w k [⟨k,0,d,b,c,0⟩,⟨e,0,0,0,0,0⟩] (W.alloc o).drew:=kK (((lM h).undrew).alloc o).drew
def zA{w:XF}{p l g o:Nat}{k:Bs}(h:hZ w g o k)(c:p+l<=k.size):hZ w g (o+p) (k.extract p (p+l)):=by
 refine Holds.part h (by rw[yAd];omega) (λj b=>?_);rw[yAd]at b;rw[getElem!_pos (k.extract p (p+l)) j (by rw[yAd];omega),getElem!_pos k (p+j) oM,Array.getElem_extract]
def Di{w:XF}{f g o:Nat}{k:Bs}(h:hZ w g o k)(hf:f<=k.size):hZ w g o (k.extract 0 f):=by
 have:=zA (p:=0) (l:=f) h oM;rwa[XQ,yAi]at this
def RedR(w:XF)(e f j l g N:Nat)(s6:XG)(i:XF):Prop:=
 ∃k a b c d:Nat,s6=jZ k/\Kept w e [⟨k,0,a,b,c,d⟩,⟨e,0,j,l,g,0⟩,⟨f,0,0,0,0,0⟩] i/\k≠e/\k≠f/\e<=k /\
  Hid (Four (.agg #[uZ a,uZ b,uZ c,uZ d]) N)
def RedR.made{w k:XF}{f i l j g N a b c d:Nat}(e:Kept w f [⟨f,0,l,j,g,0⟩,⟨i,0,0,0,0,0⟩] k)(m:Hid (Four (.agg #[uZ a,uZ b,uZ c,uZ d]) N)):
 RedR w f i l j g N (jZ k.heap.size) (k.alloc (.cells #[uZ a,uZ b,uZ c,uZ d] 76)):=
 ⟨k.heap.size,a,b,c,d,rfl,(e.alloc _).cons (At4.made k 76 a b c d rfl).blk,Zs e.head.lt,Zs e.tail.head.lt,e.le,m⟩
def RedR.put{w m:XF}{e i k j g f N a b c d x y z u:Nat}(p:Kept w e [⟨e,0,j,g,f,0⟩,⟨i,0,0,0,0,0⟩] m)(T:At4 m k x y z u)(n:e<=k)(l:∀x∈([⟨e,0,j,g,f,0⟩,⟨i,0,0,0,0,0⟩]:List Blk),x.k<k)(o:Hid (Four (.agg #[uZ a,uZ b,uZ c,uZ d]) N)):
 RedR w e i j g f N (jZ k) ((((m.setCell (aZ k) (uZ a)).setCell ⟨k,1,none⟩ (uZ b)).setCell ⟨k,2,none⟩ (uZ c)).setCell ⟨k,3,none⟩ (uZ d)):=
 ⟨k,a,b,c,d,rfl,(p.set4' n (λx hx=>Zs (l x hx)) _ _ _ _).cons (T.self4 a b c d).blk,Zs (l ⟨e,0,j,g,f,0⟩ (by simp)),Zs (l ⟨i,0,0,0,0,0⟩ (by simp)),n,o⟩
def J8{P:Nat}(k:Bs)(p:Nat)(d:p+32<=k.size):(beV (k.extract p (p+32)).toList+top*(beV (k.extract 0 p).toList%P))%P=beV (k.extract 0 (p+32)).toList%P:=by
 have e:(k.extract 0 (p+32)).toList=(k.extract 0 p).toList++(k.extract p (p+32)).toList:=by
  rw[<-Array.toList_append,Array.extract_append_extract,Nat.min_eq_left oM,Nat.max_eq_right oM]
 have b:(k.extract p (p+32)).toList.length=32:=by rw[X0,yAd];omega
 have c:256^32=top:=by unfold top;decide
 rw[e,rH,b,c,yEx,yB8,yAz,Nat.mod_mod,<-yAz,<-yB8,YN]
def DV(g0 g1 g2 P g o n cap : Nat)(bs : Bs)(hG : Gap g0 g1 g2 P)(w : XF)(hs : bs.size = n)(hc : n <= cap)(hg : g < w.heap.size)(hB : Holds encB w g o bs):
    Calls prog 204 #[.agg #[.int .u64 (g0 : Int), .int .u64 (g1 : Int), .int .u64 (g2 : Int), .int .u64 0], .slice (some ⟨g, o, none⟩) n cap] w (Ret λe w' => Below w.heap.size w w' /\ Four e (beV bs.toList % P)) := by
  obtain⟨f, hf⟩ : ∃f, f = n % 32 := ⟨_, rfl⟩;have hf32 : f < 32 := oM;have hfn : f <= n := oM;have e1 : (n : Int) % 32 = (f : Int) := oM;have e2 : (f : Int) <= (cap : Int) := oM;have e3 : (f : Int) <= (n : Int) := oM;have e4 : f <= cap := oM;have hsz0 : (bs.extract 0 f).size = f := by rw [yAd]; omega
  have Hf : Hid (f = n % 32) := hf;have HS : Hid ((bs.extract 0 f).size = f) := hsz0;have hbs : f <= bs.size := oM;have HSZ : Hid (bs.size = n) := hs;have HG : Hid (Gap g0 g1 g2 P) := hG;clear hf hsz0 hG;go_enter func204, ntmps204
  go_upto_region 2 with fail
  rw [e1];clear e1;have PR := (At4.made w 78 g0 g1 g2 0 rfl).alloc (.cells #[.int .u64 0, .int .u64 0, .int .u64 0, .int .u64 0] 42);have RE := At4.made (w.alloc (.cells #[.int .u64 (g0 : Int), .int .u64 (g1 : Int), .int .u64 (g2 : Int), .int .u64 0] 78)) 42 0 0 0 0 (XS _ _);have KP := ((Kept.mk1 (below2 w (.cells #[.int .u64 (g0 : Int), .int .u64 (g1 : Int), .int .u64 (g2 : Int), .int .u64 0] 78) (.cells #[.int .u64 0, .int .u64 0, .int .u64 0, .int .u64 0] 42)) (below2 w (.cells #[.int .u64 (g0 : Int), .int .u64 (g1 : Int), .int .u64 (g2 : Int), .int .u64 0] 78) (.cells #[.int .u64 0, .int .u64 0, .int .u64 0, .int .u64 0] 42)).size).cons RE.blk).cons PR.blk;clear PR RE;generalize World.alloc _ _ = W0 at KP⊢;generalize h1 : w.heap.size + 1 = k1 at KP⊢;have Q1 : Hid (w.heap.size <= k1) := by unfold Hid; omega
  generalize h0 : w.heap.size = k0 at KP Q1 hg⊢;have n01 : k0 ≠ k1 := oM;have H0 : Hid (w.heap.size = k0) := h0;have HBS : Hid (Holds encB w g o bs) := hB;clear h0 h1 hB hs
  go_cut [6] (λs6 wx => RedR w k0 k1 g0 g1 g2 (beV (bs.extract 0 f).toList % P) s6 wx)
  case first =>
    go_region_held3 (λw' => w'.cell? ⟨k0, 0, none⟩ = some (.int .u64 (g0 : Int)) /\ w'.cell? ⟨k0, 1, none⟩ = some (.int .u64 (g1 : Int)) /\ w'.cell? ⟨k0, 2, none⟩ = some (.int .u64 (g2 : Int)) /\ w'.cell? ⟨k0, 3, none⟩ = some (.int .u64 0) /\ Kept w k0 [⟨k0, 0, g0, g1, g2, 0⟩, ⟨k1, 0, 0, 0, 0, 0⟩] w') (first | (with_reducible exact kK KP) | (with_reducible exact kK KP.drew) | (with_reducible exact CM (by assumption)) | (with_reducible exact Ep (by assumption)) | (with_reducible exact kK (KP.alloc _)) | (with_reducible exact kK (KP.set4' M7 (λx hx => Zs (N7 x hx)) _ _ _ _)) | (with_reducible exact kK (KP.alloc _).drew) | (with_reducible exact kK (KP.set4' M7 (λx hx => Zs (N7 x hx)) _ _ _ _).drew) | fail) (first | (go_at_call 53; refine(kY (some ⟨g, o, none⟩) g o f cap (bs.extract 0 f) _ (yAm hf32) e4 HS.out (Yd ⟨rfl, Di (f:=f) (Holds.below HBS.out (lM (by assumption)).bl hg) hbs⟩)).mono ?_; rintro e w1 ⟨v, rfl, hb1, hF1⟩; obtain⟨a1, b1, c1, d1, rfl, ha1, hb1', hc1, hd1, es1⟩ := id hF1; clear es1; have HF1 : Hid (Four _ _) := hF1; clear hF1; (try(with_reducible have T1 := T.call hb1; clear T; have T := T1; clear T1)); (try(first | (with_reducible have T := (At4.made _ 76 0 0 0 0 rfl).call hb1) | (with_reducible have T := (At4.made _ 76 0 0 0 0 rfl).drew.call hb1)); have N7 := KP.lts; have M7 := KP.le); have KP1 := Kept.call (lM (by assumption)) hb1; clear KP; have KP := KP1; clear KP1 hb1) | (go_at_call 55; refine(jY HF1.out).mono ?_; rintro e w1 ⟨v, rfl, hb1, rfl⟩; (try(with_reducible have T1 := T.call hb1; clear T; have T := T1; clear T1)); (try(first | (with_reducible have T := (At4.made _ 76 0 0 0 0 rfl).call hb1) | (with_reducible have T := (At4.made _ 76 0 0 0 0 rfl).drew.call hb1)); have N7 := KP.lts; have M7 := KP.le); have KP1 := Kept.call (lM (by assumption)) hb1; clear KP; have KP := KP1; clear KP1 hb1) | (go_at_call 155; refine(zF g0 g1 g2 _ _ _ _ P HG.h0 HG.h1 HG.h2 HG.hor HG.hP HG.hP2 HF1.out (Four.mk (a := 0) (b := 0) (c := 0) (d := 0) dC dC dC dC rfl) _).mono ?_; rintro e w1 ⟨v, rfl, hb1, hF3⟩; obtain⟨a', b', c', d', rfl, ha', hb', hc', hd', es3⟩ := id hF3; clear es3; have HF3 : Hid (Four _ _) := hF3; clear hF3; (try(with_reducible have T1 := T.call hb1; clear T; have T := T1; clear T1)); (try(first | (with_reducible have T := (At4.made _ 76 0 0 0 0 rfl).call hb1) | (with_reducible have T := (At4.made _ 76 0 0 0 0 rfl).drew.call hb1)); have N7 := KP.lts; have M7 := KP.le); have KP1 := Kept.call (lM (by assumption)) hb1; clear KP; have KP := KP1; clear KP1 hb1; (try(obtain⟨tc0, tc1, tc2, tc3, tf⟩ := id T; have zt := T.lt))))
    all_goals (try go_wp2)
    all_goals (rw [show val 0 0 0 0 = 0 from rfl, yCQ, yAi]at HF3)
    all_goals (go_meet; first | (with_reducible exact RedR.made KP HF3) | (with_reducible exact(RedR.made KP HF3).drew) | (with_reducible exact RedR.put KP T M7 N7 HF3) | (with_reducible exact(RedR.put KP T M7 N7 HF3).drew) | fail)
  case rest =>
    clear KP;obtain⟨k6, a, b, c, d, rfl, KP, n60, n61, M6, HF⟩ := hcut;have f0 : (0 : Int) <= (f : Int) := Int.natCast_nonneg _
    go_upto_region 3 with fail
    go_cut [1] (λs1 wx => ∃q : Nat, s1 = .slice (some ⟨g, q, none⟩) (n - f) (cap - f) /\ Hid (0 < n - f -> q = o + f) /\ Kept w k0 [⟨k6, 0, a, b, c, d⟩, ⟨k0, 0, g0, g1, g2, 0⟩, ⟨k1, 0, 0, 0, 0, 0⟩] wx)
    case first =>
      by_cases ec : cap = f
      · have en : n = f := oM
        have HEN : Hid (n = f /\ cap = f) := ⟨en, ec⟩;go_wp2
        go_meet
        refine⟨o, ?_, λh => ?_, KP⟩
        · rw [HEN.1, HEN.2]; try simp
        · have := HEN.1; omega
      · go_wp2
        go_meet
        exact⟨o + f, rfl, λ_ => rfl, KP⟩
    case rest =>
    clear KP;obtain⟨q0, rfl, HQ0, KP⟩ := hcut;go_wp2_with fail
    go_loopg [1] (n - f) (λgk s1 wr => ∃(l q lc a b c d : Nat), gk = l /\ l <= n /\ s1 = .slice (some ⟨g, q, none⟩) l lc /\ Hid (l % 32 = 0 /\ (0 < l -> q = o + (n - l)) /\ lc = cap - (n - l)) /\ Kept w k0 [⟨k6, 0, a, b, c, d⟩, ⟨k0, 0, g0, g1, g2, 0⟩, ⟨k1, 0, 0, 0, 0, 0⟩] wr /\
      Hid (Four (.agg #[.int .u64 (a : Int), .int .u64 (b : Int), .int .u64 (c : Int), .int .u64 (d : Int)]) (beV (bs.extract 0 (n - l)).toList % P)))
    case atStart =>
      refine⟨n - f, q0, cap - f, a, b, c, d, rfl, oM, rfl, ⟨by have := Hf.out; omega, λh => by have := HQ0.out h; omega, oM⟩, KP, ?_⟩;rw [show n - (n - f) = f by omega];exact HF
    case round =>
      clear KP HF;obtain⟨l, q, lc, a, b, c, d, hgk, hln, rfl, HQ3, KP, HF⟩ := hrel;clear e2 e3 e4 f0 hbs HS hf32 hfn HQ0;have hlcl : l <= lc := by have := HQ3.out; omega
      by_cases h0 : l = 0
      · subst h0
        obtain⟨xc0, xc1, xc2, xc3, xf⟩ := KP.head.at4;have z7 := KP.head.lt;go_wp2_with fail
        refine(jU HF.out).mono ?_;rintro e w3 ⟨v, rfl, hb3, rfl⟩;have KP3 := KP.call hb3;clear hb3 xc0 xc1 xc2 xc3 xf z7 KP;obtain⟨rc0, rc1, rc2, rc3, rf⟩ := KP3.tail.tail.head.at4;have z3 := KP3.tail.tail.head.lt;go_wp2;have RF := KP3.tail.tail.head.at4.self4 a b c d;unfold set4 at RF;refine XR (v := ?v) ?hr rfl ?hR
        case hr => simp [results, Tryz.results204, go_sem, RF.c0, RF.c1, RF.c2, RF.c3]; rfl
        refine⟨_, rfl, ?_, ?_⟩
        · rw [H0.out]
          exact aK KP3.bl Q1.out
        · have := HF.out
          rw [yBI, <-HSZ.out, Array.extract_size]at this;exact this
      · have h32 : 32 <= l := by have := HQ3.out; omega
        have HQ : Hid (o + (n - l) = q) := (HQ3.2.1 oM).symm;have h32c : 32 <= lc := oM;have i1 : (32 : Int) <= (lc : Int) := oM;have i2 : (32 : Int) <= (l : Int) := oM;have i3 : (0 : Int) < (l : Int) := oM;have HSL : Hid (n - l + 32 <= bs.size) := by unfold Hid; have := HSZ.out; omega
        have HS3 : Hid ((bs.extract (n - l) (n - l + 32)).size = 32) := by unfold Hid; rw [yAd]; have := HSL.out; omega
        obtain⟨tc0, tc1, tc2, tc3, tf⟩ := KP.head.at4;have zt := KP.head.lt;obtain⟨pc0, pc1, pc2, pc3, pf⟩ := KP.tail.head.at4;have hl6 : ∀x ∈ ([⟨k0, 0, g0, g1, g2, 0⟩, ⟨k1, 0, 0, 0, 0, 0⟩] : List Blk), k6 ≠ x.k := by simp only [Zc, Yf, or_false]; rintro x (rfl | rfl); exact n60; exact n61
        have HFF : Hid (_ = _) := J8 (P := P) bs (n - l) HSL.out;go_wp2_with fail
        go_region_with (first | (go_at_call 53; refine(kY (some ⟨g, q, none⟩) g q 32 lc (bs.extract (n - l) (n - l + 32)) _ (XH 32) h32c HS3.out (Yd ⟨rfl, HQ.out ▸ zA (p:=(n - l)) (l:=32) (by first | (with_reducible exact Holds.below HBS.out KP.bl hg) | (with_reducible exact Holds.below HBS.out KP.drew.bl hg) | fail) HSL.out⟩)).mono ?_; rintro e w1 ⟨v, rfl, hb1, hF1⟩; obtain⟨a1, b1, c1, d1, rfl, ha1, hb1', hc1, hd1, es1⟩ := id hF1; clear es1; have HF1 : Hid (Four _ _) := hF1; clear hF1; (first | (with_reducible have KP1 := KP.call hb1) | (with_reducible have KP1 := KP.drew.call hb1) | fail); clear KP; have KP := KP1; clear KP1 hb1; obtain⟨tc0, tc1, tc2, tc3, tf⟩ := KP.head.at4; have zt := KP.head.lt; obtain⟨pc0, pc1, pc2, pc3, pf⟩ := KP.tail.head.at4) | (go_at_call 55; refine(jY HF1.out).mono ?_; rintro e w1 ⟨v, rfl, hb1, rfl⟩; (first | (with_reducible have KP1 := KP.call hb1) | (with_reducible have KP1 := KP.drew.call hb1) | fail); clear KP; have KP := KP1; clear KP1 hb1; obtain⟨tc0, tc1, tc2, tc3, tf⟩ := KP.head.at4; have zt := KP.head.lt; obtain⟨pc0, pc1, pc2, pc3, pf⟩ := KP.tail.head.at4) | (go_at_call 155; refine(zF g0 g1 g2 _ _ _ _ P HG.h0 HG.h1 HG.h2 HG.hor HG.hP HG.hP2 HF1.out HF.out _).mono ?_; rintro e w1 ⟨v, rfl, hb1, hF3⟩; obtain⟨a', b', c', d', rfl, ha', hb', hc', hd', es3⟩ := id hF3; clear es3; have HF3 : Hid (Four _ _) := hF3; clear hF3; (first | (with_reducible have KP1 := KP.call hb1) | (with_reducible have KP1 := KP.drew.call hb1) | fail); clear KP; have KP := KP1; clear KP1 hb1; obtain⟨tc0, tc1, tc2, tc3, tf⟩ := KP.head.at4; have zt := KP.head.lt; obtain⟨pc0, pc1, pc2, pc3, pf⟩ := KP.tail.head.at4))
        all_goals (rw [HFF.out]at HF3)
        all_goals (by_cases i4 : lc = 32)
        all_goals (try go_wp2)
        all_goals
          (go_roundg (l - 32)
           case measure => omega
           case rel =>
            first
              | refine⟨l - 32, q + 32, lc - 32, a', b', c', d', rfl, oM, rfl, ⟨by have := HQ3.out; omega, λ_ => by have := HQ.out; omega, by have := HQ3.out; omega⟩, ?_, ?_⟩
              | refine⟨l - 32, q, lc - 32, a', b', c', d', rfl, oM, by first | rfl | (rw [i4]), ⟨by have := HQ3.out; omega, λh => oM, by have := HQ3.out; omega⟩, ?_, ?_⟩
              | fail
            · first | (with_reducible exact KP.put M6 hl6 a' b' c' d') | (with_reducible exact(KP.put M6 hl6 a' b' c' d').drew) | fail
            · rw [show n - (l - 32) = n - l + 32 by omega]; exact HF3)
def sPl(N a b:Nat):Nat:=(a+b)%N
def NU(O:Ord N){a b:Nat}(c:a<N)(k:b<N):Gives 50 #[gv1,nv a,nv b] (nv (sPl N a b)):=λw =>
 (DU O.gap (O.four c) (O.four k) c k).mono (by rintro e w' ⟨v,rfl,k,d⟩;exact⟨_,rfl,k,d.nv⟩)
def mP(O:Ord N)(a b:Nat)(e:a<N)(c:b<N):Gives 25 #[(nv a),(nv b)] (nv (sPl N a b)):=by
 intro w;go_enter func25,ntmps25;refine RG.M.enter [(0,.v (nv a)),(1,.v (nv b))] 12 kR ?_;intro a0 f;repeat apply XL
 refine f.T [.m 0,.m 1,.m 2] [(0,wn a),(1,wn b),(2,RG.z 4)] [] [wn a,wn b,RG.z 4] [2,3,4] ⟨mk 0 44,mk 1 44,mk 2 44,yE5⟩ ?_;intro m g l i n d;repeat apply XL
 refine d.D [.c gv1,.s (.p 0 0),.x (nv a),.s (.p 1 0),.x (nv b),.c (nv (sPl N a b)),.x (nv (sPl N a b)),.u 2] [] [(2,7,wn (sPl N a b))] [wn a,wn b,wn (sPl N a b)] [4] ⟨cl fV,st,ld u38 i38,st,ld u38 i38,cl (NU O e c),st,RG.pt i40,yE5⟩ ?_;intro a2 j k;refine Zj<|XR (v:=(nv (sPl N a b))) (aH k.st rfl rfl (k.at (s:=(.p 2 0))) u40 i40) k.sl.defers ?_
 exact⟨_,rfl,k.st.bel.below,rfl⟩
def mQ(N:Nat)(k:Bs):Nat:=beV k.toList%N
def TD(v:XG)(n:Nat):List It:=[.c 3 [] gv1,.x 4 [] v,.c 5 [(3,0),(4,1)] (nv n),.x 6 [(5,2)] (nv n),.u [(6,3)] 0]
def AK(O:Ord N)(g:Nat)(k:Bs)(j:k.size=64)(w:XF)(f:g<w.heap.size)(i:hZ w g 0 k):cZ 180 #[sZ g 64 64] w (rZ w λe w'=>e=nv (mQ N k)):=by
 have m:∀w',BelX w.heap.size [] w w'->cZ 204 #[gv1,sZ g 64 64] w' (Ret λe b=>kZ w' b/\e=nv (mQ N k)):=λw' d =>
  (DV _ _ _ N g 0 64 64 k O.gap w' j (XH _) (XI f d.below.size) (Holds.below i d.below f)).mono (by rintro e b ⟨v,rfl,d,c⟩;exact⟨_,rfl,d,c.nv⟩)
 go_enter func180,ntmps180;refine RG.M.enter [(0,.v (sZ g 64 64))] 7 kR ?_;intro a0 n;repeat apply XL
 refine n.T [.m 0] [(0,RG.z 4)] [] [RG.z 4] [0,2] ⟨mk 0 44,yE5⟩ ?_;intro p o q l;repeat apply XL
 refine l.t (TD (sZ g 64 64) (mQ N k)) [] [(0,4,wn (mQ N k))] [wn (mQ N k)] [(2,.p 0 0)] ⟨cl fV,st,clB (λ_ _=>kR) m,st,RG.pt i40,yE5⟩ ?_;intro a2 r c;refine Zj<|XR (v:=(nv (mQ N k))) (aH c.st rfl rfl (c.at (s:=(.p 0 0))) u40 i40) c.sl.defers ?_
 exact⟨_,rfl,c.st.bel.below,rfl⟩
def pJ{k:Bs}(O:Ord N):mQ N k<N:=Zi _ O.pos
def chL(N:Nat)(k:List UInt8)(b:List (List UInt8)):Nat:=mQ N (lF (iY k b).toList 64)
def row_new(w:XF)(c:List XG)(T:Yj):Row (w.alloc (.cells c.toArray T)) w.heap.size c:=
 have h:=Made.alloc w c T
 ⟨h.lt,h.range,h.there⟩
def aI{n:Nat}:(wn n).toArray.all (·.oneCell')=true:=kR
def Cy(O:Ord N)(g:Nat)(T:Bs)(w:XF)(u:T.size=32)(o:hZ w g 0 T):
 cZ 122 #[sZ g 32 32] w (rZ w λe w'=>e=nv (mQ N (lF T.toList 64))):=by
 obtain⟨S,s⟩:=yH (lF T.toList 64);have x:S.size=64:=s.out▸AD;rw[s.out];obtain⟨c,b⟩:=yH (w.alloc (.cells #[uZ 0,uZ 0,uZ 0,uZ 0] 44));have j:Hid (Row c w.heap.size [uZ 0,uZ 0,uZ 0,uZ 0]/\kZ w c/\hZ c g 0 T):=by rw[<-b.out];exact⟨row_new w _ _,aC _,Holds.below o (aC _) (Holds.lt o oM)⟩
 clear o;go_enter func122,ntmps122;go_wp2_with fail
 rw[b.out];clear b;apply(Al (some (aZ g)) g 0 32 32 64 T c dC u (XH _) dC (Yd ⟨rfl,j.2.2⟩)).mono;rintro e n ⟨z,rfl,B,t,r⟩;rw[s.out]at r;have d:Hid (Row n w.heap.size [uZ 0,uZ 0,uZ 0,uZ 0]/\kZ w n/\hZ n z 0 S):=⟨j.1.below t,j.2.1.trans (t.mono j.2.1.size),r⟩
 clear B t r j;go_wp2_with fail
 apply(AK O z S x n (Holds.lt d.2.2 oM) d.2.2).mono;rintro e q ⟨v,rfl,k,rfl⟩;have p:Hid (Row q w.heap.size [uZ 0,uZ 0,uZ 0,uZ 0]/\kZ w q):=⟨d.1.below k,d.2.1.trans (k.mono d.2.1.size)⟩
 clear k d;obtain⟨m,y⟩:=yH (mQ N S);rw[y.out];obtain⟨l,i⟩:=yH (q.setCells w.heap.size 0 (wn m));have a:Hid (Row l w.heap.size (wn m)/\kZ w l):=by rw[<-i.out];exact⟨p.1.put rfl,RG.below_setCells (XH _) _ _ _ p.2⟩
 obtain⟨A,f⟩:=yH (nv m);rw[f.out];go_wp2_with (refine Yi rfl 44 _ _ rfl w.heap.size 0 (wn m).toArray ?_ ?_ ?_ ?_ ?_ ?_;rfl;exact f.symm;exact p.1.2.2;exact i40;exact aI;rw[show(wn m).toArray.toList=wn m from rfl,i.out])
 refine XR (aF 2 rfl a.1 rfl u40 i40) rfl ?_;exact⟨_,rfl,a.2,by rw[y.out];rfl⟩
def Dw(O:Ord N)(k:ByteArray)(s:Option Y4)(n cap:Nat)(i:List (List UInt8))(w:XF)(j:k.size<=1048576)(H:i.length=n)(o:n<=1048576)(C:PartsOk w s i):
 cZ 74 #[.string k,.slice s n cap] w (rZ w λe w'=>e=nv (chL N k.data.toList i)):=by
 obtain⟨T,x⟩:=yH (iY k.data.toList i);have A:T.size=32:=x.out▸bV;have E:chL N k.data.toList i=mQ N (lF T.toList 64):=by unfold chL;rw[x.out]
 rw[E];clear E;obtain⟨c,g⟩:=yH (w.alloc (.cells #[uZ 0,uZ 0,uZ 0,uZ 0] 44));have b:Hid (Row c w.heap.size [uZ 0,uZ 0,uZ 0,uZ 0]/\kZ w c):=by rw[<-g.out];exact⟨row_new w _ _,aC _⟩
 have d:Hid (cZ 46 #[.string k,.slice s n cap] c λe w'=>∃r,e=.returned (sZ r 32 32)/\c.heap.size<=r/\kZ c w'/\hZ w' r 0 T):=by
  subst H;rw[<-x.out];exact kU k s cap i c j o (C.below b.2)
 clear C H o;go_enter func74,ntmps74;go_wp2_with fail
 rw[g.out];clear g;refine d.mono ?_;rintro e u ⟨G,rfl,J,a,F⟩;have q:Hid (Row u w.heap.size [uZ 0,uZ 0,uZ 0,uZ 0]/\kZ w u/\hZ u G 0 T):=⟨b.1.below a,b.2.trans (a.mono b.2.size),F⟩
 clear J a F d b;go_wp2_with fail
 apply(Cy O G T u A q.2.2).mono;rintro e z ⟨v,rfl,f,rfl⟩;have y:Hid (Row z w.heap.size [uZ 0,uZ 0,uZ 0,uZ 0]/\kZ w z):=⟨q.1.below f,q.2.1.trans (f.mono q.2.1.size)⟩
 clear f q;obtain⟨m,B⟩:=yH (mQ N (lF T.toList 64));rw[B.out];obtain⟨t,p⟩:=yH (z.setCells w.heap.size 0 (wn m));have D:Hid (Row t w.heap.size (wn m)/\kZ w t):=by rw[<-p.out];exact⟨y.1.put rfl,RG.below_setCells (XH _) _ _ _ y.2⟩
 obtain⟨I,l⟩:=yH (nv m);rw[l.out];go_wp2_with (refine Yi rfl 44 _ _ rfl w.heap.size 0 (wn m).toArray ?_ ?_ ?_ ?_ ?_ ?_;rfl;exact l.symm;exact y.1.2.2;exact i40;exact aI;rw[show(wn m).toArray.toList=wn m from rfl,p.out])
 refine XR (aF 4 rfl D.1 rfl u40 i40) rfl ?_;exact⟨_,rfl,D.2,by rw[B.out];rfl⟩
end
section
section
variable {P:YO}{ops:Array Yw}{rest:List Yw}{op:Yw}{a:Act}{w w':XF}{v:XG}{Q:yAN->Act->XF->Prop}
def bF(k:op.guard=none)(X:Op)(_:op.op=X)(b:(Ym a.eval op).run P w=.ok (.value v) w')(h:wpList P ops Q rest (a.put op.dst v) w'):wpList P ops Q (op :: rest) a w:=
 ZT k λK c=>by
  unfold Y8;rw[b];exact c _ _ h
end
variable {N:Nat}
def Row.only{W W':XF}{k b o n:Nat}{vs:List XG}(h:Row W k vs)(f:SP.Only b o n W W')(d:k≠b):Row W' k vs:=by
 refine⟨XI h.1 f.size,λj v e=>?_,λj e=>?_⟩
 .rw[(f.other (c:=k) (o:=0+j) d h.1).1];exact h.2.1 j v e
 .have g:=h.2.2 j e;have i:=f.other (c:=k) (o:=0+j) d h.1;exact⟨by rw[i.1];exact g.1,by rw[i.2];exact g.2⟩
def dY{w W:XF}{q y o n k:Nat}{vs:List XG}(h:SP.Only y o n w W)(e:y<w.heap.size)(g:w.heap.size<=k):SP.Only y o n w (W.setCells k q vs):=
 have b:=RG.below_setCells g _ _ _ (XX _ _)
 ⟨b.os.trans h.os,b.tape.trans h.tape,b.output.trans h.output,XN h.size b.size,λj d c=>(b.block j d).trans (h.block j d c),λp f=>(Yb (a:=⟨y,p,none⟩) (b.block y e)).trans (h.cell p f),λp=>(Y6 (a:=⟨y,p,none⟩) (b.block y e)).trans (h.froz p)⟩
def Hid.mk'{p:Prop}(h:p):Hid p:=h
def u124:yZ 157:=yQ
def i124:gZ 157 1:=gQ
def Il(k:ByteArray)(w:XF)(l:k.size<=1048576):cZ 185 #[.string k] w (rZ w λe w'=>∃r,e=.agg #[jZ r]/\w.heap.size<=r/\r<w'.heap.size/\hZ w' r 0 (newL k.data.toList)):=by
 obtain⟨L,t⟩:=hE (newL k.data.toList);have u:L.size=32:=t.out▸AX;rw[t.out];obtain⟨d,g⟩:=yH (w.alloc (.cells #[.pointer none] 157));have o:Hid (Row d w.heap.size [.pointer none]/\kZ w d):=by rw[<-g.out];exact⟨row_new w _ _,aC _⟩
 go_enter func185,ntmps185;go_wp2_with fail
 rw[g.out];clear g;apply(FM k d l).mono;rintro e f ⟨rfl,c,b⟩;rw[t.out]at b;have m:d.heap.size<f.heap.size:=Holds.lt b oM;obtain⟨r,s⟩:=yH d.heap.size;rw[s.out]at b m⊢;have x:w.heap.size<r:=s.out▸o.1.1;have q:Hid (Row f w.heap.size [.pointer none]/\kZ w f/\hZ f r 0 L):=⟨o.1.below c,o.2.trans (c.mono o.2.size),b⟩
 clear c b o s;obtain⟨i,n⟩:=yH (f.setCells w.heap.size 0 [jZ r]);have p:Hid (Row i w.heap.size [jZ r]/\kZ w i/\hZ i r 0 L/\r<i.heap.size):=by
  rw[<-n.out];refine⟨q.1.put rfl,RG.below_setCells (XH _) _ _ _ q.2.1,λj y=>?_,by rw[setCells_size];exact m⟩;have h:=q.2.2 j y;have e:=aE (k:=w.heap.size) [jZ r] 0 f r oM;rw[Yb (a:=⟨r,0+j,none⟩) e,Y6 (a:=⟨r,0+j,none⟩) e];exact h
 go_wp2_with (refine bF (v:=.agg #[jZ r]) (w':=f) rfl (.build 157 _) rfl ?_ ?_;kernel_rfl;refine Hid ?_)
 show wpList _ _ _ _ _ _;refine Yi rfl 157 _ _ rfl w.heap.size 0 #[jZ r] ?_ ?_ ?_ ?_ ?_ ?_
 .kernel_rfl
 .kernel_rfl
 .exact q.1.2.2
 .exact i124
 .kernel_rfl
 rw[show(#[jZ r]).toList=[jZ r] from rfl,n.out];go_wp2;refine XR (aF 2 rfl p.1 rfl u124 i124) rfl ?_;exact⟨_,rfl,p.2.1,r,rfl,oM,p.2.2.2,p.2.2.1⟩
def cha(N:Nat)(L:Bs):Nat:=mQ N (DK L [99,104,97,108,108,101,110,103,101] 64)
end
namespace SP
attribute [local go_sem] dB dX eD qM
end SP
namespace SP
attribute [local go_sem] dB dX eD qM
end SP
namespace SP
attribute [local go_sem] dB dX eD rF qM
end SP
namespace SP
attribute [local go_sem] dB dX eD rF qM FN P7
end SP
namespace SP
attribute [local go_sem] A9
end SP
section
variable {P:Nat}[NeZero P]{N:Nat}
def n12(P:Nat)[NeZero P]:List XG:=ws (0:Fin P)++(ws (1:Fin P)++ws (0:Fin P))
def WT(w:XF):(yAq 23 (iZ 32) (iZ 32)).run prog w=.ok (sZ w.heap.size 32 32) (w.alloc (.cells (madeCells #[.int .u8 0] 32) 5)):=
 run_make_row' (P:=prog) 23 5 (.int .u8 0) 1 Jt ET rfl .i64 .i64 32 dC dC w
def PN:prog.underlying 51=some (.array 33 5):=kR
def dF{b:Bs}(h:b.size=33):aA b=[.int .u8 (ub b[0]!),.int .u8 (ub b[1]!),.int .u8 (ub b[2]!),.int .u8 (ub b[3]!),.int .u8 (ub b[4]!),.int .u8 (ub b[5]!),.int .u8 (ub b[6]!),.int .u8 (ub b[7]!),.int .u8 (ub b[8]!),.int .u8 (ub b[9]!),.int .u8 (ub b[10]!),.int .u8 (ub b[11]!),.int .u8 (ub b[12]!),.int .u8 (ub b[13]!),.int .u8 (ub b[14]!),.int .u8 (ub b[15]!),.int .u8 (ub b[16]!),.int .u8 (ub b[17]!),.int .u8 (ub b[18]!),.int .u8 (ub b[19]!),.int .u8 (ub b[20]!),.int .u8 (ub b[21]!),.int .u8 (ub b[22]!),.int .u8 (ub b[23]!),.int .u8 (ub b[24]!),.int .u8 (ub b[25]!),.int .u8 (ub b[26]!),.int .u8 (ub b[27]!),.int .u8 (ub b[28]!),.int .u8 (ub b[29]!),.int .u8 (ub b[30]!),.int .u8 (ub b[31]!),.int .u8 (ub b[32]!)]:=by
 apply yBK;intro i;by_cases k:i<33
 .rw[tC (k:=b) (i:=i) oM];match i,k with
  | 0,_=>rfl
  | 1,_=>rfl
  | 2,_=>rfl
  | 3,_=>rfl
  | 4,_=>rfl
  | 5,_=>rfl
  | 6,_=>rfl
  | 7,_=>rfl
  | 8,_=>rfl
  | 9,_=>rfl
  | 10,_=>rfl
  | 11,_=>rfl
  | 12,_=>rfl
  | 13,_=>rfl
  | 14,_=>rfl
  | 15,_=>rfl
  | 16,_=>rfl
  | 17,_=>rfl
  | 18,_=>rfl
  | 19,_=>rfl
  | 20,_=>rfl
  | 21,_=>rfl
  | 22,_=>rfl
  | 23,_=>rfl
  | 24,_=>rfl
  | 25,_=>rfl
  | 26,_=>rfl
  | 27,_=>rfl
  | 28,_=>rfl
  | 29,_=>rfl
  | 30,_=>rfl
  | 31,_=>rfl
  | 32,_=>rfl
  | n+33,h=>exact absurd h oM
 .rw[ZR (by rw[aB h];omega),ZR (by show 33<=i;omega)]
def bytes_eq{a b:Bs}(d:a.size=33)(c:b.size=33):(∀i∈YB 33,ub a[i]! = ub b[i]!)↔a=b:=by
 constructor
 .intro h;apply Array.ext (by rw[d,c]);intro i e f;have k:=h i (Y9.2 oM);rw[getElem!_pos a i e,getElem!_pos b i f]at k;have g:a[i].toNat=b[i].toNat:=by unfold ub at k;omega
  exact UInt8.toNat_inj.1 g
 .rintro rfl i _;rfl
def Ve{a b:Bs}(e:a.size=33)(d:b.size=33)(w:XF):(Op.equal 51 (.agg (aA a).toArray) (.agg (aA b).toArray)).run prog w=.ok (decide (a=b)) w:=by
 have k:(prog.info? 5).isSome=true:=kR;obtain⟨f,c⟩:=YP.1 k;show(Op.equalIn 10000 51 _ _).run prog w=_;rw[run_equalIn_array w 9999 _ _ PN c,cells5,
  eqI _ _ w (YB 33) (λi k=>by
   rw[Yp];exact tC (by rw[e];exact Y9.1 k)) (λi k=>by
   rw[Yp];exact tC (by rw[d];exact Y9.1 k))]
 rw[decide_eq_decide.2 (bytes_eq e d)]
def Ha{b:Bs}(k:b.size=33)(e:Bool)(w:XF):(Instr.checkKey e 10000 51 (.agg (aA b).toArray)).run prog w=.ok () w:=by
 rw[dF k];kernel_rfl
def at?(b:Bs):List Bs->Nat->Option Nat
 | [],_=>none
 | k :: r,i=>if b=k then some i else at? b r (i+1)
def ents:List Bs->Nat->List MapEntry
 | [],_=>[]
 | k :: r,i=>{ key:=.agg (aA k).toArray,val:=iZ i,born:=i } :: ents r (i+1)
def Dq{b:Bs}(c:b.size=33)(w:XF):∀(D:List Bs) (i:Nat),(∀k∈D,k.size=33)->(yDL 51 (.agg (aA b).toArray) (ents D i) i).run prog w=.ok ((at? b D i).map λj=>(j,iZ j)) w
 | [],i,_=>rfl
 | k :: r,i,h=>by
  have e:=Dq c w r (i+1) (λx hx=>h x (Yx _ hx));have f:=Ve c (h k YL) w;unfold ents yDL at?;simp only[X6,f,YE];by_cases d:b=k
  .simp only[d,decide_true,if_true,Zu,Option.map_some]
  .simp only[d,decide_false,Bool.false_eq_true,if_false,e]
def GL{D:List Bs}{b:Bs}(c:b.size=33)(h:∀k∈D,k.size=33)(w:XF):(yEi 51 (.agg (aA b).toArray) (ents D 0)).run prog w=.ok ((at? b D 0).map λj=>(j,iZ j)) w:=by
 have e:=yA8 PN w;unfold yEi;rw[X6,e,YE];cases D with
 | nil=>rfl
 | cons k r =>
  have d:Instr.findNow (.array 33 5) (.agg (aA b).toArray) (ents (k :: r) 0) 0=none:=rfl;simp only[d];exact Dq c w (k :: r) 0 h
def at?_none{b:Bs}:∀ {D:List Bs}{i:Nat},at? b D i=none↔b ∉ D
 | [],i=>by simp[at?]
 | k :: r,i=>by
  unfold at?;by_cases h:b=k
  .simp[h]
  .simp[h,at?_none (D:=r) (i:=i+1)]
end
section
section
variable {P:YO}{ops:Array Yw}{rest:List Yw}{op:Yw}{a:Act}{w w':XF}{v u:XG}{Q:yAN->Act->XF->Prop}
def aG(k:op.guard=none)(T:Yj)(x:yAp)(ho:op.op=.box T x)(hx:a.eval x=u)(c:(Yu T u).run P w=.ok v w')(h:wpList P ops Q rest (a.put op.dst v) w'):wpList P ops Q (op :: rest) a w:=
 ZT k λK b=>by
  unfold Y8 Ym;simp only[ho,hx,X6,c,YE,Zu];exact b _ _ h
end
variable {N:Nat}
def dA:gZ 51 33:=gQ
def uCP:yZ 51:=yQ
def tB{a:Bs}(k:a.size=33)(w:XF):(Yu 51 (.agg (aA a).toArray)).run prog w=.ok (jZ w.heap.size) (w.alloc (.cells (aA a).toArray 51)):=by
 rw[dF k];kernel_rfl
def Ud(k:Nat)(w:XF):(ZH 51 (jZ k) none none none).run prog w=.ok (sZ k 33 33) w:=kR
theorem row_holds{W:XF}{k:Nat}{a:Bs}(h:Row W k (aA a)):hZ W k 0 a:=cb_holds h.2.1 h.2.2
def yD{W:XF}{k:Nat}{a:Bs}(b:a.size=33)(h:Row W k (aA a)):PartOk W (sZ k 33 33) a.toList:=
 ⟨_,k,0,33,a,by rw[b],rfl,oM,oM,Yd ⟨rfl,row_holds h⟩⟩
def Q9{W:XF}{r:Nat}{L:Bs}(h:hZ W r 0 L):Holds SP.encB W r 0 L:=h
def Q6{W:XF}{r:Nat}{L:Bs}(h:Holds SP.encB W r 0 L):hZ W r 0 L:=h
end
section
variable {P:Nat}[NeZero P]{N:Nat}
def Hw(g k:Nat)(w:XF):(yEj 51 (sZ g 33 k)).run prog w=.ok (jZ g) w:=kR
def qV{W:XF}{k:Nat}{a:Bs}(b:hZ W k 0 a)(c:k<W.heap.size):Row W k (aA a):=⟨c,(sU b).1,(sU b).2⟩
def bQ{a:Bs}:(aA a).toArray.all (·.oneCell')=true:=by
 rw[ZJ];intro v hv;obtain⟨x,-,rfl⟩:=YD.1 (yAu.1 hv);rfl
def pvl(a:Bs):XG:=.agg (aA a).toArray
def Qk(C:Fld P):Gives 77 #[] (pvl (wr (gG P))):=by
 intro w;obtain⟨T,s⟩:=yH (wr (gG P));have u:T.size=33:=s.out▸aL _;rw[s.out];obtain⟨f,c⟩:=yH (w.alloc (.cells z33.toArray 51));have p:Hid (Row f w.heap.size z33/\kZ w f):=by rw[<-c.out];exact⟨row_new w _ _,aC _⟩
 obtain⟨d,i,m⟩:=XK.1 uCP;have y:Hid (prog.underlying 51=some d/\d.isRow=true):=⟨i,m⟩
 clear i m;go_enter func77,ntmps77;go_wp2_with (refine bF (v:=jZ w.heap.size) (w':=f) rfl (.alloc 51) rfl ?_ ?_;(rw[<-c.out];kernel_rfl))
 apply(TE C f).mono;rintro e n ⟨E,rfl,b,g,D,rfl,-,B,z,t⟩;rw[s.out]at t;have q:Hid (Row n w.heap.size z33/\kZ w n/\Row n g (aA T)):=⟨p.1.below b,p.2.trans (b.mono p.2.size),qV t z⟩
 clear b B z t p c;have x:=Hw g D;obtain⟨r,j⟩:=yH (n.setCells w.heap.size 0 (aA T));have k:(aA T).length=33:=aB u;have a:Hid (Row r w.heap.size (aA T)/\kZ w r):=by rw[<-j.out];exact⟨q.1.put (by rw[k];rfl),RG.below_setCells (XH _) _ _ _ q.2.1⟩
 obtain⟨A,l⟩:=yH (Yg (aA T).toArray);have o:Hid (gZ 51 (aA T).length/\n.there w.heap.size 0 (aA T).toArray.size/\gZ 51 (aA T).toArray.size):=by
  have e:(aA T).toArray.size=33:=by rw[YJ];exact k
  refine⟨by rw[k];exact dA,by rw[e];exact q.1.2.2,by rw[e];exact dA⟩
 clear k;go_wp2_with (first|(refine YG rfl 51 _ rfl g 0 ?_ (aA T) d ?_ ?_ ?_ ?_ ?_;rfl;exact q.2.2.2.1;exact y.1;exact y.2;exact o.1;rw[l.out])|(refine Yi rfl 51 _ _ rfl w.heap.size 0 (aA T).toArray ?_ ?_ ?_ ?_ ?_ ?_;rfl;exact l.symm;exact o.2.1;exact o.2.2;exact bQ;rw[show(aA T).toArray.toList=aA T from rfl,j.out]))
 refine XR (aF 0 rfl a.1 rfl uCP o.1) rfl ?_;exact⟨_,rfl,a.2,rfl⟩
end
section
section
variable {P:YO}{ops:Array Yw}{rest:List Yw}{op:Yw}{a:Act}{w w':XF}{v:XG}{Q:yAN->Act->XF->Prop}
def mH(b:op.guard=none)(T:Yj)(k:Array (Nat × yAp))(ho:op.op=.build T k)(vs:Array (Nat × XG))(hx:(k.map λ(i,x)=>(i,a.eval x))=vs)(d:(yBC T vs).run P w=.ok v w')(h:wpList P ops Q rest (a.put op.dst v) w'):wpList P ops Q (op :: rest) a w:=
 ZT b λK c=>by
  unfold Y8 Ym;simp only[ho,hx,X6,d,YE,Zu];exact c _ _ h
def jM(b:op.guard=none)(T:Yj)(n:Nat)(k:Array (Nat × yAp))(ho:op.op=.buildSlice T n k)(vs:Array (Nat × XG))(hx:(k.map λ(i,x)=>(i,a.eval x))=vs)(d:(YF T n vs).run P w=.ok v w')(h:wpList P ops Q rest (a.put op.dst v) w'):wpList P ops Q (op :: rest) a w:=
 ZT b λK c=>by
  unfold Y8 Ym;simp only[ho,hx,X6,d,YE,Zu];exact c _ _ h
end
def VI{a:Bs}(k:a.size=33)(n:Nat)(w:XF):(yBC 124 #[(0,nv n),(1,pvl a)]).run prog w=.ok (.agg (wn n++aA a).toArray) w:=by
 unfold pvl;rw[dF k];kernel_rfl
def Vw{a:Bs}(k:a.size=33)(n:Nat)(w:XF):(YF 82 1 #[(0,.agg (wn n++aA a).toArray)]).run prog w=.ok (sZ w.heap.size 1 1) (w.alloc (.cells (wn n++aA a).toArray 124)):=by
 rw[dF k];kernel_rfl
def boxS{n:Nat}{w:XF}:(Yu 44 (nv n)).run prog w=.ok (jZ w.heap.size) (w.alloc (.cells (wn n).toArray 44)):=kR
def lO(a:Bs)(q:a.size=33)(n:Nat)(w:XF):cZ 32 #[pvl a,nv n] w (rZ w λe w'=>∃k,e=sZ k 1 1/\w.heap.size<=k/\Row w' k (wn n++aA a)):=by
 have G:=Hid.mk' (tB q w);obtain⟨c,j⟩:=hE (lZ w (aA a) 51);rw[j.out]at G;have A:c.heap.size=w.heap.size+1:=by rw[<-j.out,XS]
 have y:=Hid.mk' (boxS);obtain⟨b,g⟩:=hE (lZ c (wn n) 44);rw[g.out,A]at y;have F:b.heap.size=w.heap.size+2:=by rw[<-g.out,XS,A]
 have E:=Hid.mk' (VI q n b);have C:=Hid.mk' (Vw q n b);obtain⟨o,l⟩:=hE (lZ b (wn n++aA a) 124);rw[l.out,F]at C;have K:Hid (Row b w.heap.size (aA a)/\Row b (w.heap.size+1) (wn n)/\kZ w o/\Row o (w.heap.size+2) (wn n++aA a)):=by
  have r:Row c w.heap.size (aA a):=j.out▸row_new w _ _;have m:Row b (w.heap.size+1) (wn n):=by rw[<-g.out,<-A];exact row_new c _ _
  have p:Row o (w.heap.size+2) (wn n++aA a):=by rw[<-l.out,<-F];exact row_new b _ _
  have b1:kZ w c:=j.out▸aC _;have f:kZ c b:=g.out▸aC _;have i:kZ b o:=l.out▸aC _;exact⟨r.below f,m,(b1.trans (f.mono oM)).trans (i.mono oM),p⟩
 have HL:Hid (gZ 51 (aA a).length):=by show _=_;rw[aB q];exact dA
 obtain⟨d,s,B⟩:=XK.1 uCP;obtain⟨x,r,t⟩:=XK.1 u40;have p:Hid ((prog.underlying 51=some d/\d.isRow=true)/\prog.underlying 44=some x/\x.isRow=true):=⟨⟨s,B⟩,r,t⟩
 obtain⟨va,f⟩:=hE (pvl a);obtain⟨z,i⟩:=hE (nv n);obtain⟨H,m⟩:=hE (Yg (wn n++aA a).toArray);have D:Hid ((Yu 51 va).run prog w=.ok (jZ w.heap.size) c):=f.out▸G;rw[i.out]at y;rw[f.out,i.out,m.out]at E;rw[m.out]at C;rw[f.out,i.out];go_enter func32,ntmps32;go_wp2_with (first|(refine aG (u:=va) (v:=jZ w.heap.size) (w':=c) rfl 51 (.tmp 0) rfl ?_ ?_ ?_;rfl;exact D)|(refine aG (u:=z) (v:=jZ (w.heap.size+1)) (w':=b) rfl 44 (.tmp 1) rfl ?_ ?_ ?_;rfl;exact y)|(refine YG rfl 44 _ rfl (w.heap.size+1) 0 ?_ (wn n) x ?_ ?_ ?_ ?_ ?_;rfl;exact K.2.1.2.1;exact p.2.1;exact p.2.2;exact i40;rw[show Yg (wn n).toArray=z from i.out])|(refine YG rfl 51 _ rfl w.heap.size 0 ?_ (aA a) d ?_ ?_ ?_ ?_ ?_;rfl;exact K.1.2.1;exact p.1.1;exact p.1.2;exact HL;rw[show Yg (aA a).toArray=va from f.out])|(refine mH (v:=H) (w':=b) rfl 124 _ rfl #[(0,z),(1,va)] ?_ ?_ ?_;kernel_rfl;exact E)|(refine jM (v:=sZ (w.heap.size+2) 1 1) (w':=o) rfl 82 1 _ rfl #[(0,H)] ?_ ?_ ?_;kernel_rfl;exact C))
 go_ret;exact⟨_,rfl,K.2.2.1,w.heap.size+2,rfl,oM,K.2.2.2⟩
end
section
variable {P:Nat}[NeZero P]{N:Nat}
def Xt{a:Bs}(k:a.size=33)(n:Nat)(w:XF):(Yu 124 (.agg (wn n++aA a).toArray)).run prog w=.ok (jZ w.heap.size) (w.alloc (.cells (wn n++aA a).toArray 124)):=by
 rw[dF k];kernel_rfl
def Xu{w:XF}:(yBC 44 #[]).run prog w=.ok (nv 0) w:=kR
def tvl(n:Nat)(a:Bs):XG:=.agg (wn n++aA a).toArray
def kL{W:XF}{k:Nat}{xs ys:List XG}(h:W.rangeAt k 0 (xs++ys)):W.rangeAt k 0 xs:=λj v b=>h j v (by rw[X1 (XT.1 b).1];exact b)
def mR{W:XF}{k:Nat}{xs ys:List XG}(h:W.rangeAt k 0 (xs++ys)):W.rangeAt k xs.length ys:=λj v b=>by
 have:=h (xs.length+j) v (by rw[X4 (yBU _ _),Nat.add_sub_cancel_left];exact b);rwa[XQ]at this
def KO{n:Nat}(x:n<top){a:Bs}(t:a.size=33):Gives 110 #[tvl n a] (.bool (decide (n=0))):=by
 intro w;have l:=Hid.mk' (Xt t n w);obtain⟨k,e⟩:=hE (lZ w (wn n++aA a) 124);rw[e.out]at l;have K:Hid (Row k w.heap.size (wn n++aA a)/\kZ w k):=by rw[<-e.out];exact⟨row_new w _ _,aC _⟩
 obtain⟨q,g,i⟩:=XK.1 u40;have o:=mk2 g i;obtain⟨va,d⟩:=hE (tvl n a);obtain⟨p,c⟩:=hE (nv n);obtain⟨v0,b⟩:=hE (nv 0);have j:Hid ((Yu 124 va).run prog w=.ok (jZ w.heap.size) k):=d.out▸l;have r:Hid ((yBC 44 #[]).run prog k=.ok v0 k):=b.out▸Xu;have f:=Hid.mk' (eqS x (show 0<top by unfold top;omega));rw[c.out,b.out]at f;have s:=f;obtain⟨z,m⟩:=hE (decide (n=0));rw[m.out]at s;have y:(eqGuard .eql 44 (.tmp 4) (.tmp 5) p v0).run prog k=.ok () k:=by rw[<-c.out,<-b.out];kernel_rfl
 rw[d.out,m.out];clear l f;go_enter func110,ntmps110;go_wp2_with (first|(refine aG (u:=va) (v:=jZ w.heap.size) (w':=k) rfl 124 (.tmp 0) rfl ?_ ?_ ?_;rfl;exact j)|(refine YG rfl 44 _ rfl w.heap.size 0 ?_ (wn n) q ?_ ?_ ?_ ?_ ?_;rfl;exact kL K.1.2.1;exact o.1;exact o.2;exact i40;rw[show Yg (wn n).toArray=p from c.out])|(refine mH (v:=v0) (w':=k) rfl 44 _ rfl #[] ?_ ?_ ?_;kernel_rfl;exact r))
 go_wp2;go_ret;exact⟨_,rfl,K.2,rfl⟩
def uT:yZ 124:=yQ
def iT:gZ 124 37:=gQ
def atT{n i:Nat}(k o c:Nat)(b:i<n)(w:XF):(YV 82 (qZ k o n c) (iZ i)).run prog w=.ok (oZ k (o+37*i)) w:=by
 go_simp
def lC(ns:Nat->Nat):Nat->Nat->Int
 | _,0=>-1
 | i,m+1=>if ns i=0 then(i:Int) else lC ns (i+1) m
def QG(b:Bool):List It:=[.x 9 [] (.bool b)]
def QF(g k c i n:Nat)(a:Bs)(z:Bool):List It:=[.x 11 [] (.func (.func 110) #[] #[]),.x 12 [] (sZ g k c),.x 13 [] (iZ i),.x 14 [(12,1),(13,2)] (oZ g (0+37*i)),.x 15 [(14,3)] (tvl n a),.c 16 [(11,0),(15,4)] (.bool z)]
def GM(g k c:Nat)(X:k<=1000000)(ns:Nat->Nat)(E:Nat->Bs)(T:∀j,j<k->ns j<top)(S:∀j,j<k->(E j).size=33)(w:XF)(N:g<w.heap.size)(O:∀j,j<k->w.rangeAt g (37*j) (wn (ns j)++aA (E j))):
 cZ 165 #[sZ g k c,.func (.func 110) #[] #[]] w (rZ w λe w'=>e=iZ (lC ns 0 k)):=by
 obtain⟨R,hR⟩:=vH (lC ns 0 k);rw[hR];go_enter func165,ntmps165;refine RG.M.enter [(0,.v (sZ g k c)),(1,.v (.func (.func 110) #[] #[]))] 19 kR ?_;intro a0 V;repeat apply XL
 refine V.U [.x (iZ 0)] [0,1] ⟨st,yE5⟩ ?_;intro W Z Q;repeat apply XL
 refine Q.U [.x (sZ g k c),.x (iZ k),.x (iZ 0)] [0,1,7,8] ⟨st,st,st,yE5⟩ ?_;intro a2 w2 P;repeat apply XL
 refine wp_block<|wp_loop_ghost (λm a wr=>∃i:Nat,i+m=k/\lC ns i m=R/\RG.M w w.heap.size [] 19 [] [] [(0,.v (sZ g k c)),(1,.v (.func (.func 110) #[] #[])),(7,.v (iZ k)),(8,.v (iZ i))] a wr) k ⟨0,oM,hR,P⟩ ?_
 intro C a wr;rintro⟨i,U,hf,y⟩;by_cases s:i<k
 .obtain⟨n,u⟩:=vH (ns i);obtain⟨b,J⟩:=vH (E i);have x:=T i s;have t:=S i s;have r:=O i s;rw[u]at x r;rw[J]at t r;have q:w.rangeAt g (0+37*i) (wn n++aA b):=by rw[XQ];exact r
  have p:gZ 124 (wn n++aA b).length:=by rw[XP,aB t];exact iT
  have z:=KO x t;obtain⟨M,rfl⟩:∃M,C=M+1:=⟨C-1,oM⟩
  unfold lC at hf;rw[u]at hf;repeat apply XL
  refine y.u (QG true) [(0,.v (sZ g k c)),(1,.v (.func (.func 110) #[] #[])),(7,.v (iZ k)),(8,.v (iZ i)),(9,.v tZ)] ⟨aO rfl .lss 3 rfl rfl sx sx (λw=>kR) (iD s),yE5⟩ ?_;intro H I f;repeat apply XL
  refine YH f.ev ?_;refine wp_skip<|XL<|wp_block ?_
  repeat apply XL
  refine f.U [.x (iZ i),.x (iZ i)] [0,1,7,8,5] ⟨st,st,yE5⟩ ?_;intro G K d;repeat apply XL
  by_cases A:n=0
  .rw[decide_eq_true A]at z;rw[yE3 A]at hf;refine d.u (QF g k c i n b true) [(0,.v (sZ g k c)),(1,.v (.func (.func 110) #[] #[])),(7,.v (iZ k)),(8,.v (iZ i)),(5,.v (iZ i)),(16,.v tZ)] ⟨st,st,st,aY rfl 82 rfl (.v (sZ g k c)) sx sx (λμ w=>atT _ 0 _ s w),eK rfl N Yf rfl rfl sx q uT p,clB (λ_ _=>kR) (λw' _=>z w'),yE5⟩ ?_;intro L F l;repeat apply XL
   refine YH l.ev ?_;repeat apply XL
   refine l.U [.x (iZ i),.x (iZ i)] [4] ⟨st,st,yE5⟩ ?_;intro B D o;refine Zj<|XR (v:=iZ i) (jJ rfl o.av) o.sl.defers ?_
   exact⟨_,rfl,o.st.bel.below,by rw[hf]⟩
  .rw[decide_eq_false A]at z;rw[yE4 A]at hf;refine d.u (QF g k c i n b false) [(0,.v (sZ g k c)),(1,.v (.func (.func 110) #[] #[])),(7,.v (iZ k)),(8,.v (iZ i)),(16,.v fZ)] ⟨st,st,st,aY rfl 82 rfl (.v (sZ g k c)) sx sx (λμ w=>atT _ 0 _ s w),eK rfl N Yf rfl rfl sx q uT p,clB (λ_ _=>kR) (λw' _=>z w'),yE5⟩ ?_;intro L F l;repeat apply XL
   refine Yh l.ev ?_;apply wp_skip;repeat apply XL
   refine l.U [.x (iZ ((i+1:Nat):Int)),.x (iZ ((i+1:Nat):Int))] [0,1,7,8] ⟨aN rfl .add 3 rfl rfl sx (λw=>kR) (wM oM oM),st,yE5⟩ ?_;intro B D o;show ∃Y,_;exact⟨M,oM,i+1,oM,hf,o⟩
 .have l:C=0:=oM;rw[l]at hf;unfold lC at hf;repeat apply XL
  refine y.u (QG false) [(9,.v fZ)] ⟨aO rfl .lss 3 rfl rfl sx sx (λw=>kR) (oJ s),yE5⟩ ?_;intro H I f;repeat apply XL
  refine Yh f.ev ?_;apply wp_exit;dsimp only[Exit.then,Exit.inBlock];rw[yE3 rfl];repeat apply XL
  refine f.U [.x (iZ (-1))] [4] ⟨st,yE5⟩ ?_;intro G K d;refine Zj<|XR (v:=iZ (-1)) (jJ rfl d.av) d.sl.defers ?_
  exact⟨_,rfl,d.st.bel.below,by rw[<-hf]⟩
def vT{ns:Nat->Nat}:∀(m i:Nat),(∀j,i<=j->j<i+m->ns j≠0)->lC ns i m = -1
 | 0,_,_=>rfl
 | m+1,i,h=>by
  unfold lC;rw[yE4 (h i (XH _) oM)];exact vT m (i+1) (λj k b=>h j oM oM)
def Ds(g k c:Nat)(o:k<=1000000)(ns:Nat->Nat)(d:Nat->Bs)(t:∀j,j<k->ns j<top)(f:∀j,j<k->ns j≠0)(s:∀j,j<k->(d j).size=33)(w:XF)(l:g<w.heap.size)(p:∀j,j<k->w.rangeAt g (37*j) (wn (ns j)++aA (d j))):
 cZ 109 #[sZ g k c,.func (.func 110) #[] #[]] w (rZ w λe w'=>e=(sZ g k c)):=by
 have u:∀w',BelX w.heap.size [] w w'->cZ 165 #[sZ g k c,.func (.func 110) #[] #[]] w' (Ret λe i=>kZ w' i/\e=iZ (-1)):=λw' n=>by
  have h:=GM g k c o ns d t s w' (XI l n.below.size) (λj b=>RG.range_below (p j b) n.below l);rw[vT k 0 (λj _ m=>f j oM)]at h;exact h
 go_enter func109,ntmps109;refine RG.M.enter [(0,.v (sZ g k c)),(1,.v (.func (.func 110) #[] #[]))] 42 kR ?_;intro a0 x;repeat apply XL
 refine x.U [.x nZ] [0,1] ⟨st,yE5⟩ ?_;intro y a r;repeat apply XL
 refine r.U [.x (sZ g k c),.x (.func (.func 110) #[] #[]),.c (iZ (-1)),.x (iZ (-1))] [0,5] ⟨st,st,clB (λ_ _=>kR) u,st,yE5⟩ ?_;intro a2 C q;repeat apply XL
 refine q.U [.x (iZ (-1)),.x tZ] [0,12] ⟨st,st,yE5⟩ ?_;intro B D m;repeat apply XL
 refine YH m.ev ?_;repeat apply XL
 refine m.U [.x (sZ g k c),.x (sZ g k c)] [4] ⟨st,st,yE5⟩ ?_;intro A z b;refine Zj<|XR (v:=(sZ g k c)) (jJ rfl b.av) b.sl.defers ?_
 exact⟨_,rfl,b.st.bel.below,rfl⟩
def TP:prog.underlying 202=some (.map 51 3):=kR
def zero3(w:XF):(zeroValue 3).run prog w=.ok (iZ 0) w:=kR
def A5(b:Bs):∀(D:List Bs) (i:Nat),ents (D++[b]) i=ents D i++[{ key:=.agg (aA b).toArray,val:=iZ ((i+D.length:Nat):Int),born:=i+D.length }]
 | [],i=>rfl
 | k :: r,i=>by
  rw[ZS];unfold ents;rw[A5 b r (i+1),YA,show i+1+r.length=i+(r.length+1) by omega];rfl
def Db{D:List Bs}{m c:Nat}{w:XF}{b:Bs}(d:b.size=33)(f:∀k∈D,k.size=33)(i:w.heap[m]? = some (.map (ents D 0).toArray c)):
 (yC5 202 (.map (some m)) (.agg (aA b).toArray) true).run prog w=.ok (.tuple #[iZ (((at? b D 0).getD 0:Nat):Int),.bool (at? b D 0).isSome]) w:=by
 have g:=yA8 TP w;have n:=λe=>Ha d e w
 have l:=GL d f w;have o:(getObj m).run prog w=.ok (.map (ents D 0).toArray c) w:=by
  simp[getObj,yEA,i]
 unfold yC5;simp only[X6,g,YE,o,Zu,n,l];cases h:at? b D 0 with
 | none=>simp[X6,zero3]
 | some j=>simp
def Nr{D:List Bs}{b:Bs}(c:b.size=33)(i:∀k∈D,k.size=33)(m:Nat)(w:XF)(d:w.heap[m]? = some (.map (ents D 0).toArray D.length))(g:at? b D 0=none):
 (yBR 202 (.map (some m)) (.agg (aA b).toArray) (iZ (D.length:Int))).run prog w=.ok () (w.putObj m (.map (ents (D++[b]) 0).toArray (D.length+1))):=by
 have j:=yA8 TP w;have l:=λe=>Ha c e w
 have f:=GL c i w;rw[g]at f;have n:(getObj m).run prog w=.ok (.map (ents D 0).toArray D.length) w:=by
  simp[getObj,yEA,d]
 unfold yBR;simp only[X6,j,YE,n,Zu,l,f];rw[A5,XQ];simp[setObj,yEA,d,yC2]
def D3:prog.underlying 82=some (.slice 124):=kR
def US:(prog.info? 124).map (λi=>(i.size,i.bytes,i.zero.map λz=>z.cells.size))=some (37,72,some 37):=kR
def cells_one{n:Nat}{a:Bs}:∀u∈wn n++aA a,u.oneCell'=true:=by
 intro u k;rcases Zh.1 k with h|h
 .unfold wn at h;simp only[Zc,Yf,or_false]at h;rcases h with rfl|rfl|rfl|rfl<;>rfl
 .obtain⟨x,-,rfl⟩:=YD.1 h;rfl
def MI{b k g n:Nat}{v:XG}{xs:List XG}{a:Bs}(t:a.size=33){W:XF}(c:W.ownsRow b 124 37 v k xs)(hR:Row W g (wn n++aA a))(B:k<=1000000)(x:b<=W.heap.size):
 ∃d W',(YK #[82,82] 82 #[v,sZ g 1 1]).run prog W=.ok d W'/\W'.ownsRow b 124 37 d (k+1) (xs++(wn n++aA a))/\W.grownBy W' v.ownBlock:=by
 obtain⟨i,s,f⟩:=XK.1 US;simp only[Zl.injEq]at f;obtain⟨q,w,p⟩:=f;obtain⟨z,o,e⟩:=XK.1 p;obtain⟨d,W',l,r,m,-⟩:=yBu (P:=prog) W b 82 82 124 i z 37 72 D3 s o q w e dC v k xs c (aZ g) 1 1 (wn n++aA a) (by rw[XP,aB t];rfl)
  (λj u y=>by
   have:=hR.2.1 j u y;rw[XQ]at this;rw[show(⟨g,0,none⟩:Y4).add j=⟨g,j,none⟩ by unfold yBZ;split<;>simp_all];exact this) cells_one (by unfold maxLen;omega) oM x
 exact⟨d,W',l,r,m⟩
def fQ(N:Nat):LB->Nat->Bs->LB
 | [],n,p=>[(n,p)]
 | (s,q) :: r,n,p=>if p=q then(sPl N s n,q) :: r else(s,q) :: fQ N r n p
def mrg(N:Nat)(ns:Nat->Nat)(k:Nat->Bs):Nat->LB
 | 0=>[]
 | i+1=>fQ N (mrg N ns k i) (ns i) (k i)
def aR(l:LB):List XG:=l.flatMap λx=>wn x.1++aA x.2
def DN{N n:Nat}{p:Bs}:∀ {l:LB},at? p (l.map (·.2)) 0=none->fQ N l n p=l++[(n,p)]
 | [],_=>rfl
 | (s,q) :: r,h=>by
  have k:=at?_none.1 h;rw[yAg,Zc,not_or]at k;unfold fQ;rw[yE4 k.1,DN (l:=r) (at?_none.2 k.2)];rfl
def DD(l:LB)(n:Nat)(p:Bs):aR (l++[(n,p)])=aR l++(wn n++aA p):=by
 unfold aR;rw[yBp];simp
structure Mx(w W:XF)(m:Nat)(l:LB)(v:XG):Prop where
 bl:kZ w W
 mp:W.heap[m]? = some (.map (ents (l.map (·.2)) 0).toArray l.length)
 lm:w.heap.size<=m
 ow:W.ownsRow w.heap.size 124 37 v l.length (aR l)
def Mx.own_ne{w W:XF}{m:Nat}{l:LB}{v:XG}(h:Mx w W m l v){g:Nat}(k:v.ownBlock=some g):g≠m/\w.heap.size<=g/\g<W.heap.size:=by
 rcases h.ow.2 with⟨rfl,-⟩|⟨c,cap,cur,rfl,d,b,-⟩
 .cases k
 .obtain rfl:c=g:=by simpa[Value.ownBlock]using k
  refine⟨λe=>?_,d,(X9.1 b).1⟩;have:=h.mp;rw[<-e,b]at this;cases this
def uC{W W':XF}{b k:Nat}{e:Yj}{s:Nat}{v:XG}{xs:List XG}(h:W.ownsRow b e s v k xs)(d:∀g,v.ownBlock=some g->W'.heap[g]? = W.heap[g]?):W'.ownsRow b e s v k xs:=by
 refine⟨h.1,?_⟩;rcases h.2 with c|⟨g,cap,cur,rfl,i,c,f⟩
 .exact Yk c
 .exact Yd ⟨g,cap,cur,rfl,i,by rw[d g rfl];exact c,f⟩
def Mx.kept{w W W':XF}{m:Nat}{l:LB}{v:XG}(h:Mx w W m l v)(k:kZ W W'):Mx w W' m l v:=
 ⟨h.bl.trans (k.mono h.bl.size),by rw[k.block m (X9.1 h.mp).1];exact h.mp,h.lm,uC h.ow λg b=>k.block g (h.own_ne b).2.2⟩
def LW(l:LB)(n:Nat)(p:Bs):(l++[(n,p)]).map (·.2)=l.map (·.2)++[p]:=by simp
def Mx.push{w W:XF}{m:Nat}{l:LB}{v:XG}(h:Mx w W m l v){p:Bs}(A:p.size=33)(B:l.length<=1000000)(n:Nat):
 ∃o b,(YK #[82,82] 82 #[v,sZ W.heap.size 1 1]).run prog ((W.putObj m (.map (ents (l.map (·.2)++[p]) 0).toArray (l.length+1))).alloc (.cells (wn n++aA p).toArray 124))=.ok o b/\Mx w b m (l++[(n,p)]) o/\W.heap.size<b.heap.size/\∀j,j<W.heap.size->w.heap.size<=j->j≠m->some j≠v.ownBlock->b.heap[j]? = W.heap[j]?:=by
 obtain⟨c,d⟩:=vH (W.putObj m (.map (ents (l.map (·.2)++[p]) 0).toArray (l.length+1)));have s3:c.heap.size=W.heap.size:=by rw[<-d];simp[yC2]
 have r:=(X9.1 h.mp).1;have x:∀j,j≠m->c.heap[j]? = W.heap[j]?:=λj z=>by rw[<-d];exact World.putObj_heap_other z
 have q:=h.bl.trans ⟨by rw[<-d];rfl,by rw[<-d];rfl,by rw[<-d];rfl,oM,λj z=>x j (oN h.lm)⟩;have F:=uC h.ow λg s=>x g (h.own_ne s).1
 have E:c.heap[m]? = some (.map (ents (l.map (·.2)++[p]) 0).toArray (l.length+1)):=by rw[<-d];exact World.putObj_heap_same r
 rw[d];have R4:=row_new c (wn n++aA p) 124;have i:=aC (w:=c) (.cells (wn n++aA p).toArray 124);have s4:(c.alloc (.cells (wn n++aA p).toArray 124)).heap.size=W.heap.size+1:=by rw[XS,s3]
 have C:=uC F λg s=>i.block g (oN ((h.own_ne s).2.2))
 rw[s3]at R4;obtain⟨o,b,a,D,f⟩:=MI A C R4 B (oN q.size);have y:some m≠v.ownBlock:=λe=>(h.own_ne e.symm).1 rfl
 refine⟨o,b,a,⟨?_,?_,h.lm,?_⟩,oN f.size,λj z _ u t=>?_⟩
 .exact(q.trans (i.mono q.size)).grown f (oN q.size) (λk e=>(h.own_ne e).2.1)
 .rw[f.block m oM y,i.block m oM,E,LW,XP];rfl
 .rw[DD,XP];exact D
 .rw[f.block j oM t,i.block j oM,x j u]
end
section
variable {N:Nat}
section
variable {P:YO}{ops:Array Yw}{rest:List Yw}{op:Yw}{a:Act}{w w':XF}{v x y z:XG}{Q:yAN->Act->XF->Prop}
def Au(b:op.guard=none)(T:Yj)(m k:yAp)(ok:Bool)(ho:op.op=.lookup T m k ok)(e:a.eval m=x)(d:a.eval k=y)(f:(yC5 T x y ok).run P w=.ok v w')(h:wpList P ops Q rest (a.put op.dst v) w'):wpList P ops Q (op :: rest) a w:=
 ZT b λK c=>by
  unfold Y8 Ym;simp only[ho,e,d,X6,f,YE,Zu];exact c _ _ h
def Ig(b:op.guard=none)(T:Yj)(m k u:yAp)(ho:op.op=.mapUpdate T m k u)(e:a.eval m=x)(d:a.eval k=y)(f:a.eval u=z)(g:(yBR T x y z).run P w=.ok () w')(h:wpList P ops Q rest (a.put op.dst ZB) w'):wpList P ops Q (op :: rest) a w:=
 ZT b λK c=>by
  unfold Y8 Ym;simp only[ho,e,d,f,X6,g,YE,Zu];exact c _ _ h
def mI(k:op.guard=none)(s u:yAp)(t:Yj)(ho:op.op=.call { callee:=.builtin .append,args:=#[s,u],argTypes:=#[t,t] })(b:a.eval s=x)(c:a.eval u=y)(e:(YK #[t,t] op.type #[x,y]).run P w=.ok v w')(h:wpList P ops Q rest (a.put op.dst v) w'):wpList P ops Q (op :: rest) a w:=
 ZT k λK d=>by
  unfold Y8 Ym;simp only[ho,resolve,invoke,builtin,X6,Zu,YE,yDR,yAg,yCx,b,c,e];exact d _ _ h
end
def zT:List XG:=[uZ 0,uZ 0,uZ 0,uZ 0]++z33
def Iy{W:XF}{b k:Nat}{e:Yj}{s:Nat}{v:XG}{xs:List XG}(h:W.ownsRow b e s v k xs):∃q cap,v=.slice q k cap:=by
 rcases h.2 with⟨rfl,rfl⟩|⟨g,cap,cur,rfl,-⟩
 .exact⟨none,0,rfl⟩
 .exact⟨some (aZ g),cap,rfl⟩
def BS(ns:Nat->Nat)(k:Nat->Bs):∀i,(mrg N ns k i).length<=i
 | 0=>XH _
 | i+1=>by
  have b:=BS ns k i;have h:∀(l:LB) n p,(fQ N l n p).length<=l.length+1:=by
   intro l n p;induction l with
   | nil=>exact XH _
   | cons x r ihr =>
    unfold fQ;split
    .simp
    .simp only[YA];omega
  exact XN (h _ _ _) oM
def yT(ns:Nat->Nat)(b:Nat->Bs){k:Nat}(d:∀j,j<k->(b j).size=33):∀i,i<=k->∀x∈(mrg N ns b i).map (·.2),x.size=33
 | 0,_=>λx hx=>by cases hx
 | i+1,hi=>by
  have f:=yT ns b d i oM;have h:∀(l:LB) n p,p.size=33->(∀x∈l.map (·.2),x.size=33)->∀x∈(fQ N l n p).map (·.2),x.size=33:=by
   intro l n p g;induction l with
   | nil=>intro _ x hx;simp[fQ]at hx;rw[hx];exact g
   | cons y r ihr =>
    intro c x hx;unfold fQ at hx;split at hx
    .exact c x (by simpa using hx)
    .rw[yAg,Zc]at hx;rcases hx with hx|hx
     .exact c x (by rw[hx];simp)
     .exact ihr (λz e=>c z (Yx _ e)) x hx
  exact h _ _ _ (d i oM) f
def mB:∀(l:LB),(∀x∈l.map (·.2),x.size=33)->∀(j:Nat) (k:j<l.length) (t:Nat),t<37->(aR l)[37*j+t]? = (wn (l[j]).1++aA (l[j]).2)[t]?
 | [],_,j,k,_,_=>by cases k
 | x :: r,hs,j,k,t,ht=>by
  have hx:(wn x.1++aA x.2).length=37:=by rw[XP,aB (hs x.2 (by simp))];rfl
  have e:aR (x :: r)=(wn x.1++aA x.2)++aR r:=by unfold aR;rw[yCi]
  rw[e];cases j with
  | zero =>
   rw[yCQ,XQ,X1 oM];rfl
  | succ j =>
   rw[X4 oM,hx,show 37*(j+1)+t-37=37*j+t by omega,mB r (λy b=>hs y (Yx _ b)) j (by simpa using k) t ht];rfl
def uB{W:XF}{k:Nat}{v:XG}{l:LB}(h:W.ownsRow k 124 37 v l.length (aR l))(c:∀x∈l.map (·.2),x.size=33)(q:0<l.length):
 ∃g cap,v=sZ g l.length cap/\k<=g/\g<W.heap.size/\∀j (b:j<l.length),W.rangeAt g (37*j) (wn (l[j]).1++aA (l[j]).2):=by
 have o:=h;rcases h.2 with⟨-,d⟩|⟨g,cap,cur,rfl,m,d,p⟩
 .omega
 .refine⟨g,cap,rfl,m,(X9.1 d).1,λj b t u i=>?_⟩;have n:t<37:=by
   have:=(XT.1 i).1;rw[XP,aB (c _ (YD.2 ⟨_,YS b,rfl⟩))]at this;exact this
  have f:=o.cells (g:=g) rfl (37*j+t) u (by rw[mB l c j b t n];exact i);have e:(⟨g,0,none⟩:Y4).add (37*j+t)=⟨g,37*j+t,none⟩:=by
   unfold yBZ;split
   .rename_i h;rw[h]
   .simp
  rw[e]at f;exact f
end
section
variable {P:Nat}[NeZero P]{N:Nat}
def QJ(w:XF):(zeroValue 124).run prog w=.ok (.agg zT.toArray) w:=kR
def QK:∀v∈zT,v.oneCell'=true:=by
 intro v hv;unfold zT z33 at hv;rcases Zh.1 hv with h|h
 .simp only[Zc,Yf,or_false]at h;rcases h with rfl|rfl|rfl|rfl<;>rfl
 .rw[(List.mem_replicate.1 h).2];rfl
end
namespace RG
variable {P:YO}{ops:Array Yw}{Q:yAN->Act->XF->Prop}{w:XF}{a0:Act}{L:Array Bool}
structure Flow where
 R:Nat->XG->XF->Prop
 B:Nat->XF->Prop
 E:Nat->XF->XF->Prop
 kill:Nat->List Nat
 killB:Nat->List Nat
def aV(k:Array Yw)(i:Nat):Option ZC:=(k[i]?).bind (·.dst)
def depOn(b:Array Yw)(x k:Nat):Bool:=match b[x]? with|some o=>cQ o k|none=>true
def okK(b:Array Yw)(k:Nat)(l:List Nat):Bool:=l.all (λx=>x == k || depOn b x k)
def qL(b:Array Yw)(k:Nat)(t:ZC):Bool:=(YB b.size).all (λi=>aV b i != some t || i == k || depOn b i k)
structure InvF(F:Flow)(ops:Array Yw)(a0:Act)(L:Array Bool)(a:Act)(w:XF):Prop where
 size:L.size=ops.size
 cl:∀(i:Nat) (o:Yw),ops[i]? = some o->on L i=true->∀e∈o.after,Y3 .any e=true->on L e.on=true
 def':a.defers=a0.defers
 sz:a.tmps.size=a0.tmps.size
 rest:∀t:ZC,(∀i,on L i=true->aV ops i≠some t)->a.tmps[t]? = a0.tmps[t]?
 all:∃V:Nat->XG,(∀i d,on L i=true->aV ops i=some d->a.tmps[d]? = some (V i))/\(∀i,on L i=true->(∀x∈F.kill i,on L x=false)->F.R i (V i) w)
 base:∀b,(∀x∈F.killB b,on L x=false)->F.B b w
def bE(P:YO)(Q:yAN->Act->XF->Prop)(F:Flow)(c:Array Yw)(a0:Act)(k:Nat)(o:Yw):Prop:=
 ∀(a:Act) (w:XF) (K:Act->XF->Prop),
  (∀j d,cQ o j=true->okK c k (F.kill j)=true->aV c j=some d->F.R j (a.eval (.tmp d)) w) ->
  (∀t,qL c k t=true->a.eval (.tmp t)=a0.eval (.tmp t)) ->
  (∀b,okK c k (F.killB b)=true->F.B b w) ->
  (∀v w',F.E k w w'->F.R k v w'->K (a.put o.dst v) w')->o.wp P a w K Q
def Bh(P:YO)(Q:yAN->Act->XF->Prop)(F:Flow)(b:Array Yw)(a0:Act)(k:Nat)(o:Yw):Prop:=
 match o.guard with
 | none=>bE P Q F b a0 k o
 | some (j,want)=>cQ o j=true/\(aV b j).isSome=true/\okK b k (F.kill j)=true /\
  (((∀v w,F.R j v w->v=.bool want)/\bE P Q F b a0 k o)\/((∀v w,F.R j v w->v=.bool (!want))/\∀w,F.E k w w/\F.R k ZB w))
def Cd(k:Array Yw)(n:Nat):Bool:=
 (YB k.size).all (λi=>match k[i]? with
  | some o=>o.after.all (λe=>!Y3 .any e || e.on<i) && (match o.dst with|none=>true|some d=>decide (d<n) && (YB k.size).all (λj=>j == i || aV k j != some d))
  | none=>false)
structure RegF(P:YO)(Q:yAN->Act->XF->Prop)(F:Flow)(ops:Array Yw)(a0:Act)(m:Nat):Prop where
 chk:Cd ops a0.tmps.size=true
 cert:∀k o,k<m->ops[k]? = some o->Bh P Q F ops a0 k o
 stab:∀i j,i<m->j<m->i≠j->(F.kill j).contains i=false->depOn ops j i=false->∀v w w',F.E i w w'->F.R j v w->F.R j v w'
 stabB:∀i b,i<m->(F.killB b).contains i=false->∀w w',F.E i w w'->F.B b w->F.B b w'
variable {F:Flow}{m:Nat}
def RegF.of{k:Nat}{o:Yw}(h:RegF P Q F ops a0 m)(ho:ops[k]? = some o):(∀e∈o.after,Y3 .any e=true->e.on<k)/\∀d,o.dst=some d->d<a0.tmps.size/\∀j,aV ops j=some d->j=k:=by
 have n:=(X9.1 ho).1;have g:=Yv.1 h.chk k (Y9.2 n);rw[ho]at g;simp only[XZ]at g;obtain⟨p,c⟩:=g;refine⟨λe l i=>?_,λd hd=>?_⟩
 .have:=ZJ.1 p e l;simpa[i]using this
 .rw[hd]at c;simp only[XZ,decide_eq_true_eq]at c;refine⟨c.1,λj b=>?_⟩;have f:j<ops.size:=by
   unfold aV at b;cases hx:ops[j]? with
   | none=>rw[hx]at b;cases b
   | some x=>exact(X9.1 hx).1
  have:=Yv.1 c.2 j (Y9.2 f);simpa[b]using this
def fJ{i:Nat}{o:Yw}(ho:ops[i]? = some o):aV ops i=o.dst:=by unfold aV;rw[ho];rfl
def Cb{a:Act}{x k:Nat}{o:Yw}(h:InvF F ops a0 L a w){ho:ops[x]? = some o}(hd:cQ o k=true)(hx:on L x=true):on L k=true:=by
 obtain⟨e,c,b⟩:=yAF.1 hd;simp only[XZ,beq_iff_eq]at b;rw[<-b.2];exact h.cl x o ho hx e c b.1
def AU{L:Array Bool}{x:Nat}(h:on L x=true):x<L.size:=by
 rcases Zx x L.size with k|k
 .exact k
 .unfold on at h;rw[XU,Array.getElem?_eq_none k]at h;cases h
def InvF.nt{k:Nat}{a:Act}(e:on L k=false)(h:InvF F ops a0 L a w)(x:Nat)(hx:(x == k || depOn ops x k)=true):on L x=false:=by
 cases b:on L x with
 | false=>rfl
 | true =>
  rcases yAc _ _ ▸ hx with d|d
  .rw[show x=k by simpa using d,e]at b;cases b
  .unfold depOn at d;have f:x<ops.size:=by rw[<-h.size];exact AU b
   have c:=Ye f;rw[c]at d;have:=Cb (ho:=c) h d b;rw[e]at this;cases this
def InvF.nx{k:Nat}{o:Yw}{a:Act}{v:XG}{w':XF}(R:RegF P Q F ops a0 m)(y:k<m)(G:∀i,on L i=true->i<m)(ho:ops[k]? = some o)(K:on L k=false)(u:∀e∈o.after,Y3 .any e=true->on L e.on=true)(h:InvF F ops a0 L a w)(hE:F.E k w w')(hR:F.R k v w'):InvF F ops a0 (L.setIfInBounds k true) (a.put o.dst v) w':=by
 obtain⟨I,n⟩:=R.of ho;have E:=(X9.1 ho).1;have D:k<L.size:=by rw[h.size];exact E
 have s:=fJ ho;have q:=λx hx=>h.nt K x hx
 obtain⟨V,J,C⟩:=h.all;have f:∀x,on (L.setIfInBounds k true) x=(on L x || k == x):=λx=>eE D
 refine⟨by rw[YT];exact h.size,λi O p j e M A=>?_,?_,?_,λt N=>?_,⟨λx=>if x=k then v else V x,λi d j hd=>?_,λi j B=>?_⟩,λb A=>?_⟩
 .rw[f]at j⊢;by_cases c:k=i
  .subst c;rw[ho]at p;obtain rfl:=X5.inj p;rw[u e M A,yAU]
  .rw[h.cl i O p (by simpa[c]using j) e M A,yAU]
 .rw[<-h.def'];cases o.dst<;>rfl
 .rw[rP];exact h.sz
 .have r:o.dst≠some t:=λhd=>N k (by rw[f];simp) (by rw[s];exact hd)
  rw[pO a v r];exact h.rest t λi j=>N i (by rw[f,j,yAU])
 .rw[f]at j;by_cases c:i=k
  .subst c;rw[s]at hd;rw[hd];show(a.tmps.setIfInBounds d v)[d]? = some (if i=i then v else V i);rw[yE3 (rfl:i=i)];rw[ZF,yE3 rfl,yE3 (by rw[h.sz];exact(n d hd).1)]
  .have l:o.dst≠some d:=λz=>c ((n d z).2 i hd)
   rw[pO a v l];show _=some (if i=k then v else V i);rw[yE4 c];have g:¬k=i:=λe=>c e.symm
   exact J i d (by simpa[g]using j) hd
 .rw[f]at j;by_cases c:i=k
  .subst c;show F.R i (if i=i then v else V i) w';rw[yE3 rfl];exact hR
  .show F.R i (if i=k then v else V i) w';rw[yE4 c];have g:¬k=i:=λe=>c e.symm
   have l:on L i=true:=by simpa[g]using j
   have r:∀x∈F.kill i,on L x=false:=λx hx=>by
    have:=B x hx;rw[f,yDn]at this;exact this.1
   have H:(F.kill i).contains k=false:=by
    cases z:(F.kill i).contains k with
    | false=>rfl
    | true =>
     have:=B k (by simpa using z);rw[f]at this;simp at this
   have S:depOn ops i k=false:=by
    cases z:depOn ops i k with
    | false=>rfl
    | true=>rw[q i (by rw[z,Bool.or_true])]at l;cases l
   exact R.stab k i y (G i l) (Ne.symm c) H S _ _ _ hE (C i l r)
 .have r:∀x∈F.killB b,on L x=false:=λx hx=>by
   have:=A x hx;rw[f,yDn]at this;exact this.1
  have H:(F.killB b).contains k=false:=by
   cases z:(F.killB b).contains k with
   | false=>rfl
   | true =>
    have:=A k (by simpa using z);rw[f]at this;simp at this
  exact R.stabB k b y H _ _ hE (h.base b r)
def F6{k:Nat}{o:Yw}{a:Act}(R:RegF P Q F ops a0 m)(C:k<m)(N:∀i,on L i=true->i<m)(ho:ops[k]? = some o)(D:on L k=false)(r:∀e∈o.after,Y3 .any e=true->on L e.on=true)(h:InvF F ops a0 L a w):
 wpOp P ops Q k (InvF F ops a0 (L.setIfInBounds k true)) a w:=by
 obtain⟨S,U⟩:=R.of ho;have O:=(X9.1 ho).1;have X:k<L.size:=by rw[h.size];exact O
 have Y:=fJ ho;have g:=λx hx=>h.nt D x hx
 obtain⟨V,T,J⟩:=h.all;have s:∀j d,cQ o j=true->okK ops k (F.kill j)=true->aV ops j=some d->a.tmps[d]? = some (V j)/\F.R j (V j) w:=λj d G q hd=>by
  obtain⟨e,f,y⟩:=yAF.1 G;simp only[XZ,beq_iff_eq]at y;have c:on L j=true:=by rw[<-y.2];exact r e f y.1
  exact⟨T j d c hd,J j c λx hx=>g x (Yv.1 q x hx)⟩
 have p:∀j d,cQ o j=true->okK ops k (F.kill j)=true->aV ops j=some d->F.R j (a.eval (.tmp d)) w:=λj d G q hd=>by
  rw[B8 (s j d G q hd).1];exact(s j d G q hd).2
 have n:∀t,qL ops k t=true->a.eval (.tmp t)=a0.eval (.tmp t):=λt hf=>by
  have z:=h.rest t λi c hd=>by
   have f:i<ops.size:=by rw[<-h.size];exact AU c
   have l:=Yv.1 hf i (Y9.2 f);rw[hd]at l;have u:(i == k || depOn ops i k)=true:=by simpa using l
   rw[g i u]at c;cases c
  show a.tmps.getD t ZB=a0.tmps.getD t ZB;rw[XU,XU,z]
 have l:∀b,okK ops k (F.killB b)=true->F.B b w:=λb y=>h.base b λx hx=>g x (Yv.1 y x hx)
 have f:=λv w' hE hR=>h.nx (v:=v) (w':=w') R C N ho D r hE hR
 have A:=R.cert k o C ho;unfold Bh at A;unfold wpOp;rw[ho];dsimp only;cases E:o.guard with
 | none =>
  rw[E]at A;rw[Cs E,yE3 rfl];left;exact A a w _ p n l f
 | some jw =>
  obtain⟨j,c⟩:=jw;rw[E]at A;obtain⟨I,M,H,u⟩:=A;obtain⟨d,hd⟩:=YP.1 M;obtain⟨Z,B⟩:=s j d I H hd;have W:∀b,V j=.bool b->Zd o (yielded ops a.tmps)=(b == c):=λb y=>by
   have K:yielded ops a.tmps j=some b:=by
    unfold aV at hd;unfold yielded;cases z:ops[j]? with
    | none=>rw[z]at hd;cases hd
    | some oj =>
     rw[z]at hd;show(match oj.dst.bind (a.tmps[·]?) with|some (.bool b)=>some b|_=>none)=_;rw[show oj.dst=some d from hd];show(match a.tmps[d]? with|some (.bool b)=>some b|_=>none)=_;rw[Z,y]
   unfold Zd;rw[E];show(yielded ops a.tmps j == some c)=_;rw[K];cases b<;>cases c<;>rfl
  rcases u with⟨K,hc⟩|⟨K,z⟩
  .rw[W _ (K _ _ B),show(c == c)=true by cases c<;>rfl,yE3 rfl];left;exact hc a w _ p n l f
  .rw[W _ (K _ _ B),show((!c) == c)=false by cases c<;>rfl];exact f ZB w (z w).1 (z w).2
def bY(V:Nat->XG):List Yw->Nat->Act->Act
 | [],_,a=>a
 | o :: r,i,a=>bY V r (i+1) (a.put o.dst (V i))
def oD(V:Nat->XG):∀(l:List Yw) (i:Nat) (a:Act),(bY V l i a).defers=a.defers
 | [],_,_=>rfl
 | o :: r,i,a=>by
  rw[bY,oD V r];cases o.dst<;>rfl
def mV(V:Nat->XG):∀(l:List Yw) (i:Nat) (a:Act) (t:ZC),(∀o∈l,o.dst≠some t)->(bY V l i a).tmps[t]? = a.tmps[t]?
 | [],_,_,_,_=>rfl
 | o :: r,i,a,t,h=>by
  rw[bY,mV V r _ _ t (λx hx=>h x (Yx _ hx)),pO a _ (h o YL)]
def tW(V:Nat->XG):∀(l:List Yw) (i:Nat) (a:Act) (j:Nat) (o:Yw) (d:ZC),l[j]? = some o->o.dst=some d->(∀k b,l[k]? = some b->b.dst=some d->k=j)->d<a.tmps.size->(bY V l i a).tmps[d]? = some (V (i+j))
 | [],_,_,_,_,_,h,_,_,_=>by simp at h
 | x :: r,i,a,0,o,d,h,hd,hu,hs=>by
  obtain rfl:x=o:=by simpa using h
  rw[bY,mV V r _ _ d (λy f c=>by
   obtain⟨k,e⟩:=ZK f;have:=hu (k+1) y (by simpa using e) c;omega),hd]
  show(a.tmps.setIfInBounds d _)[d]? = _;rw[ZF,yE3 rfl,yE3 hs];rfl
 | x :: r,i,a,j+1,o,d,h,hd,hu,hs=>by
  rw[bY,tW V r (i+1) _ j o d (by simpa using h) hd (λk b e c=>by
   have:=hu (k+1) b (by simpa using e) c;omega) (by rw[rP];exact hs)]
  congr 2
  omega
def InvF.done{a:Act}(R:RegF P Q F ops a0 m)(h:InvF F ops a0 L a w)(k:∀i,i<ops.size->on L i=true)
 (l:∀(V:Nat->XG),(∀i,i<ops.size->F.kill i=[]->F.R i (V i) w)->(∀b,F.killB b=[]->F.B b w)->Q .normal (bY V ops.toList 0 a0) w):Q .normal a w:=by
 obtain⟨V,g,d⟩:=h.all;have e:a=bY V ops.toList 0 a0:=by
  refine Act.ext' ?_ (by rw[oD];exact h.def');apply yDx;intro t;by_cases f:∃(i:Nat) (o:Yw),ops[i]? = some o/\o.dst=some t
  .obtain⟨i,o,ho,hd⟩:=f;rw[g i t (k i (X9.1 ho).1) (by rw[fJ ho];exact hd)];rw[tW V ops.toList 0 a0 i o t (by rw[YI];exact ho) hd (λn p c j=>((R.of ho).2 t hd).2 n (by rw[YI]at c;rw[fJ c];exact j)) ((R.of ho).2 t hd).1,XQ]
  .rw[h.rest t (λi c hd=>?_),mV V ops.toList 0 a0 t (λo j hd=>?_)]
   .obtain⟨i,c⟩:=ZK j;rw[YI]at c;exact f ⟨i,o,c,hd⟩
   .unfold aV at hd;cases hx:ops[i]? with
    | none=>rw[hx]at hd;cases hd
    | some x=>rw[hx]at hd;exact f ⟨i,x,hx,hd⟩
 rw[e];exact l V (λi c f=>d i (k i c) (by rw[f];simp)) (λb j=>h.base b (by rw[j];simp))
def InvF.full{a:Act}(R:RegF P Q F ops a0 m)(h:InvF F ops a0 L a w)(g:Yq .any ops L=[]):∀i,i<ops.size->on L i=true:=by
 intro i;induction i using Nat.strongRecOn with
 | ind i ih =>
  intro c;have ho:ops[i]? = some ops[i]:=Ye _;cases k:on L i with
  | true=>rfl
  | false =>
   have:i∈Yq .any ops L:=mem_ready.2 ⟨?_,_,ho,λe f d=>?_⟩
   .rw[g]at this;cases this
   .unfold on at k;rw[XU,Ye (by rw[h.size];exact c)]at k⊢;exact k
   .have b:=(R.of ho).1 e f d;exact ih e.on b (Nat.lt_trans b c)
def rC{id:Nat}(F:Flow)(q:P.follows .mixedOrders=true)(R:RegF P Q F ops a0 ops.size)(p:∀b,F.B b w.drew)
 (m:∀(V:Nat->XG) (w':XF),(∀i,i<ops.size->F.kill i=[]->F.R i (V i) w')->(∀b,F.killB b=[]->F.B b w')->Q .normal (bY V ops.toList 0 a0) w'):(Zg id ops true).wp P Q a0 w:=by
 have key:∀(c:Nat) (L:Array Bool) (a:Act) (w:XF),unl L=c->InvF F ops a0 L a w->wpAny P .any ops Q c L a w:=by
  intro c;induction c with
  | zero =>
   intro L a w n g;have k:∀i,i<ops.size->on L i=true:=λi f=>lE n (by rw[g.size];exact f)
   refine⟨?_,g.done R k (λV=>m V w)⟩;apply yCz.2;intro i f;obtain⟨e,o,ho,-⟩:=mem_ready.1 f;have j:=k i (X9.1 ho).1;unfold on at j;rw[XU]at e j;cases hh:L[i]? with
   | none=>rw[hh]at e;cases e
   | some b=>rw[hh]at e j;rw[show b=false from e]at j;cases j
  | succ c ih =>
   intro L a w n g;refine⟨λr=>g.done R (g.full R r) (λV=>m V w),λi f=>?_⟩;obtain⟨e,o,ho,j⟩:=mem_ready.1 f;have k:on L i=false:=by
    unfold on;rw[XU]at e⊢;cases hh:L[i]? with
    | none=>rfl
    | some b=>rw[hh]at e;exact e
   exact yCj (λs w' l=>ih _ s w' (oN (mK e)) l) (F6 R (X9.1 ho).1 (λi f=>by rw[<-g.size];exact AU f) ho k j g)
 have k:∀i,on (XW ops.size false) i=false:=λi=>by
  unfold on;rw[XU,yAZ];by_cases h:i<ops.size
  .rw[yE3 h];rfl
  .rw[yE4 h];rfl
 refine yEU q (key _ _ a0 _ ?_ ⟨X8,(λi o _ h=>by rw[k]at h;cases h),rfl,rfl,λ_ _=>rfl,⟨λ_=>ZB,λi d h=>(by rw[k]at h;cases h),λi h=>(by rw[k]at h;cases h)⟩,λb _=>p b⟩);unfold unl;rw[yC8,yDh];simp
structure PreF(F:Flow)(ops:Array Yw)(a0:Act)(k:Nat)(o:Yw)(a:Act)(w:XF):Prop where
 n:∀j d,cQ o j=true->okK ops k (F.kill j)=true->aV ops j=some d->F.R j (a.eval (.tmp d)) w
 o:∀t,qL ops k t=true->a.eval (.tmp t)=a0.eval (.tmp t)
 b:∀b,okK ops k (F.killB b)=true->F.B b w
def jB(P:YO)(Q:yAN->Act->XF->Prop)(F:Flow)(b:Array Yw)(a0:Act):Nat->List Yw->Prop
 | _,[]=>True
 | k,o :: r=>Bh P Q F b a0 k o/\jB P Q F b a0 (k+1) r
def zX:∀(l:List Yw) (i:Nat),jB P Q F ops a0 i l->∀k o,l[k]? = some o->Bh P Q F ops a0 (i+k) o
 | [],_,_,k,o,h=>by simp at h
 | x :: r,i,hc,0,o,h=>by
  obtain rfl:x=o:=by simpa using h
  exact hc.1
 | x :: r,i,hc,k+1,o,h=>by
  have:=zX r (i+1) hc.2 k o (by simpa using h);rwa[show i+1+k=i+(k+1) by omega]at this
def Dx(h:jB P Q F ops a0 0 ops.toList):∀k o,k<ops.size->ops[k]? = some o->Bh P Q F ops a0 k o:=λk o _ ho=>by
 have:=zX ops.toList 0 h k o (by rw[YI];exact ho);rwa[XQ]at this
def evo(ev:ZC->XG):yAp->XG
 | .tmp t=>ev t
 | .const v=>v
 | .global g=>jZ g
 | .func f=>.func (.func f) #[] #[]
def cN(T:List ZC)(o:Yw):Bool:=
 (match o.op with | .select _ _=>false|_=>true) && o.op.operands.all (λx=>match x with | .tmp t=>T.contains t|_=>true)
def jG{a:Act}{o:Yw}(ev:ZC->XG)(T:List ZC)(h:cN T o=true)(k:∀t∈T,a.eval (.tmp t)=ev t):Ym a.eval o=Ym (evo ev) o:=by
 simp only[cN,XZ]at h;refine execOp_congr o (λcs b k=>?_) (λx hx=>?_)
 .rw[k]at h;exact absurd h.1 (by simp)
 .have c:=ZJ.1 h.2 x hx;cases x with
  | tmp t=>exact k t (by simpa using c)
  | const v=>rfl
  | global g=>rfl
  | func f=>rfl
def nE{k:Nat}{o:Yw}(h:∀(a:Act) (w:XF),PreF F ops a0 k o a w->∃v w',(Ym a.eval o).run P w=.ok (.value v) w'/\F.E k w w'/\F.R k v w'):bE P Q F ops a0 k o:=by
 intro a w K c e d b;obtain⟨v,w',f,hE,hR⟩:=h a w ⟨c,e,d⟩;unfold Y8;rw[f];exact b v w' hE hR
def nF{k:Nat}{o:Yw}(t:ZC)(h:∀(a:Act) (w:XF),PreF F ops a0 k o a w->∃v w',(cN [t] o=true)/\(Ym (evo λ_=>a.eval (.tmp t)) o).run P w=.ok (.value v) w'/\F.E k w w'/\F.R k v w'):bE P Q F ops a0 k o:=by
 refine nE λa w c=>?_
 obtain⟨v,w',b,d,hE⟩:=h a w c;refine⟨v,w',?_,hE⟩;rw[jG (λ_=>a.eval (.tmp t)) [t] b (λx hx=>by rw[show x=t by simpa using hx])];exact d
def He{k:Nat}{o:Yw}(t:ZC)(h:∀(a:Act) (w:XF),PreF F ops a0 k o a w->∃f args,(cN [t] o=true)/\(Ym (evo λ_=>a.eval (.tmp t)) o).run P w=.ok (.enter f args) w/\Calls P f args w (Ret λe w'=>F.E k w w'/\F.R k e w')):bE P Q F ops a0 k o:=by
 intro a w K g j d b;obtain⟨f,args,i,c,l⟩:=h a w ⟨g,j,d⟩;unfold Y8;rw[jG (λ_=>a.eval (.tmp t)) [t] i (λx hx=>by rw[show x=t by simpa using hx]),c,ZU];refine l.mono ?_;rintro e w' ⟨v,rfl,hE,hR⟩;exact b _ _ hE hR
def Cf{T:Yj}{k:Nat}{o:Yw}(t:ZC)(ho:o.op=.load T (.tmp t))(b:(P.underlying T).map (·.isRow)=some true)(h:∀(a:Act) (w:XF),PreF F ops a0 k o a w->∃g off cs,a.eval (.tmp t)=oZ g off/\w.rangeAt g off cs/\(P.info? T).map (·.size)=some cs.length/\F.E k w w/\F.R k (.agg cs.toArray) w):bE P Q F ops a0 k o:=by
 intro a w K j m i e;obtain⟨g,off,cs,c,f,l,hE,hR⟩:=h a w ⟨j,m,i⟩;obtain⟨d,b,hd⟩:=XK.1 b;exact wp_load_mid T (.tmp t) ho g off c cs d f b hd l (e _ _ hE hR)
def Mn{k:Nat}{o:Yw}(s u:ZC)(t:Yj)(ho:o.op=.call { callee:=.builtin .append,args:=#[.tmp s,.tmp u],argTypes:=#[t,t] })
 (h:∀(a:Act) (w:XF),PreF F ops a0 k o a w->∃v w',(YK #[t,t] o.type #[a.eval (.tmp s),a.eval (.tmp u)]).run P w=.ok v w'/\F.E k w w'/\F.R k v w'):bE P Q F ops a0 k o:=by
 intro a w K e f d b;obtain⟨v,w',c,hE,hR⟩:=h a w ⟨e,f,d⟩;unfold Y8 Ym;simp only[ho,resolve,invoke,builtin,X6,Zu,YE,yDR,yAg,yCx,c];exact b _ _ hE hR
def uN(h:jB P Q F ops a0 0 (ops.toList.take m)):∀k o,k<m->ops[k]? = some o->Bh P Q F ops a0 k o:=λk o b ho=>by
 have:=zX (ops.toList.take m) 0 h k o (by rw[ZE,yE3 b,YI];exact ho);rwa[XQ]at this
def InvF.act{a:Act}(R:RegF P Q F ops a0 m)(h:InvF F ops a0 L a w)(l:m<=ops.size)(c:∀i,on L i=true↔i<m){V:Nat->XG}(f:∀i d,on L i=true->aV ops i=some d->a.tmps[d]? = some (V i)):a=bY V (ops.toList.take m) 0 a0:=by
 refine Act.ext' ?_ (by rw[oD];exact h.def');apply yDx;intro t;by_cases e:∃(i:Nat) (o:Yw),i<m/\ops[i]? = some o/\o.dst=some t
 .obtain⟨i,o,b,ho,hd⟩:=e;rw[f i t ((c i).2 b) (by rw[fJ ho];exact hd)];rw[tW V (ops.toList.take m) 0 a0 i o t (by rw[ZE,yE3 b,YI];exact ho) hd (λj n k g=>((R.of ho).2 t hd).2 j (by
   rw[ZE]at k;split at k
   .rw[YI]at k;rw[fJ k];exact g
   .cases k)) ((R.of ho).2 t hd).1,XQ]
 .rw[h.rest t (λi k hd=>?_),mV V (ops.toList.take m) 0 a0 t (λo g hd=>?_)]
  .obtain⟨i,k⟩:=ZK g;rw[ZE]at k;split at k
   .rename_i b
    rw[YI]at k;exact e ⟨i,o,b,k,hd⟩
   .cases k
  .unfold aV at hd;cases hx:ops[i]? with
   | none=>rw[hx]at hd;cases hd
   | some x=>rw[hx]at hd;exact e ⟨i,x,(c i).1 k,hx,hd⟩
def IK{id:Nat}(F:Flow)(n:Nat)(X:ops.size=n+1)(hd:(YB n).all (λj=>depOn ops n j || (YB n).any (λi=>depOn ops n i && depOn ops i j))=true)(T:P.follows .mixedOrders=true)(R:RegF P Q F ops a0 n)(O:∀b,F.B b w.drew)
 (N:∀(V:Nat->XG) (w':XF),(∀i,i<n->F.kill i=[]->F.R i (V i) w')->(∀b,F.killB b=[]->F.B b w')->wpList P ops Q (ops.toList.drop n) (bY V (ops.toList.take n) 0 a0) w'):(Zg id ops true).wp P Q a0 w:=by
 have key:∀(c:Nat) (L:Array Bool) (a:Act) (w:XF),unl L=c->on L n=false->InvF F ops a0 L a w->wpAny P .any ops Q c L a w:=by
  intro c;induction c with
  | zero =>
   intro L a w M k p;have:=lE M (i:=n) (by rw[p.size];omega);rw[k]at this;cases this
  | succ c ih =>
   intro L a w M k p;refine⟨λB=>?_,λi U=>?_⟩
   .have:=p.full R B n oM;rw[k]at this;cases this
   .obtain⟨r,o,ho,t⟩:=mem_ready.1 U;have J:=(X9.1 ho).1;have H:on L i=false:=by
     unfold on;rw[XU]at r⊢;cases hh:L[i]? with
     | none=>rfl
     | some b=>rw[hh]at r;exact r
    by_cases y:i=n
    .subst y;have q:∀j,on L j=true↔j<i:=λj=>by
      constructor
      .intro m;have g:j<ops.size:=by rw[<-p.size];exact AU m
       rcases Zx j i with h|h
       .exact h
       .obtain rfl:j=i:=oM;rw[k]at m;cases m
      .intro m;have s:∀j,depOn ops i j=true->on L j=true:=λj g=>by
        unfold depOn at g;rw[ho]at g;obtain⟨e,u,z⟩:=yAF.1 g;simp only[XZ,beq_iff_eq]at z;have:=t e u z.1;rw[z.2]at this;exact this
       have g:=Yv.1 hd j (Y9.2 m);rw[yAc]at g;rcases g with g|g
       .exact s j g
       .obtain⟨x,hx,v⟩:=List.any_eq_true.1 g;rw[XZ]at v;have C:=s x v.1;have D:x<ops.size:=oN (Y9.1 hx);have u:=Ye D;have A:=v.2;unfold depOn at A;rw[u]at A;exact Cb (ho:=u) p A C
     obtain⟨V,I,G⟩:=p.all;have W:=p.act R oM q I;have A:∀l:List Nat,l=[]->∀x∈l,on L x=false:=λl Y x hx=>by rw[Y]at hx;cases hx
     have s:=N V w (λj m S=>G j ((q j).2 m) (A _ S)) (λb z=>p.base b (A _ z));have u:ops.toList.drop i=[o]:=by
      have v:ops.toList.length=i+1:=by rw[X0];exact X
      rw[List.drop_eq_getElem_cons oM,List.drop_of_length_le oM];have:ops.toList[i]? = some o:=by rw[YI];exact ho
      rw[XV oM]at this;rw[X5.inj this]
     rw[u,<-W]at s;have D:wpOp P ops Q i (λC w'=>Q .normal C w') a w:=by
      unfold wpOp;rw[ho];exact s
     refine yCj (λC w' K=>?_) D;have v:∀j,j<ops.size->on (L.setIfInBounds i true) j=true:=λj m=>by
      rw[eE (by rw[p.size];omega)];by_cases h:j<i
      .rw[(q j).2 h,yAU]
      .rw[show j=i by omega];simp
     have B:Yq .any ops (L.setIfInBounds i true)=[]:=by
      apply yCz.2;intro j m;obtain⟨r,Z,E,-⟩:=mem_ready.1 m;have g:=v j (X9.1 E).1;unfold on at g;rw[XU]at r g;cases hh:(L.setIfInBounds i true)[j]? with
      | none=>rw[hh]at r;cases r
      | some b=>rw[hh]at r g;rw[show b=false from r]at g;cases g
     cases c with
     | zero=>exact⟨B,K⟩
     | succ f=>exact⟨λ_=>K,λj m=>by rw[B]at m;cases m⟩
    .refine yCj (λC w' q=>ih _ C w' (oN (mK r)) ?_ q) (F6 R oM (λj m=>?_) ho H t p)
     .rw[eE (by rw[p.size];exact J),k];simpa using y
     .have g:j<ops.size:=by rw[<-p.size];exact AU m
      rcases Zx j n with h|h
      .exact h
      .obtain rfl:j=n:=oM;rw[k]at m;cases m
 have k:∀i,on (XW ops.size false) i=false:=λi=>by
  unfold on;rw[XU,yAZ];by_cases h:i<ops.size
  .rw[yE3 h];rfl
  .rw[yE4 h];rfl
 refine yEU T (key _ _ a0 _ ?_ (k n) ⟨X8,(λi o _ h=>by rw[k]at h;cases h),rfl,rfl,λ_ _=>rfl,⟨λ_=>ZB,λi d h=>(by rw[k]at h;cases h),λi h=>(by rw[k]at h;cases h)⟩,λb _=>O b⟩);unfold unl;rw[yC8,yDh];simp
end RG
namespace RG
variable {P:YO}{ops:Array Yw}{Q:yAN->Act->XF->Prop}{w:XF}{a0:Act}
def AllE(a:Act):List (ZC × XG)->Prop
 | []=>True
 | x :: r=>a.eval (.tmp x.1)=x.2/\AllE a r
def evl(k:List (ZC × XG))(t:ZC):XG:=match k.find? (λx=>x.1 == t) with|some x=>x.2|none=>ZB
def AllE.mem{a:Act}:∀ {k:List (ZC × XG)},AllE a k->∀x∈k,a.eval (.tmp x.1)=x.2
 | [],_,x,hx=>by cases hx
 | y :: r,h,x,hx=>by
  rcases Zc.1 hx with rfl|hx
  .exact h.1
  .exact AllE.mem h.2 x hx
def AllE.ev{a:Act}{k:List (ZC × XG)}(h:AllE a k):∀t∈k.map (·.1),a.eval (.tmp t)=evl k t:=λt b=>by
 obtain⟨x,hx,rfl⟩:=YD.1 b;unfold evl;cases hf:k.find? (λy=>y.1 == x.1) with
 | none =>
  have:=List.find?_eq_none.1 hf x hx;simp at this
 | some y =>
  have c:=List.mem_of_find?_eq_some hf;have d:y.1=x.1:=by simpa using List.find?_some hf
  have:=h.mem y c;rw[d]at this;exact this
structure Gw where
 R:Nat->XG->XF->Prop
 B:XF->Prop
 sR:∀i v w w',kZ w w'->R i v w->R i v w'
 sB:∀w w',kZ w w'->B w->B w'
def Gw.flow(G:Gw):Flow:=⟨G.R,λ_=>G.B,λ_ w w'=>kZ w w',λ_=>[],λ_=>[]⟩
structure PreG(G:Gw)(ops:Array Yw)(a0:Act)(k:Nat)(o:Yw)(a:Act)(w:XF):Prop where
 n:∀j d,cQ o j=true->aV ops j=some d->G.R j (a.eval (.tmp d)) w
 o:∀t,qL ops k t=true->a.eval (.tmp t)=a0.eval (.tmp t)
 b:G.B w
variable {G:Gw}
def tX{k:Nat}{o:Yw}{a:Act}(h:PreF G.flow ops a0 k o a w):PreG G ops a0 k o a w:=⟨λj d b hd=>h.n j d b rfl hd,h.o,h.b 0 rfl⟩
def bL{k:Nat}{o:Yw}(h:∀(a:Act) (w:XF),PreG G ops a0 k o a w->∃(b:List (ZC × XG)) (v:XG) (w':XF),AllE a b/\(cN (b.map (·.1)) o,(Ym (evo (evl b)) o).run P w)=(true,.ok (.value v) w')/\kZ w w'/\G.R k v w'):bE P Q G.flow ops a0 k o:=
 nE λa w d=>by
  obtain⟨b,v,w',e,c,hE⟩:=h a w (tX d);simp only[Zl.injEq]at c;refine⟨v,w',?_,hE⟩;rw[jG (evl b) (b.map (·.1)) c.1 e.ev];exact c.2
def gC{k:Nat}{o:Yw}(h:∀(a:Act) (w:XF),PreG G ops a0 k o a w->∃(b:List (ZC × XG)) (f:FuncId) (args:Array XG),AllE a b/\(cN (b.map (·.1)) o,(Ym (evo (evl b)) o).run P w)=(true,.ok (.enter f args) w)/\Calls P f args w (rZ w λe w'=>G.R k e w')):bE P Q G.flow ops a0 k o:=by
 intro a w K j l i g;obtain⟨b,f,args,d,c,m⟩:=h a w (tX ⟨j,l,i⟩);simp only[Zl.injEq]at c;unfold Y8;rw[jG (evl b) (b.map (·.1)) c.1 d.ev,c.2,ZU];refine m.mono ?_;rintro e w' ⟨v,rfl,hE,hR⟩;exact g _ _ hE hR
def jF{T:Yj}{k:Nat}{o:Yw}(t:ZC)(ho:o.op=.load T (.tmp t))(e:(P.underlying T).map (·.isRow)=some true)(h:∀(a:Act) (w:XF),PreG G ops a0 k o a w->∃g off cs,a.eval (.tmp t)=oZ g off/\w.rangeAt g off cs/\(P.info? T).map (·.size)=some cs.length/\G.R k (.agg cs.toArray) w):bE P Q G.flow ops a0 k o:=
 Cf t ho e λa w c=>by
  obtain⟨g,off,cs,d,f,i,b⟩:=h a w (tX c);exact⟨g,off,cs,d,f,i,XX _ _,b⟩
def LA{k:Nat}{o:Yw}(op:BinOp)(T d:Yj)(t1 t2:ZC)(ho:o.op=.binOp op T (.tmp t1) (.tmp t2) d)
 (h:∀(a:Act) (w:XF),PreG G ops a0 k o a w->∃v1 v2 v,a.eval (.tmp t1)=v1/\a.eval (.tmp t2)=v2/\(eqGuard op T (.tmp t1) (.tmp t2) v1 v2).run P w=.ok () w/\(binOp op T v1 v2).run P w=.ok v w/\G.R k v w):bE P Q G.flow ops a0 k o:=
 nE λa w c=>by
  obtain⟨v1,v2,v,e,f,b,g,hR⟩:=h a w (tX c);refine⟨v,w,?_,XX _ _,hR⟩;unfold Ym;rw[ho];dsimp only;rw[e,f,X6,X6,b];dsimp only[Result.andThen];rw[g];rfl
def Gw.reg{m:Nat}(c:Cd ops a0.tmps.size=true)(h:jB P Q G.flow ops a0 0 (ops.toList.take m)):RegF P Q G.flow ops a0 m:=
 ⟨c,uN h,λi j _ _ _ _ _ v w w' hE hR=>G.sR j v w w' hE hR,λi b _ _ w w' hE k=>G.sB w w' hE k⟩
def Gw.draws{id:Nat}(G:Gw)(d:P.follows .mixedOrders=true)(g:Cd ops a0.tmps.size=true)(h:jB P Q G.flow ops a0 0 (ops.toList.take ops.size))(c:G.B w.drew)
 (b:∀(V:Nat->XG) (w':XF),(∀i,i<ops.size->G.R i (V i) w')->G.B w'->Q .normal (bY V ops.toList 0 a0) w'):(Zg id ops true).wp P Q a0 w:=
 rC G.flow d (Gw.reg g h) (λ_=>c) λV w' e f=>b V w' (λi k=>e i k rfl) (f 0 rfl)
def Gw.last{id:Nat}(G:Gw)(n:Nat)(k:((ops.size == n+1) && (YB n).all (λj=>depOn ops n j || (YB n).any (λi=>depOn ops n i && depOn ops i j)))=true)(f:P.follows .mixedOrders=true)(l:Cd ops a0.tmps.size=true)(h:jB P Q G.flow ops a0 0 (ops.toList.take n))(d:G.B w.drew)
 (c:∀(V:Nat->XG) (w':XF),(∀i,i<n->G.R i (V i) w')->G.B w'->wpList P ops Q (ops.toList.drop n) (bY V (ops.toList.take n) 0 a0) w'):(Zg id ops true).wp P Q a0 w:=by
 rw[XZ,beq_iff_eq]at k;exact IK G.flow n k.1 k.2 f (Gw.reg l h) (λ_=>d) λV w' e g=>c V w' (λi b=>e i b rfl) (g 0 rfl)
end RG
section
variable {P:Nat}[NeZero P]{N:Nat}
def CC{w:XF}{g o:Nat}{v:XG}{cur:Array XG}{e:Yj}{z:Nat × Nat}(h:w.heap[g]? = some (.cells cur e z)):∃k:Array XG,(w.setCell ⟨g,o,none⟩ v).heap[g]? = some (.cells k e z)/\k.size=cur.size:=by
 have b:=(X9.1 h).1;refine⟨cur.setIfInBounds o v,?_,YT ..⟩;have c:w.heap[g]=.cells cur e z:=by rw[Ye b]at h;exact X5.inj h
 simp[World.setCell,Array.getElem_modify,b,c]
def rL{g:Nat}{e:Yj}{z:Nat × Nat}:∀(vs:List XG) (o:Nat) (w:XF) (cur:Array XG),w.heap[g]? = some (.cells cur e z)->∃k:Array XG,(w.setCells g o vs).heap[g]? = some (.cells k e z)/\k.size=cur.size
 | [],_,_,cur,h=>⟨cur,h,rfl⟩
 | v :: r,o,w,cur,h=>by
  obtain⟨c1,d,f⟩:=CC (o:=o) (v:=v) h;obtain⟨c2,c,b⟩:=rL r (o+1) _ c1 d;exact⟨c2,c,b.trans f⟩
def Kl{W:XF}{k n s g o cap:Nat}{e:Yj}{xs vs:List XG}(h:W.ownsRow k e s (sZ g n cap) n xs)(y:o+vs.length<=n*s):(W.setCells g o vs).ownsRow k e s (sZ g n cap) n (rep xs o vs):=by
 have hx:o+vs.length<=xs.length:=by rw[h.1];exact y
 refine⟨by rw[cY hx];exact h.1,?_⟩;rcases h.2 with⟨d,-⟩|⟨a,p,cur,d,x,m,t,v,q,w⟩
 .cases d
 .injection d with e1 e2 e3
  injection e1 with e1
  injection e1 with e1
  subst e1;subst e3;obtain⟨c2,r,u⟩:=rL vs o W cur m;refine Yd ⟨g,cap,c2,rfl,x,r,t,v,by rw[u];exact q,?_⟩;have z:n*s<=cur.size:=by rw[q];exact yAv s t
  apply yBK;intro i;rw[RG.rep_at hx,ZE,<-w];have c1:∀i,W.cell? ⟨g,i,none⟩=cur[i]?:=λi=>cell_of_row W g i cur e (0,0) m
  have l:(W.setCells g o vs).cell? ⟨g,i,none⟩=c2[i]?:=cell_of_row _ g i c2 e (0,0) r;by_cases c:i<n*s
  .rw[yE3 c];by_cases b:o<=i/\i<o+vs.length
   .rw[yE3 b];have f:i-o<vs.length:=oM;have:=World.cell?_setCells_in g vs o W (λj f=>by rw[c1 (o+j),Ye oM];rfl) (i-o) f;rw[show o+(i-o)=i by omega,l]at this;rw[YI,this,XV f]
   .rw[yE4 b,ZE,yE3 c,YI,YI,<-l,<-c1 i];exact World.cell?_setCells_out g vs o W ⟨g,i,none⟩ (λ_ _=>by show i<o\/o+vs.length<=i;omega)
  .rw[yE4 c,yE4 oM,ZE,yE4 c]
def N6{xs ys vs:List XG}{o:Nat}:rep (xs++ys) (xs.length+o) vs=xs++rep ys o vs:=by
 unfold rep;rw[List.take_length_add_append,Nat.add_assoc,List.drop_length_add_append,List.append_assoc]
def iJ{n:Nat}{p:Bs}(k:p.size=33):(wn n++aA p).length=37:=by rw[XP,aB k];rfl
def fU(x:Nat × Bs)(r:LB):aR (x :: r)=(wn x.1++aA x.2)++aR r:=by unfold aR;rw[yCi]
def Aa(s:Nat):∀(l:LB) (j:Nat) (k:j<l.length),(∀x∈l.map (·.2),x.size=33)->aR (l.set j (s,(l[j]).2))=rep (aR l) (37*j) (wn s)
 | [],j,k,_=>by cases k
 | x :: r,0,_,_=>by
  show aR ((s,x.2) :: r)=_;rw[fU,fU];rfl
 | x :: r,j+1,k,hs=>by
  have hx:=iJ (n:=x.1) (hs x.2 (by simp));show aR (x :: r.set j (s,(r[j]'(by simpa using k)).2))=_;rw[fU,fU,Aa s r j (by simpa using k) (λy b=>hs y (Yx _ b)),show 37*(j+1)=(wn x.1++aA x.2).length+37*j by rw[hx];omega,N6]
def at?_some{p:Bs}:∀ {l:LB}{i j:Nat},at? p (l.map (·.2)) i=some j->i<=j/\∃h:j-i<l.length,(l[j-i]).2=p/\∀n,fQ N l n p=l.set (j-i) (sPl N (l[j-i]).1 n,p)
 | [],i,j,h=>by cases h
 | (s,q) :: r,i,j,h=>by
  rw[yAg]at h;unfold at? at h;by_cases k:p=q
  .rw[yE3 k]at h;obtain rfl:=X5.inj h;refine⟨XH _,by simp,?_,λn=>?_⟩
   .simp[k]
   .unfold fQ;rw[yE3 k];simp[k]
  .rw[yE4 k]at h;obtain⟨d,f,b,c⟩:=at?_some h;have e:j-i=(j-(i+1))+1:=oM;refine⟨oM,by simp;omega,?_,λn=>?_⟩
   .simp only[e,yDa];exact b
   .unfold fQ;rw[yE4 k,c n];simp only[e,yDa,XM]
def MN{n:Nat}{p:Bs}{l:LB}{j:Nat}(h:at? p (l.map (·.2)) 0=some j):(fQ N l n p).map (·.2)=l.map (·.2)/\(fQ N l n p).length=l.length:=by
 obtain⟨-,b,c,d⟩:=at?_some (N:=N) h;rw[d n];refine⟨?_,List.length_set ..⟩;rw[List.map_set];apply yBK;intro i;rw[List.getElem?_set];by_cases k:j-0=i
 .subst k;rw[yE3 rfl,yE3 (by rw[X7];exact b),YC,XV b];exact congrArg some c.symm
 .rw[yE4 k]
def Mx.again{w W:XF}{m g cap:Nat}{l:LB}{p:Bs}{j:Nat}(h:Mx w W m l (sZ g l.length cap))(e:∀x∈l.map (·.2),x.size=33)(d:at? p (l.map (·.2)) 0=some j)(o:j<l.length)(n:Nat):
 Mx w (W.setCells g (37*j) (wn (sPl N (l[j]).1 n))) m (fQ N l n p) (sZ g l.length cap):=by
 have k:=h.own_ne (g:=g) rfl;obtain⟨f,b⟩:=MN (N:=N) (n:=n) d;refine⟨RG.below_setCells k.2.1 _ _ _ h.bl,?_,h.lm,?_⟩
 .rw[aE _ _ _ _ (Ne.symm k.1),f,b];exact h.mp
 .obtain⟨-,q,c,i⟩:=at?_some (N:=N) d;have e3:fQ N l n p=l.set j (sPl N (l[j]).1 n,(l[j]).2):=by rw[i n];simp only[yBI]at c⊢;rw[c]
  rw[b,e3,Aa _ l j o e];exact Kl h.ow (by show 37*j+4<=_;omega)
def EM{ns:Nat->Nat}(O:Ord N)(c:Nat->Bs){k:Nat}(d:∀j,j<k->ns j<N):∀i,i<=k->∀x∈mrg N ns c i,x.1<N
 | 0,_=>λx hx=>by cases hx
 | i+1,hi=>by
  have g:=EM O c d i oM;have h:∀(l:LB) n p,n<N->(∀x∈l,x.1<N)->∀x∈fQ N l n p,x.1<N:=by
   intro l n p e;induction l with
   | nil=>intro _ x hx;simp[fQ]at hx;rw[hx];exact e
   | cons y r ihr =>
    intro b x hx;unfold fQ at hx;split at hx
    .rcases Zc.1 hx with rfl|hx
     .exact Zi _ O.pos
     .exact b x (Yx _ hx)
    .rcases Zc.1 hx with rfl|hx
     .exact b _ YL
     .exact ihr (λz f=>b z (Yx _ f)) x hx
  exact h _ _ _ (d i oM) g
end
section
variable {N:Nat}
section
variable (w:XF) (m g4 cap k6 j s n z:Nat) (l:List (Nat × Bs)) (p:Bs)
def Ra:Nat->XG->XF->Prop
 | 0,v,_=>v=sZ g4 l.length cap
 | 1,v,_=>v=iZ j
 | 2,v,_=>v=sZ g4 l.length cap
 | 3,v,_=>v=iZ j
 | 4,v,_=>v=oZ g4 (0+37*j)
 | 5,v,_=>v=oZ g4 (0+37*j)
 | 6,v,_=>v=nv s
 | 7,v,_=>v=jZ k6
 | 8,v,_=>v=nv n
 | 9,v,_=>v=nv z
 | 10,v,_=>v=oZ g4 (0+37*j)
 | 11,v,_=>v=oZ g4 (0+37*j)
 | _,_,_=>True
def TA{i:Nat}{v:XG}{W W':XF}(h:Ra g4 cap k6 j s n z l i v W):Ra g4 cap k6 j s n z l i v W':=by
 match i,h with
 | 0,h=>exact h
 | 1,h=>exact h
 | 2,h=>exact h
 | 3,h=>exact h
 | 4,h=>exact h
 | 5,h=>exact h
 | 6,h=>exact h
 | 7,h=>exact h
 | 8,h=>exact h
 | 9,h=>exact h
 | 10,h=>exact h
 | 11,h=>exact h
 | _+12,_=>trivial
def Ga:Gw:=⟨Ra g4 cap k6 j s n z l,λW=>Mx w W m l (sZ g4 l.length cap)/\Row W k6 (wn n++aA p),λ_ _ _ _ _ h=>TA g4 cap k6 j s n z l h,λ_ _ k h=>⟨h.1.kept k,h.2.below k⟩⟩
end
def range_front'{W:XF}{k o:Nat}{xs ys:List XG}(h:W.rangeAt k o (xs++ys)):W.rangeAt k o xs:=λj v b=>h j v (by rw[X1 (XT.1 b).1];exact b)
def Mx.drew{w W:XF}{m:Nat}{l:LB}{v:XG}(h:Mx w W m l v):Mx w W.drew m l v:=⟨h.bl.drew,h.mp,h.lm,h.ow⟩
def KY(O:Ord N)(R:XG->XF->Prop)(g k c:Nat)(hk:k<=1000)(ns:Nat->Nat)(o:Nat->Bs)(ha:∀j,j<k->(o j).size=33)(hn:∀j,j<k->ns j<N)(w:XF)(hg:g<w.heap.size)(hr:∀j,j<k->w.rangeAt g (37*j) (wn (ns j)++aA (o j)))
 (h7:∀W v,Mx w W w.heap.size (mrg N ns o k) v->cZ 109 #[v,.func (.func 110) #[] #[]] W (Ret R)) :
 cZ 63 #[sZ g k c] w (Ret R):=by
 have h0:=Hid.mk' h7;have k4:(yEh 202 none).run prog w=.ok (.map (some w.heap.size)) (w.alloc (.map #[] 0)):=kR;obtain⟨w1,h5⟩:=hE (w.alloc (.map #[] 0));rw[h5.out]at k4;have M1:Hid (Mx w w1 w.heap.size (mrg N ns o 0) nZ):=by
  rw[<-h5.out];exact⟨aC _,by show(w.heap.push (.map #[] 0))[w.heap.size]? = _;rw[Array.getElem?_push_size];rfl,XH _,rfl,Yk ⟨rfl,rfl⟩⟩
 have K:=mk5 O ha hn hg hr;obtain⟨d,hz,hw⟩:=XK.1 uCP;obtain⟨d',k8,k3⟩:=XK.1 uT;have J:Hid ((prog.underlying 51=some d/\d.isRow=true)/\prog.underlying 124=some d'/\d'.isRow=true):=⟨⟨hz,hw⟩,k8,k3⟩
 go_enter func63,ntmps63;go_wp2;go_loopg [4,12] k (λq s4 s12 W=>∃i:Nat,i+q=k/\s12=iZ i/\Hid (Mx w W w.heap.size (mrg N ns o i) s4))
 case atStart=>exact⟨0,oM,rfl,M1⟩
 case round =>
  obtain⟨i,kf,rfl,U⟩:=hrel;by_cases hi:i<k
  .have hy:(i:Int)<(k:Int):=oM;obtain⟨n,G⟩:=hE (ns i);obtain⟨p,F⟩:=hE (o i);obtain⟨l,hl⟩:=hE (mrg N ns o i);rw[hl.out]at U;have r:Hid (p.size=33):=by have:=K.2.1 i hi;rw[F.out]at this;exact this
   have hm:Hid (l.length<=i):=by have:=BS (N:=N) ns o i;rw[hl.out]at this;exact this
   obtain⟨q,cap,rfl⟩:=Iy U.ow;obtain⟨Q,Z⟩:=hE (lZ wr zT 124);obtain⟨H,X⟩:=hE (Q.setCells wr.heap.size 0 (wn n++aA p));have m:(wn n++aA p).length=37:=by rw[XP,aB r.out];rfl
   have F1:Hid (Row Q wr.heap.size zT/\kZ wr Q/\Q.heap.size=wr.heap.size+1):=by rw[<-Z.out];exact⟨row_new wr _ _,aC _,XS _ _⟩
   have F2:Hid (Row H wr.heap.size (wn n++aA p)/\kZ wr H/\H.heap.size=wr.heap.size+1):=by rw[<-X.out];exact⟨F1.1.put (by rw[m];rfl),RG.below_setCells (XH _) _ _ _ F1.2.1,by rw[setCells_size];exact F1.2.2⟩
   have S:=mk1 (U.kept F2.2.1);have C:∀x∈l.map (·.2),x.size=33:=by have:=yT (N:=N) ns o K.2.1 i oM;rw[hl.out]at this;exact this
   cases E:at? p (l.map (·.2)) 0 with
   | none =>
    have b:=mk1 (E);have B1:=Hid.mk' (Db r C S.mp);rw[b.out]at B1;have B2:Hid ((yBR 202 (.map (some w.heap.size)) (.agg (aA p).toArray) (iZ (l.length:Int))).run prog H=.ok () (H.putObj w.heap.size (.map (ents (l.map (·.2)++[p]) 0).toArray (l.length+1)))):=by
     have h:=Nr r C w.heap.size H (by rw[X7];exact S.mp) b;rw[X7]at h;exact h
    obtain⟨v',W5,f,K5,kg,-⟩:=S.push r (oN hm) n;obtain⟨P,A⟩:=hE (H.putObj w.heap.size (.map (ents (l.map (·.2)++[p]) 0).toArray (l.length+1)));have F3:Hid (Row P wr.heap.size (wn n++aA p)/\P.heap.size=wr.heap.size+1):=by rw[<-A.out];exact⟨F2.1.putObj S.mp rfl _,by simp[yC2];exact F2.2.2⟩
    have V:=Hid.mk' (Vw r n P);obtain⟨W4,L⟩:=hE (lZ P (wn n++aA p) 124);rw[A.out]at B2 f;rw[L.out]at V f;rw[F3.2]at V;rw[F2.2.2]at f;have ka:Hid (Mx w W5 w.heap.size (mrg N ns o (i+1)) v'):=by
     have e:mrg N ns o (i+1)=l++[(n,p)]:=by
      show fQ N (mrg N ns o i) (ns i) (o i)=_;rw[hl.out,G.out,F.out];exact DN b
     rw[e];exact K5
    have B0:Hid (wr.rangeAt g (37*i) (wn n++aA p)):=by
     have h:=RG.range_below (K.2.2.2.2 i hi) U.bl K.2.2.2.1;rw[G.out,F.out]at h;exact h
    have M:Hid (gZ 124 (wn n++aA p).length):=by show _=_;rw[m];exact iT
    have I:Hid (gZ 124 (wn n++aA p).toArray.size/\Q.there wr.heap.size 0 (wn n++aA p).toArray.size):=by
     have e:(wn n++aA p).toArray.size=37:=by rw[YJ];exact m
     rw[e];exact⟨iT,F1.1.2.2⟩
    have Y:Hid (gZ 51 (aA p).length):=by show _=_;rw[aB r.out];exact dA
    have HB:=mk1 (mR (xs:=wn n) F2.1.2.1);have T:Hid ((wn n++aA p).toArray.all (·.oneCell')=true):=by
     show _=_;rw[ZJ];intro u hu;exact cells_one u (yAu.1 hu)
    have k2:=atT g 0 c hi;have hq:=Hid.mk' f;obtain⟨vt,B⟩:=hE (Yg (wn n++aA p).toArray);obtain⟨vp,D⟩:=hE (Yg (aA p).toArray);rw[D.out]at B1 B2;rw[B.out]at V;go_wp2_with (first|(refine YG rfl 124 _ rfl g (37*i) ?_ (wn n++aA p) d' ?_ ?_ ?_ ?_ ?_;rfl;exact B0;exact J.2.1;exact J.2.2;exact M;rw[B.out])|(refine bF (v:=jZ wr.heap.size) (w':=Q) rfl (.alloc 124) rfl ?_ ?_;(rw[<-Z.out];kernel_rfl))|(refine Yi rfl 124 _ _ rfl wr.heap.size 0 (wn n++aA p).toArray ?_ ?_ ?_ ?_ ?_ ?_;rfl;exact B.symm;exact I.2;exact I.1;exact T;rw[show(wn n++aA p).toArray.toList=wn n++aA p from rfl,X.out])|(refine YG rfl 51 _ rfl wr.heap.size 4 ?_ (aA p) d ?_ ?_ ?_ ?_ ?_;rfl;exact HB;exact J.1.1;exact J.1.2;exact Y;rw[D.out])|(refine Au (x:=.map (some w.heap.size)) (y:=vp) (w':=H) rfl 202 _ _ true rfl ?_ ?_ B1 ?_;rfl;rfl)|(refine Ig (x:=.map (some w.heap.size)) (y:=vp) (z:=iZ (l.length:Int)) (w':=P) rfl 202 _ _ _ rfl ?_ ?_ ?_ B2 ?_;rfl;rfl;rfl)|(refine YG rfl 124 _ rfl wr.heap.size 0 ?_ (wn n++aA p) d' ?_ ?_ ?_ ?_ ?_;rfl;exact F3.1.2.1;exact J.2.1;exact J.2.2;exact M;rw[B.out])|(refine jM (v:=sZ (wr.heap.size+1) 1 1) (w':=W4) rfl 82 1 _ rfl #[(0,vt)] ?_ V ?_;kernel_rfl)|(refine mI (x:=.slice q l.length cap) (y:=sZ (wr.heap.size+1) 1 1) (v:=v') (w':=W5) rfl _ _ 82 rfl ?_ ?_ ?_ ?_;rfl;rfl;exact hq))
    go_roundg (gk-1)
    case measure=>omega
    case rel=>exact⟨i+1,oM,rfl,ka⟩
   | some j =>
    obtain⟨-,A,h8,-⟩:=at?_some (N:=N) E;rw[yBI]at A;simp only[yBI]at h8;have B1:=Hid.mk' (Db r C S.mp);rw[E]at B1;obtain⟨f,ke,k5,-,k0,k9⟩:=uB S.ow C oM;injection k5 with q1 q2 q3
    subst q1;obtain⟨s,h6⟩:∃s,Hid ((l[j]'A).1=s):=⟨(l[j]'A).1,(rfl:(l[j]'A).1=(l[j]'A).1)⟩
    have kb:Hid (s<N):=by
     have:=EM K.1 o K.2.2.1 i oM;rw[hl.out]at this;rw[<-h6.out];exact this _ (YS A)
    have k6:Hid (n<N):=G.out▸K.2.2.1 i hi;have B0:Hid (wr.rangeAt g (37*i) (wn n++aA p)):=by
     have h:=RG.range_below (K.2.2.2.2 i hi) U.bl K.2.2.2.1;rw[G.out,F.out]at h;exact h
    have M:Hid (gZ 124 (wn n++aA p).length):=by show _=_;rw[m];exact iT
    have I:Hid (gZ 124 (wn n++aA p).toArray.size/\Q.there wr.heap.size 0 (wn n++aA p).toArray.size):=by
     have e:(wn n++aA p).toArray.size=37:=by rw[YJ];exact m
     rw[e];exact⟨iT,F1.1.2.2⟩
    have Y:Hid (gZ 51 (aA p).length):=by show _=_;rw[aB r.out];exact dA
    have HB:=mk1 (mR (xs:=wn n) F2.1.2.1);have T:Hid ((wn n++aA p).toArray.all (·.oneCell')=true):=by
     show _=_;rw[ZJ];intro u hu;exact cells_one u (yAu.1 hu)
    have k2:=atT g 0 c hi;obtain⟨vt,B⟩:=hE (Yg (wn n++aA p).toArray);obtain⟨vp,D⟩:=hE (Yg (aA p).toArray);rw[D.out]at B1;have HL:=mk1 (A);have HS:Hid (∀h:j<l.length,(l[j]'h).1=s):=λ_=>h6
    have HJ:=mk2 E C;have HK:=mk2 S F2.1;have KN:Hid (mrg N ns o (i+1)=fQ N l n p):=by
     show fQ N (mrg N ns o i) (ns i) (o i)=_;rw[hl.out,G.out,F.out]
    clear m C S U h8 q2 q3 k9 k0;clear E;go_wp2_with (first|(refine YG rfl 124 _ rfl g (37*i) ?_ (wn n++aA p) d' ?_ ?_ ?_ ?_ ?_;rfl;exact B0;exact J.2.1;exact J.2.2;exact M;rw[B.out])|(refine bF (v:=jZ wr.heap.size) (w':=Q) rfl (.alloc 124) rfl ?_ ?_;(rw[<-Z.out];kernel_rfl))|(refine Yi rfl 124 _ _ rfl wr.heap.size 0 (wn n++aA p).toArray ?_ ?_ ?_ ?_ ?_ ?_;rfl;exact B.symm;exact I.2;exact I.1;exact T;rw[show(wn n++aA p).toArray.toList=wn n++aA p from rfl,X.out])|(refine YG rfl 51 _ rfl wr.heap.size 4 ?_ (aA p) d ?_ ?_ ?_ ?_ ?_;rfl;exact HB;exact J.1.1;exact J.1.2;exact Y;rw[D.out])|(refine Au (x:=.map (some w.heap.size)) (y:=vp) (w':=H) rfl 202 _ _ true rfl ?_ ?_ B1 ?_;rfl;rfl)|fail)
    refine(Ga w w.heap.size f cap wr.heap.size j s n (sPl N s n) l p).last 12 kR kR kR ⟨
     bL λa W b=>⟨[(4,sZ f l.length cap)],sZ f l.length cap,W,⟨b.o 4 kR,yE5⟩,kR,XX _ _,rfl⟩,
     bL λa W b=>⟨[(7,iZ j)],iZ j,W,⟨b.o 7 kR,yE5⟩,kR,XX _ _,rfl⟩,
     bL λa W b=>⟨[(4,sZ f l.length cap)],sZ f l.length cap,W,⟨b.o 4 kR,yE5⟩,kR,XX _ _,rfl⟩,
     bL λa W b=>⟨[(7,iZ j)],iZ j,W,⟨b.o 7 kR,yE5⟩,kR,XX _ _,rfl⟩,
     bL λa W b=>⟨[(36,sZ f l.length cap),(37,iZ j)],oZ f (0+37*j),W,⟨b.n 2 36 kR kR,b.n 3 37 kR kR,yE5⟩,by
      rw[Zl.injEq];refine⟨kR,?_⟩;show((YV 82 (sZ f l.length cap) (iZ j)) >>= λv=>pure (ZW v)).run prog W=_;rw[X6,atT f 0 cap HL.out];rfl,XX _ _,rfl⟩,
     bL λa W b=>⟨[(38,oZ f (0+37*j))],oZ f (0+37*j),W,⟨b.n 4 38 kR kR,yE5⟩,kR,XX _ _,rfl⟩,
     jF 39 rfl Go.Proofs.YtlofhpkoaljmeaaGreat.u40 λa W b=>⟨f,0+37*j,wn s,b.n 5 39 kR kR,by
      obtain⟨g5,kd,V,-,-,k1⟩:=uB b.b.1.ow HJ.2 (oN HL);injection V with q1 q2 q3
      injection q1 with q1
      injection q1 with q1
      subst q1;have:=k1 j HL;rw[HS HL.out]at this;rw[XQ];exact range_front' this,i40,rfl⟩,
     bL λa W b=>⟨[(6,jZ wr.heap.size)],jZ wr.heap.size,W,⟨b.o 6 kR,yE5⟩,kR,XX _ _,rfl⟩,
     jF 41 rfl Go.Proofs.YtlofhpkoaljmeaaGreat.u40 λa W b=>⟨wr.heap.size,0,wn n,b.n 7 41 kR kR,kL b.b.2.2.1,i40,rfl⟩,
     gC λa W b=>⟨[(40,nv s),(42,nv n)],25,#[nv s,nv n],⟨b.n 6 40 kR kR,b.n 8 42 kR kR,yE5⟩,kR,(mP K.1 s n kb k6 W).mono (by
      rintro e W' ⟨u,rfl,V,rfl⟩;exact⟨_,rfl,V,rfl⟩)⟩,
     bL λa W b=>⟨[(34,sZ f l.length cap),(35,iZ j)],oZ f (0+37*j),W,⟨b.n 0 34 kR kR,b.n 1 35 kR kR,yE5⟩,by
      rw[Zl.injEq];refine⟨kR,?_⟩;show((YV 82 (sZ f l.length cap) (iZ j)) >>= λv=>pure (ZW v)).run prog W=_;rw[X6,atT f 0 cap HL.out];rfl,XX _ _,rfl⟩,
     bL λa W b=>⟨[(44,oZ f (0+37*j))],oZ f (0+37*j),W,⟨b.n 10 44 kR kR,yE5⟩,kR,XX _ _,rfl⟩,yE5⟩ ⟨HK.1.drew,HK.2⟩ ?_
    intro V P h4 b;have kc:=h4 9 dC;have h2:=h4 11 dC;obtain⟨W4,L⟩:=hE (P.setCells f (37*j) (wn (sPl N s n)));have K4:Hid (Mx w W4 w.heap.size (mrg N ns o (i+1)) (sZ f l.length cap)):=by
     rw[<-L.out,KN.out,<-(HS HL.out)];exact b.1.again HJ.2 HJ.1 HL n
    have h9:Hid (P.there f (37*j) 4):=by
     intro t ht;have hj:=HL;rcases b.1.ow.2 with⟨h,-⟩|⟨g2,h1,cur,he,-,hc,hn,-,hs,-⟩
     .cases h
     .injection he with he1 he2 he3
      injection he1 with he1
      injection he1 with he1
      subst he1;have k7:37*j+t<cur.size:=by
       rw[hs];have:(j+1)*37<=h1*37:=yAv 37 oM;omega
      refine⟨?_,?_⟩
      .simp[YY,hc,k7]
      .simp[Zt,hc]
    dsimp only[bY,YQ,Z4,Z5];simp only[Yo,XJ,XM,XO];obtain⟨vz,h3⟩:=hE (nv (sPl N s n));rw[kc,h2,h3.out,XQ];go_wp2_with (first|(refine Yi rfl 44 _ _ rfl f (37*j) (wn (sPl N s n)).toArray ?_ ?_ ?_ ?_ ?_ ?_;rfl;exact h3.symm;exact h9;exact i40;exact aI;rw[show(wn (sPl N s n)).toArray.toList=wn (sPl N s n) from rfl,L.out])|fail)
    go_roundg (gk-1)
    case measure=>omega
    case rel=>exact⟨i+1,oM,rfl,K4⟩
  .have hy:¬(i:Int)<(k:Int):=oM;obtain rfl:i=k:=oM;go_wp2_with fail
   apply(h0 wr _ U).mono;rintro e m ⟨r,rfl,b⟩;have f:=Hid.mk' b;go_wp2;go_ret;exact⟨_,rfl,f⟩
end
section
variable {P:Nat}[NeZero P]{N:Nat}
def LF(l:LB):LB:=l.filter λx=>x.1 != 0
def qH{l:LB}{j:Nat}(k:j<l.length):LF (l.take (j+1))=LF (l.take j)++(if (l[j]).1=0 then [] else [l[j]]):=by
 unfold LF;rw[yCu,XV k,List.filter_append]
 congr 1
 by_cases h:(l[j]).1=0
 .simp[h]
 .simp[h]
def QE(l:LB)(j:Nat):(LF (l.take j)).length<=j:=
 XN (yDf _ _) (by rw[Z8];exact Nat.min_le_left _ _)
def Cn{l:LB}{x:Nat × Bs}(h:x∈LF l):x∈l:=(yBT.1 h).1
def vQ{ns:Nat->Nat}:∀(m i:Nat),(∃j,i<=j/\j<i+m/\ns j=0)->∃k,lC ns i m=((k:Nat):Int)/\i<=k/\k<i+m/\ns k=0/\∀j,i<=j->j<k->ns j≠0
 | 0,i,h=>by obtain⟨j,f,g,-⟩:=h;omega
 | m+1,i,h=>by
  unfold lC;by_cases b:ns i=0
  .rw[yE3 b];exact⟨i,rfl,XH _,oM,b,λj f g=>oM⟩
  .rw[yE4 b];obtain⟨j,f,g,e⟩:=h;obtain⟨k,o,q,e3,p,n⟩:=vQ m (i+1) ⟨j,by
    rcases Zx i j with h|h
    .omega
    .obtain rfl:j=i:=oM;exact absurd e b,oM,e⟩
   refine⟨k,o,oM,oM,p,λd l c=>?_⟩;rcases Zx i d with h|h
   .exact n d h c
   .obtain rfl:d=i:=oM;exact b
def Rw(W:XF)(g j:Nat)(x:Nat × Bs):Prop:=W.rangeAt g (37*j) (wn x.1++aA x.2)
def Rw.below{W W':XF}{g j:Nat}{x:Nat × Bs}(h:Rw W g j x)(b:kZ W W')(k:g<W.heap.size):Rw W' g j x:=RG.range_below h b k
structure Dz(base:Nat)(w W:XF)(g:Nat)(l:LB)(j:Nat):Prop where
 bl:Below base w W
 hb:base<=W.heap.size
 lt:g<W.heap.size
 th:W.there g 0 (37*l.length)
 lo:∀a (ha:a<(LF (l.take j)).length),Rw W g a ((LF (l.take j))[a])
 hi:∀b (hb:b<l.length),j<=b->Rw W g b (l[b])
def Dz.grow{k:Nat}{w W W':XF}{g:Nat}{l:LB}{j:Nat}(h:Dz k w W g l j)(c:kZ W W'):Dz k w W' g l j:=
 ⟨h.bl.trans (c.mono h.hb),XN h.hb c.size,XI h.lt c.size,dJ h.th c h.lt,λa f=>(h.lo a f).below c h.lt,λb d e=>(h.hi b d e).below c h.lt⟩
def Dz.skip{k:Nat}{w W:XF}{g:Nat}{l:LB}{j:Nat}(h:Dz k w W g l j)(c:j<l.length)(d:(l[j]).1=0):Dz k w W g l (j+1):=by
 have e:LF (l.take (j+1))=LF (l.take j):=by rw[qH c,yE3 d,yAt]
 exact⟨h.bl,h.hb,h.lt,h.th,λa i=>by
  have m:=h.lo a (by rw[<-e];exact i);simp only[e];exact m,λb f c=>h.hi b f oM⟩
def Dz.put{k:Nat}{w W:XF}{g:Nat}{l:LB}{j:Nat}(h:Dz k w W g l j)(o:k<=g)(q:∀x∈l.map (·.2),x.size=33)(n:j<l.length)(s:(l[j]).1≠0):
 Dz k w (W.setCells g (37*(LF (l.take j)).length) (wn (l[j]).1++aA (l[j]).2)) g l (j+1):=by
 have e:LF (l.take (j+1))=LF (l.take j)++[l[j]]:=by rw[qH n,yE4 s]
 have r:=QE l j;have f:∀x∈l,(wn x.1++aA x.2).length=37:=λx hx=>iJ (q x.2 (YD.2 ⟨x,hx,rfl⟩))
 have c:=f (l[j]) (YS n);refine⟨RG.below_setCells o _ _ _ h.bl,by rw[setCells_size];exact h.hb,by rw[setCells_size];exact h.lt,Za h.th _ _ _,λa m=>?_,λb u v=>?_⟩
 .simp only[e]at m⊢;by_cases d:a<(LF (l.take j)).length
  .rw[List.getElem_append_left d];have p:=h.lo a d;have i:=yDj (Cn (YS d));exact Yr p g _ _ (Yd (Yk (by rw[f _ i];omega)))
  .have i:a=(LF (l.take j)).length:=by rw[XP,List.length_singleton]at m;omega
   subst i;rw[List.getElem_append_right (XH _)];simp only[Nat.sub_self,List.getElem_singleton];refine YW W g _ _ λt p=>?_
   rw[c]at p;have:=h.th (37*(LF (l.take j)).length+t) oM;rwa[XQ]at this
 .exact Yr (h.hi b u oM) g _ _ (Yd (Yd (by rw[c];omega)))
def Jj(n:Nat):∀v∈(Zy (Yg zT.toArray).cells n).toList,v.oneCell'=true:=by
 intro v hv;have b:=QK;have d:(Yg zT.toArray).cells.size=37:=kR;unfold Zy at hv;rw[Array.toList_map]at hv;obtain⟨i,-,rfl⟩:=YD.1 hv;have k:i%(Yg zT.toArray).cells.size<(Yg zT.toArray).cells.size:=Zi _ (by rw[d];decide);rw[getElem!_pos (Yg zT.toArray).cells _ k];exact b _ (by
  have e:(Yg zT.toArray).cells.toList=zT:=kR;have c:=Array.getElem_mem_toList k;rwa[e]at c)
def O2(g i n c:Nat)(w:XF)(p:0<n)(h:w.there g 0 (37*(i+n))):∃Z:List XG,∀e,(yDD #[82] e #[qZ g (37*i) n c]).run prog w=.ok (.tuple #[]) (w.setCells g (37*i) Z):=by
 have d:=QJ w;have l:=yA8 D3 w;have ho:=Jj n;have k:(Zy (Yg zT.toArray).cells n).toList.length=n*37:=by
  have:(Yg zT.toArray).cells.size=37:=kR;rw[X0,size_zeroCells,this]
 generalize (Yg zT.toArray)=f at d ho k;generalize m:(Zy f.cells n).toList=Z at ho k;have o:(storeCells ⟨g,37*i,none⟩ Z).run prog w=.ok () (w.setCells g (37*i) Z):=
  run_storeCells_cells (P:=prog) g (37*i) Z 0 w (λj b=>by rw[k]at b;have:=(h (37*i+j) oM).1;simpa using this) (λj b=>by rw[k]at b;have:=(h (37*i+j) oM).2;simpa using this) ho
 refine⟨Z,λe=>?_⟩;obtain⟨b,rfl⟩:∃b,n=b+1:=⟨n-1,oM⟩
 unfold yDD;simp[X6,l,d,m,o]
def Wr{n c:Nat}(g i:Nat)(k:i<=n)(d:n<=c)(w:XF):(ZH 82 (sZ g n c) none (some (iZ i)) none).run prog w=.ok (sZ g i c) w:=by
 have b:¬(i:Int)<0:=oM;have e:(i:Int)<=(c:Int):=oM;go_simp
def Wq{n c i:Nat}(g:Nat)(k:i<n)(d:n<=c)(w:XF):(ZH 82 (sZ g n c) (some (iZ i)) none none).run prog w=.ok (qZ g (37*i) (n-i) (c-i)) w:=by
 have b:¬(i:Int)<0:=oM;have e:(i:Int)<=(n:Int):=oM;go_simp;rw[yE4 oM,YN]
def TmL(W:XF)(q:Option Y4)(l:LB):Prop:=0<l.length->∃g,q=some (aZ g)/\g<W.heap.size/\∀j (k:j<l.length),W.rangeAt g (37*j) (wn (l[j]).1++aA (l[j]).2)
def XA(k:Nat)(l:LB)(w:XF)(e:XG)(w':XF):Prop:=Below k w w'/\∃q cap,e=.slice q (LF l).length cap/\TmL w' q (LF l)
def H8{l:LB}(h:∀x∈l,x.1≠0):LF l=l:=List.filter_eq_self.2 λx hx=>by simpa using h x hx
def QD{l:LB}{k:Nat}(d:k<l.length)(b:(l[k]).1=0):∀j,k<j->j<=l.length->(LF (l.take j)).length<j
 | 0,h,_=>oM
 | j+1,h,hj=>by
  rw[qH oM,XP];rcases Zx k j with c|c
  .have:=QD d b j c oM;split<;>simp<;>omega
  .obtain rfl:j=k:=oM;rw[yE3 b];have:=QE l j;simp;omega
def Me(l:LB)(hl:0<l.length)(hy:l.length<=1000)(hs:∀x∈l.map (·.2),x.size=33)(hn:∀x∈l,x.1<top)(d:Nat)(v:XG)(w:XF)(hb:d<=w.heap.size)(ho:w.ownsRow d 124 37 v l.length (aR l)):
 cZ 109 #[v,.func (.func 110) #[] #[]] w (Ret (XA d l w)):=by
 obtain⟨g,c,rfl,h9,A,S⟩:=uB ho hs hl;have F:∀(j:Nat) (k:j<l.length),(l[j]).2.size=33:=λj k=>hs _ (YD.2 ⟨_,YS k,rfl⟩)
 have C:l.length<=c/\w.there g 0 (37*l.length):=by
  rcases ho.2 with⟨h,-⟩|⟨z,r,cur,y,-,q,f,-,o,-⟩
  .cases h
  .injection y with he1 he2 he3
   injection he1 with he1
   injection he1 with he1
   subst he1;subst he3;refine⟨f,λt ht=>?_⟩;have s:0+t<cur.size:=by
    rw[o];have:l.length*37<=c*37:=yAv 37 f;omega
   exact⟨by simp only[YY,q];simp;omega,by simp[Zt,q]⟩
 by_cases y:∀x∈l,x.1≠0
 .have J:=H8 y;refine(Ds g l.length c oM (λj=>((l[j]?).getD (0,#[])).1) (λj=>((l[j]?).getD (0,#[])).2) (λj k=>by rw[XV k];exact hn _ (YS k)) (λj k=>by rw[XV k];exact y _ (YS k)) (λj k=>by rw[XV k];exact F j k) w A (λj k=>by rw[XV k];exact S j k)).mono ?_;rintro e o ⟨vv,rfl,f,rfl⟩;refine⟨_,rfl,f.mono hb,some (aZ g),c,by rw[J],?_⟩;rw[J];exact λ_=>⟨g,rfl,XI A f.size,λj k=>RG.range_below (S j k) f A⟩
 .have hI:=GM g l.length c oM (λj=>((l[j]?).getD (0,#[])).1) (λj=>((l[j]?).getD (0,#[])).2) (λj k=>by rw[XV k];exact hn _ (YS k)) (λj k=>by rw[XV k];exact F j k) w A (λj k=>by rw[XV k];exact S j k);obtain⟨o,e1,-,e3,U,e5⟩:=vQ (ns:=λj=>((l[j]?).getD (0,#[])).1) l.length 0 (by
   have:∃x,x∈l/\x.1=0:=Zw λh=>y λx hx I=>h ⟨x,hx,I⟩
   obtain⟨x,hx,f⟩:=this;obtain⟨j,k⟩:=ZK hx;exact⟨j,Zq _,oN ((XT.1 k).1),by show((l[j]?).getD (0,#[])).1=0;rw[k];exact f⟩)
  rw[e1]at hI;have E:o<l.length:=oM;have G:(l[o]).1=0:=by
   have:((l[o]?).getD (0,#[])).1=0:=U;rw[XV E]at this;exact this
  have B:LF (l.take o)=l.take o:=H8 λx hx=>by
   obtain⟨j,k⟩:=ZK hx;rw[ZE]at k;split at k
   .rename_i hji
    have:=e5 j (Zq _) hji;have f:((l[j]?).getD (0,#[])).1≠0:=this;rw[k]at f;exact f
   .cases k
  have D:(LF (l.take o)).length=o:=by rw[B,Z8];omega
  have D0:Dz d w w g l o:=⟨XX _ _,hb,A,C.2,λa M=>by
   simp only[B]at M⊢;rw[List.getElem_take];exact S a _,λb f _=>S b f⟩
  have D1:Dz d w w g l (o+1):=D0.skip E G;have e6:(LF (l.take (o+1))).length=o:=by rw[qH E,yE3 G,yAt];exact D
  have HI:=Hid.mk' hI;have HZ:Hid (∀j,o<j->j<=l.length->(LF (l.take j)).length<j):=QD E G;have hg:=Hid.mk' D1;have L:Hid (d<=g/\l.length<=c/\(∀x∈l.map (·.2),x.size=33)/\(∀x∈l,x.1<top)/\∀(j:Nat) (k:j<l.length),(l[j]).2.size=33):=⟨h9,C.1,hs,hn,F⟩
  obtain⟨d',h8,h5⟩:=XK.1 uT;have R:Hid (prog.underlying 124=some d'/\d'.isRow=true):=⟨h8,h5⟩
  have hz:¬((o:Int) = -1):=oM;clear h8 h5 hI D0 D1 hs hn ho S F C y e1 U e5 B D G h9 A;go_enter func109,ntmps109;go_wp2_with fail
  refine HI.mono ?_;rintro e w1 ⟨vv,rfl,h1,rfl⟩;have K1:Hid (Dz d w w1 g l (o+1)):=hg.grow h1;clear h1 HI hg;go_wp2_with fail
  go_loopg [5,6] (l.length-(o+1)) (λm s5 s6 W=>∃j:Nat,o<j/\j+m=l.length/\s6=iZ j/\s5=iZ ((LF (l.take j)).length:Int)/\Hid (Dz d w W g l j))
  case atStart=>exact⟨o+1,oM,oM,rfl,by rw[e6],K1⟩
  case round =>
   clear K1;obtain⟨j,X,hq,rfl,rfl,H⟩:=hrel;by_cases k:j<l.length
   .have hm:(j:Int)<(l.length:Int):=oM;obtain⟨n,r⟩:∃n,Hid ((l[j]'k).1=n):=⟨(l[j]'k).1,(rfl:(l[j]'k).1=(l[j]'k).1)⟩
    obtain⟨p,N⟩:∃p,Hid ((l[j]'k).2=p):=⟨(l[j]'k).2,(rfl:(l[j]'k).2=(l[j]'k).2)⟩
    obtain⟨i,f⟩:=yH ((LF (l.take j)).length);have s:i<l.length:=by have:=HZ j X oM;rw[f.out]at this;omega
    rw[f.out];have h2:Hid (p.size=33):=N.out▸L.2.2.2.2 j k;have hk:Hid (n<top):=r.out▸L.2.2.2.1 _ (YS k);have B0:Hid (wr.rangeAt g (37*j) (wn n++aA p)):=by
     have h:=H.hi j k (XH _);unfold Rw at h;rw[r.out,N.out]at h;exact h
    obtain⟨K,h4⟩:=yH (wr.alloc (.cells zT.toArray 124));obtain⟨T,Y⟩:=yH (K.setCells wr.heap.size 0 (wn n++aA p));have z:(wn n++aA p).length=37:=iJ h2;have F1:Hid (Row K wr.heap.size zT/\kZ wr K/\K.heap.size=wr.heap.size+1):=by rw[<-h4.out];exact⟨row_new wr _ _,aC _,XS _ _⟩
    have F2:Hid (Row T wr.heap.size (wn n++aA p)/\kZ wr T):=by rw[<-Y.out];exact⟨F1.1.put (by rw[z];rfl),RG.below_setCells (XH _) _ _ _ F1.2.1⟩
    have Q:Hid (gZ 124 (wn n++aA p).length):=by show _=_;rw[z];exact iT
    have O:Hid (gZ 124 (wn n++aA p).toArray.size/\K.there wr.heap.size 0 (wn n++aA p).toArray.size):=by
     have e:(wn n++aA p).toArray.size=37:=by rw[YJ];exact z
     rw[e];exact⟨iT,F1.1.2.2⟩
    have V:Hid ((wn n++aA p).toArray.all (·.oneCell')=true):=by
     show _=_;rw[ZJ];intro u q;exact cells_one u (yAu.1 q)
    have hw:=atT g 0 c k;obtain⟨vt,h7⟩:=yH (tvl n p);have q:Hid (Yg (wn n++aA p).toArray=vt):=h7;have K2:Hid (Dz d w T g l j):=H.grow F2.2;have HN:=Hid.mk' (KO hk h2 T);rw[h7.out]at HN;clear H;go_wp2_with (first|(refine YG rfl 124 _ rfl g (37*j) ?_ (wn n++aA p) d' ?_ ?_ ?_ ?_ ?_;rfl;exact B0;exact R.1;exact R.2;exact Q;rw[q.out])|(refine bF (v:=jZ wr.heap.size) (w':=K) rfl (.alloc 124) rfl ?_ ?_;(rw[<-h4.out];kernel_rfl))|(refine Yi rfl 124 _ _ rfl wr.heap.size 0 (wn n++aA p).toArray ?_ ?_ ?_ ?_ ?_ ?_;rfl;exact q.symm;exact O.2;exact O.1;exact V;rw[show(wn n++aA p).toArray.toList=wn n++aA p from rfl,Y.out])|(refine YG rfl 124 _ rfl wr.heap.size 0 ?_ (wn n++aA p) d' ?_ ?_ ?_ ?_ ?_;rfl;exact F2.1.2.1;exact R.1;exact R.2;exact Q;rw[q.out])|fail)
    refine HN.mono ?_;rintro e Z ⟨vv,rfl,P,rfl⟩;have K3:Hid (Dz d w Z g l j/\Row Z wr.heap.size (wn n++aA p)):=⟨K2.grow P,F2.1.below P⟩
    clear P K2 HN F2 F1;by_cases I:n=0
    .rw[show decide (n=0)=true by simp[I]];have K4:Hid (Dz d w Z g l (j+1)):=K3.1.skip k (r.out▸I);have U:Hid ((LF (l.take (j+1))).length=i):=by
      show _=_;rw[qH k,yE3 (r.out▸I),yAt];exact f
     go_wp2;go_roundg (gk-1)
     case measure=>omega
     case rel=>exact⟨j+1,oM,oM,rfl,by rw[U.out],K4⟩
    .rw[show decide (n=0)=false by simp[I]];obtain⟨W4,h3⟩:=yH (Z.setCells g (37*i) (wn n++aA p));have K4:Hid (Dz d w W4 g l (j+1)):=by
      have h:=K3.1.put L.1 L.2.2.1 k (r.out▸I);rw[f.out,r.out,N.out,h3.out]at h;exact h
     have U:Hid ((LF (l.take (j+1))).length=i+1):=by
      show _=_;rw[qH k,yE4 (r.out▸I),XP,f.out];rfl
     have hi:Hid (Z.there g (37*i) (wn n++aA p).toArray.size):=by
      have e:(wn n++aA p).toArray.size=37:=by rw[YJ];exact z
      rw[e];intro t ht;have:=K3.1.th (37*i+t) oM;rwa[XQ]at this
     have hp:=atT g 0 c s;go_wp2_with (first|(refine YG rfl 124 _ rfl wr.heap.size 0 ?_ (wn n++aA p) d' ?_ ?_ ?_ ?_ ?_;rfl;exact K3.2.2.1;exact R.1;exact R.2;exact Q;rw[q.out])|(refine Yi rfl 124 _ _ rfl g (37*i) (wn n++aA p).toArray ?_ ?_ ?_ ?_ ?_ ?_;rfl;exact q.symm;exact hi;exact O.1;exact V;rw[show(wn n++aA p).toArray.toList=wn n++aA p from rfl,h3.out])|fail)
     go_roundg (gk-1)
     case measure=>omega
     case rel=>exact⟨j+1,oM,oM,rfl,by rw[U.out];rfl,K4⟩
   .have hm:¬(j:Int)<(l.length:Int):=oM;obtain rfl:j=l.length:=oM;have J:LF (l.take l.length)=LF l:=by rw[yCt]
    rw[J];have s:(LF l).length<l.length:=by have:=HZ l.length X (XH _);rw[J]at this;exact this
    have z:∀a (M:a<(LF l).length),Rw wr g a ((LF l)[a]):=λa M=>by
     have:=H.lo a (by rw[J];exact M);simp only[J]at this;exact this
    have q:∀x∈LF l,(wn x.1++aA x.2).length=37:=λx hx=>iJ (L.2.2.1 _ (YD.2 ⟨x,Cn hx,rfl⟩))
    obtain⟨Z,P⟩:=O2 g (LF l).length (l.length-(LF l).length) (c-(LF l).length) wr oM (by rw[show(LF l).length+(l.length-(LF l).length)=l.length by omega];exact H.th);obtain⟨I,r⟩:=yH (wr.setCells g (37*(LF l).length) Z);rw[r.out]at P;have O:Hid (Below d w I/\TmL I (some (aZ g)) (LF l)):=by
     rw[<-r.out];refine⟨RG.below_setCells L.1 _ _ _ H.bl,λ_=>⟨g,rfl,by rw[setCells_size];exact H.lt,λa M=>?_⟩⟩;exact Yr (z a M) g _ _ (Yd (Yk (by rw[q _ (YS M)];omega)))
    have K:=Wq g s L.2.1;have N:=Wr g (LF l).length oM L.2.1;clear H z q J r;obtain⟨i,f⟩:=yH ((LF l).length);rw[f.out]at K N P s⊢;go_wp2;go_ret;exact⟨_,rfl,O.1,some (aZ g),c,by rw[f.out];rfl,O.2⟩
def TX{p:Option Y4}{n c:Nat}{x:UInt8}:encB x≠.slice p n c:=λh=>by cases h
def El(n:Nat)(W:XF)(x:XG)(b:Bs):Prop:=∃k c,x=sZ k n c/\n<=c/\b.size=n/\k<W.heap.size/\hZ W k 0 b
def isL(n:Nat)(W:XF)(g:Nat):Prop:=∃p c,W.cell? ⟨g,0,none⟩=some (.slice p n c)
structure Gr(n:Nat)(v:XG)(W W':XF):Prop where
 gr:W.grownBy W' v.ownBlock
 is:∀g,v.ownBlock=some g->isL n W g
def Gr.of{W W':XF}{n:Nat}(h:kZ W W'):Gr n nZ W W':=
 ⟨⟨h.os,h.tape,h.output,h.size,λk c _=>h.block k c⟩,λg b=>by cases b⟩
def Gr.below{n:Nat}{v:XG}{w W W':XF}{B:Nat}(h:Gr n v W W')(b:Below B w W)(c:B<=W.heap.size)(hv:∀g,v.ownBlock=some g->B<=g):Below B w W':=
 b.grown h.gr c (λk d=>hv k d)
def Gr.block{n k:Nat}{v:XG}{W W':XF}(h:Gr n v W W')(d:k<W.heap.size)(b:∀p c,W.cell? ⟨k,0,none⟩≠some (.slice p n c)):W'.heap[k]? = W.heap[k]? :=
 h.gr.block k d λe=>by
  obtain⟨p,c,f⟩:=h.is k e.symm;exact b p c f
def Holds.kept{W W':XF}{k:Nat}{b:Bs}(h:hZ W k 0 b)(e:W'.heap[k]? = W.heap[k]?):hZ W' k 0 b:=λj c=>by
 rw[Yb (a:=⟨k,0+j,none⟩) e,Y6 (a:=⟨k,0+j,none⟩) e];exact h j c
def El.kept{m n:Nat}{v x:XG}{W W':XF}{b:Bs}(h:El m W x b)(l:0<m)(d:Gr n v W W'):El m W' x b:=by
 obtain⟨k,c,rfl,g,i,e,f⟩:=h;refine⟨k,c,rfl,g,i,XI e d.gr.size,Holds.kept f (d.block e λp o j=>?_)⟩;have:=(f 0 oM).1;rw[XQ,j]at this;exact TX (X5.inj this).symm
def Row.kept{n k:Nat}{v:XG}{W W':XF}{vs:List XG}(h:Row W k vs)(f:Gr n v W W')(b:∀p c,vs[0]?≠some (.slice p n c))(g:0<vs.length):Row W' k vs:=by
 have e:=f.block h.1 λp c i=>by
  have d:=h.2.1 0 vs[0] (XV g);rw[XQ,i]at d;exact b p c (by rw[XV g,d])
 refine⟨XI h.1 f.gr.size,λj u d=>?_,λj d=>?_⟩
 .rw[Yb (a:=⟨k,0+j,none⟩) e];exact h.2.1 j u d
 .rw[Yb (a:=⟨k,0+j,none⟩) e,Y6 (a:=⟨k,0+j,none⟩) e];exact h.2.2 j d
structure Lo(n base:Nat)(W:XF)(v:XG)(bs:List Bs):Prop where
 ex:∃xs:List XG,xs.length=bs.length/\W.ownsRow base 23 1 v bs.length xs/\∀(j:Nat) (x:XG) (b:Bs),xs[j]? = some x->bs[j]? = some b->El n W x b
 nil:bs=[]->v=nZ
def Lo.begin(n k:Nat)(W:XF):Lo n k W nZ []:=⟨⟨[],rfl,yCe _ _ _ _,λj x b h=>by cases h⟩,λ_=>rfl⟩
def add0(g j:Nat):(⟨g,0,none⟩:Y4).add j=⟨g,j,none⟩:=by unfold yBZ;split<;>simp_all
def Lo.isL{n d:Nat}{W:XF}{v:XG}{j:List Bs}(h:Lo n d W v j){g:Nat}(i:v.ownBlock=some g):isL n W g:=by
 obtain⟨xs,m,o,l⟩:=h.ex;have f:j≠[]:=λe=>by rw[h.nil e]at i;cases i
 cases j with
 | nil=>exact absurd rfl f
 | cons b r =>
  cases xs with
  | nil=>cases m
  | cons x xr =>
   obtain⟨k,c,rfl,-⟩:=l 0 x b rfl rfl;have:=o.cells i 0 _ rfl;rw[add0]at this;exact⟨_,_,this⟩
def Lo.lt{n k:Nat}{W:XF}{v:XG}{b:List Bs}(h:Lo n k W v b):∀g,v.ownBlock=some g->k<=g/\g<W.heap.size:=by
 obtain⟨xs,e,c,d⟩:=h.ex;exact c.lt
def Lo.kept{m n d:Nat}{W W':XF}{v y:XG}{l:List Bs}(h:Lo m d W v l)(o:0<m)(f:Gr n y W W')(i:m≠n):Lo m d W' v l:=by
 have s:=λ{g}=>h.isL (g:=g)
 obtain⟨xs,r,t,q⟩:=h.ex;refine⟨⟨xs,r,t.kept f.gr ?_,λj x b hx w=>(q j x b hx w).kept o f⟩,h.nil⟩;cases hv:v.ownBlock with
 | none=>exact Yk rfl
 | some g =>
  refine Yd λe=>i ?_
  obtain⟨p,c,u⟩:=s hv;obtain⟨z,a,k⟩:=f.is g e.symm;rw[u]at k;injection k with k
  injection k with _ h5 _
def UU:(prog.info? 23).map (λi=>(i.size,i.bytes,i.zero.map λz=>z.cells.size))=some (1,24,some 1):=kR
def V4:prog.underlying 27=some (.slice 23):=kR
def Lo.app{n f g:Nat}{W:XF}{v x:XG}{o:List Bs}{b:Bs}(h:Lo n f W v o)(w:0<n)(hx:El n W x b)(L:W.cell? ⟨g,0,none⟩=some x)(Q:o.length<=1000000)(M:f<=W.heap.size):
 ∃q W',(YK #[27,27] 27 #[v,sZ g 1 1]).run prog W=.ok q W'/\Lo n f W' q (o++[b])/\Gr n v W W':=by
 obtain⟨i,J,t⟩:=XK.1 UU;simp only[Zl.injEq]at t;obtain⟨H,K,F⟩:=t;obtain⟨z,E,r⟩:=XK.1 F;obtain⟨xs,a,N,B⟩:=h.ex;obtain⟨q,W',C,I,D,O⟩:=yBu (P:=prog) W f 27 27 23 i z 1 24 V4 J E H K r dC v o.length xs N (aZ g) 1 1 [x] rfl
  (λj u s=>by
   cases j with
   | zero =>
    obtain rfl:x=u:=by simpa using s
    rw[add0];exact L
   | succ j=>simp at s) (λu l=>by
   obtain rfl:u=x:=by simpa using l
   obtain⟨k,c,rfl,-⟩:=hx;rfl) (by unfold maxLen;omega) oM M
 have G:Gr n v W W':=⟨D,λg A=>h.isL A⟩
 refine⟨q,W',C,⟨⟨xs++[x],by simp[a],by rw[XP];exact I,λj y c m l=>?_⟩,λe=>by simp at e⟩,G⟩;by_cases s:j<o.length
 .rw[X1 oM]at m l;exact(B j y c m l).kept w G
 .rw[X4 oM]at m l;rw[a]at m;cases p:j-o.length with
  | zero =>
   rw[p]at m l;obtain rfl:x=y:=by simpa using m
   obtain rfl:b=c:=by simpa using l
   exact hx.kept w G
  | succ d=>rw[p]at m;simp at m
def Ip{w:XF}{a:Bs}(f:a.size=33):cZ 19 #[pvl a] w (rZ w λe w'=>El 33 w' e a):=by
 have g:=Hid.mk' (tB f w);obtain⟨c,b⟩:=hE (lZ w (aA a) 51);rw[b.out]at g;have K:Hid (Row c w.heap.size (aA a)/\kZ w c):=by rw[<-b.out];exact⟨row_new w _ _,aC _⟩
 obtain⟨va,k⟩:=hE (pvl a);have d:Hid ((Yu 51 va).run prog w=.ok (jZ w.heap.size) c):=k.out▸g;rw[k.out];have i:=Ud w.heap.size;go_enter func19,ntmps19;go_wp2_with (first|(refine aG (u:=va) (v:=jZ w.heap.size) (w':=c) rfl 51 (.tmp 0) rfl ?_ ?_ ?_;rfl;exact d))
 go_ret;exact⟨_,rfl,K.2,w.heap.size,33,rfl,oM,f,K.1.1,row_holds K.1⟩
def Bo(n c:Nat)(W:XF)(v:XG)(b:Bs):Prop:=∃k x,v=sZ k 1 1/\c<=k/\k<W.heap.size/\W.cell? ⟨k,0,none⟩=some x/\El n W x b
def Bo.kept{m n d:Nat}{W W':XF}{v u:XG}{b:Bs}(h:Bo n d W v b)(l:0<n)(c:Gr m u W W')(p:∀g,u.ownBlock=some g->g<d):Bo n d W' v b:=by
 obtain⟨k,x,rfl,j,f,i,o⟩:=h;refine⟨k,x,rfl,j,XI f c.gr.size,?_,o.kept l c⟩;rw[Yb (a:=⟨k,0,none⟩) (c.gr.block k f λe=>oN (p k e.symm))];exact i
def Tm(W:XF)(q:Option Y4)(k:Nat)(ns:Nat->Nat)(b:Nat->Bs):Prop:=0<k->∃g,q=some (aZ g)/\g<W.heap.size/\∀j,j<k->W.rangeAt g (37*j) (wn (ns j)++aA (b j))
def Tm.kept{m k:Nat}{W W':XF}{u:XG}{q:Option Y4}{ns:Nat->Nat}{b:Nat->Bs}(h:Tm W q k ns b)(d:Gr m u W W'):Tm W' q k ns b:=λf=>by
 obtain⟨g,r,n,l⟩:=h f;refine⟨g,r,XI n d.gr.size,λj t i v hv=>?_⟩;have e:=d.block n λp c s=>by
  have o:=l 0 f 0 _ (show(wn (ns 0)++aA (b 0))[0]? = some _ from rfl);rw[show 37*0+0=0 from rfl,s]at o;cases o
 rw[Yb (a:=⟨g,37*j+i,none⟩) e];exact l j t i v hv
section
variable (w0:XF) (v3 v4:XG) (k6 n B0 base:Nat) (p:Bs) (bs cs:List Bs) (q:Option Y4) (k:Nat) (ns:Nat->Nat) (az:Nat->Bs)
def PR:Nat->XG->XF->Prop
 | 0,v,_=>v=v3
 | 1,v,_=>v=jZ k6
 | 2,v,_=>v=nv n
 | 3,v,w=>El 32 w v (bx n)
 | 4,v,w=>Bo 32 B0 w v (bx n)
 | 5,v,w=>Lo 32 base w v (bs++[bx n])
 | 6,v,_=>v=v4
 | 7,v,_=>v=oZ k6 4
 | 8,v,_=>v=pvl p
 | 9,v,w=>El 33 w v p
 | 10,v,w=>Bo 33 B0 w v p
 | 11,v,w=>Lo 33 base w v (cs++[p])
 | 12,v,w=>Lo 32 base w v (bs++[bx n])
 | 13,v,w=>Lo 33 base w v (cs++[p])
 | _,_,_=>True
def PBs:Nat->XF->Prop
 | 0,w=>Row w k6 (wn n++aA p)
 | 1,w=>Lo 32 base w v3 bs
 | 2,w=>Lo 33 base w v4 cs
 | 3,w=>Below base w0 w/\base<=w.heap.size/\B0<=w.heap.size
 | 4,w=>Tm w q k ns az
 | 5,w=>Row w base z33
 | _,_=>True
def PE:Nat->XF->XF->Prop
 | 5=>Gr 32 v3
 | 11=>Gr 33 v4
 | _=>Gr 0 nZ
def Pk1:Nat->List Nat
 | 4=>[5]
 | 10=>[11]
 | _=>[]
def Pk2:Nat->List Nat
 | 1=>[5]
 | 2=>[11]
 | _=>[]
def FP:Flow:=⟨PR v3 v4 k6 n B0 base p bs cs,PBs w0 v3 v4 k6 n B0 base p bs cs q k ns az,PE v3 v4,Pk1,Pk2⟩
def MV{i:Nat}{w w':XF}(h:PE v3 v4 i w w'):∃m u,Gr m u w w'/\((i=5/\m=32/\u=v3)\/(i=11/\m=33/\u=v4)\/(i≠5/\i≠11/\m=0/\u=nZ)):=by
 unfold PE at h;split at h
 .exact⟨_,_,h,Yk ⟨rfl,rfl,rfl⟩⟩
 .exact⟨_,_,h,Yd (Yk ⟨rfl,rfl,rfl⟩)⟩
 .rename_i h1 h2
  exact⟨_,_,h,Yd (Yd ⟨h1,h2,rfl,rfl⟩)⟩
variable (hv3:∀g,v3.ownBlock=some g->base<=g/\g<B0) (hv4:∀g,v4.ownBlock=some g->base<=g/\g<B0)
include hv3 hv4
def MU{i m:Nat}{u:XG}(h:(i=5/\m=32/\u=v3)\/(i=11/\m=33/\u=v4)\/(i≠5/\i≠11/\m=0/\u=nZ)):∀g,u.ownBlock=some g->base<=g/\g<B0:=by
 rcases h with⟨-,-,rfl⟩|⟨-,-,rfl⟩|⟨-,-,-,rfl⟩
 .exact hv3
 .exact hv4
 .intro g k;cases k
def TC{i j:Nat}(r:j<14)(d:i≠j)(t:(Pk1 j).contains i=false)(o:¬(j=12/\i=5))(f:¬(j=13/\i=11))(v:XG)(w w':XF)(hE:PE v3 v4 i w w')(hR:PR v3 v4 k6 n B0 base p bs cs j v w):PR v3 v4 k6 n B0 base p bs cs j v w':=by
 obtain⟨m,u,k,q⟩:=MV v3 v4 hE;have s:=MU v3 v4 B0 base hv3 hv4 q;have c:m=32->i=5:=λh=>by rcases q with⟨o,-⟩|⟨-,f,-⟩|⟨-,-,f,-⟩<;>omega
 have l:m=33->i=11:=λh=>by rcases q with⟨-,f,-⟩|⟨o,-⟩|⟨-,-,f,-⟩<;>omega
 match j,r,hR with
 | 0,_,h=>exact h
 | 1,_,h=>exact h
 | 2,_,h=>exact h
 | 3,_,h=>exact El.kept h dC k
 | 4,_,h=>exact Bo.kept h dC k λg b=>(s g b).2
 | 5,_,h=>exact Lo.kept h dC k λe=>d (c e.symm)
 | 6,_,h=>exact h
 | 7,_,h=>exact h
 | 8,_,h=>exact h
 | 9,_,h=>exact El.kept h dC k
 | 10,_,h=>exact Bo.kept h dC k λg b=>(s g b).2
 | 11,_,h=>exact Lo.kept h dC k λe=>d (l e.symm)
 | 12,_,h=>exact Lo.kept h dC k λe=>o ⟨rfl,c e.symm⟩
 | 13,_,h=>exact Lo.kept h dC k λe=>f ⟨rfl,l e.symm⟩
 | _+14,r,_=>omega
def PG{i b:Nat}(f:(Pk2 b).contains i=false)(w w':XF)(hE:PE v3 v4 i w w')(hR:PBs w0 v3 v4 k6 n B0 base p bs cs q k ns az b w):PBs w0 v3 v4 k6 n B0 base p bs cs q k ns az b w':=by
 obtain⟨m,u,d,o⟩:=MV v3 v4 hE;have v:=MU v3 v4 B0 base hv3 hv4 o;have j:m=32->i=5:=λh=>by rcases o with⟨t,-⟩|⟨-,l,-⟩|⟨-,-,l,-⟩<;>omega
 have s:m=33->i=11:=λh=>by rcases o with⟨-,l,-⟩|⟨t,-⟩|⟨-,-,l,-⟩<;>omega
 match b,f,hR with
 | 0,_,h=>exact Row.kept h d (λp c e=>by cases e) (by rw[XP];exact XI dC (yBU 4 _))
 | 1,f,h=>exact Lo.kept h dC d λe=>by rw[j e.symm]at f;cases f
 | 2,f,h=>exact Lo.kept h dC d λe=>by rw[s e.symm]at f;cases f
 | 3,_,h=>exact⟨d.below h.1 h.2.1 λg r=>(v g r).1,XN h.2.1 d.gr.size,XN h.2.2 d.gr.size⟩
 | 4,_,h=>exact Tm.kept h d
 | 5,_,h=>exact Row.kept h d (λp c e=>by cases e) dC
 | _+6,_,_=>trivial
end
def Lo.drew{n k:Nat}{W:XF}{v:XG}{b:List Bs}(h:Lo n k W v b):Lo n k W.drew v b:=⟨h.ex,h.nil⟩
def SumR.all(C:Fld P)(O:Ord N){w w':XF}{k:Nat}(y:k<=512){ns:Nat->Nat}{X:Nat->EC.Pt P}(n:∀j,j<k->ns j<N)(t:∀j,j<k->On (X j)){L M:Nat->Bs}(v:∀j,j<k->L j=bx (ns j))(x:∀j,j<k->M j=wr (X j)){e:XG}(h:SumR P N w k k L M e w'):
 Je w (wr (tot X k (λj=>(ns j:Int)))) e w':=by
 have r:∀j,j<k->rq N (L j)=some (ns j):=λj b=>by
  rw[v j b];have c:=Fv (XI (n j b) O.le);unfold rq;rw[yE3 ⟨cU _,by rw[c];exact n j b⟩,c]
 have q:∀j,j<k->∃p,rd P (M j)=some p/\pt p=X j:=λj b=>by rw[x j b];exact yF C (t j b)
 rcases h with⟨h,-⟩|⟨-,h,-⟩|⟨-,-,⟨⟨j,b,c⟩,-⟩|⟨f,m,⟨⟨j,b,c⟩,-⟩|⟨xs,ys,l,h⟩⟩⟩
 .exact absurd rfl h
 .omega
 .rw[r j b]at c;cases c
 .obtain⟨p,d,-⟩:=q j b;rw[d]at c;cases c
 .have s:∀j,j<k->f j=ns j:=λj b=>by
   have:=m j b;rw[r j b]at this;exact(X5.inj this).symm
  have d:∀j,j<k->Pair (xs j) (ys j) (X j)/\On (X j):=λj b=>by
   obtain⟨p,d,hpt⟩:=q j b;have o:=l j b;rw[d]at o;have u:=X5.inj o;have g:=Un C d;rw[hpt]at g;rw[u]at g;exact g
  have o:=Cv C (ns:=f) (xs:=xs) (ys:=ys) (p:=X) (N:=k) (λi g=>by rw[s i g];exact XI (n i g) O.le) (λi g=>(d i g).1) (λi g=>(d i g).2);have u:tot X k (λj=>(f j:Int))=tot X k (λj=>(ns j:Int)):=eM k λj b=>by rw[s j b]
  rw[u]at o;rw[<-xH C (o.pair C) o.2];exact h
structure Pz(w W:XF)(q:Option Y4)(k i:Nat)(ns:Nat->Nat)(az:Nat->Bs)(s3 s4:XG):Prop where
 bl:kZ w W
 l3:Lo 32 w.heap.size W s3 ((YB i).map λj=>bx (ns j))
 l4:Lo 33 w.heap.size W s4 ((YB i).map az)
 tm:Tm W q k ns az
 r2:Row W w.heap.size z33
def El.of_made{w w':XF}{k n:Nat}{b:Bs}(h:Made w k (cb b) w')(c:b.size=n):El n w' (sZ k n n) b:=⟨k,n,rfl,XH _,c,h.lt,cb_holds h.range h.there⟩
def Xs{x:XG}(hx:∃p n c,x=.slice p n c)(w:XF):(YF 27 1 #[(0,x)]).run prog w=.ok (sZ w.heap.size 1 1) (w.alloc (.cells #[x] 23)):=by
 obtain⟨p,n,c,rfl⟩:=hx;kernel_rfl
def Bo.of{n k:Nat}{w:XF}{x:XG}{b:Bs}(h:El n w x b)(c:0<n)(d:k<=w.heap.size)(T:Yj):Bo n k (w.alloc (.cells #[x] T)) (sZ w.heap.size 1 1) b:=
 ⟨w.heap.size,x,rfl,d,by rw[XS];omega,by rw[World.cell?_alloc_new];rfl,h.kept c (Gr.of (n:=0) (aC _))⟩
def Lo.args{n k:Nat}{W:XF}{v:XG}{c:List Bs}(h:Lo n k W v c):∃q cap,v=.slice q c.length cap/\(0<c.length->∃g,q=some (aZ g)/\g<W.heap.size/\∀(j:Nat) (b:Bs),c[j]? = some b->∃x,W.cell? ⟨g,j,none⟩=some x/\El n W x b):=by
 obtain⟨xs,l,d,i⟩:=h.ex;have o:=λ{g:Nat}=>d.cells (g:=g)
 rcases d.2 with⟨rfl,p⟩|⟨g,cap,cur,rfl,-,m,-⟩
 .exact⟨none,0,by rw[p],λh=>oM⟩
 .refine⟨_,_,rfl,λ_=>⟨g,rfl,(X9.1 m).1,λj b e=>?_⟩⟩;have f:j<xs.length:=by rw[l];exact(XT.1 e).1
  have:=o (g:=g) rfl j xs[j] (XV f);rw[add0]at this;exact⟨_,this,i j _ b (XV f) e⟩
def El.arg{W:XF}{x:XG}{b:Bs}(h:El 32 W x b):Arg W x b:=by
 obtain⟨k,c,rfl,d,f,e,g⟩:=h;exact⟨_,_,_,rfl,f,λ_=>⟨k,0,rfl,d,e,g⟩⟩
def El.arg33{W:XF}{x:XG}{b:Bs}(h:El 33 W x b):Arg33 W x b:=by
 obtain⟨k,c,rfl,d,f,e,g⟩:=h;exact⟨_,_,_,rfl,f,λ_=>⟨k,0,rfl,d,e,g⟩⟩
def xW(C:Fld P)(O:Ord N)(v:XG)(w:XF)(k:Nat)(hk:k<=512)(ns:Nat->Nat)(X:Nat->EC.Pt P)(hn:∀j,j<k->ns j<N)(hX:∀j,j<k->On (X j))
 (E:∀W,kZ w W->cZ 63 #[v] W (rZ W λe w'=>∃q cap,e=.slice q k cap/\Tm w' q k ns (λj=>wr (X j)))) :
 cZ 33 #[v] w (rZ w λe w'=>e=pvl (wr (tot X k (λj=>(ns j:Int))))):=by
 have HM:=Hid.mk' E;have z:Hid (Fld P/\Ord N/\(∀j,j<k->ns j<N)/\∀j,j<k->On (X j)):=⟨C,O,hn,hX⟩
 obtain⟨s,H⟩:=yH ((λj=>wr (X j)):Nat->Bs);have F:Hid (∀j,s j=wr (X j)):=λj=>by rw[<-H.out]
 rw[H.out]at HM;obtain⟨U,L⟩:=yH (w.alloc (.cells z33.toArray 51));have K1:Hid (Row U w.heap.size z33/\kZ w U):=by rw[<-L.out];exact⟨row_new w _ _,aC _⟩
 obtain⟨d,h8,h5⟩:=XK.1 uCP;obtain⟨d',hl,ha⟩:=XK.1 uT;have HD:Hid ((prog.underlying 51=some d/\d.isRow=true)/\prog.underlying 124=some d'/\d'.isRow=true):=⟨⟨h8,h5⟩,hl,ha⟩
 clear h8 h5 hl ha E hn hX H C O;go_enter func33,ntmps33;go_wp2_with (refine bF (v:=jZ w.heap.size) (w':=U) rfl (.alloc 51) rfl ?_ ?_;(rw[<-L.out];kernel_rfl))
 clear L;apply(HM U K1.2).mono;rintro e w2 ⟨vv,rfl,J,q,cap,rfl,Y⟩;have K2:Hid (Pz w w2 q k 0 ns s nZ nZ):=⟨K1.2.trans (J.mono K1.2.size),Lo.begin _ _ _,Lo.begin _ _ _,Y,K1.1.below J⟩
 clear J Y K1 HM;go_wp2_with fail
 go_loopg [3,4,12] k (λm s3 s4 s12 W=>∃i:Nat,i+m=k/\s12=iZ i/\Hid (Pz w W q k i ns s s3 s4))
 case atStart=>exact⟨0,oM,rfl,K2⟩
 case round =>
  clear K2;obtain⟨i,k2,rfl,l⟩:=hrel;by_cases hi:i<k
  .have hw:(i:Int)<(k:Int):=oM;obtain⟨g,hq,A,hr⟩:=l.tm oM;subst hq;obtain⟨n,Q⟩:=yH (ns i);obtain⟨p,K⟩:=yH (s i);have B0:Hid (wr.rangeAt g (37*i) (wn n++aA p)):=by
    have h:=hr i hi;rw[Q.out,K.out]at h;exact h
   have I:Hid (p.size=33):=by rw[<-K.out,F.out i];exact aL _
   have hy:Hid (n<N):=Q.out▸z.2.2.1 i hi;obtain⟨B,h9⟩:=yH (wr.alloc (.cells zT.toArray 124));obtain⟨r,Z⟩:=yH (B.setCells wr.heap.size 0 (wn n++aA p));have f:(wn n++aA p).length=37:=by rw[XP,aB I.out];rfl
   have F1:Hid (Row B wr.heap.size zT/\kZ wr B/\B.heap.size=wr.heap.size+1):=by rw[<-h9.out];exact⟨row_new wr _ _,aC _,XS _ _⟩
   have D:Hid (Row r wr.heap.size (wn n++aA p)/\kZ wr r):=by rw[<-Z.out];exact⟨F1.1.put (by rw[f];rfl),RG.below_setCells (XH _) _ _ _ F1.2.1⟩
   have hz:Hid (gZ 124 (wn n++aA p).length):=by show _=_;rw[f];exact iT
   have hc:Hid (gZ 124 (wn n++aA p).toArray.size/\B.there wr.heap.size 0 (wn n++aA p).toArray.size):=by
    have e:(wn n++aA p).toArray.size=37:=by rw[YJ];exact f
    rw[e];exact⟨iT,F1.1.2.2⟩
   have hs:Hid ((wn n++aA p).toArray.all (·.oneCell')=true):=by
    show _=_;rw[ZJ];intro u c;exact cells_one u (yAu.1 c)
   have k1:=atT g 0 cap hi;obtain⟨vt,t⟩:=yH (Yg (wn n++aA p).toArray);have G2:Gr 0 nZ wr r:=Gr.of D.2;have HB:Hid (∀b,PBs w u3 u4 wr.heap.size n r.heap.size w.heap.size p ((YB i).map λj=>bx (ns j)) ((YB i).map s) (some (aZ g)) k ns s b r.drew):=λb=>by
    match b with
    | 0=>exact D.1
    | 1=>exact(l.l3.kept dC G2 dC).drew
    | 2=>exact(l.l4.kept dC G2 dC).drew
    | 3=>exact⟨(l.bl.trans (D.2.mono l.bl.size)).drew,XN l.bl.size D.2.size,XH _⟩
    | 4=>exact l.tm.kept (W':=r) G2
    | 5=>exact l.r2.below (W':=r) D.2
    | _+6=>trivial
   have H3:Hid (∀g,u3.ownBlock=some g->w.heap.size<=g/\g<r.heap.size):=λg A=>⟨(l.l3.lt g A).1,XI (l.l3.lt g A).2 D.2.size⟩
   have H4:Hid (∀g,u4.ownBlock=some g->w.heap.size<=g/\g<r.heap.size):=λg A=>⟨(l.l4.lt g A).1,XI (l.l4.lt g A).2 D.2.size⟩
   have HG:=Hid.mk' A;clear f hr G2 l D A;go_wp2_with (first|(refine YG rfl 124 _ rfl g (37*i) ?_ (wn n++aA p) d' ?_ ?_ ?_ ?_ ?_;rfl;exact B0;exact HD.2.1;exact HD.2.2;exact hz;rw[t.out])|(refine bF (v:=jZ wr.heap.size) (w':=B) rfl (.alloc 124) rfl ?_ ?_;(rw[<-h9.out];kernel_rfl))|(refine Yi rfl 124 _ _ rfl wr.heap.size 0 (wn n++aA p).toArray ?_ ?_ ?_ ?_ ?_ ?_;rfl;exact t.symm;exact hc.2;exact hc.1;exact hs;rw[show(wn n++aA p).toArray.toList=wn n++aA p from rfl,Z.out])|fail)
   refine rC (FP w u3 u4 wr.heap.size n r.heap.size w.heap.size p ((YB i).map λj=>bx (ns j)) ((YB i).map s) (some (aZ g)) k ns s) kR ⟨kR,Dx ?_,λi' j k0 hj ht G y=>TC u3 u4 wr.heap.size n r.heap.size w.heap.size p _ _ H3 H4 hj ht G (λh=>by rw[h.1,h.2]at y;exact absurd (show false=true from y.symm.trans kR) dC) (λh=>by rw[h.1,h.2]at y;exact absurd (show false=true from y.symm.trans kR) dC),λi' b _ G=>PG w u3 u4 wr.heap.size n r.heap.size w.heap.size p _ _ _ k ns s H3 H4 G⟩ HB ?_
   .have o:∀W:XF,Gr 0 nZ W W:=λW=>Gr.of (XX _ _)
    refine⟨nF 3 λa W c=>⟨a.eval (.tmp 3),W,kR,kR,o W,c.o 3 kR⟩,
     nF 6 λa W c=>⟨jZ wr.heap.size,W,kR,by rw[show a.eval (.tmp 6)=jZ wr.heap.size from c.o 6 kR];kernel_rfl,o W,rfl⟩,
     Cf 17 rfl u40 λa W c=>⟨wr.heap.size,0,wn n,c.n 1 17 kR kR kR,kL (show Row W wr.heap.size (wn n++aA p) from c.b 0 kR).2.1,i40,o W,rfl⟩,
     He 18 λa W c=>⟨10,#[nv n],kR,by rw[show a.eval (.tmp 18)=nv n from c.n 2 18 kR kR kR];kernel_rfl,(nV z.2.1 hy W).mono (by
      rintro e W' ⟨u,rfl,V,M,rfl⟩;exact⟨_,rfl,Gr.of M.bel,El.of_made M (cU n)⟩)⟩,
     nF 19 λa W c=>⟨sZ W.heap.size 1 1,W.alloc (.cells #[a.eval (.tmp 19)] 23),kR,by
      obtain⟨V,M,S,-⟩:=show El 32 W (a.eval (.tmp 19)) (bx n) from c.n 3 19 kR kR kR
      rw[S];kernel_rfl,Gr.of (aC _),Bo.of (show El 32 W (a.eval (.tmp 19)) (bx n) from c.n 3 19 kR kR kR) dC (c.b 3 kR).2.2 _⟩,
     Mn 16 20 27 rfl λa W c=>?_,
     nF 4 λa W c=>⟨a.eval (.tmp 4),W,kR,kR,o W,c.o 4 kR⟩,
     nF 6 λa W c=>⟨oZ wr.heap.size 4,W,kR,by rw[show a.eval (.tmp 6)=jZ wr.heap.size from c.o 6 kR];kernel_rfl,o W,rfl⟩,
     Cf 23 rfl uCP λa W c=>⟨wr.heap.size,4,aA p,c.n 7 23 kR kR kR,mR (xs:=wn n) (show Row W wr.heap.size (wn n++aA p) from c.b 0 kR).2.1,by rw[aB I.out];exact dA,o W,rfl⟩,
     He 24 λa W c=>⟨19,#[pvl p],kR,by rw[show a.eval (.tmp 24)=pvl p from c.n 8 24 kR kR kR];kernel_rfl,(Ip I).mono (by
      rintro e W' ⟨u,rfl,R,hE⟩;exact⟨_,rfl,Gr.of R,hE⟩)⟩,
     nF 25 λa W c=>⟨sZ W.heap.size 1 1,W.alloc (.cells #[a.eval (.tmp 25)] 23),kR,by
      obtain⟨V,M,S,-⟩:=show El 33 W (a.eval (.tmp 25)) p from c.n 9 25 kR kR kR
      rw[S];kernel_rfl,Gr.of (aC _),Bo.of (show El 33 W (a.eval (.tmp 25)) p from c.n 9 25 kR kR kR) dC (c.b 3 kR).2.2 _⟩,
     Mn 22 26 27 rfl λa W c=>?_,
     nF 21 λa W c=>⟨a.eval (.tmp 21),W,kR,kR,o W,c.n 5 21 kR kR kR⟩,
     nF 27 λa W c=>⟨a.eval (.tmp 27),W,kR,kR,o W,c.n 11 27 kR kR kR⟩,yE5⟩
    .obtain⟨V,x,S,h1,h2,M,R⟩:=show Bo 32 r.heap.size W (a.eval (.tmp 20)) (bx n) from c.n 4 20 kR kR kR
     obtain⟨v',W',r1,r2,r3⟩:=Lo.app (show Lo 32 w.heap.size W u3 _ from c.b 1 kR) dC R M (by rw[X7,yAb];omega) (c.b 3 kR).2.1;refine⟨v',W',?_,r3,r2⟩;rw[S,show a.eval (.tmp 16)=u3 from c.n 0 16 kR kR kR];exact r1
    .obtain⟨V,x,S,h1,h2,M,R⟩:=show Bo 33 r.heap.size W (a.eval (.tmp 26)) p from c.n 10 26 kR kR kR
     obtain⟨v',W',r1,r2,r3⟩:=Lo.app (show Lo 33 w.heap.size W u4 _ from c.b 2 kR) dC R M (by rw[X7,yAb];omega) (c.b 3 kR).2.1;refine⟨v',W',?_,r3,r2⟩;rw[S,show a.eval (.tmp 22)=u4 from c.n 6 22 kR kR kR];exact r1
   .intro V w5 o c;have S:Hid (Pz w w5 (some (aZ g)) k (i+1) ns s (V 12) (V 13)):=by
     have h1:=o 12 (Z7 (YM kR)) rfl;have h2:=o 13 (Z7 (YM kR)) rfl;refine⟨(c 3 rfl).1,?_,?_,c 4 rfl,c 5 rfl⟩
     .rw[yA2,Y5];show Lo 32 w.heap.size w5 (V 12) (_++[bx (ns i)]);rw[Q.out];exact h1
     .rw[yA2,Y5];show Lo 33 w.heap.size w5 (V 13) (_++[s i]);rw[K.out];exact h2
    clear o c HB H3 H4;dsimp only[bY,YQ];generalize V 12=s3 at S⊢;generalize V 13=s4 at S⊢;go_wp2;go_roundg (gk-1)
    case measure=>omega
    case rel=>exact⟨i+1,oM,rfl,S⟩
  .have hw:¬(i:Int)<(k:Int):=oM;obtain rfl:i=k:=oM;obtain⟨q3,c3,rfl,M⟩:=l.l3.args;obtain⟨q4,c4,rfl,R⟩:=l.l4.args;rw[X7,yAb]at M R;have V:Hid (xK wr q3 i (λj=>bx (ns j))):=λG=>by
    obtain⟨g,c,o,e3⟩:=M G;refine⟨g,c,o,λj hj=>?_⟩;obtain⟨x,y,r⟩:=e3 j (bx (ns j)) (by rw[YC,yBw hj];rfl);exact⟨x,y,r.arg⟩
   have HP:Hid (ArgsPts wr q4 i s):=λG=>by
    obtain⟨g,c,o,e3⟩:=R G;refine⟨g,c,o,λj hj=>?_⟩;obtain⟨x,y,r⟩:=e3 j (s j) (by rw[YC,yBw hj];rfl);exact⟨x,y,r.arg33⟩
   rw[X7,yAb,X7,yAb];have y:Hid (kZ w wr/\Row wr w.heap.size z33):=⟨l.bl,l.r2⟩
   clear M R l;go_wp2_with fail
   apply(SL z.1 z.2.1.gap z.2.1.le q3 q4 i c3 i c4 (λj=>bx (ns j)) s wr V HP).mono;rintro e r ⟨vv,rfl,c,Z⟩;obtain⟨K,cs,rfl,-,-,h6,I⟩:=SumR.all z.1 z.2.1 oM z.2.2.1 z.2.2.2 (λ_ _=>rfl) (λj _=>F j) Z;obtain⟨T,Y⟩:=yH (Go.Proofs.YtlofhpkoaljmeaaGreat.wr (tot X i (λj=>(ns j:Int))));have Q:T.size=33:=Y.out▸aL _;rw[Y.out]at I;have D:Hid (Row r w.heap.size z33/\kZ w r/\Row r K (aA T)):=⟨y.2.below c,y.1.trans (c.mono y.1.size),qV I h6⟩
   clear c Z h6 I y V HP;have S:=Hw K cs;obtain⟨B,o⟩:=yH (r.setCells w.heap.size 0 (aA T));have f:(aA T).length=33:=aB Q;have K7:Hid (Row B w.heap.size (aA T)/\kZ w B):=by rw[<-o.out];exact⟨D.1.put (by rw[f];rfl),RG.below_setCells (XH _) _ _ _ D.2.1⟩
   obtain⟨vt,t⟩:=yH (Yg (aA T).toArray);have A:Hid (gZ 51 (aA T).length/\r.there w.heap.size 0 (aA T).toArray.size/\gZ 51 (aA T).toArray.size):=by
    have e:(aA T).toArray.size=33:=by rw[YJ];exact f
    refine⟨by rw[f];exact dA,by rw[e];exact D.1.2.2,by rw[e];exact dA⟩
   clear f;go_wp2_with (first|(refine YG rfl 51 _ rfl K 0 ?_ (aA T) d ?_ ?_ ?_ ?_ ?_;rfl;exact D.2.2.2.1;exact HD.1.1;exact HD.1.2;exact A.1;rw[t.out])|(refine Yi rfl 51 _ _ rfl w.heap.size 0 (aA T).toArray ?_ ?_ ?_ ?_ ?_ ?_;rfl;exact t.symm;exact A.2.1;exact A.2.2;exact bQ;rw[show(aA T).toArray.toList=aA T from rfl,o.out]))
   refine XR (aF 2 rfl K7.1 rfl uCP A.1) rfl ?_;exact⟨_,rfl,K7.2,by rw[Y.out];rfl⟩
end
namespace EC
variable {P:Nat}[NeZero P]
def pts(P:Nat)[NeZero P]:List (Pt P):=
 none :: (yEm P).flatMap λx=>((yEm P).filter λy=>decide (y^2=x^3+7)).map λy=>some (x,y)
def mZ{a:Pt P}:a∈pts P↔On a:=by
 unfold pts;rcases a with _|⟨x,y⟩
 .exact⟨λ_=>trivial,λ_=>YL⟩
 .rw[Zc,yCw];constructor
  .rintro(h|⟨u,-,h⟩)
   .cases h
   .obtain⟨v,hv,e⟩:=YD.1 h;cases e
    have k:=(yBT.1 hv).2;exact(decide_eq_true_iff (p:=y^2=x^3+7)).1 k
  .intro h;have h:=h;exact Yd ⟨x,yDI x,YD.2 ⟨y,yBT.2 ⟨yDI y,decide_eq_true h⟩,rfl⟩⟩
def AV:(pts P).Nodup:=by
 unfold pts;refine yA3.2 ⟨λh=>?_,?_⟩
 .obtain⟨u,-,h⟩:=yCw.1 h;obtain⟨v,-,e⟩:=YD.1 h;cases e
 .refine List.pairwise_flatMap.2 ⟨λx _=>yDH.2 ?_,?_⟩
  .refine yCN ?_ ((yB4 P).sublist yDr);intro a b h e;exact h (by cases e;rfl)
  .refine yCN ?_ (yB4 P);intro a b h u k v hv e;obtain⟨c,-,rfl⟩:=YD.1 k;obtain⟨d,-,rfl⟩:=YD.1 hv;exact h (by cases e;rfl)
def NF{u v c:Fin P}(k:u^2=c)(hv:v^2=c):(u-v)*(u+v)=0:=by grobner
def Ow{a b d:Fin P}(c:a+b=0)(k:a+d=0):b=d:=by grobner
def Ih(C:Cur P){c:Fin P}:∀l:List (Fin P),l.Nodup->(∀y,y∈l->y^2=c)->l.length<=2
 | [],_,_=>Zq _
 | [_],_,_=>Nat.le_succ _
 | [_,_],_,_=>XH _
 | a :: b :: d :: l,k,h=>by
  exfalso;have g:=h a (by simp);have p:=h b (by simp);have hd:=h d (by simp);have n:a≠b:=λe=>(yA3.1 k).1 (by rw[e];simp)
  have i:a≠d:=λe=>(yA3.1 k).1 (by rw[e];simp)
  have m:b≠d:=λe=>(yA3.1 (yA3.1 k).2).1 (by rw[e];simp)
  have f:∀u v:Fin P,u^2=c->v^2=c->u≠v->u+v=0:=λu v q hv k=>by
   exact Zw λj=>cI C.pr (qR k) j (NF q hv)
  have o:=f a b g p n;have j:=f a d g hd i;exact m (Ow o j)
def Dp{k:Nat}{α β:Type}{f:α->List β}(h:∀a,(f a).length<=k):∀l:List α,(l.flatMap f).length<=k*l.length
 | []=>Zq _
 | a :: l=>by
  rw[yCi,XP,YA,yA1,yEx];exact Nat.add_le_add (Dp h l) (h a)
def OI(C:Cur P):(pts P).length<=2*P+1:=by
 unfold pts;rw[YA];refine Nat.succ_le_succ (XN (Dp (λx=>?_) _) (by rw[List.length_finRange];exact XH _));rw[X7];exact Ih C (c:=x^3+7) _ ((yB4 P).sublist yDr) λy k=>of_decide_eq_true (yBT.1 k).2
def Oc:0<(pts P).length:=Nat.succ_pos _
def wK:List (Pt P)->Pt P
 | []=>none
 | a :: l=>add a (wK l)
def wY(C:Cur P):∀l:List (Pt P),(∀a,a∈l->On a)->On (wK l)
 | [],_=>jD
 | a :: l,h=>C.on (h a YL) (wY C l λb k=>h b (Yx _ k))
def IE(C:Cur P){l m:List (Pt P)}(p:l.Perm m):(∀a,a∈l->On a)->wK l=wK m:=by
 induction p with
 | nil=>intro _;rfl
 | cons x _ ih =>
  intro h;show add x _=add x _;rw[ih λb k=>h b (Yx _ k)]
 | swap x y l =>
  intro h;have c:=h y YL;have hx:=h x (Yx _ YL);have d:=wY C l λb k=>h b (Yx _ (Yx _ k))
  show add y (add x (wK l))=add x (add y (wK l));rw[<-C.assoc c hx d,C.comm c hx,C.assoc hx c d]
 | trans p _ ih1 ih2 =>
  intro h;rw[ih1 h,ih2 λa k=>h a (p.mem_iff.2 k)]
def yW(C:Cur P){r:Pt P}(k:On r):∀l:List (Pt P),(∀a,a∈l->On a)->wK (l.map λa=>add a r)=add (wK l) (mul l.length r)
 | [],_=>rfl
 | a :: l,h=>by
  have e:=h a YL;have c:∀b,b∈l->On b:=λb d=>h b (Yx _ d)
  show add (add a r) (wK (l.map _))=add (add a (wK l)) (add (mul l.length r) r);rw[yW C k l c,C.comm (cG C k _) k,C.swap e k (wY C l c) (cG C k _)]
def Ai(C:Cur P){a b r:Pt P}(d:On a)(c:On b)(k:On r)(e:add a r=add b r):a=b:=by
 have:add (add a r) (neg r)=add (add b r) (neg r):=by rw[e]
 rwa[C.assoc d k (cE k),C.assoc c k (cE k),add_neg,bM,bM]at this
def yA(C:Cur P){r:Pt P}(k:On r):((pts P).map λa=>add a r).Perm (pts P):=by
 refine(List.perm_ext_iff_of_nodup ?_ AV).2 λa=>?_
 .refine yDH.2 (List.Pairwise.imp_of_mem ?_ (AV (P:=P)));intro a b c d h e;exact h (Ai C ((mZ).1 c) ((mZ).1 d) k e)
 .rw[mZ,YD];constructor
  .rintro⟨b,d,rfl⟩;exact C.on ((mZ).1 d) k
  .intro c;refine⟨add a (neg r),(mZ).2 (C.on c (cE k)),?_⟩;rw[C.assoc c (cE k) k,C.neg_l k,bM]
def GF(C:Cur P){r:Pt P}(k:On r):mul (pts P).length r=none:=by
 have c:∀a,a∈pts P->On a:=λa b=>(mZ).1 b
 have f:=yW C k (pts P) c;rw[IE C (yA C k) λa b=>(mZ).1 ((yA C k).mem_iff.1 b)]at f;have d:=wY C (pts P) c;have e:=cG C k (pts P).length;have g:add (mul (pts P).length r) (wK (pts P))=add none (wK (pts P)):=by
  rw[C.comm e d,<-f,jV]
 exact Ai C e jD d g
def mX(C:Cur P){a:Pt P}(k:On a)(m:Nat):∀n,mul (m*n) a=mul n (mul m a)
 | 0=>rfl
 | n+1=>by
  rw[yA1,mul_add C k,mX C k m n];rfl
def oI:∀n,mul n (none:Pt P)=none
 | 0=>rfl
 | n+1=>by
  show add (mul n none) none=none;rw[oI n];rfl
def D4(C:Cur P){a:Pt P}(k:On a)(e:add a a=none):a=none:=by
 rcases a with _|⟨x,y⟩
 .rfl
 .exfalso;have ho:=C.opp_ne k;rw[cD C.pr C.two k k ho (bW C.pr C.two k k ho)]at e;cases e
def Ks(C:Cur P){n:Nat}(f:IsP n)(p:2*P+1<3*n){g:Pt P}(k:On g)(o:g≠none)(j:mul n g=none){r:Pt P}(e:On r):mul n r=none:=by
 have hd:n ∣ (pts P).length:=Zw λhd=>by
  have i:=f.fermat1 _ hd;have b:mul ((pts P).length^(n-1)) g=none:=by
   have:n-1=(n-2)+1:=oN f.1;rw[this,Nat.pow_succ,YN,mX C k,GF C k,oI]
  have d:=yB3 ((pts P).length^(n-1)) n;rw[i]at d;rw[<-d,mul_add C k,mX C k,j,oI,jV]at b;exact o b
 obtain⟨c,l⟩:=hd;have m:=OI C;have i:=Oc (P:=P);have b:=GF C e;rw[l]at m i b;have d:c<3:=Nat.lt_of_mul_lt_mul_left (a:=n) oM;match c,d with
 | 0,_=>omega
 | 1,_=>rwa[Nat.mul_one]at b
 | 2,_ =>
  rw[mX C e]at b;exact D4 C (cG C e n) b
end EC
section
variable {P:Nat}[NeZero P]{N:Nat}
def gV(P:Nat)[NeZero P](b:Bs):EC.Pt P:=match rd P b with|some p=>pt p|none=>none
def mJ(C:Fld P){X:EC.Pt P}(h:On X):gV P (wr X)=X:=by
 obtain⟨p,k,b⟩:=yF C h;unfold gV;rw[k];exact b
def fW(P:Nat)[NeZero P]:LB->EC.Pt P
 | []=>none
 | x :: r=>EC.add (mul x.1 (gV P x.2)) (fW P r)
def PtsL(P:Nat)[NeZero P](l:LB):Prop:=∀x∈l,∃X:EC.Pt P,On X/\x.2=wr X
def PtsL.on(C:Fld P){l:LB}(h:PtsL P l){x:Nat × Bs}(hx:x∈l):On (gV P x.2):=by
 obtain⟨X,k,b⟩:=h x hx;rw[b,mJ C k];exact k
def pB(C:Fld P):∀ {l:LB},PtsL P l->On (fW P l)
 | [],_=>jD
 | x :: r,h=>C.cur.on (cG C.cur (h.on C YL) _) (pB C λy k=>h y (Yx _ k))
def AB{y:Nat × Bs}(C:Fld P)(b:On (gV P y.2)):∀ {l:LB},PtsL P l->fW P (l++[y])=EC.add (fW P l) (mul y.1 (gV P y.2))
 | [],_=>bM
 | x :: r,h=>by
  have k:PtsL P r:=λz c=>h z (Yx _ c)
  show EC.add (mul x.1 (gV P x.2)) (fW P (r++[y]))=_;rw[AB C b k];exact(C.cur.assoc (cG C.cur (h.on C YL) _) (pB C k) (cG C.cur b _)).symm
def Bz:∀l:LB,fW P (LF l)=fW P l
 | []=>rfl
 | x :: r=>by
  unfold LF;rw[List.filter_cons];by_cases h:x.1=0
  .rw[yE4 (by simp[h])];show fW P (LF r)=EC.add (mul x.1 (gV P x.2)) (fW P r);rw[h,Bz r];rfl
  .rw[yE3 (by simp[h])];show EC.add _ (fW P (LF r))=EC.add _ (fW P r);rw[Bz r]
def mul_mod(C:Fld P)(k:∀r:EC.Pt P,On r->mul N r=none){X:EC.Pt P}(b:On X)(n:Nat):mul (n%N) X=mul n X:=by
 have h:=mul_add C.cur b (N*(n/N)) (n%N);rw[yB3,mX C.cur b N (n/N),k X b,oI,jV]at h;exact h.symm
def AC{p:Bs}(C:Fld P)(k:∀r:EC.Pt P,On r->mul N r=none)(n:Nat)(b:On (gV P p)):∀ {l:LB},PtsL P l->fW P (fQ N l n p)=EC.add (fW P l) (mul n (gV P p))
 | [],_=>bM
 | (s,q) :: r,h=>by
  have g:PtsL P r:=λz j=>h z (Yx _ j)
  have i:=h.on C (x:=(s,q)) YL;have f:=cG C.cur i s;have d:=pB C g;have c:=cG C.cur b n;unfold fQ;by_cases e:p=q
  .rw[yE3 e];subst e;show EC.add (mul (sPl N s n) (gV P p)) (fW P r)=EC.add (EC.add (mul s (gV P p)) (fW P r)) (mul n (gV P p));unfold sPl;rw[mul_mod C k b,mul_add C.cur b,C.cur.assoc f c d,C.cur.assoc f d c,C.cur.comm c d]
  .rw[yE4 e];show EC.add (mul s (gV P q)) (fW P (fQ N r n p))=EC.add (EC.add (mul s (gV P q)) (fW P r)) (mul n (gV P p));rw[AC C k n b g,C.cur.assoc f d c]
def Hy{n:Nat}{p:Bs}(k:∃X:EC.Pt P,On X/\p=wr X):∀ {l:LB},PtsL P l->PtsL P (fQ N l n p)
 | [],_=>λx hx=>by
  have:x=(n,p):=by simpa[fQ]using hx
  rw[this];exact k
 | (s,q) :: r,h=>by
  have b:PtsL P r:=λz c=>h z (Yx _ c)
  unfold fQ;split
  .intro x hx;rcases Zc.1 hx with rfl|hx
   .exact h (s,q) YL
   .exact b x hx
  .intro x hx;rcases Zc.1 hx with rfl|hx
   .exact h (s,q) YL
   .exact Hy k b x hx
def BR(ns:Nat->Nat)(X:Nat->EC.Pt P){k:Nat}(b:∀j,j<k->On (X j)):∀i,i<=k->PtsL P (mrg N ns (λj=>wr (X j)) i)
 | 0,_=>λx hx=>by cases hx
 | i+1,hi=>Hy ⟨X i,b i oM,rfl⟩ (BR ns X b i oM)
def GG{X:Nat->EC.Pt P}(C:Fld P)(b:∀r:EC.Pt P,On r->mul N r=none)(ns:Nat->Nat){k:Nat}(d:∀j,j<k->On (X j)):∀i,i<=k->fW P (mrg N ns (λj=>wr (X j)) i)=tot X i (λj=>(ns j:Int))
 | 0,_=>rfl
 | i+1,hi=>by
  have c:=d i oM;show fW P (fQ N (mrg N ns (λj=>wr (X j)) i) (ns i) (wr (X i)))=EC.add (tot X i (λj=>(ns j:Int))) (mul (ns i) (X i));rw[AC C b _ (by rw[mJ C c];exact c) (BR ns X d i oM),GG C b ns d i oM,mJ C c]
def xR{l:LB}(C:Fld P)(h:PtsL P l):∀i,i<=l.length->tot (λj=>gV P ((l[j]?).getD (0,#[])).2) i (λj=>(((l[j]?).getD (0,#[])).1:Int))=fW P (l.take i)
 | 0,_=>by rw[List.take_zero];rfl
 | i+1,hi=>by
  have k:i<l.length:=oM;show EC.add (tot _ i _) (mul ((l[i]?).getD (0,#[])).1 (gV P ((l[i]?).getD (0,#[])).2))=_;rw[xR C h i oM,yCu,XV k];exact(AB C (h.on C (YS k)) λx hx=>h x (yDj hx)).symm
def Ec{g k c:Nat}{ns:Nat->Nat}{X:Nat->EC.Pt P}{w:XF}(C:Fld P)(O:Ord N)(p:∀r:EC.Pt P,On r->mul N r=none)(M:0<k)(T:k<=512)(F:∀j,j<k->ns j<N)(D:∀j,j<k->On (X j))(B:g<w.heap.size)(H:∀j,j<k->w.rangeAt g (37*j) (wn (ns j)++aA (wr (X j)))):
 cZ 33 #[sZ g k c] w (rZ w λe w'=>e=pvl (wr (tot X k (λj=>(ns j:Int))))):=by
 have G:=BR (N:=N) ns X D k (XH _);have m:=EM O (λj=>wr (X j)) F k (XH _);have o:=yT (N:=N) ns (λj=>wr (X j)) (k:=k) (λj _=>aL _) k (XH _);have a:=BS (N:=N) ns (λj=>wr (X j)) k;have f:=GG C p ns D k (XH _);have i:0<(mrg N ns (λj=>wr (X j)) k).length:=by
  obtain⟨b,rfl⟩:∃b,k=b+1:=⟨k-1,oM⟩
  show 0<(fQ N _ _ _).length;cases mrg N ns (λj=>wr (X j)) b with
  | nil=>exact yB2 0
  | cons x r=>unfold fQ;split<;>simp
 have l:=λW (s:kZ w W)=>KY O (λe w'=>kZ W w'/\∃q cap,e=.slice q (LF (mrg N ns (λj=>wr (X j)) k)).length cap/\TmL w' q (LF (mrg N ns (λj=>wr (X j)) k))) g k c oM ns (λj=>wr (X j)) (λj _=>aL _) F W (XI B s.size) (λj d=>RG.range_below (H j d) s B) (λW' v n=>by
  apply(Me _ i oM o (λx hx=>XI (m x hx) O.le) W.heap.size v W' n.bl.size n.ow).mono;rintro e w' ⟨u,rfl,b,t⟩;exact⟨_,rfl,n.bl.trans b,t⟩)
 generalize mrg N ns (λj=>wr (X j)) k=L at G m o a f i l;have z:PtsL P (LF L):=λx hx=>G x (Cn hx)
 have Q:(LF L).length<=L.length:=yDf _ _;refine(xW C O _ w (LF L).length oM (λj=>(((LF L)[j]?).getD (0,#[])).1) (λj=>gV P (((LF L)[j]?).getD (0,#[])).2) (λj d=>by rw[XV d];exact m _ (Cn (YS d))) (λj d=>by rw[XV d];exact z.on C (YS d)) λW s=>?_).mono ?_
 .apply(l W s).mono;rintro e w' ⟨u,rfl,b,q,cap,rfl,t⟩;refine⟨_,rfl,b,q,cap,rfl,λS=>?_⟩;obtain⟨y,R,J,e3⟩:=t S;refine⟨y,R,J,λj d=>?_⟩;have I:=e3 j d;obtain⟨Y,K,E⟩:=z _ (YS d);show w'.rangeAt y (37*j) (wn (((LF L)[j]?).getD (0,#[])).1++aA (wr (gV P (((LF L)[j]?).getD (0,#[])).2)));rw[XV d];show w'.rangeAt y (37*j) (wn ((LF L)[j]).1++aA (wr (gV P ((LF L)[j]).2)));rw[E,mJ C K,<-E];exact I
 .rintro e w' ⟨u,rfl,b,rfl⟩;refine⟨_,rfl,b,?_⟩;rw[xR C z _ (XH _),yCt,Bz,f]
def TO:prog.underlying 23=some (.slice 5):=kR
def TQ:prog.underlying 3=some (.int .i64):=kR
def Qe:(prog.info? 5).map (λi=>(i.size,i.bytes,i.zero.map λz=>z.cells.size))=some (1,1,some 1):=kR
def atB{n i:Nat}(k o c:Nat)(b:i<n)(w:XF):(YV 27 (qZ k o n c) (iZ i)).run prog w=.ok (oZ k (o+1*i)) w:=by
 go_simp
def SK(n:Nat)(a:n<=10000000)(w:XF):cZ 45 #[nZ,iZ n] w (rZ w λe w'=>w'.ownsRow w.heap.size 5 1 e 0 []):=by
 by_cases v:n=0
 .subst v;go_enter func45,ntmps45;go_wp2;go_ret;exact⟨_,rfl,XX _ _,yCe _ _ _ _⟩
 .obtain⟨i,q,m⟩:=XK.1 Qe;simp only[Zl.injEq]at m;obtain⟨u,r,p⟩:=m;obtain⟨z,o,g⟩:=XK.1 p;have f:=yC4 (P:=prog) w 23 3 23 5 i z .i64 .i64 TO TQ q o n oM oM oM (by rw[r];omega);have d:=grownCap_ge w n 0 5;have k:=grownCap_le_maxLen w n 0 5 (by unfold maxLen;omega);have b:(Zy z.cells n++Zy z.cells (grownCap w n 0 5-n)).size=grownCap w n 0 5*1:=by rw[Ys,size_zeroCells,size_zeroCells,g];omega
  generalize grownCap w n 0 5=l at f d k b;generalize Zy z.cells n++Zy z.cells (l-n)=cur at f b;obtain⟨j,c⟩:=yH (w.drew.alloc (.cells cur 5));rw[c.out]at f;have x:=Hid.mk' f;have K:Hid (kZ w j/\j.ownsRow w.heap.size 5 1 (sZ w.heap.size 0 l) 0 []):=by
   rw[<-c.out];exact⟨(XX _ _).drew.alloc (XH _) _,yDt w.drew cur l (XH _) k b⟩
  clear f c b q o g u r p;have s:(0:Int)<(n:Int):=oM;have t:¬((n:Int)<0):=oM;have y:Yt.wrap (n:Int)=n:=by rw[Zo];omega
  go_enter func45,ntmps45;go_wp2_with (at_builtin;refine yAs _ rfl _ _ _ _ rfl _ _ rfl rfl _ _ x ?_)
  go_ret;exact⟨_,rfl,K.1,K.2⟩
def iH(L:Nat->Bs)(k:Nat):List UInt8:=(YB k).flatMap λj=>(L j).toList
def iF(L:Nat->Bs)(i:Nat):iH L (i+1)=iH L i++(L i).toList:=by
 unfold iH;rw[yA2,yBp];simp
def Hj{L:Nat->Bs}{k m:Nat}(b:∀j,j<k->(L j).size<=m):∀i,i<=k->(iH L i).length<=m*i
 | 0,_=>XH _
 | i+1,hi=>by
  have c:=Hj b i oM;have d:=b i oM;have e:(L i).toList.length=(L i).size:=rfl;rw[iF,XP,e,yA1];omega
def El.below{n B:Nat}{W W':XF}{x:XG}{b:Bs}(h:El n W x b)(d:Below B W W')(j:W.heap.size<=B):El n W' x b:=by
 obtain⟨k,c,rfl,e,g,f,i⟩:=h;exact⟨k,c,rfl,e,g,XI f d.size,Holds.kept i (d.block k oM)⟩
def Ou{d n m:Nat}{W:XF}{v x:XG}{xs:List XG}{b:Bs}(e:W.ownsRow d 5 1 v n xs)(hx:El m W x b)(G:n+m<=100000000)(B:d<=W.heap.size):
 ∃f W',(YK #[23,23] 23 #[v,x]).run prog W=.ok f W'/\W'.ownsRow d 5 1 f (n+m) (xs++cb b)/\W.grownBy W' v.ownBlock:=by
 obtain⟨i,a,l⟩:=XK.1 Qe;simp only[Zl.injEq]at l;obtain⟨t,A,s⟩:=l;obtain⟨z,q,g⟩:=XK.1 s;obtain⟨k,c,rfl,F,r,e3,E⟩:=hx;obtain⟨f,W',o,w,p,-⟩:=yBu (P:=prog) W d 23 23 5 i z 1 1 TO a q t A g dC v n xs e (aZ k) m c (cb b) (by rw[mC,r];omega)
  (λj u C=>by
   have:=(sU E).1 j u C;rw[XQ]at this;rw[add0];exact this) (λu D=>by
   obtain⟨y,-,rfl⟩:=YD.1 D;rfl) (by unfold maxLen;omega) oM B
 exact⟨f,W',o,w,p⟩
def Tf(L:Nat->Bs)(i:Nat):(iH L (i+1)).map encB=(iH L i).map encB++cb (L i):=by rw[iF,Y5];rfl
def Dt(g k c:Nat)(L:Nat->Bs)(E:k<=1000)(J:∀j,j<k->(L j).size<=10000)(w:XF)(C:g<w.heap.size)(H:∀j,j<k->∃x,w.cell? ⟨g,j,none⟩=some x/\El (L j).size w x (L j)):
 cZ 23 #[sZ g k c] w (rZ w λe w'=>w'.ownsRow w.heap.size 5 1 e (iH L k).length ((iH L k).map encB)):=by
 have HL:=Hid.mk' H;have t:Hid (∀i,i<=k->(iH L i).length<=10000*i):=Hj J;have T:=Hid.mk' C;clear H J C;go_enter func23,ntmps23;go_wp2_with fail
 go_loopg [3,11] k (λm s3 s11 W=>∃i:Nat,i+m=k/\s11=iZ i/\s3=iZ ((iH L i).length:Int)/\w=W)
 case atStart=>exact⟨0,oM,rfl,rfl,rfl⟩
 case round =>
  obtain⟨i,U,rfl,rfl,rfl⟩:=hrel;by_cases K:i<k
  .have B:(i:Int)<(k:Int):=oM;obtain⟨x,N,hE⟩:=HL i K;obtain⟨I,M,rfl,s,-⟩:=hE;have n:=atB g 0 c K;rw[show 0+1*i=i by omega]at n;have d:(iH L (i+1)).length=(iH L i).length+(L i).size:=by rw[iF,XP];rfl
   have l:=t i oM;have o:=t (i+1) oM;obtain⟨a,f⟩:=yH ((iH L i).length);obtain⟨b,q⟩:=yH ((L i).size);rw[f.out]at d l;rw[q.out]at d s;rw[f.out];have u:Yt.wrap ((a:Int)+(b:Int))=((a+b:Nat):Int):=by rw[Zo];omega
   have r:¬(((a+b:Nat):Int)<0):=oM;rw[q.out]at N;go_wp2;go_roundg (gk-1)
   case measure=>omega
   case rel=>exact⟨i+1,oM,rfl,by rw[d,yCG],rfl⟩
  .have B:¬(i:Int)<(k:Int):=oM;obtain rfl:i=k:=oM;go_wp2_with fail
   apply(SK (iH L i).length (oN (t i (XH _))) w).mono;rintro e G ⟨v,rfl,l,q⟩;have P:Hid (kZ w G/\G.ownsRow w.heap.size 5 1 v (iH L 0).length ((iH L 0).map encB)):=⟨l,q⟩
   clear l q;go_wp2_with fail
   go_loopg [6,27] i (λm s6 s27 W=>∃j:Nat,j+m=i/\s27=iZ j/\Hid (kZ w W/\W.ownsRow w.heap.size 5 1 s6 (iH L j).length ((iH L j).map encB)))
   case atStart=>exact⟨0,oM,rfl,P⟩
   case round =>
    clear P;obtain⟨j,S,rfl,f⟩:=hrel;by_cases O:j<i
    .have z:(j:Int)<(i:Int):=oM;obtain⟨x,r,s⟩:=HL j O;have N:wr.cell? ⟨g,j,none⟩=some x:=by rw[f.1.cell (p:=⟨g,j,none⟩) T.out];exact r
     have hE:=s.below f.1 (XH _);have o:=t (j+1) oM;have d:(iH L (j+1)).length=(iH L j).length+(L j).size:=by rw[iF,XP];rfl
     obtain⟨Q,W',D,A,F⟩:=Ou f.2 hE oM f.1.size;rw[<-d,<-Tf]at A;have R:Hid (kZ w W'/\W'.ownsRow w.heap.size 5 1 Q (iH L (j+1)).length ((iH L (j+1)).map encB)):=⟨f.1.grown F f.1.size (λk E=>(f.2.lt k E).1),A⟩
     have u:=Hid.mk' D;obtain⟨I,M,rfl,-⟩:=hE;have n:=atB g 0 c O;rw[show 0+1*j=j by omega]at n;clear D A F d o f s r;go_wp2_with (first|(refine mI (x:=u6) (y:=sZ I (L j).size M) (v:=Q) (w':=W') rfl _ _ 23 rfl ?_ ?_ ?_ ?_;rfl;rfl;exact u)|fail)
     go_roundg (gk-1)
     case measure=>omega
     case rel=>exact⟨j+1,oM,rfl,R⟩
    .have z:¬(j:Int)<(i:Int):=oM;obtain rfl:j=i:=oM;go_wp2;go_ret;exact⟨_,rfl,f.1,f.2⟩
end
section
open Go.Shelf
attribute [local go_sem] yBY
variable {P:Nat}[NeZero P]
def B6{row:Option Nat}{w w':XF}(h:kZ w w'):w.grownBy w' row:=⟨h.os,h.tape,h.output,h.size,λk b _=>h.block k b⟩
def Lq{w:XF}{g o:Nat}{k:Bs}(h:hZ w g o k)(b:0<k.size):g<w.heap.size:=by
 obtain⟨c,ho,-⟩:=cells_of_cell (h 0 b).1;exact(X9.1 ho).1
noncomputable def cand (P:Nat) [NeZero P] (k:ByteArray) (b:List UInt8) (i:Nat):Option (Fin P × Fin P):=
 if beV (iY ((⟨#[112,111,105,110,116,32]⟩:ByteArray)++k).data.toList [b,[XY i]]).toList<P then
  (rt (Z2 P (beV (iY ((⟨#[112,111,105,110,116,32]⟩:ByteArray)++k).data.toList [b,[XY i]]).toList)*Z2 P (beV (iY ((⟨#[112,111,105,110,116,32]⟩:ByteArray)++k).data.toList [b,[XY i]]).toList)*Z2 P (beV (iY ((⟨#[112,111,105,110,116,32]⟩:ByteArray)++k).data.toList [b,[XY i]]).toList)+7)).map λy=>(Z2 P (beV (iY ((⟨#[112,111,105,110,116,32]⟩:ByteArray)++k).data.toList [b,[XY i]]).toList),y)
 else none
noncomputable def cands (P:Nat) [NeZero P] (k:ByteArray) (b:List UInt8) (i:Nat):List (Fin P × Fin P):=(YB i).filterMap (cand P k b)
def kA(k:ByteArray)(b:List UInt8)(i:Nat):cands P k b (i+1)=cands P k b i++(cand P k b i).toList:=by
 unfold cands;rw[yA2,List.filterMap_append];cases h:cand P k b i<;>simp[h]
def I3(k:ByteArray)(b:List UInt8){i j:Nat}(h:i<=j):cands P k b i <+: cands P k b j:=by
 induction j with
 | zero=>rw[Nat.le_zero.1 h];exact yD1
 | succ j ih =>
  rcases Zx i (j+1)with c|c
  .rw[kA];exact(ih oM).trans (List.prefix_append _ _)
  .rw[show i=j+1 by omega];exact yD1
def I4{k:ByteArray}{b:List UInt8}{i:Nat}:(cands P k b i).length<=i:=by
 unfold cands;exact XN (List.length_filterMap_le _ _) (by rw[yAb];exact XH _)
end
section
open Go.Shelf
attribute [local go_sem] yBY
section
variable {F:Fence}{n:Nat}{P:YO}{ops:Array Yw}{rest:List Yw}{op:Yw}{a:Act}{w:XF}{Q:yAN->Act->XF->Prop}
def qI{x:yAp}(g:Zd op (yielded ops a.tmps)=true)(k:Yj)(ho:op.op=.load k x)(b o:Nat)(hx:a.eval x=oZ b o)(cs:List XG)(d:TypeDesc)(l:w.rangeAt b o cs)(m:P.underlying k=some d)(hd:d.isRow=true)(j:(P.info? k).map (·.size)=some cs.length)(h:wpListIn F n P ops Q rest (a.put op.dst (.agg cs.toArray)) w):wpListIn F n P ops Q (op :: rest) a w:=
 wpListIn_step λK i=>by
  rw[g,yE3 rfl];refine⟨λf hf=>(by unfold yDC at hf;rw[ho]at hf;cases hf),?_⟩;rw[yCW _ _ _ (λc=>by rw[ho];intro e;cases e)];unfold Ym;simp only[ho,hx,yCm,yAP,X6,Zu,YE,yAH w b o k cs d l m hd j];exact i _ _ h
end
variable {P:Nat}[NeZero P]
def Hid.mk{p:Prop}(h:p):Hid p:=h
def Sy(C:Fld P)(c:ByteArray)(vb:XG)(b:List UInt8)(k1 k2:Nat)(w:XF)(kf:c.size<=1000000)(h1:w.cell? ⟨k1,0,none⟩=some (.string c))(h2:w.cell? ⟨k2,0,none⟩=some vb)(l1:k1<w.heap.size)(l2:k2<w.heap.size)(hb:PartOk w vb b)(n:Nat):
 SeqStopsK yCP n prog 117 #[jZ k1,jZ k2] (λx:Fin P × Fin P=>#[pv x.1 x.2]) (Below w.heap.size) (λxs=>xs=cands P c b 256) (λk=>k <+: cands P c b 256) 256 w:=by
 have HP:=hb;obtain⟨a0,sb,so,cap,bs,rfl,-,-,-,-⟩:=hb;intro l J Jx W hW hJ kh hY h0;refine callsIn_of_wp func117 rfl trivial ?_ rfl;simp only[ntmps117,YJ,YA,ZD,YQ,yDi,yB1,yB0,yCv,yCb,Z1,ZS]
 gi_wp2
 gi_loopw [10] (λp wr=>∃i:Nat,i<=256/\p=iZ i/\J (cands P c b i) wr/\kZ w wr/\W.heap.size<=wr.heap.size) (λp wr=>256-(intOf p).toNat)
 case atStart =>
  exact⟨0,dC,rfl,h0,hW,XH _⟩
 case round =>
  obtain⟨i,hi,rfl,O,Q,hk⟩:=hrel;have ka:=Q;by_cases he:i=256
  .subst he
   gi_wp2
   go_end0
   exact⟨⟨_,rfl⟩,.inl ⟨_,rfl,O⟩⟩
  .have kb:(i:Int)<256:=oM;have c1:wr.cell? ⟨k1,0,none⟩=some (.string c):=(Yb (Q.block k1 l1)).trans h1;have c2:wr.cell? ⟨k2,0,none⟩=some (.slice a0 bs.size cap):=(Yb (Q.block k2 l2)).trans h2;have ha:=Made.alloc wr [.int .u8 i] 5;have hm:=Made.alloc (wr.alloc (.cells #[.int .u8 i] 5)) [.slice a0 bs.size cap,sZ wr.heap.size 1 1] 23;rw[XS]at hm;have kd:ub (XY i)=(i:Int):=by
    show(((XY i).toNat:Nat):Int)=_;rw[UInt8.toNat_ofNat',Ya oM]
   obtain⟨W1,S⟩:∃W1,W1=(wr.alloc (.cells #[.int .u8 i] 5)).alloc (.cells #[.slice a0 bs.size cap,sZ wr.heap.size 1 1] 23):=⟨_,rfl⟩
   have I:kZ wr W1:=by rw[S];exact((XX _ wr).alloc (XH _) _).alloc (by rw[XS];omega) _
   have hP:PartsOk W1 (some ⟨wr.heap.size+1,0,none⟩) [b,[XY i]]:=by
    have k:W1.rangeAt (wr.heap.size+1) 0 [.slice a0 bs.size cap,sZ wr.heap.size 1 1]:=by rw[S];exact hm.range
    refine Yd ⟨_,_,rfl,λj m=>?_⟩;have o:j=0\/j=1:=by simp at m;omega
    rcases o with rfl|rfl
    .exact⟨_,k 0 _ rfl,(HP.below ka).below I⟩
    .refine⟨_,k 1 _ rfl,some (aZ wr.heap.size),wr.heap.size,0,1,#[XY i],rfl,rfl,XH _,YM rfl,Yd ⟨rfl,?_⟩⟩;have f:=ha.range;have s:wr.heap.size<(wr.alloc (.cells #[.int .u8 i] 5)).heap.size:=by rw[XS];omega
     intro j m;have g:j=0:=by simp at m;omega
     subst g;have q:W1.heap[wr.heap.size]? = (wr.alloc (.cells #[.int .u8 i] 5)).heap[wr.heap.size]?:=by rw[S];exact yDJ _ _ _ s
     refine⟨?_,?_⟩
     .rw[Yb (a:=⟨wr.heap.size,0+0,none⟩) q];show _=some (Value.int .u8 (ub (XY i)));rw[kd];exact f 0 _ rfl
     .rw[Y6 (a:=⟨wr.heap.size,0+0,none⟩) q];exact(ha.there 0 (XH _)).2
   have h7:=kU ((⟨#[112,111,105,110,116,32]⟩:ByteArray)++c) (some ⟨wr.heap.size+1,0,none⟩) 2 [b,[XY i]] W1 (by rw[ByteArray.size_append];show 6+c.size<=_;omega) (YM rfl) hP
   gi_wp2_with fail
   rw[<-S];refine⟨trivial,λh=>(by cases h),(callsIn_wide.2 h7).mono ?_⟩;rintro e w2 ⟨r,rfl,k9,hg,V⟩;clear h7 hP c1 c2 ha hm kb;obtain⟨T,Y⟩:=yH (iY ((⟨#[112,111,105,110,116,32]⟩:ByteArray)++c).data.toList [b,[XY i]]);rw[Y.out]at V
   gi_wp2_with fail
   refine⟨trivial,λh=>(by cases h),(callsIn_wide.2 (bP _)).mono ?_⟩;rintro e w3 ⟨v,rfl,X,rfl⟩;have hr:r<w2.heap.size:=Lq V (by rw[<-Y.out,bV];decide);have hs:T.size=32:=Y.out▸bV;have hl:hZ w3 r 0 T:=Holds.below V X hr;have K:r<w3.heap.size:=XI hr X.size;have B:kZ wr w3:=(I.trans (hg.mono I.size)).trans (X.mono (XN I.size hg.size));by_cases hx:beV T.toList<P
   .obtain⟨x,U⟩:∃x:Fin P,Hid (beV T.toList=x.val):=⟨Z2 P (beV T.toList),(Ya hx).symm⟩
    have R:Hid (Z2 P (beV T.toList)=x):=Fin.ext (by show beV T.toList%P=_;rw[Ya hx];exact U);have hx:Hid (beV T.toList<P):=hx
    gi_wp2_with fail
    refine⟨trivial,λh=>(by cases h),(callsIn_wide.2 (MP C hs (XH _) U K hl)).mono ?_⟩;rintro e t ⟨v,rfl,N,rfl⟩;have u:=(Made.alloc t [uZ 0,uZ 0,uZ 0,uZ 0] 42).there;have g:=B.trans (N.mono B.size);have k4:=YW _ _ 0 (ws x) u;obtain⟨d,k0,hu⟩:=XK.1 u85;clear u k4 hs hl hr K X N V k9 hg I;obtain⟨w5,h9⟩:=yH ((t.alloc (.cells #[uZ 0,uZ 0,uZ 0,uZ 0] 42)).setCells t.heap.size 0 (ws x));have o:Hid (kZ wr w5):=h9.out▸RG.below_setCells g.size _ _ _ (g.alloc g.size _);have h5:w5.rangeAt t.heap.size 0 (ws x):=h9.out▸YW _ _ 0 (ws x) (Made.alloc t [uZ 0,uZ 0,uZ 0,uZ 0] 42).there
    gi_wp2_with (first|(refine bN rfl 42 rfl 0 rfl rfl (Made.alloc t [uZ 0,uZ 0,uZ 0,uZ 0] 42).there i85 kR ?_;rw[show(ws x).toArray.toList=ws x from rfl,h9.out])|refine kD rfl rfl rfl d h5 k0 hu i85 ?_)
    refine⟨trivial,λh=>(by cases h),?_⟩;clear h5 k0 hu;have ke:True:=trivial;obtain⟨d8,h3,h8⟩:=XK.1 iM;cases F:rt (x*x*x+7) with
    | none =>
     obtain⟨z,M⟩:∃z:Fin P,Hid (z=0):=⟨_,rfl⟩
     have k:=Bg C x F w5;rw[<-M.out]at k;obtain⟨vz,D⟩:=yH (pv z z);rw[D.out]at k;apply(callsIn_wide.2 k).mono;clear k;rintro e s ⟨v,rfl,L,rfl⟩;have f:Hid (cand P c b i=none):=by
      show cand P c b i=none;unfold cand;rw[Y.out,yE3 hx.out,R.out,F];rfl
     clear F;have q:Hid (kZ wr ((s.alloc (.cells #[uZ 0,uZ 0,uZ 0,uZ 0,uZ 0,uZ 0,uZ 0,uZ 0] 131)).setCells s.heap.size 0 (ws z++ws z))):=
      have Z:=o.trans (L.mono o.size)
      RG.below_setCells Z.size _ _ _ (Z.alloc Z.size _)
     clear L;have E:(ws z++ws z).toArray.size=8:=kR;have A:Hid <| (s.alloc (.cells #[uZ 0,uZ 0,uZ 0,uZ 0,uZ 0,uZ 0,uZ 0,uZ 0] 131)).there s.heap.size 0 (ws z++ws z).toArray.size:=by show yEq _ _ _ _;rw[E];exact(Made.alloc s [uZ 0,uZ 0,uZ 0,uZ 0,uZ 0,uZ 0,uZ 0,uZ 0] 131).there
     have H:Hid (gZ 131 (ws z++ws z).toArray.size):=by show _=_;rw[E];exact i109
     clear E;obtain⟨G,m⟩:=yH ((s.alloc (.cells #[uZ 0,uZ 0,uZ 0,uZ 0,uZ 0,uZ 0,uZ 0,uZ 0] 131)).setCells s.heap.size 0 (ws z++ws z));rw[m.out]at q
     gi_wp2_with (refine bN rfl 131 rfl (b:=s.heap.size) 0 (k:=(ws z++ws z).toArray) ?_ ?_ ?_ ?_ ?_ ?_;rfl;exact D.symm;exact A;exact H;kernel_rfl;rw[show(ws z++ws z).toArray.toList=ws z++ws z from rfl,m.out];refine Hid ?_)
     clear A H D M m o R U hx Y;show wpListIn _ _ _ _ _ _ _ _
     gi_wp2_with fail
     refine⟨λ_ h=>(by cases h),?_⟩
     gi_wp2_with fail
     refine⟨⟨i+1,oM,rfl,?_,Q.trans (q.mono Q.size),XN hk q.size⟩,?_⟩
     .rw[kA,f.out];exact hJ _ wr _ none (by simpa using O) (B6 q) (λ_ e=>by cases e)
     .simp[intOf];omega
    | some y =>
     have k:=Bf C x y F w5;obtain⟨vz,D⟩:=yH (pv x y);rw[D.out]at k;apply(callsIn_wide.2 k).mono;clear k;rintro e s ⟨v,rfl,L,rfl⟩;have f:Hid (cand P c b i=some (x,y)):=by
      show cand P c b i=some (x,y);unfold cand;rw[Y.out,yE3 hx.out,R.out,F];rfl
     clear F;obtain⟨G,m⟩:=yH ((s.alloc (.cells #[uZ 0,uZ 0,uZ 0,uZ 0,uZ 0,uZ 0,uZ 0,uZ 0] 131)).setCells s.heap.size 0 (ws x++ws y));have M:Hid (kZ wr G):=by
      rw[<-m.out];have Z:=o.trans (L.mono o.size);exact RG.below_setCells Z.size _ _ _ (Z.alloc Z.size _)
     clear L;have h4:G.rangeAt s.heap.size 0 (ws x++ws y):=m.out▸YW _ _ 0 (ws x++ws y) (Made.alloc s [uZ 0,uZ 0,uZ 0,uZ 0,uZ 0,uZ 0,uZ 0,uZ 0] 131).there;have k8:Hid (J (cands P c b i) G):=hJ _ wr _ none (by simpa using O) (B6 M) (λ_ e=>by cases e);have E:(ws x++ws y).toArray.size=8:=kR;have A:Hid <| (s.alloc (.cells #[uZ 0,uZ 0,uZ 0,uZ 0,uZ 0,uZ 0,uZ 0,uZ 0] 131)).there s.heap.size 0 (ws x++ws y).toArray.size:=by show yEq _ _ _ _;rw[E];exact(Made.alloc s [uZ 0,uZ 0,uZ 0,uZ 0,uZ 0,uZ 0,uZ 0,uZ 0] 131).there
     have H:Hid (gZ 131 (ws x++ws y).toArray.size):=by show _=_;rw[E];exact i109
     clear E;obtain⟨fn,tmps,k7,kg,hy,hR⟩:=hY (cands P c b i) (x,y) G k8 (Nat.lt_of_le_of_lt I4 oM);dsimp only at hy;obtain⟨va,hn⟩:=yH (Yg (ws x++ws y).toArray);rw[show pv x y=va from hn.out]at hy
     gi_wp2_with (refine bN rfl 131 rfl (b:=s.heap.size) 0 (k:=(ws x++ws y).toArray) ?_ ?_ ?_ ?_ ?_ ?_;rfl;exact D.symm;exact A;exact H;kernel_rfl;rw[show(ws x++ws y).toArray.toList=ws x++ws y from rfl,m.out];refine Hid ?_)
     clear A H m o R U hx Y;have k3:=Hid.mk hR;have Z:=Hid.mk h4;have hw:=Hid.mk h3;have k6:=Hid.mk h8;clear hR h4 h3 h8;show wpListIn _ _ _ _ _ _ _ _
     gi_wp2_with (refine qI rfl 131 rfl s.heap.size 0 ?_ (ws x++ws y) d8 ?_ ?_ ?_ ?_ ?_;rfl;exact Z;exact hw;exact k6;exact i109;rw[hn.out];refine Hid ?_)
     clear Z hw k6 hn D;show wpListIn _ _ _ _ _ _ _ _
     gi_wp2_with fail
     refine⟨λh=>(by cases h),k3.mono ?_⟩;clear k3 hy;rintro e W8 (⟨rfl,kc,k5⟩|⟨rfl,ht⟩)
     .gi_wp2_with fail
      refine⟨⟨i+1,oM,rfl,?_,(Q.trans (M.mono Q.size)).trans k5,XN hk (XN M.size k5.size)⟩,?_⟩
      .rw[kA,f.out];exact kc
      .simp[intOf];omega
     .gi_wp2_with fail
      refine XR (results_none rfl _ _ _) rfl ?_;refine⟨⟨_,rfl⟩,.inr ⟨_,?_,ht⟩⟩;have hp:=I3 (P:=P) c b (i:=i+1) (j:=256) oM;rw[kA,f.out]at hp;exact hp
   .have f:cand P c b i=none:=by
     unfold cand;rw[Y.out,yE4 hx]
    gi_wp2_with fail
    refine⟨trivial,λh=>(by cases h),(callsIn_wide.2 (MQ C hs (XH _) hx K hl)).mono ?_⟩;rintro e t ⟨v,rfl,N,rfl⟩;have u:Hid ((t.alloc (.cells #[uZ 0,uZ 0,uZ 0,uZ 0] 42)).there t.heap.size 0 4):=(Made.alloc t [uZ 0,uZ 0,uZ 0,uZ 0] 42).there;have g:=B.trans (N.mono B.size);have q:Hid (kZ wr ((t.alloc (.cells #[uZ 0,uZ 0,uZ 0,uZ 0] 42)).setCells t.heap.size 0 (ws (0:Fin P)))):=RG.below_setCells g.size _ _ _ (g.alloc g.size _);have f:Hid (cand P c b i=none):=f;obtain⟨G,m⟩:=yH ((t.alloc (.cells #[uZ 0,uZ 0,uZ 0,uZ 0] 42)).setCells t.heap.size 0 (ws (0:Fin P)));rw[m.out]at q
    gi_wp2_with (refine bN rfl 42 rfl (b:=t.heap.size) 0 (k:=(ws (0:Fin P)).toArray) ?_ ?_ ?_ ?_ ?_ ?_;rfl;rfl;exact u;exact i85;kernel_rfl;rw[show(ws (0:Fin P)).toArray.toList=ws (0:Fin P) from rfl,m.out];refine Hid ?_)
    clear u g B N Y m;show wpListIn _ _ _ _ _ _ _ _
    gi_wp2_with fail
    refine⟨⟨i+1,oM,rfl,?_,Q.trans (q.mono Q.size),XN hk q.size⟩,?_⟩
    .rw[kA,f.out];exact hJ _ wr _ none (by simpa using O) (B6 q) (λ_ e=>by cases e)
    .simp[intOf];omega
end
section
open Go.Shelf
variable {P:Nat}[NeZero P]{N:Nat}
def yL{k:ByteArray}{a:Option Y4}{m c:Nat}{w:XF}:
 cZ 68 #[.string k,.slice a m c] w (Ret λe w'=>e=.func (.func 117) #[] #[jZ w.heap.size,jZ (w.heap.size+1)]/\w'=(w.alloc (.cells #[.string k] 9)).alloc (.cells #[.slice a m c] 23)):=by
 go_enter func68,ntmps68;go_wp2;go_ret;exact⟨_,rfl,rfl,rfl⟩
noncomputable def hpt (P:Nat) [NeZero P] (k:ByteArray) (b:List UInt8):Fin P × Fin P:=(cands P k b 256).headD (gX P,gY P)
def Pi{k:ByteArray}{b:List UInt8}{i:Nat}{x:Fin P × Fin P}(h:cand P k b i=some x):x.2*x.2=x.1*x.1*x.1+7:=by
 unfold cand at h;split at h
 .obtain⟨y,c,rfl⟩:=XK.1 h;exact PU c
 .cases h
def Ms{k:ByteArray}{b:List UInt8}{n:Nat}{x:Fin P × Fin P}(h:x∈cands P k b n):x.2*x.2=x.1*x.1*x.1+7:=by
 unfold cands at h;obtain⟨i,-,c⟩:=List.mem_filterMap.1 h;exact Pi c
def BV{k:ByteArray}{b:List UInt8}(C:Fld P):On (.some (hpt P k b):EC.Pt P):=by
 unfold hpt;cases h:cands P k b 256 with
 | nil=>exact Dm C
 | cons x r=>exact Kw (x:=x.1) (y:=x.2) (Ms (by rw[h];exact YL))
def NH{q:Fin P × Fin P}(C:Fld P)(h:On (.some q:EC.Pt P)):uP q.1 q.2=wr (.some q:EC.Pt P):=xH C ⟨rfl,rfl⟩ h
def SC(C:Fld P)(k:ByteArray)(b:List UInt8):uP (hpt P k b).1 (hpt P k b).2=wr (.some (hpt P k b):EC.Pt P):=NH C (BV C)
def A3{a:Option Y4}{m c:Nat}{b:List UInt8}{w:XF}(C:Fld P)(k:ByteArray)(f:k.size<=1000000)(p:PartOk w (.slice a m c) b):
 cZ 67 #[.func (.func 117) #[] #[jZ w.heap.size,jZ (w.heap.size+1)]] ((w.alloc (.cells #[.string k] 9)).alloc (.cells #[.slice a m c] 23)) (rZ w λe w'=>e=pv (hpt P k b).1 (hpt P k b).2):=by
 have i:=Made.alloc w [.string k] 9;have j:=Made.alloc (w.alloc (.cells #[.string k] 9)) [.slice a m c] 23;have d:kZ w ((w.alloc (.cells #[.string k] 9)).alloc (.cells #[.slice a m c] 23)):=((XX _ w).alloc (XH _) _).alloc (by rw[XS];omega) _;have q:((w.alloc (.cells #[.string k] 9)).alloc (.cells #[.slice a m c] 23)).heap.size=w.heap.size+2:=by rw[XS,XS]
 have l:((w.alloc (.cells #[.string k] 9)).alloc (.cells #[.slice a m c] 23)).cell? ⟨w.heap.size,0,none⟩=some (.string k):=by
  rw[Yb (a:=⟨w.heap.size,0,none⟩) (yDJ _ _ _ (by rw[XS];exact yB2 _))];exact i.range 0 _ rfl
 have o:((w.alloc (.cells #[.string k] 9)).alloc (.cells #[.slice a m c] 23)).cell? ⟨w.heap.size+1,0,none⟩=some (.slice a m c):=by
  have:=j.range 0 _ rfl;rwa[XS]at this
 apply(OT C _ (cands P k b 256) 256 _ (λn=>Sy C k (.slice a m c) b w.heap.size (w.heap.size+1) _ f l o oM oM (p.below d) n)).mono;rintro e w' ⟨v,rfl,g,rfl⟩;exact⟨_,rfl,d.trans (g.mono d.size),rfl⟩
def MY(C:Fld P)(k:ByteArray)(a:Option Y4)(m c:Nat)(b:List UInt8)(w:XF)(i:k.size<=1000000)(x:PartOk w (.slice a m c) b):
 cZ 184 #[.string k,.slice a m c] w (rZ w λe w'=>Je w (wr (.some (hpt P k b):EC.Pt P)) e w'):=by
 have t:=A3 C k i x;have j:∀w,cZ 70 #[pv (hpt P k b).1 (hpt P k b).2] w (rZ w λe w'=>nI w (uP (hpt P k b).1 (hpt P k b).2) e w'):=xG C;rw[SC C]at j;go_enter func184,ntmps184;go_wp2_with fail
 apply(yL).mono;rintro e z ⟨v,rfl,rfl,rfl⟩;go_wp2_with fail
 refine t.mono ?_;rintro e A ⟨v,rfl,o,rfl⟩;have f:=mk1 (o);go_wp2_with fail
 apply(j _).mono;rintro e y ⟨v,rfl,r,g,d,rfl,n,p,l,q⟩;have s:=mk1 (f.trans (r.mono f.size));have u:Hid (Je w (wr (.some (hpt P k b):EC.Pt P)) (.tuple #[sZ g 33 d,iZ 0]) y):=⟨g,d,rfl,n,XN f.size p,l,q⟩
 go_wp2
 go_ret2
 exact⟨_,rfl,s,u⟩
end
section
variable {P:Nat}[NeZero P]{N:Nat}
def Hn(C:Fld P)(lb:ByteArray)(r:lb.size<=1000000)(s:Option Y4)(u p:Nat)(tx:List UInt8)(w:XF)(E:PartOk w (.slice s u p) tx):
 cZ 130 #[.string lb,.slice s u p] w (rZ w λe w'=>e=pvl (wr (.some (hpt P lb tx):EC.Pt P))):=by
 obtain⟨T,o⟩:=hE (wr (.some (hpt P lb tx):EC.Pt P));have x:T.size=33:=o.out▸aL _;rw[o.out];have H:=mk1 (C);have I:=Hid.mk' E;have HL:=Hid.mk' r;obtain⟨l,i⟩:=hE (lZ w z33 51);have m:Hid (Row l w.heap.size z33/\kZ w l):=by rw[<-i.out];exact⟨row_new w _ _,aC _⟩
 obtain⟨d,q,t⟩:=XK.1 uCP;have z:=mk2 q t;go_enter func130,ntmps130;go_wp2_with (refine bF (v:=jZ w.heap.size) (w':=l) rfl (.alloc 51) rfl ?_ ?_;(rw[<-i.out];kernel_rfl))
 apply(MY H lb s u p tx l HL (I.below m.2)).mono;rintro e B ⟨J,rfl,b,g,F,rfl,-,-,G,A⟩;rw[o.out]at A;have n:=mk3 (m.1.below b) (m.2.trans (b.mono m.2.size)) (qV A G);have y:=Hw g F;obtain⟨D,c⟩:=hE (B.setCells w.heap.size 0 (aA T));have k:=aB x;have a:Hid (Row D w.heap.size (aA T)/\kZ w D):=by rw[<-c.out];exact⟨n.1.put (by rw[k];rfl),RG.below_setCells (XH _) _ _ _ n.2.1⟩
 obtain⟨K,f⟩:=hE (Yg (aA T).toArray);have j:Hid (gZ 51 (aA T).length/\B.there w.heap.size 0 (aA T).toArray.size/\gZ 51 (aA T).toArray.size):=by
  have e:(aA T).toArray.size=33:=by rw[YJ];exact k
  refine⟨by rw[k];exact dA,by rw[e];exact n.1.2.2,by rw[e];exact dA⟩
 go_wp2_with (first|(refine YG rfl 51 _ rfl g 0 ?_ (aA T) d ?_ ?_ ?_ ?_ ?_;rfl;exact n.2.2.2.1;exact z.1;exact z.2;exact j.1;rw[f.out])|(refine Yi rfl 51 _ _ rfl w.heap.size 0 (aA T).toArray ?_ ?_ ?_ ?_ ?_ ?_;rfl;exact f.symm;exact j.2.1;exact j.2.2;exact bQ;rw[show(aA T).toArray.toList=aA T from rfl,c.out]))
 refine XR (aF 4 rfl a.1 rfl uCP j.1) rfl ?_;exact⟨_,rfl,a.2,rfl⟩
def Ky:Gives 15 #[uZ 1] (nv 1):=by
 intro w;go_enter func15,ntmps15;refine RG.M.enter [(0,.v (uZ 1))] 6 kR ?_;intro a0 d;repeat apply XL
 refine d.T [.m 0] [(0,RG.z 4)] [] [RG.z 4] [0,2] ⟨mk 0 44,yE5⟩ ?_;intro k e g c;repeat apply XL
 refine c.T [.x (uZ 1),.x (nv 1),.x (nv 1),.u 0] [] [(0,3,wn 1)] [wn 1] [2] ⟨st,st,st,RG.pt i40,yE5⟩ ?_;intro a2 f b;refine Zj<|XR (v:=nv 1) (aH b.st rfl rfl (b.at (s:=(.p 0 0))) u40 i40) b.sl.defers ?_
 exact⟨_,rfl,b.st.bel.below,rfl⟩
def Sm(B:Nat)(W:XF)(v:XG)(l:LB):Prop:=∃g c,v=sZ g l.length c/\l.length<=c/\B<=g/\g<W.heap.size/\W.rangeAt g 0 (aR l)
def Sm.grow{B:Nat}{W W':XF}{v:XG}{l:LB}(h:Sm B W v l)(b:kZ W W'):Sm B W' v l:=by
 obtain⟨g,c,e,f,d,k,i⟩:=h;exact⟨g,c,e,f,d,XI k b.size,RG.range_below i b k⟩
def cellsT_one'(n:Nat)(a:Bs):aR [(n,a)]=wn n++aA a:=by rw[fU];exact yAt _
def Sm.one{B W k n}{w:XF}{a:Bs}(h:Row w k (wn n++aA a))(c:B<=k)(b:w=W):Sm B W (sZ k 1 1) [(n,a)]:=by
 subst b;exact⟨k,1,rfl,XH _,c,h.1,by rw[cellsT_one'];exact h.2.1⟩
def infoT':(prog.info? 124).map (λi=>(i.size,i.bytes,i.zero.map λz=>z.cells.size))=some (37,72,some 37):=kR
def GT(n:Nat)(v:n<=10000000)(w:XF):cZ 108 #[nZ,iZ n] w (rZ w λe w'=>w'.ownsRow w.heap.size 124 37 e 0 []):=by
 by_cases s:n=0
 .subst s;go_enter func108,ntmps108;go_wp2;go_ret;exact⟨_,rfl,XX _ _,yCe _ _ _ _⟩
 .obtain⟨i,q,m⟩:=XK.1 infoT';simp only[Zl.injEq]at m;obtain⟨u,r,p⟩:=m;obtain⟨z,o,l⟩:=XK.1 p;have f:=yC4 (P:=prog) w 82 3 82 124 i z .i64 .i64 D3 TQ q o n oM oM oM (by rw[r];omega);have c:=grownCap_ge w n 0 124;have k:=grownCap_le_maxLen w n 0 124 (by unfold maxLen;omega);have b:(Zy z.cells n++Zy z.cells (grownCap w n 0 124-n)).size=grownCap w n 0 124*37:=by rw[Ys,size_zeroCells,size_zeroCells,l];omega
  generalize grownCap w n 0 124=j at f c k b;generalize Zy z.cells n++Zy z.cells (j-n)=cur at f b;obtain⟨g,d⟩:=yH (w.drew.alloc (.cells cur 124));rw[d.out]at f;have t:=Hid.mk' f;have K:Hid (kZ w g/\g.ownsRow w.heap.size 124 37 (sZ w.heap.size 0 j) 0 []):=by
   rw[<-d.out];exact⟨(XX _ _).drew.alloc (XH _) _,yDt w.drew cur j (XH _) k b⟩
  go_enter func108,ntmps108;go_wp2_with (at_builtin;refine yAs _ rfl _ _ _ _ rfl _ _ rfl rfl _ _ t ?_)
  go_ret;exact⟨_,rfl,K.1,K.2⟩
def Fo(l m:LB):aR (l++m)=aR l++aR m:=by unfold aR;rw[yBp]
def I2{l:LB}:∀u∈aR l,u.oneCell'=true:=λu k=>by
 unfold aR at k;obtain⟨x,-,hx⟩:=yCw.1 k;exact cells_one u hx
def rE:∀ {l:LB},(∀x∈l,x.2.size=33)->(aR l).length=l.length*37
 | [],_=>rfl
 | x :: r,h=>by
  rw[fU,XP,iJ (h x YL),rE λy k=>h y (Yx _ k),YA];omega
def CY{b B:Nat}{W:XF}{v x:XG}{l m:LB}(d:W.ownsRow b 124 37 v l.length (aR l))(o:∀y∈m,y.2.size=33)(hx:Sm B W x m)(G:l.length+m.length<=1000000)(A:b<=W.heap.size):
 ∃e W',(YK #[82,82] 82 #[v,x]).run prog W=.ok e W'/\W'.ownsRow b 124 37 e (l++m).length (aR (l++m))/\W.grownBy W' v.ownBlock:=by
 obtain⟨i,w,g⟩:=XK.1 infoT';simp only[Zl.injEq]at g;obtain⟨s,a,r⟩:=g;obtain⟨z,q,f⟩:=XK.1 r;obtain⟨k,c,rfl,F,E,e3,D⟩:=hx;obtain⟨e,W',n,t,p,-⟩:=yBu (P:=prog) W b 82 82 124 i z 37 72 D3 w q s a f dC v l.length (aR l) d (aZ k) m.length c (aR m) (rE o)
  (λj u C=>by
   have:=D j u C;rw[XQ]at this;rw[add0];exact this) I2 (by unfold maxLen;omega) oM A
 exact⟨e,W',n,by rw[XP,Fo];exact t,p⟩
def atS{n i:Nat}(k o c:Nat)(b:i<n)(w:XF):(YV 148 (qZ k o n c) (iZ i)).run prog w=.ok (oZ k (o+1*i)) w:=by
 go_simp
def eY(L:Nat->LB)(k:Nat):LB:=(YB k).flatMap L
def dE(L:Nat->LB)(i:Nat):eY L (i+1)=eY L i++L i:=by
 unfold eY;rw[yA2,yBp];simp
def Ch{L:Nat->LB}{k m:Nat}(b:∀j,j<k->(L j).length<=m):∀i,i<=k->(eY L i).length<=m*i
 | 0,_=>XH _
 | i+1,hi=>by
  have c:=Ch b i oM;have d:=b i oM;rw[dE,XP,yA1];omega
def IU(g k c:Nat)(L:Nat->LB)(F:k<=1000)(S:∀j,j<k->(L j).length<=600)(u:∀j,j<k->∀x∈L j,x.2.size=33)(w:XF)(N:g<w.heap.size)(R:∀j,j<k->∃x,w.cell? ⟨g,j,none⟩=some x/\Sm 0 w x (L j)):
 cZ 62 #[sZ g k c] w (rZ w λe w'=>w'.ownsRow w.heap.size 124 37 e (eY L k).length (aR (eY L k))):=by
 have HL:=Hid.mk' R;have s:=mk1 (Ch S);have Q:=Hid.mk' N;have U:=Hid.mk' u;go_enter func62,ntmps62;go_wp2_with fail
 go_loopg [3,11] k (λm s3 s11 W=>∃i:Nat,i+m=k/\s11=iZ i/\s3=iZ ((eY L i).length:Int)/\w=W)
 case atStart=>exact⟨0,oM,rfl,rfl,rfl⟩
 case round =>
  obtain⟨i,T,rfl,rfl,rfl⟩:=hrel;by_cases I:i<k
  .have D:(i:Int)<(k:Int):=oM;obtain⟨x,K,hE⟩:=HL i I;obtain⟨H,J,rfl,r,-⟩:=hE;have l:=atS g 0 c I;rw[show 0+1*i=i by omega]at l;have d:(eY L (i+1)).length=(eY L i).length+(L i).length:=by rw[dE,XP]
   have n:=s i oM;have o:=s (i+1) oM;obtain⟨a,f⟩:=hE ((eY L i).length);obtain⟨b,q⟩:=hE ((L i).length);rw[f.out]at d n;rw[q.out]at d r;rw[f.out];rw[q.out]at K;go_wp2;go_roundg (gk-1)
   case measure=>omega
   case rel=>exact⟨i+1,oM,rfl,by rw[d,yCG],rfl⟩
  .have D:¬(i:Int)<(k:Int):=oM;obtain rfl:i=k:=oM;go_wp2_with fail
   apply(GT (eY L i).length (oN (s i (XH _))) w).mono;rintro e X ⟨v,rfl,n,z⟩;have V:=mk2 n z;go_wp2_with fail
   go_loopg [6,27] i (λm s6 s27 W=>∃j:Nat,j+m=i/\s27=iZ j/\Hid (kZ w W/\W.ownsRow w.heap.size 124 37 s6 (eY L j).length (aR (eY L j))))
   case atStart=>exact⟨0,oM,rfl,V⟩
   case round =>
    obtain⟨j,P,rfl,f⟩:=hrel;by_cases C:j<i
    .have A:(j:Int)<(i:Int):=oM;obtain⟨x,q,r⟩:=HL j C;have K:wr.cell? ⟨g,j,none⟩=some x:=by rw[f.1.cell (p:=⟨g,j,none⟩) Q.out];exact q
     have hE:=r.grow f.1;have o:=s (j+1) oM;have d:(eY L (j+1)).length=(eY L j).length+(L j).length:=by rw[dE,XP]
     obtain⟨M,W',E,B,G⟩:=CY f.2 (U j C) hE (by rw[<-d];omega) f.1.size;rw[<-dE]at B;have O:Hid (kZ w W'/\W'.ownsRow w.heap.size 124 37 M (eY L (j+1)).length (aR (eY L (j+1)))):=⟨f.1.grown G f.1.size (λk F=>(f.2.lt k F).1),B⟩
     have t:=Hid.mk' E;obtain⟨H,J,rfl,-⟩:=hE;have l:=atS g 0 c C;rw[show 0+1*j=j by omega]at l;clear E B G d o f r q;go_wp2_with (first|(refine mI (x:=u6) (y:=sZ H (L j).length J) (v:=M) (w':=W') rfl _ _ 82 rfl ?_ ?_ ?_ ?_;rfl;rfl;exact t)|fail)
     go_roundg (gk-1)
     case measure=>omega
     case rel=>exact⟨j+1,oM,rfl,O⟩
    .have A:¬(j:Int)<(i:Int):=oM;obtain rfl:j=i:=oM;go_wp2;go_ret;exact⟨_,rfl,f.1,f.2⟩
def Gs{W:XF}{k:Nat}{v:XG}{l:LB}(h:W.ownsRow k 124 37 v l.length (aR l))(m:0<l.length):Sm k W v l:=by
 have c:=λ{g:Nat}=>h.cells (g:=g)
 rcases h.2 with⟨-,i⟩|⟨g,cap,cur,rfl,f,d,b,-⟩
 .omega
 .refine⟨g,cap,rfl,b,f,(X9.1 d).1,λj u e=>?_⟩;have:=c (g:=g) rfl j u e;rw[add0]at this;rw[XQ];exact this
def tN(B:Nat)(s t:XG)(l m:LB)(n:0<l.length)(Q:l.length<=500)(P:m.length<=500)(z:∀x∈l,x.2.size=33)(y:∀x∈m,x.2.size=33)(w:XF)(C:Sm B w s l)(E:Sm B w t m):
 cZ 31 #[s,t] w (rZ w λe w'=>Sm w.heap.size w' e (l++m)):=by
 have J:=n;obtain⟨p,c1,M,-⟩:=id C;obtain⟨f,c2,K,-⟩:=id E;subst M;subst K;obtain⟨b,k⟩:=hE (w.alloc (.cells #[sZ p l.length c1,sZ f m.length c2] 82));have G:kZ w b:=k.out▸aC _;have r:w.heap.size<b.heap.size:=by rw[<-k.out,XS];omega
 have F:b.rangeAt w.heap.size 0 [sZ p l.length c1,sZ f m.length c2]:=k.out▸(Made.alloc w [sZ p l.length c1,sZ f m.length c2] 82).range;have N:=Hid.mk' (IU w.heap.size 2 2 (λj=>if j=0 then l else m) dC (λj _=>by show(if j=0 then l else m).length<=600;split<;>omega) (λj _=>by
  show ∀x∈(if j=0 then l else m),x.2.size=33;split
  .exact z
  .exact y) b r (λj d=>by
  have o:∀ {v:XG}{l:LB},Sm B w v l->Sm 0 b v l:=λh=>by
   obtain⟨g,c,A,i,-,q,u⟩:=h.grow G;exact⟨g,c,A,i,Zq _,q,u⟩
  have d:j=0\/j=1:=oM;rcases d with rfl|rfl
  .exact⟨_,F 0 _ rfl,o C⟩
  .exact⟨_,F 1 _ rfl,o E⟩))
 have d:eY (λj=>if j=0 then l else m) 2=l++m:=by rw[dE,dE];rfl
 have a:=Hid.mk' G;have D:Hid (eY (λj=>if j=0 then l else m) 2=l++m/\0<(l++m).length):=⟨d,by rw[XP];omega⟩
 go_enter func31,ntmps31;go_wp2_with fail
 rw[k.out];refine N.mono ?_;rintro e I ⟨O,rfl,o,ho⟩;rw[D.1]at ho;have H:Hid (kZ w I/\Sm w.heap.size I O (l++m)):=by
  obtain⟨g,c,A,i,L,q,u⟩:=Gs ho D.2;exact⟨a.trans (o.mono a.size),g,c,A,i,XN a.size L,q,u⟩
 go_wp2;go_ret;exact⟨_,rfl,H.1,H.2⟩
def Sm.point(C:Fld P)(O:Ord N)(d:∀r:EC.Pt P,On r->mul N r=none){B:Nat}{w:XF}{v:XG}{l:LB}(h:Sm B w v l)(i:0<l.length)(D:l.length<=512)(a:∀x∈l,x.1<N)(f:PtsL P l):
 cZ 33 #[v] w (rZ w λe w'=>e=pvl (wr (fW P l))):=by
 obtain⟨g,c,rfl,-,-,p,s⟩:=h;have b:∀x∈l.map (·.2),x.size=33:=λx hx=>by
  obtain⟨y,k,rfl⟩:=YD.1 hx;obtain⟨X,-,e⟩:=f y k;rw[e];exact aL _
 have m:∀j (k:j<l.length),((l[j]?).getD (0,#[]))=l[j]:=λj k=>by rw[XV k];rfl
 have q:∀j,j<l.length->On (gV P ((l[j]?).getD (0,#[])).2):=λj k=>by rw[m j k];exact f.on C (YS k)
 refine(Ec C O d i D (λj k=>by rw[m j k];exact a _ (YS k)) q p (λj k=>?_)).mono ?_
 .rw[m j k];obtain⟨X,E,n⟩:=f _ (YS k);rw[n,mJ C E,<-n];intro t u o;have z:t<37:=by
   have:=(XT.1 o).1;rw[iJ (b _ (YD.2 ⟨_,YS k,rfl⟩))]at this;exact this
  have:=s (37*j+t) u (by rw[mB l b j k t z];exact o);rw[XQ]at this;exact this
 .rintro e w' ⟨u,rfl,n,rfl⟩;refine⟨_,rfl,n,?_⟩;rw[xR C f _ (XH _),yCt]
def yS(C:Fld P){a b:EC.Pt P}(c:On a)(k:On b):∀n,mul n (EC.add a b)=EC.add (mul n a) (mul n b)
 | 0=>rfl
 | n+1=>by
  show EC.add (mul n (EC.add a b)) (EC.add a b)=EC.add (EC.add (mul n a) a) (EC.add (mul n b) b);rw[yS C c k n];exact C.cur.swap (cG C.cur c n) (cG C.cur k n) c k
def SmZ(B:Nat)(W:XF)(v:XG)(l:LB):Prop:=(v=nZ/\l=[])\/Sm B W v l
def SmZ.grow{B:Nat}{W W':XF}{v:XG}{l:LB}(h:SmZ B W v l)(k:kZ W W'):SmZ B W' v l:=by
 rcases h with h|h
 .exact Yk h
 .exact Yd (h.grow k)
def SmZ.form{B:Nat}{W:XF}{v:XG}{l:LB}(h:SmZ B W v l):∃q c,v=.slice q l.length c/\l.length<=c:=by
 rcases h with⟨rfl,rfl⟩|⟨g,c,k,b,-⟩
 .exact⟨none,0,rfl,XH _⟩
 .exact⟨_,_,k,b⟩
def Ts:∀W:XF,(YK #[82,82] 82 #[nZ,nZ]).run prog W=.ok nZ W:=λW=>kR
def Ko{b B:Nat}{W:XF}{v x:XG}{l m:LB}(k:W.ownsRow b 124 37 v l.length (aR l))(d:∀y∈m,y.2.size=33)(hx:SmZ B W x m)(f:l.length+m.length<=1000000)(n:b<=W.heap.size):
 ∃c W',(YK #[82,82] 82 #[v,x]).run prog W=.ok c W'/\W'.ownsRow b 124 37 c (l++m).length (aR (l++m))/\W.grownBy W' v.ownBlock:=by
 rcases hx with⟨rfl,rfl⟩|hx
 .rw[yAt];rcases id k.2 with⟨rfl,s⟩|⟨g,cap,cur,rfl,q,r,p,-⟩
  .exact⟨_,_,Ts W,k,⟨rfl,rfl,rfl,XH _,λ_ _ _=>rfl⟩⟩
  .obtain⟨i,e,o⟩:=XK.1 infoT';have:=run_append_room_src (P:=prog) W 82 82 82 124 i D3 e g 0 l.length cap nZ 0 [] (Src.ofNil (e':=124) _ D3 0) oM (λj c=>by cases c) (λj c=>by cases c);exact⟨_,_,this,k,⟨rfl,rfl,rfl,XH _,λ_ _ _=>rfl⟩⟩
 .exact CY k d hx f n
def IR(g k c:Nat)(L:Nat->LB)(F:k<=1000)(S:∀j,j<k->(L j).length<=600)(u:∀j,j<k->∀x∈L j,x.2.size=33)(w:XF)(N:g<w.heap.size)(R:∀j,j<k->∃x,w.cell? ⟨g,j,none⟩=some x/\SmZ 0 w x (L j)):
 cZ 62 #[sZ g k c] w (rZ w λe w'=>w'.ownsRow w.heap.size 124 37 e (eY L k).length (aR (eY L k))):=by
 have HL:=Hid.mk' R;have s:=mk1 (Ch S);have Q:=Hid.mk' N;have U:=Hid.mk' u;go_enter func62,ntmps62;go_wp2_with fail
 go_loopg [3,11] k (λm s3 s11 W=>∃i:Nat,i+m=k/\s11=iZ i/\s3=iZ ((eY L i).length:Int)/\w=W)
 case atStart=>exact⟨0,oM,rfl,rfl,rfl⟩
 case round =>
  obtain⟨i,T,rfl,rfl,rfl⟩:=hrel;by_cases I:i<k
  .have D:(i:Int)<(k:Int):=oM;obtain⟨x,K,hE⟩:=HL i I;obtain⟨H,J,rfl,r⟩:=hE.form;have l:=atS g 0 c I;rw[show 0+1*i=i by omega]at l;have d:(eY L (i+1)).length=(eY L i).length+(L i).length:=by rw[dE,XP]
   have n:=s i oM;have o:=s (i+1) oM;obtain⟨a,f⟩:=yH ((eY L i).length);obtain⟨b,q⟩:=yH ((L i).length);rw[f.out]at d n;rw[q.out]at d r;rw[f.out];rw[q.out]at K;go_wp2;go_roundg (gk-1)
   case measure=>omega
   case rel=>exact⟨i+1,oM,rfl,by rw[d,yCG],rfl⟩
  .have D:¬(i:Int)<(k:Int):=oM;obtain rfl:i=k:=oM;go_wp2_with fail
   apply(GT (eY L i).length (oN (s i (XH _))) w).mono;rintro e X ⟨v,rfl,n,z⟩;have V:=mk2 n z;go_wp2_with fail
   go_loopg [6,27] i (λm s6 s27 W=>∃j:Nat,j+m=i/\s27=iZ j/\Hid (kZ w W/\W.ownsRow w.heap.size 124 37 s6 (eY L j).length (aR (eY L j))))
   case atStart=>exact⟨0,oM,rfl,V⟩
   case round =>
    obtain⟨j,P,rfl,f⟩:=hrel;by_cases C:j<i
    .have A:(j:Int)<(i:Int):=oM;obtain⟨x,q,r⟩:=HL j C;have K:wr.cell? ⟨g,j,none⟩=some x:=by rw[f.1.cell (p:=⟨g,j,none⟩) Q.out];exact q
     have hE:=r.grow f.1;have o:=s (j+1) oM;have d:(eY L (j+1)).length=(eY L j).length+(L j).length:=by rw[dE,XP]
     obtain⟨M,W',E,B,G⟩:=Ko f.2 (U j C) hE (by rw[<-d];omega) f.1.size;rw[<-dE]at B;have O:Hid (kZ w W'/\W'.ownsRow w.heap.size 124 37 M (eY L (j+1)).length (aR (eY L (j+1)))):=⟨f.1.grown G f.1.size (λk F=>(f.2.lt k F).1),B⟩
     have t:=Hid.mk' E;obtain⟨H,J,rfl,-⟩:=hE.form;have l:=atS g 0 c C;rw[show 0+1*j=j by omega]at l;clear E B G d o f r q;go_wp2_with (first|(refine mI (x:=u6) (y:=.slice H (L j).length J) (v:=M) (w':=W') rfl _ _ 82 rfl ?_ ?_ ?_ ?_;rfl;rfl;exact t)|fail)
     go_roundg (gk-1)
     case measure=>omega
     case rel=>exact⟨j+1,oM,rfl,O⟩
    .have A:¬(j:Int)<(i:Int):=oM;obtain rfl:j=i:=oM;go_wp2;go_ret;exact⟨_,rfl,f.1,f.2⟩
def cA(B:Nat)(s t:XG)(l m:LB)(n:0<(l++m).length)(P:l.length<=500)(O:m.length<=500)(z:∀x∈l,x.2.size=33)(y:∀x∈m,x.2.size=33)(w:XF)(C:SmZ B w s l)(E:SmZ B w t m):
 cZ 31 #[s,t] w (rZ w λe w'=>Sm w.heap.size w' e (l++m)):=by
 obtain⟨p,c1,L,-⟩:=C.form;obtain⟨f,c2,J,-⟩:=E.form;subst L;subst J;obtain⟨b,k⟩:=hE (w.alloc (.cells #[.slice p l.length c1,.slice f m.length c2] 82));have G:kZ w b:=k.out▸aC _;have r:w.heap.size<b.heap.size:=by rw[<-k.out,XS];omega
 have F:b.rangeAt w.heap.size 0 [.slice p l.length c1,.slice f m.length c2]:=k.out▸(Made.alloc w [.slice p l.length c1,.slice f m.length c2] 82).range;have M:=Hid.mk' (IR w.heap.size 2 2 (λj=>if j=0 then l else m) dC (λj _=>by show(if j=0 then l else m).length<=600;split<;>omega) (λj _=>by
  show ∀x∈(if j=0 then l else m),x.2.size=33;split
  .exact z
  .exact y) b r (λj d=>by
  have o:∀ {v:XG}{l:LB},SmZ B w v l->SmZ 0 b v l:=λh=>by
   rcases h.grow G with h|⟨g,c,A,i,-,q,u⟩
   .exact Yk h
   .exact Yd ⟨g,c,A,i,Zq _,q,u⟩
  have d:j=0\/j=1:=oM;rcases d with rfl|rfl
  .exact⟨_,F 0 _ rfl,o C⟩
  .exact⟨_,F 1 _ rfl,o E⟩))
 have d:eY (λj=>if j=0 then l else m) 2=l++m:=by rw[dE,dE];rfl
 have a:=Hid.mk' G;have D:=mk2 d n;go_enter func31,ntmps31;go_wp2_with fail
 rw[k.out];refine M.mono ?_;rintro e I ⟨N,rfl,o,ho⟩;rw[D.1]at ho;have H:Hid (kZ w I/\Sm w.heap.size I N (l++m)):=by
  obtain⟨g,c,A,i,K,q,u⟩:=Gs ho D.2;exact⟨a.trans (o.mono a.size),g,c,A,i,XN a.size K,q,u⟩
 go_wp2;go_ret;exact⟨_,rfl,H.1,H.2⟩
def IG(w:XF):cZ 165 #[nZ,.func (.func 110) #[] #[]] w (rZ w λe w'=>e=iZ (-1)):=by
 go_enter func165,ntmps165;go_wp2;go_loopg [8] 0 (λq s8 W=>q=0/\s8=iZ 0/\W=w)
 case atStart=>exact⟨rfl,rfl,rfl⟩
 case round =>
  obtain⟨rfl,rfl,rfl⟩:=hrel;go_wp2;go_ret;exact⟨_,rfl,XX _ _,rfl⟩
def Fc(w:XF):cZ 109 #[nZ,.func (.func 110) #[] #[]] w (rZ w λe w'=>e=nZ):=by
 have b:=IG;go_enter func109,ntmps109;go_wp2_with fail
 apply(b w).mono;rintro e d ⟨v1,rfl,k,rfl⟩;have c:=Hid.mk' k;clear k b;go_wp2;go_ret;exact⟨_,rfl,c,rfl⟩
def EN{w:XF}:cZ 63 #[nZ] w (rZ w λe w'=>e=nZ):=by
 have c:(yEh 202 none).run prog w=.ok (.map (some w.heap.size)) (w.alloc (.map #[] 0)):=kR;obtain⟨d,k⟩:=yH (w.alloc (.map #[] 0));rw[k.out]at c;have f:Hid (kZ w d):=k.out▸aC _;have g:=Hid.mk' Fc;clear k;go_enter func63,ntmps63;go_wp2;clear c;go_loopg [4,12] 0 (λq s4 s12 W=>q=0/\s4=nZ/\s12=iZ 0/\W=d)
 case atStart=>exact⟨rfl,rfl,rfl,rfl⟩
 case round =>
  obtain⟨rfl,rfl,rfl,rfl⟩:=hrel;go_wp2_with fail
  apply(g wr).mono;rintro e j ⟨v2,rfl,b,rfl⟩;have i:Hid (kZ w j):=f.trans (b.mono f.size);clear b g f;go_wp2;go_ret;exact⟨_,rfl,i,rfl⟩
def Is{w:XF}(C:Fld P)(O:Ord N):cZ 33 #[nZ] w (rZ w λe w'=>e=pvl (wr (none:EC.Pt P))):=by
 apply(xW C O nZ w 0 dC (λ_=>0) (λ_=>none) (λj k=>absurd k (yAh _)) (λj k=>absurd k (yAh _)) λW _=>(EN).mono ?_).mono
 .rintro e w' ⟨v,rfl,b,rfl⟩;exact⟨_,rfl,b,_,_,rfl,λh=>absurd h (Nat.lt_irrefl _)⟩
 .rintro e w' ⟨v,rfl,b,rfl⟩;exact⟨_,rfl,b,rfl⟩
structure Kp(w:XF)(W:XF)(rs:List (Nat × List XG)):Prop where
 bl:kZ w W
 rw:∀x∈rs,Row W x.1 x.2
def Kp.grow{w W W':XF}{rs:List (Nat × List XG)}(h:Kp w W rs)(k:kZ W W'):Kp w W' rs:=⟨h.bl.trans (k.mono h.bl.size),λx hx=>(h.rw x hx).below k⟩
def Kp.drew{w W:XF}{rs:List (Nat × List XG)}(h:Kp w W rs):Kp w W.drew rs:=⟨h.bl.drew,h.rw⟩
def Kp.at{w W:XF}{rs:List (Nat × List XG)}(h:Kp w W rs){k:Nat}{c:List XG}(i:Nat)(b:rs[i]? = some (k,c)):Row W k c:=h.rw _ (List.mem_of_getElem? b)
def Nw(B:Nat)(c:List XG)(v:XG)(W:XF):Prop:=∃k,v=jZ k/\B<=k/\Row W k c
section
variable (w:XF) (k6 k8 k9 k10 x kk c z B0:Nat) (A F:Bs) (v1:XG)
def R5:Nat->XG->XF->Prop
 | 0,v,_=>v=nv kk
 | 1,v,_=>v=pvl A
 | 2,v,_=>v=pvl F
 | 3,v,W=>Nw B0 z33 v W
 | _,_,_=>True
def Two(v:XG)(W:XF):Prop:=∃k y,v=sZ k 2 2/\k<W.heap.size/\W.cell? ⟨k,0,none⟩=some (sZ k9 33 33)/\W.cell? ⟨k,1,none⟩=some y/\El 32 W y (bx z)
def Ans(v:XG)(W:XF):Prop:=W.ownsRow B0 5 1 v 65 ((F.toList++(bx z).toList).map encB)
def R7:Nat->XG->XF->Prop
 | 0,v,_=>v=sZ k9 33 33
 | 1,v,_=>v=nv c
 | 2,v,_=>v=nv kk
 | 3,v,_=>v=nv x
 | 4,v,_=>v=nv z
 | 5,v,W=>El 32 W v (bx z)
 | 6,v,W=>Two k9 z v W
 | 7,v,W=>Ans z B0 F v W
 | 8,v,W=>Ans z B0 F v W
 | 9,v,_=>v=iZ 0
 | _,_,_=>True
end
def results_ct{P:YO}{c:Func}{tmps:Array XG}{W:XF}{k:Nat}{vs:List XG}{v:XG}(t u:ZC)(T:Yj)(e:c.results=#[.cell t T,.tmp u])(h:Row W k vs)(j:tmps[t]? = some (jZ k))(hv:tmps[u]? = some v)
 (b:(P.underlying T).map (·.isRow)=some true) (i:(P.info? T).map (·.size)=some vs.length):(results c tmps).run P W=.ok (.tuple #[.agg vs.toArray,v]) W:=by
 obtain⟨d,b,hd⟩:=XK.1 b;have g:=yAH (P:=P) W k 0 T vs d h.2.1 b hd i;have l:tmps.getD t ZB=jZ k:=by rw[XU,j];rfl
 have f:tmps.getD u ZB=v:=by rw[XU,hv];rfl
 unfold results;rw[e];simp only[yAl,yBB,yBN,l,f,asAddr];simp[X6,g]
def Qt{w:XF}:(yBC 51 #[]).run prog w=.ok (.agg z33.toArray) w:=kR
def Tr(g o k:Nat)(w:XF):(yEj 51 (qZ g o 33 k)).run prog w=.ok (oZ g o) w:=kR
def Gh{k:Bs}{p:Fin P × Fin P}(h:rd P k=some p):k.size=33:=by
 unfold rd at h;split at h
 .assumption
 .cases h
def IH{W:XF}{g o:Nat}{b:Bs}(h:hZ W g o b):W.rangeAt g o (aA b):=λj u c=>by
 unfold aA at c;rw[YC]at c;obtain⟨x,hx,rfl⟩:=XK.1 c;have k:j<b.size:=by have:=(XT.1 hx).1;simpa using this
 rw[(h j k).1,getElem!_pos b j k];rw[YI,Ye k]at hx;rw[X5.inj hx]
def Hk(C:Fld P)(v:XG)(k:Bs)(p:Fin P × Fin P)(w:XF)(hv:Arg33 w v k)(x:rd P k=some p):cZ 57 #[v] w (rZ w λe w'=>e=.tuple #[pvl k,tZ]):=by
 have a:=Gh x;have I:Hid (∀W,kZ w W->cZ 103 #[v] W (rZ W λe w'=>e=tZ)):=λW L=>by
  have h:=Dl C v k W (hv.below L);rw[x]at h;exact h
 obtain⟨q,n,cap,rfl,B,J⟩:=hv;rw[a]at B;subst B;obtain⟨g,o,rfl,-,G,K⟩:=J rfl;have A:=mk2 (IH K) G;obtain⟨r,l⟩:=hE (lZ w z33 51);have f:Hid (Row r w.heap.size z33/\kZ w r):=by rw[<-l.out];exact⟨row_new w _ _,aC _⟩
 obtain⟨d,t,u⟩:=XK.1 uCP;have z:=mk2 t u;have H:=Hid.mk' a;have y:=Tr g o cap;go_enter func57,ntmps57;go_wp2_with (first|(refine bF (v:=jZ w.heap.size) (w':=r) rfl (.alloc 51) rfl ?_ ?_;(rw[<-l.out];kernel_rfl))|fail)
 apply(I r f.2).mono;rintro e E ⟨M,rfl,c,rfl⟩;have s:=mk3 (f.1.below c) (f.2.trans (c.mono f.2.size)) (RG.range_below A.1 (f.2.trans (c.mono f.2.size)) A.2);obtain⟨F,i⟩:=hE (E.setCells w.heap.size 0 (aA k));have b:=aB H;have D:Hid (Row F w.heap.size (aA k)/\kZ w F):=by rw[<-i.out];exact⟨s.1.put (by rw[b];rfl),RG.below_setCells (XH _) _ _ _ s.2.1⟩
 obtain⟨N,j⟩:=hE (Yg (aA k).toArray);have m:Hid (gZ 51 (aA k).length/\E.there w.heap.size 0 (aA k).toArray.size/\gZ 51 (aA k).toArray.size):=by
  have e:(aA k).toArray.size=33:=by rw[YJ];exact b
  refine⟨by rw[b];exact dA,by rw[e];exact s.1.2.2,by rw[e];exact dA⟩
 go_wp2_with (first|(refine YG rfl 51 _ rfl g o ?_ (aA k) d ?_ ?_ ?_ ?_ ?_;rfl;exact s.2.2;exact z.1;exact z.2;exact m.1;rw[j.out])|(refine Yi rfl 51 _ _ rfl w.heap.size 0 (aA k).toArray ?_ ?_ ?_ ?_ ?_ ?_;rfl;exact j.symm;exact m.2.1;exact m.2.2;exact bQ;rw[show(aA k).toArray.toList=aA k from rfl,i.out])|fail)
 refine XR (results_ct 2 3 51 rfl D.1 rfl rfl uCP m.1) rfl ?_;exact⟨_,rfl,D.2,rfl⟩
def Pj(C:Fld P)(v:XG)(j:Bs)(w:XF)(hv:Arg33 w v j)(p:rd P j=none):cZ 57 #[v] w (rZ w λe w'=>e=.tuple #[.agg z33.toArray,fZ]):=by
 have q:Hid (∀W,kZ w W->cZ 103 #[v] W (rZ W λe w'=>e=fZ)):=λW s=>by
  have h:=Dl C v j W (hv.below s);rw[p]at h;exact h
 obtain⟨f,d⟩:=hE (lZ w z33 51);have g:Hid (Row f w.heap.size z33/\kZ w f):=by rw[<-d.out];exact⟨row_new w _ _,aC _⟩
 obtain⟨t,c⟩:=hE (Yg z33.toArray);have r:Hid (z33.toArray.all (·.oneCell')=true):=by show _=_;decide +kernel
 go_enter func57,ntmps57;go_wp2_with (first|(refine bF (v:=jZ w.heap.size) (w':=f) rfl (.alloc 51) rfl ?_ ?_;(rw[<-d.out];kernel_rfl))|fail)
 apply(q f g.2).mono;rintro e l ⟨u,rfl,k,rfl⟩;have i:=mk2 (g.1.below k) (g.2.trans (k.mono g.2.size));obtain⟨n,b⟩:=hE (l.setCells w.heap.size 0 z33);have m:Hid (Row n w.heap.size z33/\kZ w n):=by rw[<-b.out];exact⟨i.1.put rfl,RG.below_setCells (XH _) _ _ _ i.2⟩
 have o:=Hid.mk' (Qt);rw[c.out]at o;go_wp2_with (first|(refine mH (v:=t) (w':=l) rfl 51 _ rfl #[] ?_ ?_ ?_;kernel_rfl;exact o)|(refine Yi rfl 51 _ _ rfl w.heap.size 0 z33.toArray ?_ ?_ ?_ ?_ ?_ ?_;rfl;exact c.symm;exact i.1.2.2;exact dA;exact r;rw[show z33.toArray.toList=z33 from rfl,b.out])|fail)
 refine XR (results_ct 2 3 51 rfl m.1 rfl rfl uCP dA) rfl ?_;exact⟨_,rfl,m.2,rfl⟩
def atP{k o n c i:Nat}(b:i<n)(w:XF):(YV 83 (qZ k o n c) (iZ i)).run prog w=.ok (oZ k (o+33*i)) w:=by
 go_simp
def UH(N:Nat)(d:N<=512):∃C0:List XG,C0.length=33*N/\∀w:XF,(yAq 83 (iZ N) (iZ N)).run prog w=.ok (sZ w.heap.size N N) (w.alloc (.cells C0.toArray 51)):=by
 have j:prog.underlying 83=some (.slice 51):=kR;have e:(prog.info? 51).map (λi=>(i.size,decide (i.bytes<=4000),i.zero.isSome))=some (33,true,true):=kR;obtain⟨i,b,k⟩:=XK.1 e;simp only[Zl.injEq,decide_eq_true_eq]at k;obtain⟨g,m,f⟩:=k;obtain⟨z,l⟩:=YP.1 f;refine⟨(madeCells z.cells (N*33)).toList,by rw[X0,yDs,YN],λw=>?_⟩;have c:(i.bytes:Int)*(N:Int)<=281474976710656:=by
  have:i.bytes*N<=4000*512:=ZP m d;have n:((i.bytes*N:Nat):Int)<=281474976710656:=oM;rwa[yAx]at n
 have:=run_make (P:=prog) w 83 51 i z j b l .i64 .i64 (N:Int) (N:Int) oM oM c oM;rw[yBW,g]at this;rw[yBn];exact this
structure Az(w W:XF)(K k i:Nat)(L:Nat->Bs):Prop where
 bl:kZ w W
 lt:K<W.heap.size
 th:W.there K 0 (33*k)
 rw:∀j,j<i->W.rangeAt K (33*j) (aA (L j))
def Az.grow{w W W':XF}{K k i:Nat}{L:Nat->Bs}(h:Az w W K k i L)(b:kZ W W'):Az w W' K k i L:=
 ⟨h.bl.trans (b.mono h.bl.size),XI h.lt b.size,dJ h.th b h.lt,λj c=>RG.range_below (h.rw j c) b h.lt⟩
def Az.put{w W:XF}{K k i:Nat}{L:Nat->Bs}(h:Az w W K k i L)(e:w.heap.size<=K)(f:i<k)(c:∀j,j<=i->(L j).size=33):Az w (W.setCells K (33*i) (aA (L i))) K k (i+1) L:=by
 refine⟨RG.below_setCells e _ _ _ h.bl,by rw[setCells_size];exact h.lt,Za h.th _ _ _,λj g=>?_⟩;by_cases b:j=i
 .subst b;refine YW W K _ _ λt d=>?_
  rw[aB (c j (XH _))]at d;have:=h.th (33*j+t) oM;rwa[XQ]at this
 .exact Yr (h.rw j oM) K _ _ (Yd (Yk (by rw[aB (c j oM)];omega)))
def XB(P:Nat)[NeZero P](w:XF)(k:Nat)(L:Nat->Bs)(e:XG)(w':XF):Prop:=
 kZ w w'/\(((∀j,j<k->∃p,rd P (L j)=some p)/\∃K,e=.tuple #[sZ K k k,tZ]/\w.heap.size<=K/\K<w'.heap.size/\∀j,j<k->w'.rangeAt K (33*j) (aA (L j)))\/((∃j,j<k/\rd P (L j)=none)/\e=.tuple #[nZ,fZ]))
def QI(P:Nat)[NeZero P](w:XF)(k:Nat)(L:Nat->Bs)(e:XG)(w':XF):Prop:=
 kZ w w'/\(((∀j,j<k->∃p,rd P (L j)=some p)/\∃K,e=.tuple #[sZ K k k,tZ]/\w.heap.size<=K/\K<w'.heap.size/\w'.there K 0 (33*k)/\∀j,j<k->w'.rangeAt K (33*j) (aA (L j)))\/((∃j,j<k/\rd P (L j)=none)/\e=.tuple #[nZ,fZ]))
def Tv(C:Fld P)(D o k c:Nat)(hk:k<=512)(L:Nat->Bs)(w:XF)(hg:D<w.heap.size)(hL:∀j,j<k->∃v,w.cell? ⟨D,o+j,none⟩=some v/\Arg33 w v (L j)):
 cZ 56 #[.func (.func 57) #[] #[],qZ D o k c] w (Ret (QI P w k L)):=by
 obtain⟨C0,H,R⟩:=UH k hk;have s:=R w;obtain⟨w1,z⟩:=hE (lZ w C0 51);rw[z.out]at s;have HM:=Hid.mk' s;have K1:Hid (Az w w1 w.heap.size k 0 L):=by
  have hR:Row w1 w.heap.size C0:=z.out▸row_new w _ _;refine⟨z.out▸aC _,hR.1,by rw[<-H];exact hR.2.2,λj hj=>oM⟩
 have S:Hid (Fld P/\(∀j,j<k->∃v,w.cell? ⟨D,o+j,none⟩=some v/\Arg33 w v (L j))/\D<w.heap.size):=⟨C,hL,hg⟩
 obtain⟨d,M,K⟩:=XK.1 uCP;have HD:=mk2 M K;have HO:Hid (z33.toArray.all (·.oneCell')=true):=by show _=_;decide +kernel
 clear M K C hL hg R H z;go_enter func56,ntmps56;go_wp2;clear s;go_loopg [16] k (λm s16 W=>∃i:Nat,i+m=k/\s16=iZ i/\Hid (Az w W w.heap.size k i L/\∀j,j<i->∃p,rd P (L j)=some p))
 case atStart=>exact⟨0,oM,rfl,K1,λj hj=>oM⟩
 case round =>
  obtain⟨i,h0,rfl,n⟩:=hrel;by_cases J:i<k
  .have U:(i:Int)<(k:Int):=oM;obtain⟨v,Q,I⟩:=S.2.1 i J;have hc:wr.cell? ⟨D,o+i,none⟩=some v:=by rw[n.1.bl.cell (p:=⟨D,o+i,none⟩) S.2.2];exact Q
   have T:Hid (Arg33 wr v (L i)):=I.below n.1.bl;have Y:=atB D o c J;rw[show o+1*i=o+i by omega]at Y;clear Q I;obtain⟨b,a⟩:=yH (L i);rw[a.out]at T;obtain⟨g,f⟩:∃g:Nat,True:=⟨0,yE5⟩
   clear f g;cases O:rd P b with
   | none =>
    go_wp2_with fail
    apply(Pj S.1 v b wr T O).mono;rintro e A ⟨vv,rfl,E,rfl⟩;obtain⟨vz,l⟩:=hE (Yg z33.toArray);rw[l.out];obtain⟨g,f⟩:=hE (A.heap.size);obtain⟨y,r⟩:=hE (lZ A z33 51);obtain⟨G,u⟩:=hE (y.setCells g 0 z33);have F:Hid (Row y g z33/\kZ w y/\w.heap.size<=g):=by
     have x:=n.1.bl.trans (E.mono n.1.bl.size);rw[<-r.out,<-f.out];exact⟨row_new A _ _,x.alloc x.size _,x.size⟩
    have B:Hid (kZ w G):=u.out▸RG.below_setCells F.2.2 _ _ _ F.2.1;have x:Hid (i<k/\rd P (L i)=none):=⟨J,a.out▸O⟩
    go_wp2_with (first|(refine bF (v:=jZ g) (w':=y) rfl (.alloc 51) rfl ?_ ?_;(rw[<-r.out,<-f.out];kernel_rfl))|(refine Yi rfl 51 _ _ rfl g 0 z33.toArray ?_ ?_ ?_ ?_ ?_ ?_;rfl;exact l.symm;exact F.1.2.2;exact dA;exact HO;rw[show z33.toArray.toList=z33 from rfl,u.out])|fail)
    go_ret2
    exact⟨_,rfl,B,Yd ⟨⟨i,x⟩,rfl⟩⟩
   | some p =>
    have hs:=Gh O;go_wp2_with fail
    apply(Hk S.1 v b p wr T O).mono;rintro e A ⟨vv,rfl,E,rfl⟩;obtain⟨vz,l⟩:=hE (pvl b);rw[l.out];have x:=aB hs;have V:(aA b).toArray.size=33:=by rw[YJ];exact x
    obtain⟨g,f⟩:=hE (A.heap.size);obtain⟨y,r⟩:=hE (lZ A z33 51);obtain⟨G,u⟩:=hE (y.setCells g 0 (aA b));obtain⟨W4,N⟩:=hE (G.setCells w.heap.size (33*i) (aA b));have A1:=n.1.grow E;have F:Hid (Row y g z33/\kZ A y):=by
     rw[<-r.out,<-f.out];exact⟨row_new A _ _,aC _⟩
    have Z:Hid (Row G g (aA b)/\Az w G w.heap.size k i L):=by
     rw[<-u.out];exact⟨F.1.put (by rw[x];rfl),A1.grow (RG.below_setCells (f.out▸XH _) _ _ _ F.2)⟩
    have K4:Hid (Az w W4 w.heap.size k (i+1) L/\∀j,j<i+1->∃p,rd P (L j)=some p):=by
     have B:∀j,j<i+1->∃p,rd P (L j)=some p:=λj hj=>by
      by_cases X:j=i
      .subst X;exact⟨p,a.out▸O⟩
      .exact n.2 j oM
     have h:=Z.2.put (XH _) J (λj hj=>by obtain⟨q,X⟩:=B j oM;exact Gh X);rw[a.out,N.out]at h;exact⟨h,B⟩
    have B:Hid (gZ 51 (aA b).length/\gZ 51 (aA b).toArray.size/\y.there g 0 (aA b).toArray.size/\G.there w.heap.size (33*i) (aA b).toArray.size):=by
     rw[x,V];refine⟨dA,dA,F.1.2.2,λt X=>?_⟩;have:=Z.2.th (33*i+t) oM;rwa[XQ]at this
    have X:=atP (k:=w.heap.size) (o:=0) (c:=k) J;go_wp2_with (first|(refine bF (v:=jZ g) (w':=y) rfl (.alloc 51) rfl ?_ ?_;(rw[<-r.out,<-f.out];kernel_rfl))|(refine Yi rfl 51 _ _ rfl g 0 (aA b).toArray ?_ ?_ ?_ ?_ ?_ ?_;rfl;exact l.symm;exact B.2.2.1;exact B.2.1;exact bQ;rw[show(aA b).toArray.toList=aA b from rfl,u.out])|(refine YG rfl 51 _ rfl g 0 ?_ (aA b) d ?_ ?_ ?_ ?_ ?_;rfl;exact Z.1.2.1;exact HD.1;exact HD.2;exact B.1;rw[show Yg (aA b).toArray=vz from l.out])|(refine Yi rfl 51 _ _ rfl w.heap.size (33*i) (aA b).toArray ?_ ?_ ?_ ?_ ?_ ?_;rfl;exact l.symm;exact B.2.2.2;exact B.2.1;exact bQ;rw[show(aA b).toArray.toList=aA b from rfl,N.out])|fail)
    go_roundg (gk-1)
    case measure=>omega
    case rel=>exact⟨i+1,oM,rfl,K4⟩
  .have U:¬(i:Int)<(k:Int):=oM;obtain rfl:i=k:=oM;go_wp2
   go_ret2
   exact⟨_,rfl,n.1.bl,Yk ⟨n.2,w.heap.size,rfl,XH _,n.1.lt,n.1.th,n.1.rw⟩⟩
def Tw{b k c:Nat}{L:Nat->Bs}{w:XF}(C:Fld P)(g:k<=512)(e:b<w.heap.size)(d:∀j,j<k->∃v,w.cell? ⟨b,j,none⟩=some v/\Arg33 w v (L j)):
 cZ 56 #[.func (.func 57) #[] #[],sZ b k c] w (Ret (QI P w k L)):=Tv C b 0 k c g L w e λj f=>by rw[XQ];exact d j f
def FH{b:Nat}{L:Nat->Bs}{w:XF}(C:Fld P)(k c:Nat)(f:k<=512)(d:b<w.heap.size)(m:∀j,j<k->∃v,w.cell? ⟨b,j,none⟩=some v/\Arg33 w v (L j)):
 cZ 56 #[.func (.func 57) #[] #[],sZ b k c] w (Ret (XB P w k L)):=by
 apply(Tw C f d m).mono;rintro e w' ⟨v,rfl,p,h⟩;refine⟨_,rfl,p,?_⟩;rcases h with⟨l,K,n,i,o,-,g⟩|h
 .exact Yk ⟨l,K,n,i,o,g⟩
 .exact Yd h
def EG(O:Ord N){a:Nat}(c:a<N):Gives 37 #[nv a] (nv (sMi N 0 a)):=by
 intro w;have h:=Ek O 0 a O.pos c;generalize sMi N 0 a=m at h⊢;go_enter func37,ntmps37;refine RG.M.enter [(0,.v (nv a))] 6 kR ?_;intro a0 d;repeat apply XL
 refine d.T [.m 0,.m 1] [(0,wn a),(1,RG.z 4)] [] [wn a,RG.z 4] [1,2] ⟨mk 0 44,mk 1 44,yE5⟩ ?_;intro i f e j b;repeat apply XL
 refine b.T [.x (nv 0),.x (nv a),.c (nv m),.u 1] [] [(1,3,wn m)] [wn a,wn m] [2] ⟨st,ld u40 i40,cl h,RG.pt i40,yE5⟩ ?_;intro a2 g k;refine Zj<|XR (v:=nv m) (aH k.st rfl rfl (k.at (s:=(.p 1 0))) u40 i40) k.sl.defers ?_
 exact⟨_,rfl,k.st.bel.below,rfl⟩
def WO{N:Nat}(d:N<=512):∃C0:List XG,C0.length=37*N/\∀w:XF,(yAq 82 (iZ N) (iZ N)).run prog w=.ok (sZ w.heap.size N N) (w.alloc (.cells C0.toArray 124)):=by
 have e:(prog.info? 124).map (λi=>(i.size,decide (i.bytes<=4000),i.zero.isSome))=some (37,true,true):=kR;obtain⟨i,b,k⟩:=XK.1 e;simp only[Zl.injEq,decide_eq_true_eq]at k;obtain⟨g,l,f⟩:=k;obtain⟨z,j⟩:=YP.1 f;refine⟨(madeCells z.cells (N*37)).toList,by rw[X0,yDs,YN],λw=>?_⟩;have c:(i.bytes:Int)*(N:Int)<=281474976710656:=by
  have:i.bytes*N<=4000*512:=ZP l d;have m:((i.bytes*N:Nat):Int)<=281474976710656:=oM;rwa[yAx]at m
 have:=run_make (P:=prog) w 82 124 i z D3 b j .i64 .i64 (N:Int) (N:Int) oM oM c oM;rw[yBW,g]at this;rw[yBn];exact this
def I1{W:XF}{j g:Nat}{l:LB}(k:∀x∈l.map (·.2),x.size=33)(e:W.rangeAt g 0 (aR l))(b:j<l.length):W.rangeAt g (37*j) (wn (l[j]).1++aA (l[j]).2):=λt u c=>by
 have d:t<37:=by
  have:=(XT.1 c).1;rw[iJ (k _ (YD.2 ⟨_,YS b,rfl⟩))]at this;exact this
 have:=e (37*j+t) u (by rw[mB l k j b t d];exact c);rw[XQ]at this;exact this
def En{W:XF}{g:Nat}{l:LB}(k:∀x∈l.map (·.2),x.size=33)(m:∀j (b:j<l.length),W.rangeAt g (37*j) (wn (l[j]).1++aA (l[j]).2)):W.rangeAt g 0 (aR l):=λt u f=>by
 have d:t<l.length*37:=by
  have:=(XT.1 f).1;rwa[rE λx hx=>k _ (YD.2 ⟨x,hx,rfl⟩)]at this
 have b:t/37<l.length:=Nat.div_lt_of_lt_mul oM;have i:t%37<37:=Zi _ dC;have e:37*(t/37)+t%37=t:=yB3 _ _;have c:=mB l k (t/37) b (t%37) i;rw[e,f]at c;have:=m (t/37) b (t%37) u c.symm;rw[e]at this;rw[XQ];exact this
def tmT(N n:Nat)(x:Nat × Bs):Nat × Bs:=(sTi N n x.1,x.2)
structure Tz(w W:XF)(N n K k3 i:Nat)(l:LB):Prop where
 bl:kZ w W
 lt:K<W.heap.size
 ne:k3≠K
 th:W.there K 0 (37*l.length)
 r3:Row W k3 (wn n)
 rw:∀j (hj:j<l.length),j<i->W.rangeAt K (37*j) (wn (tmT N n (l[j])).1++aA (tmT N n (l[j])).2)
def Tz.grow{w W W':XF}{n K c i:Nat}{l:LB}(h:Tz w W N n K c i l)(k:kZ W W'):Tz w W' N n K c i l:=
 ⟨h.bl.trans (k.mono h.bl.size),XI h.lt k.size,h.ne,dJ h.th k h.lt,h.r3.below k,λj d b=>RG.range_below (h.rw j d b) k h.lt⟩
def Tz.drew{w W:XF}{n K k i:Nat}{l:LB}(h:Tz w W N n K k i l):Tz w W.drew N n K k i l:=⟨h.bl.drew,h.lt,h.ne,h.th,h.r3,h.rw⟩
def Tz.put{w W:XF}{n K d i:Nat}{l:LB}(h:Tz w W N n K d i l)(f:w.heap.size<=K)(o:i<l.length)(c:∀x∈l.map (·.2),x.size=33):Tz w (W.setCells K (37*i) (wn (tmT N n (l[i])).1++aA (tmT N n (l[i])).2)) N n K d (i+1) l:=by
 have b:∀(j:Nat) (k:j<l.length),(wn (tmT N n (l[j])).1++aA (tmT N n (l[j])).2).length=37:=λj k=>iJ (c _ (YD.2 ⟨_,YS k,rfl⟩))
 refine⟨RG.below_setCells f _ _ _ h.bl,by rw[setCells_size];exact h.lt,h.ne,Za h.th _ _ _,⟨by rw[setCells_size];exact h.r3.1,Yr h.r3.2.1 K _ _ (Yk h.ne),Za h.r3.2.2 _ _ _⟩,λj k g=>?_⟩;by_cases e:j=i
 .subst e;refine YW W K _ _ λt m=>?_
  rw[b j k]at m;have:=h.th (37*j+t) oM;rwa[XQ]at this
 .exact Yr (h.rw j k oM) K _ _ (Yd (Yk (by rw[b j k];omega)))
section
variable (w:XF) (n K k3 k7 i s m:Nat) (p:Bs) (l:List (Nat × Bs))
def Rt:Nat->XG->XF->Prop
 | 0,v,_=>v=sZ K l.length l.length
 | 1,v,_=>v=iZ i
 | 2,v,_=>v=nv n
 | 3,v,_=>v=jZ k7
 | 4,v,_=>v=nv s
 | 5,v,_=>v=nv m
 | 6,v,_=>v=oZ k7 4
 | 7,v,_=>v=pvl p
 | 8,v,_=>v=tvl m p
 | 9,v,_=>v=oZ K (0+37*i)
 | _,_,_=>True
def Gt(N:Nat):Gw:=⟨Rt n K k7 i s m p l,λW=>Tz w W N n K k3 i l/\Row W k7 (wn s++aA p),λj v W W' k h=>by
 match j,h with
 | 0,h=>exact h
 | 1,h=>exact h
 | 2,h=>exact h
 | 3,h=>exact h
 | 4,h=>exact h
 | 5,h=>exact h
 | 6,h=>exact h
 | 7,h=>exact h
 | 8,h=>exact h
 | 9,h=>exact h
 | _+10,_=>trivial,λW W' k h=>⟨h.1.grow k,h.2.below k⟩⟩
end
def eH(O:Ord N){n:Nat}(hn:n<N)(B:Nat)(s:XG)(l:LB)(hl:l.length<=512)(Z:∀x∈l.map (·.2),x.size=33)(h5:∀x∈l,x.1<N)(w:XF)(hS:Sm B w s l):
 cZ 149 #[s,nv n] w (rZ w λe w'=>Sm w.heap.size w' e (l.map (tmT N n))):=by
 obtain⟨g,c,rfl,hc,-,hg,hr⟩:=hS;have Y:=Hid.mk' (boxS);obtain⟨A,r⟩:=yH (w.alloc (.cells (wn n).toArray 44));rw[r.out]at Y;obtain⟨F,C⟩:=yH w.heap.size;obtain⟨K,hK⟩:=yH A.heap.size;have e1:K=F+1:=by rw[<-hK.out,<-C.out,<-r.out,XS]
 obtain⟨C0,U,h9⟩:=WO hl;have I:=h9 A;obtain⟨w2,H⟩:=yH (A.alloc (.cells C0.toArray 124));rw[H.out,hK.out]at I;rw[C.out]at Y;have K2:Hid (Tz w w2 N n K F 0 l):=by
  have f:Row A F (wn n):=r.out▸C.out▸row_new w _ _;have b1:kZ w A:=r.out▸aC _;have o:kZ A w2:=H.out▸aC _;have d:Row w2 K C0:=H.out▸hK.out▸row_new A _ _;exact⟨b1.trans (o.mono b1.size),d.1,oM,by rw[<-U];exact d.2.2,f.below o,λj hj q=>oM⟩
 have D:Hid (Ord N/\n<N/\(∀x∈l.map (·.2),x.size=33)/\(∀x∈l,x.1<N)/\g<w.heap.size/\w.rangeAt g 0 (aR l)/\w.heap.size<=K):=⟨O,hn,Z,h5,hg,hr,by rw[C.out];omega⟩
 obtain⟨d',h8,h4⟩:=XK.1 uT;have HD:Hid (prog.underlying 124=some d'/\d'.isRow=true):=⟨h8,h4⟩
 obtain⟨vn,hm⟩:=yH (nv n);rw[hm.out]at Y⊢;clear h8 h4 O hn Z h5 hg hr h9 U r H hK C e1;go_enter func149,ntmps149;go_wp2_with (first|(refine aG (u:=vn) (v:=jZ F) (w':=A) rfl 44 (.tmp 1) rfl ?_ ?_ ?_;rfl;exact Y)|fail)
 clear I;go_loopg [13] l.length (λm s13 W=>∃i:Nat,i+m=l.length/\s13=iZ i/\Hid (Tz w W N n K F i l))
 case atStart=>exact⟨0,oM,rfl,K2⟩
 case round =>
  clear K2 Y;obtain⟨i,k0,rfl,J⟩:=hrel;by_cases o:i<l.length
  .have hk:(i:Int)<(l.length:Int):=oM;obtain⟨s,S⟩:∃s,Hid ((l[i]'o).1=s):=⟨(l[i]'o).1,(rfl:(l[i]'o).1=(l[i]'o).1)⟩
   obtain⟨p,P⟩:∃p,Hid ((l[i]'o).2=p):=⟨(l[i]'o).2,(rfl:(l[i]'o).2=(l[i]'o).2)⟩
   have E:Hid (p.size=33):=P.out▸D.2.2.1 _ (YD.2 ⟨_,YS o,rfl⟩);have hs:Hid (s<N):=S.out▸D.2.2.2.1 _ (YS o);have B0:Hid (wr.rangeAt g (37*i) (wn s++aA p)):=by
    have h:=RG.range_below (I1 D.2.2.1 D.2.2.2.2.2.1 o) J.bl D.2.2.2.2.1;rw[S.out,P.out]at h;exact h
   obtain⟨q,G⟩:=yH wr.heap.size;obtain⟨T,R⟩:=yH (wr.alloc (.cells zT.toArray 124));obtain⟨W2,L⟩:=yH (T.setCells q 0 (wn s++aA p));have f:(wn s++aA p).length=37:=iJ E;have F1:Hid (Row T q zT/\kZ wr T):=by rw[<-R.out,<-G.out];exact⟨row_new wr _ _,aC _⟩
   have F2:Hid (Row W2 q (wn s++aA p)/\Tz w W2 N n K F i l):=by
    rw[<-L.out];exact⟨F1.1.put (by rw[f];rfl),J.grow (RG.below_setCells (G.out▸XH _) _ _ _ F1.2)⟩
   have hq:Hid (gZ 124 (wn s++aA p).length):=by show _=_;rw[f];exact iT
   have h7:Hid (gZ 124 (wn s++aA p).toArray.size/\T.there q 0 (wn s++aA p).toArray.size):=by
    have e:(wn s++aA p).toArray.size=37:=by rw[YJ];exact f
    rw[e];exact⟨iT,F1.1.2.2⟩
   have he:Hid ((wn s++aA p).toArray.all (·.oneCell')=true):=by
    show _=_;rw[ZJ];intro u hu;exact cells_one u (yAu.1 hu)
   have hw:=atT g 0 c o;obtain⟨vt,h6⟩:=yH (Yg (wn s++aA p).toArray);have HL:Hid (i<l.length):=o;clear f J F1;go_wp2_with (first|(refine YG rfl 124 _ rfl g (37*i) ?_ (wn s++aA p) d' ?_ ?_ ?_ ?_ ?_;rfl;exact B0;exact HD.1;exact HD.2;exact hq;rw[h6.out])|(refine bF (v:=jZ q) (w':=T) rfl (.alloc 124) rfl ?_ ?_;(rw[<-R.out,<-G.out];kernel_rfl))|(refine Yi rfl 124 _ _ rfl q 0 (wn s++aA p).toArray ?_ ?_ ?_ ?_ ?_ ?_;rfl;exact h6.symm;exact h7.2;exact h7.1;exact he;rw[show(wn s++aA p).toArray.toList=wn s++aA p from rfl,L.out])|fail)
   clear R L G;refine(Gt w n K F q i s (sTi N n s) p l N).last 10 kR kR kR ⟨
    bL λa W d=>⟨[(5,sZ K l.length l.length)],sZ K l.length l.length,W,⟨d.o 5 kR,yE5⟩,kR,XX _ _,rfl⟩,
    bL λa W d=>⟨[(6,iZ i)],iZ i,W,⟨d.o 6 kR,yE5⟩,kR,XX _ _,rfl⟩,
    jF 3 rfl Go.Proofs.YtlofhpkoaljmeaaGreat.u40 λa W d=>⟨F,0,wn n,d.o 3 kR,d.b.1.r3.2.1,i40,rfl⟩,
    bL λa W d=>⟨[(7,jZ q)],jZ q,W,⟨d.o 7 kR,yE5⟩,kR,XX _ _,rfl⟩,
    jF 21 rfl Go.Proofs.YtlofhpkoaljmeaaGreat.u40 λa W d=>⟨q,0,wn s,d.n 3 21 kR kR,kL d.b.2.2.1,i40,rfl⟩,
    gC λa W d=>⟨[(20,nv n),(22,nv s)],26,#[nv n,nv s],⟨d.n 2 20 kR kR,d.n 4 22 kR kR,yE5⟩,kR,(gW D.1 n s D.2.1 hs W).mono (by
     rintro e W' ⟨u,rfl,M,rfl⟩;exact⟨_,rfl,M,rfl⟩)⟩,
    bL λa W d=>⟨[(7,jZ q)],oZ q 4,W,⟨d.o 7 kR,yE5⟩,kR,XX _ _,rfl⟩,
    jF 24 rfl uCP λa W d=>⟨q,4,aA p,d.n 6 24 kR kR,mR (xs:=wn s) d.b.2.2.1,by rw[aB E.out];exact dA,rfl⟩,
    bL λa W d=>⟨[(23,nv (sTi N n s)),(25,pvl p)],tvl (sTi N n s) p,W,⟨d.n 5 23 kR kR,d.n 7 25 kR kR,yE5⟩,by
     rw[Zl.injEq];refine⟨kR,?_⟩;refine Eq.trans (b:=((yBC 124 #[(0,nv (sTi N n s)),(1,pvl p)]) >>= λv=>pure (ZW v)).run prog W) kR ?_;rw[X6,VI E.out];rfl,XX _ _,rfl⟩,
    bL λa W d=>⟨[(18,sZ K l.length l.length),(19,iZ i)],oZ K (0+37*i),W,⟨d.n 0 18 kR kR,d.n 1 19 kR kR,yE5⟩,by
     rw[Zl.injEq];refine⟨kR,?_⟩;show((YV 82 (sZ K l.length l.length) (iZ i)) >>= λv=>pure (ZW v)).run prog W=_;rw[X6,atT K 0 l.length HL.out];rfl,XX _ _,rfl⟩,yE5⟩ ⟨F2.2.drew,F2.1⟩ ?_
   intro V W3 Q M;have X:V 8=tvl (sTi N n s) p:=Q 8 dC;have ha:V 9=oZ K (0+37*i):=Q 9 dC;have d:(wn (sTi N n s)++aA p).length=37:=iJ E;obtain⟨W4,h0⟩:=yH (W3.setCells K (37*i) (wn (sTi N n s)++aA p));have K4:Hid (Tz w W4 N n K F (i+1) l):=by
    have h:=M.1.put D.2.2.2.2.2.2 HL D.2.2.1;have e:tmT N n (l[i]'HL)=(sTi N n s,p):=by
     have h1:=S;have h2:=P;unfold tmT;rw[h1,h2]
    rw[e]at h;rw[<-h0.out];exact h
   have HT:Hid (W3.there K (37*i) (wn (sTi N n s)++aA p).toArray.size/\(prog.info? 124).map (·.size)=some (wn (sTi N n s)++aA p).toArray.size/\(wn (sTi N n s)++aA p).toArray.all (·.oneCell')=true):=by
    have e:(wn (sTi N n s)++aA p).toArray.size=37:=by rw[YJ];exact d
    refine⟨λt ht=>?_,by rw[e];exact iT,?_⟩
    .rw[e]at ht;have:=M.1.th (37*i+t) (oN HL);rwa[XQ]at this
    .rw[ZJ];intro u hu;exact cells_one u (yAu.1 hu)
   dsimp only[bY,YQ,Z4,Z5];simp only[Yo,XJ,XM,XO];obtain⟨vz,h3⟩:=yH (tvl (sTi N n s) p);rw[X,ha,h3.out,XQ];clear Q M X ha d F2;generalize V 0=s0;generalize V 1=s1;generalize V 2=s2;generalize V 3=s3;generalize V 4=s4;generalize V 5=s5;generalize V 6=s6;generalize V 7=s7;go_wp2_with (first|(refine Yi rfl 124 _ _ rfl K (37*i) (wn (sTi N n s)++aA p).toArray ?_ ?_ ?_ ?_ ?_ ?_;rfl;exact h3.symm;exact HT.1;exact HT.2.1;exact HT.2.2;rw[show(wn (sTi N n s)++aA p).toArray.toList=wn (sTi N n s)++aA p from rfl,h0.out])|fail)
   go_roundg (gk-1)
   case measure=>omega
   case rel=>exact⟨i+1,oM,rfl,K4⟩
  .have hk:¬(i:Int)<(l.length:Int):=oM;obtain rfl:i=l.length:=oM;have d:Hid (kZ w wr/\Sm w.heap.size wr (sZ K l.length l.length) (l.map (tmT N n))):=by
    refine⟨J.bl,K,l.length,by rw[X7],by rw[X7];exact XH _,D.2.2.2.2.2.2,J.lt,En (λx hx=>?_) λj hj=>?_⟩
    .obtain⟨y,f,rfl⟩:=YD.1 hx;obtain⟨z,q,rfl⟩:=YD.1 f;exact D.2.2.1 _ (YD.2 ⟨z,q,rfl⟩)
    .rw[List.getElem_map];rw[X7]at hj;exact J.rw j hj hj
   clear J;go_wp2;go_ret;exact⟨_,rfl,d.1,d.2⟩
end
end Go.Proofs.YtlofhpkoaljmeaaGreat
