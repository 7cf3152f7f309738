import Derived.RangeFuncNested
import Derived.RangeFuncBound
import Derived.Shelf.RegionOpen
import Derived.OwnWalkIn
import Derived.LoopNIn
import Derived.LoopIn
import Derived.Great.BuildSlice
import Derived.Test.YtlofhpkoaljmeaaGreatat3
set_option linter.unusedVariables false
set_option linter.defProp false
set_option linter.constructorNameAsVariable false
set_option linter.unusedSimpArgs false
set_option maxRecDepth 1000000
set_option maxHeartbeats 4000000
namespace Go.Proofs.YtlofhpkoaljmeaaGreat
open EC NT RG SP
open _root_.Go.Act renaming put->Ym
open _root_.Array renaming all_eq_true'->ZJ,any_eq_true'->yAv,ext_getElem?->yDs,getD_eq_getD_getElem?->XQ,getElem?_eq_getElem->X8,getElem?_eq_some_iff->X5,getElem?_replicate->yBy,getElem?_setIfInBounds->Zx,getElem?_toList->YE,length_toList->XU,replicate->XT,replicate_succ->yBV,replicate_zero->yBU,size_append->Yl,size_extract->Z4,size_replicate->X0,size_setIfInBounds->YR,toList_replicate->yC3
open _root_.Bool renaming and_eq_true->XV,or_eq_false_iff->yDj,or_eq_true->Z2,true_or->yAN
open _root_.Classical renaming byContradiction->Zo
open _root_.Fin renaming ofNat->ZT,val_mul->yAG
open _root_.Go renaming Addr->Y0,Calls->YN,Exit->yAM,Oper->Yp,Operand->yAe,Program->YJ,Tmp->Zw,TypeId->Yd,Value->XB,World->XA,bodyPost_ret->XN,execOp->Yh,run_append_own->yBm,run_loadVar_mid->yAx,run_underlying->yAZ,undef->Zs,wpList_load_mid->YI,wpList_plain->ZL,wpList_store_mid->Yk,wpOp_mono->yDv,wp_cond_false->Yb,wp_cond_true->Yy,wp_region_any->yEM,wp_ret->Za,wp_seq->XG
open _root_.Go.Addr renaming add->yBT
open _root_.Go.Builtin renaming append_->YG,clear_->yDA,zeroCells->Zt
open _root_.Go.Code renaming region->Zd
open _root_.Go.Fence renaming wide->yCJ
open _root_.Go.Instr renaming arrayAt->yEf,box->Ys,build->yBR,buildSlice->Yw,findAsking->yDJ,findKey->yEe,indexAt->Yv,loadAt->yCe,lookup->yC0,makeMap->yEd,makeSlice->yAh,mapUpdate->yBI,sliceAt->Zy,sureAddr->yA3
open _root_.Go.IntKind renaming i64->Ya,wrap_i64->YD
open _root_.Go.KeepsOthers renaming alloc->yEc,setCell->yCk
open _root_.Go.Lib renaming run_append_nil_zeros->yCZ,wpList_append_run->yAj
open _root_.Go.Next renaming value->ZS
open _root_.Go.Oper renaming about->yDz,semAt_eq->yCR,semAt_some->yBQ,upon_enter->ZM,wp->Y3
open _root_.Go.OwnFrom renaming and->yD1
open _root_.Go.Region renaming binds->Zb,ready->Yu,wanted->Zc
open _root_.Go.Result renaming andThen_ok->Yz
open _root_.Go.RowKit.Below renaming heap_alloc->yDH,refl->XR
open _root_.Go.RowKit.Hid renaming out->yBN
open _root_.Go.Sem renaming run->yEu,run_bind->X1,run_pure->Zr
open _root_.Go.Value renaming agg->X9
open _root_.Go.World renaming cell?->YZ,cell?_of_block->X4,frozen?->Zk,frozen?_of_block->Y2,ownsRow_made->yDo,ownsRow_nil->yB8,putObj->yCX,rangeAt_setCells_apart->Yn,rangeAt_setCells_same->YY,size_alloc->XP,there->yEm,there_setCells->Zg
open _root_.Int renaming natCast_add->yCz
open _root_.List renaming setIfInBounds_toArray->XF,getElem?_cons_zero->Yi,getElem?_cons_succ->Yg,set_cons_zero->XL,all_eq_true->Yq,append_nil->yAk,append_toArray->yB5,cons_append->ZX,countP_replicate->yDd,eq_nil_iff_forall_not_mem->yCr,ext_getElem?->yA8,filter_sublist->yDn,finRange->yEi,flatMap_append->yBf,flatMap_cons->yCc,getElem?_append_left->XY,getElem?_append_right->XW,getElem?_eq_getElem->XO,getElem?_eq_none->ZK,getElem?_eq_some_iff->XM,getElem?_map->YB,getElem?_of_mem->ZA,getElem?_range->yBo,getElem?_take->Zv,getElem?_toArray->Yj,getElem_cons_succ->yC5,getElem_mem->YS,length_append->XK,length_cons->Yx,length_filter_le->yDb,length_map->XZ,length_nil->Zz,length_range->ZZ,length_take->Z8,map_append->Y1,map_cons->Z7,map_nil->yCp,map_toArray->yDO,mem_append->Y9,mem_cons->Y6,mem_cons_of_mem->Yo,mem_cons_self->YH,mem_filter->yBJ,mem_finRange->yDF,mem_flatMap->yCo,mem_map->YC,mem_of_mem_take->yDf,mem_range->Y4,mem_toArray->yAI,nil_append->Z1,nodup_cons->yAU,nodup_finRange->yBX,not_mem_nil->Yf,pairwise_map->yDE,prefix_rfl->yDX,push_toArray->yCn,range->YA,range_succ->yAT,set_cons_succ->XJ,size_toArray->YF,take_add_one->yCm,take_length->yCl
open _root_.List.Pairwise renaming imp->yCG
open _root_.Nat renaming add_comm->yEs,add_mod->yB2,add_zero->yAl,div_add_mod->yEa,le_add_right->yBK,le_of_ble_eq_true->YL,le_of_lt->yAg,le_refl->XD,le_trans->XH,lt_of_lt_of_le->XC,lt_of_succ_le->Z6,lt_or_ge->Zp,lt_succ_self->yBW,mod_eq_of_lt->X6,mod_lt->Y8,mul_comm->YK,mul_le_mul_right->yAn,mul_mod->yAW,mul_succ->yBA,mul_zero->yCv,ne_of_gt->ZN,not_lt_zero->ZP,reduceAdd->YT,reduceSub->yDe,sub_zero->yBz,zero_add->XI,zero_le->Zl
open _root_.Option renaming isSome_iff_exists->YQ,map_eq_some_iff->XE,some->XX
open _root_.Or renaming inl->Ye,inr->X7
open _root_.Prod renaming mk->Ze
open _root_.UInt8 renaming ofNat->XS
open Go.Proofs.Tryz
open Go.RowKit Go.Sort Go.Deep
variable {P:Nat}[NeZero P]{N:Nat}
def gxl:List XB:=[uZ 6481385041966929816,uZ 188021827762530521,uZ 6170039885052185351,uZ 8772561819708210092]
def gyl:List XB:=[uZ 11261198710074299576,uZ 18237243440184513561,uZ 6747795201694173352,uZ 5204712524664259685]
def gX(P:Nat)[NeZero P]:Fin P:=ZT P 55066263022277343669578718895168534326250603453777594175500187360389116729240
def gY(P:Nat)[NeZero P]:Fin P:=ZT P 32670510020758816978083085130507043184471273380659243275938904335757337482424
def gG(P:Nat)[NeZero P]:EC.Pt P:=some (gX P,gY P)
def Fld.eq(C:Fld P):P=115792089237316195423570985008687907853269984665640564039457584007908834671663:=by
 have h:=C.gap.hP;have e:val 4294968273 0 0 0=4294968273:=dC;rw[e]at h;unfold Go.Proofs.YtlofhpkoaljmeaaGreat.top at h;omega
def Ls(C:Fld P):(gX P).val=55066263022277343669578718895168534326250603453777594175500187360389116729240:=by
 have h:=C.eq;exact X6 oM
def Lr(C:Fld P):(gY P).val=32670510020758816978083085130507043184471273380659243275938904335757337482424:=by
 have h:=C.eq;exact X6 oM
def Sx(C:Fld P):gxl=ws (gX P):=by
 show _=wn (gX P).val;rw[Ls C];kernel_rfl
def Sw(C:Fld P):gyl=ws (gY P):=by
 show _=wn (gY P).val;rw[Lr C];kernel_rfl
def CZ(C:Fld P):On (gG P):=by
 refine Kc (Fin.ext ?_);have k:(7:Fin P).val=7:=X6 C.p7;rw[yAG,Fin.val_add,yAG,yAG,Ls C,Lr C,k];have h:=C.eq;rw[h]
def S5:Gives 69 #[] (.agg (gxl++gyl).toArray):=by
 intro w;go_enter func69,ntmps69;refine RG.M.enter [] 4 kR ?_;intro a0 c;repeat apply XG
 refine c.T [.m 0] [(0,RG.z 8)] [] [RG.z 8] [0] ⟨mk 0 131,yEZ⟩ ?_;intro g e d b;repeat apply XG
 refine b.T [.x (.agg gxl.toArray),.x (.agg gyl.toArray),.x (.agg (gxl++gyl).toArray),.u 0] [] [(0,3,gxl++gyl)] [gxl++gyl] [0] ⟨st,st,st,RG.pt i109,yEZ⟩ ?_;intro a2 f k;refine Za<|XN (v:=.agg (gxl++gyl).toArray) (aH k.st rfl rfl (k.at (s:=.p 0 0)) iQ i109) k.sl.defers ?_
 exact⟨_,rfl,k.st.bel.below,rfl⟩
def Fc(C:Fld P):Gives 69 #[] (pv (gX P) (gY P)):=by
 unfold pv;rw[<-Sx C,<-Sw C];exact S5
def UX(C:Fld P):uE (gX P) (gY P)=wr (gG P):=wO C ⟨rfl,rfl⟩ (CZ C)
def Ts(C:Fld P)(w:XA):cZ 131 #[] w (rZ w λe w'=>nC w (wr (gG P)) e w'):=by
 have c:Hid (Fld P):=C;clear C;go_enter func131,ntmps131;go_wp2_with fail
 apply(Fc c _).mono;rintro e n ⟨v,rfl,k,rfl⟩;go_wp2_with fail
 apply(wN c _).mono;rintro e l ⟨v,rfl,b,g,cap,rfl,i,j,f,d⟩;rw[UX c.out]at d;have m:Hid (kZ w l/\nC w (wr (gG P)) (sZ g 33 cap) l):=⟨k.trans (b.mono k.size),g,cap,rfl,i,XH k.size j,f,d⟩
 clear k b i j f d;go_wp2;go_ret;exact⟨_,rfl,m⟩
section
open Go.Shelf
attribute [local go_sem] yBQ
section
variable {F:Fence}{n:Nat}{P:YJ}{ops:Array Yp}{rest:List Yp}{op:Yp}{a:Act}{w:XA}{Q:yAM->Act->XA->Prop}
def kA{k:Yd}{x:yAe}{b o:Nat}{cs:List XB}(g:op.guard=none)(ho:op.op=.load k x)(hx:a.eval x=oZ b o)(d:TypeDesc)(l:w.rangeAt b o cs)(j:P.underlying k=some d)(hd:d.isRow=true)(i:(P.info? k).map (·.size)=some cs.length)(h:wpListIn F n P ops Q rest (a.put op.dst (.agg cs.toArray)) w):wpListIn F n P ops Q (op :: rest) a w:=
 wpListIn_plain g λK m=>by
  refine⟨λf hf=>(by unfold yDz at hf;rw[ho]at hf;cases hf),?_⟩;rw[yCR _ _ _ (λc=>by rw[ho];intro e;cases e)];unfold Yh;simp only[ho,hx,yCe,yA3,X1,Zr,Yz,yAx w b o k cs d l j hd i];exact m _ _ h
def bL{x y:yAe}{b:Nat}{k:Array XB}(d:op.guard=none)(g:Yd)(ho:op.op=.store g x y)(o:Nat)(hx:a.eval x=oZ b o)(m:a.eval y=.agg k)(i:w.there b o k.size)(j:(P.info? g).map (·.size)=some k.size)(l:k.all (·.oneCell')=true)(h:wpListIn F n P ops Q rest (a.put op.dst Zs) (w.setCells b o k.toList)):wpListIn F n P ops Q (op :: rest) a w:=
 wpListIn_plain d λK p=>by
  refine⟨λf hf=>(by unfold yDz at hf;rw[ho]at hf;cases hf),?_⟩;rw[yCR _ _ _ (λc=>by rw[ho];intro e;cases e)];unfold Yh;simp only[ho,hx,m,Instr.storeAt,yA3,X1,Zr,Yz,run_storeVar_mid w b o g k i j l];exact p _ _ h
end
def rF{k:Nat}{vs:List XB}:Own (λ(_:Unit) W=>Row W k vs):=λs A B row b c e=>by
 refine⟨XC b.1 c.size,λj v d=>?_,λj d=>?_⟩
 .exact cell_kept (b.2.1 j v d) c e
 .have f:=b.2.1 j vs[j] (XO d);have g:=cell_kept f c e;exact⟨by rw[g];rfl,(frozen_kept f c e).trans (b.2.2 j d).2⟩
def nX{k:Nat}:∀(vs:List XB) (o:Nat) (W:XA),KeepsOthers W (W.setCells k o vs)
 | [],_,W=>KeepsOthers.refl W
 | v :: vs,o,W=>(yCk W ⟨k,o,none⟩ v).trans (nX vs (o+1) _)
def Row.alloc{W:XA}{k:Nat}{vs:List XB}(h:Row W k vs)(o:Obj):Row (W.alloc o) k vs:=
 rF () W (W.alloc o) none h (World.grownBy_alloc W o none) (λ_ e=>by cases e)
def Row.putObj{W:XA}{k D:Nat}{vs:List XB}(h:Row W k vs){o:Obj}(c:W.heap[D]? = some o)(ho:o.isCells=false)(b:Obj):Row (W.putObj D b) k vs:=
 rF () W (W.putObj D b) (some D) h (grownBy_putObj' W D b) (λr e=>by cases e;exact⟨_,c,ho⟩)
variable {P:Nat}[NeZero P]
def OG(C:Fld P)(lb:Array XB)(L:List (Fin P × Fin P))(N:Nat)(w:XA)
 (u:∀n,SeqStopsK yCJ n prog 117 lb (λx:Fin P × Fin P=>#[pv x.1 x.2]) (Below w.heap.size) (λxs=>xs=L) (λb=>b <+: L) N w) :
 cZ 67 #[.func (.func 117) #[] lb] w (rZ w λe w'=>e=pv (L.headD (gX P,gY P)).1 (L.headD (gX P,gY P)).2):=by
 refine(callsIn_wide (n:=5)).1 ?_;refine callsIn_of_wp_marks func67 rfl trivial ?_ rfl;simp only[ntmps67,YF,Yx,Zz,YT,yDe,yBV,yBU,yCn,yB5,Z1,ZX]
 gi_wp2
 have z:=Made.alloc w [uZ 0,uZ 0,uZ 0,uZ 0,uZ 0,uZ 0,uZ 0,uZ 0] 131;have y:Row (w.alloc (.cells #[uZ 0,uZ 0,uZ 0,uZ 0,uZ 0,uZ 0,uZ 0,uZ 0] 131)) w.heap.size [uZ 0,uZ 0,uZ 0,uZ 0,uZ 0,uZ 0,uZ 0,uZ 0]:=⟨z.lt,z.range,z.there⟩
 have p:kZ w (w.alloc (.cells #[uZ 0,uZ 0,uZ 0,uZ 0,uZ 0,uZ 0,uZ 0,uZ 0] 131)):=z.bel;clear z;obtain⟨E,m⟩:∃E,E=w.alloc (.cells #[uZ 0,uZ 0,uZ 0,uZ 0,uZ 0,uZ 0,uZ 0,uZ 0] 131):=⟨_,rfl⟩
 have H:E.heap.size=w.heap.size+1:=by rw[m,XP]
 rw[<-m]at y p⊢;clear m;refine wpIn_rangeFunc_ownH (α:=Fin P × Fin P) rfl dC (gf:=117) (lb:=lb) rfl trivial (enters_of func117 kR rfl) (u 4) belowK_t (belowK_b oM) p (λ_=>rfl)
  (λb W=>(b=[]/\Row W w.heap.size [uZ 0,uZ 0,uZ 0,uZ 0,uZ 0,uZ 0,uZ 0,uZ 0])/\kZ w W)
  (λc b W=>(c=.ret/\∃x:Fin P × Fin P,b=[x]/\Row W w.heap.size (ws x.1++ws x.2))/\kZ w W)
  (yD1 (Own.from (λs A B row k f j=>⟨k.1,rF () A B row k.2 f j⟩) _) (ownFrom_below (XD _) oM))
  (λc=>yD1 (Own.from (λs A B row k f j=>⟨k.1,k.2.imp λx hx=>⟨hx.1,rF () A B row hx.2 f j⟩⟩) _) (ownFrom_below (XD _) oM))
  ⟨⟨rfl,y⟩,p⟩
  (λx a W=>∃Bx,w.heap.size<Bx/\Row W Bx (ws x.1++ws x.2)/\a = { tmps:=#[.func (.func 117) #[] lb,Zs,jZ w.heap.size,jZ Bx,.func (.func 117) #[] lb,pv x.1 x.2,Zs,Zs],defers:=[] })
  (λx a=>Own.from (λs A B row k f j=>k.imp λBx hx=>⟨hx.1,rF () A B row hx.2.1 f j,hx.2.2⟩) _) ?assign ?body ?done ?stop
 case assign =>
  intro l b x W K q i;have f:=Made.alloc W [uZ 0,uZ 0,uZ 0,uZ 0,uZ 0,uZ 0,uZ 0,uZ 0] 131;have g:=f.there
  gi_wp2_with (refine bL rfl 131 rfl 0 rfl rfl g i109 kR ?_)
  have k:=q.1.2.1;have o:Below w.heap.size W ((W.alloc (.cells #[uZ 0,uZ 0,uZ 0,uZ 0,uZ 0,uZ 0,uZ 0,uZ 0] 131)).setCells W.heap.size 0 (ws x.1++ws x.2)):=
   RG.below_setCells (yAg k) _ _ _ ((XR _ W).alloc (yAg k) _)
  exact i _ _ (((yEc W _).trans (nX _ _ _)).from _) o ⟨⟨q.1.1,(q.1.2.alloc _).other (Nat.ne_of_lt k)⟩,q.2.trans o⟩
   ⟨W.heap.size,k,Row.put (vs:=[uZ 0,uZ 0,uZ 0,uZ 0,uZ 0,uZ 0,uZ 0,uZ 0]) ⟨f.lt,f.range,f.there⟩ rfl,rfl⟩
 case body =>
  rintro l b x a W I ⟨r,j⟩ ⟨⟨rfl,k⟩,t⟩ ⟨Bx,G,A,rfl⟩ F;obtain⟨d,o,q⟩:=XE.1 iQ;have f:=A.2.1;have g:=k.2.2
  gi_wp2_with (first|refine kA rfl rfl rfl d f o q i109 ?_|refine bL rfl 131 rfl 0 rfl rfl g i109 kR ?_)
  exact⟨(nX _ _ _).from _,⟨rfl,x,rfl,k.put rfl⟩,RG.below_setCells (XD _) _ _ _ t⟩
 case done =>
  rintro D ys W G rfl ⟨⟨rfl,k⟩,t⟩ i;have g:=k.2.2
  gi_wp2_with fail
  refine⟨trivial,(callsIn_wide.2 (Fc C _)).mono ?_⟩;rintro e A ⟨v,rfl,o,rfl⟩;have f:Row A w.heap.size [uZ 0,uZ 0,uZ 0,uZ 0,uZ 0,uZ 0,uZ 0,uZ 0]:=k.below o;have a:=f.2.2
  gi_wp2_with (refine bL rfl 131 rfl 0 rfl rfl a i109 kR ?_)
  have j:(A.setCells w.heap.size 0 (ws (gX P)++ws (gY P))).heap[D]? = some (.deferred (some [])):=by
   rw[aE _ _ _ _ oM,o.block D (X5.1 i).1];exact i
  have F:kZ w (A.setCells w.heap.size 0 (ws (gX P)++ws (gY P))):=RG.below_setCells (XD _) _ _ _ (t.trans (o.mono t.size));have q:Row (A.setCells w.heap.size 0 (ws (gX P)++ws (gY P))) w.heap.size (ws (gX P)++ws (gY P)):=f.put rfl;refine⟨by simp,.inl ⟨_,_,rfl,run_takeDeferred j,?_⟩⟩;exact⟨_,aF 2 rfl (q.putObj j rfl _) rfl iQ i109,_,rfl,F.trans (belowK_b (w:=E) oM _ D _ _ G j rfl rfl),rfl⟩
 case stop =>
  rintro D c b W G f ⟨⟨rfl,x,rfl,k⟩,t⟩ i
  gi_wp2
  obtain⟨o,j⟩:=f;have g:L=x :: o:=j.symm;rw[g];refine⟨by simp,.inl ⟨_,_,rfl,run_takeDeferred i,?_⟩⟩;exact⟨_,aF 2 rfl (k.putObj i rfl _) rfl iQ i109,_,rfl,t.trans (belowK_b (w:=E) oM _ D _ _ G i rfl rfl),rfl⟩
end
def kG{w W:XA}{k e b d c:Nat}(h:Kept w k [⟨k,0,b,d,c,0⟩,⟨e,0,0,0,0,0⟩] W):W.cell? ⟨k,0,none⟩=some (uZ b)/\W.cell? ⟨k,1,none⟩=some (uZ d)/\W.cell? ⟨k,2,none⟩=some (uZ c)/\W.cell? ⟨k,3,none⟩=some (uZ 0)/\Kept w k [⟨k,0,b,d,c,0⟩,⟨e,0,0,0,0,0⟩] W:=⟨h.head.c0,h.head.c1,h.head.c2,h.head.c3,h⟩
def lE{w W:XA}{k e b d c:Nat}(h:W.cell? ⟨k,0,none⟩=some (uZ b)/\W.cell? ⟨k,1,none⟩=some (uZ d)/\W.cell? ⟨k,2,none⟩=some (uZ c)/\W.cell? ⟨k,3,none⟩=some (uZ 0)/\Kept w k [⟨k,0,b,d,c,0⟩,⟨e,0,0,0,0,0⟩] W):Kept w k [⟨k,0,b,d,c,0⟩,⟨e,0,0,0,0,0⟩] W:=h.2.2.2.2
def D7{w W:XA}{k e b d c:Nat}{o:Obj}(h:W.cell? ⟨k,0,none⟩=some (uZ b)/\W.cell? ⟨k,1,none⟩=some (uZ d)/\W.cell? ⟨k,2,none⟩=some (uZ c)/\W.cell? ⟨k,3,none⟩=some (uZ 0)/\Kept w k [⟨k,0,b,d,c,0⟩,⟨e,0,0,0,0,0⟩] W):(W.alloc o).cell? ⟨k,0,none⟩=some (uZ b)/\(W.alloc o).cell? ⟨k,1,none⟩=some (uZ d)/\(W.alloc o).cell? ⟨k,2,none⟩=some (uZ c)/\(W.alloc o).cell? ⟨k,3,none⟩=some (uZ 0)/\Kept w k [⟨k,0,b,d,c,0⟩,⟨e,0,0,0,0,0⟩] (W.alloc o):=kG ((lE h).alloc o)
def Cs{w W:XA}{k e b d c:Nat}{o:Obj}(h:W.drew.cell? ⟨k,0,none⟩=some (uZ b)/\W.drew.cell? ⟨k,1,none⟩=some (uZ d)/\W.drew.cell? ⟨k,2,none⟩=some (uZ c)/\W.drew.cell? ⟨k,3,none⟩=some (uZ 0)/\Kept w k [⟨k,0,b,d,c,0⟩,⟨e,0,0,0,0,0⟩] W.drew):(W.alloc o).drew.cell? ⟨k,0,none⟩=some (uZ b)/\(W.alloc o).drew.cell? ⟨k,1,none⟩=some (uZ d)/\(W.alloc o).drew.cell? ⟨k,2,none⟩=some (uZ c)/\(W.alloc o).drew.cell? ⟨k,3,none⟩=some (uZ 0)/\Kept w k [⟨k,0,b,d,c,0⟩,⟨e,0,0,0,0,0⟩] (W.alloc o).drew:=kG (((lE h).undrew).alloc o).drew
def yN{w:XA}{p l g o:Nat}{k:Bs}(h:hZ w g o k)(c:p+l<=k.size):hZ w g (o+p) (k.extract p (p+l)):=by
 refine Holds.part h (by rw[Z4];omega) (λj b=>?_);rw[Z4]at b;rw[getElem!_pos (k.extract p (p+l)) j (by rw[Z4];omega),getElem!_pos k (p+j) oM,Array.getElem_extract]
def CX{w:XA}{f g o:Nat}{k:Bs}(h:hZ w g o k)(hf:f<=k.size):hZ w g o (k.extract 0 f):=by
 have:=yN (p:=0) (l:=f) h oM;rwa[XI,yAl]at this
def RedR(w:XA)(e f g l j N:Nat)(s6:XB)(i:XA):Prop:=
 ∃k a b c d:Nat,s6=jZ k/\Kept w e [⟨k,0,a,b,c,d⟩,⟨e,0,g,l,j,0⟩,⟨f,0,0,0,0,0⟩] i/\k≠e/\k≠f/\e<=k /\
  Hid (Four (.agg #[uZ a,uZ b,uZ c,uZ d]) N)
def RedR.made{w k:XA}{f i g l j N a b c d:Nat}(e:Kept w f [⟨f,0,g,l,j,0⟩,⟨i,0,0,0,0,0⟩] k)(m:Hid (Four (.agg #[uZ a,uZ b,uZ c,uZ d]) N)):
 RedR w f i g l j N (jZ k.heap.size) (k.alloc (.cells #[uZ a,uZ b,uZ c,uZ d] 76)):=
 ⟨k.heap.size,a,b,c,d,rfl,(e.alloc _).cons (At4.made k 76 a b c d rfl).blk,ZN e.head.lt,ZN e.tail.head.lt,e.le,m⟩
def RedR.put{w l:XA}{e f k g j i N a b c d x y z u:Nat}(p:Kept w e [⟨e,0,g,j,i,0⟩,⟨f,0,0,0,0,0⟩] l)(T:At4 l k x y z u)(n:e<=k)(m:∀x∈([⟨e,0,g,j,i,0⟩,⟨f,0,0,0,0,0⟩]:List Blk),x.k<k)(o:Hid (Four (.agg #[uZ a,uZ b,uZ c,uZ d]) N)):
 RedR w e f g j i N (jZ k) ((((l.setCell (aZ k) (uZ a)).setCell ⟨k,1,none⟩ (uZ b)).setCell ⟨k,2,none⟩ (uZ c)).setCell ⟨k,3,none⟩ (uZ d)):=
 ⟨k,a,b,c,d,rfl,(p.set4' n (λx hx=>ZN (m x hx)) _ _ _ _).cons (T.self4 a b c d).blk,ZN (m ⟨e,0,g,j,i,0⟩ (by simp)),ZN (m ⟨f,0,0,0,0,0⟩ (by simp)),n,o⟩
def JS{P:Nat}(k:Bs)(p:Nat)(d:p+32<=k.size):(beV (k.extract p (p+32)).toList+top*(beV (k.extract 0 p).toList%P))%P=beV (k.extract 0 (p+32)).toList%P:=by
 have e:(k.extract 0 (p+32)).toList=(k.extract 0 p).toList++(k.extract p (p+32)).toList:=by
  rw[<-Array.toList_append,Array.extract_append_extract,Nat.min_eq_left oM,Nat.max_eq_right oM]
 have b:(k.extract p (p+32)).toList.length=32:=by rw[XU,Z4];omega
 have c:256^32=top:=by unfold top;decide
 rw[e,rB,b,c,yEs,yB2,yAW,Nat.mod_mod,<-yAW,<-yB2,YK]
def Dt(g0 g1 g2 P g o n cap : Nat)(bs : Bs)(hG : Gap g0 g1 g2 P)(w : XA)(hs : bs.size = n)(hc : n <= cap)(hg : g < w.heap.size)(hB : Holds encB w g o bs):
    YN prog 204 #[.agg #[.int .u64 (g0 : Int), .int .u64 (g1 : Int), .int .u64 (g2 : Int), .int .u64 0], .slice (some ⟨g, o, none⟩) n cap] w (Ret λe w' => Below w.heap.size w w' /\ Four e (beV bs.toList % P)) := by
  obtain⟨f, hf⟩ : ∃f, f = n % 32 := ⟨_, rfl⟩;have hf32 : f < 32 := oM;have hfn : f <= n := oM;have e1 : (n : Int) % 32 = (f : Int) := oM;have e2 : (f : Int) <= (cap : Int) := oM;have e3 : (f : Int) <= (n : Int) := oM;have e4 : f <= cap := oM;have hsz0 : (bs.extract 0 f).size = f := by rw [Z4]; omega
  have Hf : Hid (f = n % 32) := hf;have HS : Hid ((bs.extract 0 f).size = f) := hsz0;have hbs : f <= bs.size := oM;have HSZ : Hid (bs.size = n) := hs;have HG : Hid (Gap g0 g1 g2 P) := hG;clear hf hsz0 hG;go_enter func204, ntmps204
  go_upto_region 2 with fail
  rw [e1];clear e1;have PR := (At4.made w 78 g0 g1 g2 0 rfl).alloc (.cells #[.int .u64 0, .int .u64 0, .int .u64 0, .int .u64 0] 42);have RE := At4.made (w.alloc (.cells #[.int .u64 (g0 : Int), .int .u64 (g1 : Int), .int .u64 (g2 : Int), .int .u64 0] 78)) 42 0 0 0 0 (XP _ _);have KP := ((Kept.mk1 (below2 w (.cells #[.int .u64 (g0 : Int), .int .u64 (g1 : Int), .int .u64 (g2 : Int), .int .u64 0] 78) (.cells #[.int .u64 0, .int .u64 0, .int .u64 0, .int .u64 0] 42)) (below2 w (.cells #[.int .u64 (g0 : Int), .int .u64 (g1 : Int), .int .u64 (g2 : Int), .int .u64 0] 78) (.cells #[.int .u64 0, .int .u64 0, .int .u64 0, .int .u64 0] 42)).size).cons RE.blk).cons PR.blk;clear PR RE;generalize World.alloc _ _ = W0 at KP⊢;generalize h1 : w.heap.size + 1 = k1 at KP⊢;have Q1 : Hid (w.heap.size <= k1) := by unfold Hid; omega
  generalize h0 : w.heap.size = k0 at KP Q1 hg⊢;have n01 : k0 ≠ k1 := oM;have H0 : Hid (w.heap.size = k0) := h0;have HBS : Hid (Holds encB w g o bs) := hB;clear h0 h1 hB hs
  go_cut [6] (λs6 wx => RedR w k0 k1 g0 g1 g2 (beV (bs.extract 0 f).toList % P) s6 wx)
  case first =>
    go_region_held3 (λw' => w'.cell? ⟨k0, 0, none⟩ = some (.int .u64 (g0 : Int)) /\ w'.cell? ⟨k0, 1, none⟩ = some (.int .u64 (g1 : Int)) /\ w'.cell? ⟨k0, 2, none⟩ = some (.int .u64 (g2 : Int)) /\ w'.cell? ⟨k0, 3, none⟩ = some (.int .u64 0) /\ Kept w k0 [⟨k0, 0, g0, g1, g2, 0⟩, ⟨k1, 0, 0, 0, 0, 0⟩] w') (first | (with_reducible exact kG KP) | (with_reducible exact kG KP.drew) | (with_reducible exact Cs (by assumption)) | (with_reducible exact D7 (by assumption)) | (with_reducible exact kG (KP.alloc _)) | (with_reducible exact kG (KP.set4' M7 (λx hx => ZN (N7 x hx)) _ _ _ _)) | (with_reducible exact kG (KP.alloc _).drew) | (with_reducible exact kG (KP.set4' M7 (λx hx => ZN (N7 x hx)) _ _ _ _).drew) | fail) (first | (go_at_call 53; refine(kT (some ⟨g, o, none⟩) g o f cap (bs.extract 0 f) _ (yAg hf32) e4 HS.out (X7 ⟨rfl, CX (f:=f) (Holds.below HBS.out (lE (by assumption)).bl hg) hbs⟩)).mono ?_; rintro e w1 ⟨v, rfl, hb1, hF1⟩; obtain⟨a1, b1, c1, d1, rfl, ha1, hb1', hc1, hd1, es1⟩ := id hF1; clear es1; have HF1 : Hid (Four _ _) := hF1; clear hF1; (try(with_reducible have T1 := T.call hb1; clear T; have T := T1; clear T1)); (try(first | (with_reducible have T := (At4.made _ 76 0 0 0 0 rfl).call hb1) | (with_reducible have T := (At4.made _ 76 0 0 0 0 rfl).drew.call hb1)); have N7 := KP.lts; have M7 := KP.le); have KP1 := Kept.call (lE (by assumption)) hb1; clear KP; have KP := KP1; clear KP1 hb1) | (go_at_call 55; refine(jV HF1.out).mono ?_; rintro e w1 ⟨v, rfl, hb1, rfl⟩; (try(with_reducible have T1 := T.call hb1; clear T; have T := T1; clear T1)); (try(first | (with_reducible have T := (At4.made _ 76 0 0 0 0 rfl).call hb1) | (with_reducible have T := (At4.made _ 76 0 0 0 0 rfl).drew.call hb1)); have N7 := KP.lts; have M7 := KP.le); have KP1 := Kept.call (lE (by assumption)) hb1; clear KP; have KP := KP1; clear KP1 hb1) | (go_at_call 155; refine(yT g0 g1 g2 _ _ _ _ P HG.h0 HG.h1 HG.h2 HG.hor HG.hP HG.hP2 HF1.out (Four.mk (a := 0) (b := 0) (c := 0) (d := 0) dC dC dC dC rfl) _).mono ?_; rintro e w1 ⟨v, rfl, hb1, hF3⟩; obtain⟨a', b', c', d', rfl, ha', hb', hc', hd', es3⟩ := id hF3; clear es3; have HF3 : Hid (Four _ _) := hF3; clear hF3; (try(with_reducible have T1 := T.call hb1; clear T; have T := T1; clear T1)); (try(first | (with_reducible have T := (At4.made _ 76 0 0 0 0 rfl).call hb1) | (with_reducible have T := (At4.made _ 76 0 0 0 0 rfl).drew.call hb1)); have N7 := KP.lts; have M7 := KP.le); have KP1 := Kept.call (lE (by assumption)) hb1; clear KP; have KP := KP1; clear KP1 hb1; (try(obtain⟨tc0, tc1, tc2, tc3, tf⟩ := id T; have zt := T.lt))))
    all_goals (try go_wp2)
    all_goals (rw [show val 0 0 0 0 = 0 from rfl, yCv, yAl]at HF3)
    all_goals (go_meet; first | (with_reducible exact RedR.made KP HF3) | (with_reducible exact(RedR.made KP HF3).drew) | (with_reducible exact RedR.put KP T M7 N7 HF3) | (with_reducible exact(RedR.put KP T M7 N7 HF3).drew) | fail)
  case rest =>
    clear KP;obtain⟨k6, a, b, c, d, rfl, KP, n60, n61, M6, HF⟩ := hcut;have f0 : (0 : Int) <= (f : Int) := Int.natCast_nonneg _
    go_upto_region 3 with fail
    go_cut [1] (λs1 wx => ∃q : Nat, s1 = .slice (some ⟨g, q, none⟩) (n - f) (cap - f) /\ Hid (0 < n - f -> q = o + f) /\ Kept w k0 [⟨k6, 0, a, b, c, d⟩, ⟨k0, 0, g0, g1, g2, 0⟩, ⟨k1, 0, 0, 0, 0, 0⟩] wx)
    case first =>
      by_cases ec : cap = f
      · have en : n = f := oM
        have HEN : Hid (n = f /\ cap = f) := ⟨en, ec⟩;go_wp2
        go_meet
        refine⟨o, ?_, λh => ?_, KP⟩
        · rw [HEN.1, HEN.2]; try simp
        · have := HEN.1; omega
      · go_wp2
        go_meet
        exact⟨o + f, rfl, λ_ => rfl, KP⟩
    case rest =>
    clear KP;obtain⟨q0, rfl, HQ0, KP⟩ := hcut;go_wp2_with fail
    go_loopg [1] (n - f) (λgk s1 wr => ∃(l q lc a b c d : Nat), gk = l /\ l <= n /\ s1 = .slice (some ⟨g, q, none⟩) l lc /\ Hid (l % 32 = 0 /\ (0 < l -> q = o + (n - l)) /\ lc = cap - (n - l)) /\ Kept w k0 [⟨k6, 0, a, b, c, d⟩, ⟨k0, 0, g0, g1, g2, 0⟩, ⟨k1, 0, 0, 0, 0, 0⟩] wr /\
      Hid (Four (.agg #[.int .u64 (a : Int), .int .u64 (b : Int), .int .u64 (c : Int), .int .u64 (d : Int)]) (beV (bs.extract 0 (n - l)).toList % P)))
    case atStart =>
      refine⟨n - f, q0, cap - f, a, b, c, d, rfl, oM, rfl, ⟨by have := Hf.out; omega, λh => by have := HQ0.out h; omega, oM⟩, KP, ?_⟩;rw [show n - (n - f) = f by omega];exact HF
    case round =>
      clear KP HF;obtain⟨l, q, lc, a, b, c, d, hgk, hln, rfl, HQ3, KP, HF⟩ := hrel;clear e2 e3 e4 f0 hbs HS hf32 hfn HQ0;have hlcl : l <= lc := by have := HQ3.out; omega
      by_cases h0 : l = 0
      · subst h0
        obtain⟨xc0, xc1, xc2, xc3, xf⟩ := KP.head.at4;have z7 := KP.head.lt;go_wp2_with fail
        refine(jR HF.out).mono ?_;rintro e w3 ⟨v, rfl, hb3, rfl⟩;have KP3 := KP.call hb3;clear hb3 xc0 xc1 xc2 xc3 xf z7 KP;obtain⟨rc0, rc1, rc2, rc3, rf⟩ := KP3.tail.tail.head.at4;have z3 := KP3.tail.tail.head.lt;go_wp2;have RF := KP3.tail.tail.head.at4.self4 a b c d;unfold set4 at RF;refine XN (v := ?v) ?hr rfl ?hR
        case hr => simp [results, Tryz.results204, go_sem, RF.c0, RF.c1, RF.c2, RF.c3]; rfl
        refine⟨_, rfl, ?_, ?_⟩
        · rw [H0.out]
          exact aM KP3.bl Q1.out
        · have := HF.out
          rw [yBz, <-HSZ.out, Array.extract_size]at this;exact this
      · have h32 : 32 <= l := by have := HQ3.out; omega
        have HQ : Hid (o + (n - l) = q) := (HQ3.2.1 oM).symm;have h32c : 32 <= lc := oM;have i1 : (32 : Int) <= (lc : Int) := oM;have i2 : (32 : Int) <= (l : Int) := oM;have i3 : (0 : Int) < (l : Int) := oM;have HSL : Hid (n - l + 32 <= bs.size) := by unfold Hid; have := HSZ.out; omega
        have HS3 : Hid ((bs.extract (n - l) (n - l + 32)).size = 32) := by unfold Hid; rw [Z4]; have := HSL.out; omega
        obtain⟨tc0, tc1, tc2, tc3, tf⟩ := KP.head.at4;have zt := KP.head.lt;obtain⟨pc0, pc1, pc2, pc3, pf⟩ := KP.tail.head.at4;have hl6 : ∀x ∈ ([⟨k0, 0, g0, g1, g2, 0⟩, ⟨k1, 0, 0, 0, 0, 0⟩] : List Blk), k6 ≠ x.k := by simp only [Y6, Yf, or_false]; rintro x (rfl | rfl); exact n60; exact n61
        have HFF : Hid (_ = _) := JS (P := P) bs (n - l) HSL.out;go_wp2_with fail
        go_region_with (first | (go_at_call 53; refine(kT (some ⟨g, q, none⟩) g q 32 lc (bs.extract (n - l) (n - l + 32)) _ (XD 32) h32c HS3.out (X7 ⟨rfl, HQ.out ▸ yN (p:=(n - l)) (l:=32) (by first | (with_reducible exact Holds.below HBS.out KP.bl hg) | (with_reducible exact Holds.below HBS.out KP.drew.bl hg) | fail) HSL.out⟩)).mono ?_; rintro e w1 ⟨v, rfl, hb1, hF1⟩; obtain⟨a1, b1, c1, d1, rfl, ha1, hb1', hc1, hd1, es1⟩ := id hF1; clear es1; have HF1 : Hid (Four _ _) := hF1; clear hF1; (first | (with_reducible have KP1 := KP.call hb1) | (with_reducible have KP1 := KP.drew.call hb1) | fail); clear KP; have KP := KP1; clear KP1 hb1; obtain⟨tc0, tc1, tc2, tc3, tf⟩ := KP.head.at4; have zt := KP.head.lt; obtain⟨pc0, pc1, pc2, pc3, pf⟩ := KP.tail.head.at4) | (go_at_call 55; refine(jV HF1.out).mono ?_; rintro e w1 ⟨v, rfl, hb1, rfl⟩; (first | (with_reducible have KP1 := KP.call hb1) | (with_reducible have KP1 := KP.drew.call hb1) | fail); clear KP; have KP := KP1; clear KP1 hb1; obtain⟨tc0, tc1, tc2, tc3, tf⟩ := KP.head.at4; have zt := KP.head.lt; obtain⟨pc0, pc1, pc2, pc3, pf⟩ := KP.tail.head.at4) | (go_at_call 155; refine(yT g0 g1 g2 _ _ _ _ P HG.h0 HG.h1 HG.h2 HG.hor HG.hP HG.hP2 HF1.out HF.out _).mono ?_; rintro e w1 ⟨v, rfl, hb1, hF3⟩; obtain⟨a', b', c', d', rfl, ha', hb', hc', hd', es3⟩ := id hF3; clear es3; have HF3 : Hid (Four _ _) := hF3; clear hF3; (first | (with_reducible have KP1 := KP.call hb1) | (with_reducible have KP1 := KP.drew.call hb1) | fail); clear KP; have KP := KP1; clear KP1 hb1; obtain⟨tc0, tc1, tc2, tc3, tf⟩ := KP.head.at4; have zt := KP.head.lt; obtain⟨pc0, pc1, pc2, pc3, pf⟩ := KP.tail.head.at4))
        all_goals (rw [HFF.out]at HF3)
        all_goals (by_cases i4 : lc = 32)
        all_goals (try go_wp2)
        all_goals
          (go_roundg (l - 32)
           case measure => omega
           case rel =>
            first
              | refine⟨l - 32, q + 32, lc - 32, a', b', c', d', rfl, oM, rfl, ⟨by have := HQ3.out; omega, λ_ => by have := HQ.out; omega, by have := HQ3.out; omega⟩, ?_, ?_⟩
              | refine⟨l - 32, q, lc - 32, a', b', c', d', rfl, oM, by first | rfl | (rw [i4]), ⟨by have := HQ3.out; omega, λh => oM, by have := HQ3.out; omega⟩, ?_, ?_⟩
              | fail
            · first | (with_reducible exact KP.put M6 hl6 a' b' c' d') | (with_reducible exact(KP.put M6 hl6 a' b' c' d').drew) | fail
            · rw [show n - (l - 32) = n - l + 32 by omega]; exact HF3)
def sPl(N a b:Nat):Nat:=(a+b)%N
def NF(O:Ord N){a b:Nat}(c:a<N)(k:b<N):Gives 50 #[gv1,nv a,nv b] (nv (sPl N a b)):=λw =>
 (Ds O.gap (O.four c) (O.four k) c k).mono (by rintro e w' ⟨v,rfl,k,d⟩;exact⟨_,rfl,k,d.nv⟩)
def mJ(O:Ord N)(a b:Nat)(c:a<N)(e:b<N):Gives 25 #[(nv a),(nv b)] (nv (sPl N a b)):=by
 intro w;go_enter func25,ntmps25;refine RG.M.enter [(0,.v (nv a)),(1,.v (nv b))] 12 kR ?_;intro a0 f;repeat apply XG
 refine f.T [.m 0,.m 1,.m 2] [(0,wn a),(1,wn b),(2,RG.z 4)] [] [wn a,wn b,RG.z 4] [2,3,4] ⟨mk 0 44,mk 1 44,mk 2 44,yEZ⟩ ?_;intro m n l i g d;repeat apply XG
 refine d.D [.c gv1,.s (.p 0 0),.x (nv a),.s (.p 1 0),.x (nv b),.c (nv (sPl N a b)),.x (nv (sPl N a b)),.u 2] [] [(2,7,wn (sPl N a b))] [wn a,wn b,wn (sPl N a b)] [4] ⟨cl iD,st,ld u38 i38,st,ld u38 i38,cl (NF O c e),st,RG.pt i40,yEZ⟩ ?_;intro a2 j k;refine Za<|XN (v:=(nv (sPl N a b))) (aH k.st rfl rfl (k.at (s:=(.p 2 0))) u40 i40) k.sl.defers ?_
 exact⟨_,rfl,k.st.bel.below,rfl⟩
def mK(N:Nat)(k:Bs):Nat:=beV k.toList%N
def Tr(v:XB)(n:Nat):List It:=[.c 3 [] gv1,.x 4 [] v,.c 5 [(3,0),(4,1)] (nv n),.x 6 [(5,2)] (nv n),.u [(6,3)] 0]
def Au(O:Ord N)(g:Nat)(k:Bs)(i:k.size=64)(w:XA)(f:g<w.heap.size)(j:hZ w g 0 k):cZ 180 #[sZ g 64 64] w (rZ w λe w'=>e=nv (mK N k)):=by
 have n:∀w',BelX w.heap.size [] w w'->cZ 204 #[gv1,sZ g 64 64] w' (Ret λe b=>kZ w' b/\e=nv (mK N k)):=λw' c =>
  (Dt _ _ _ N g 0 64 64 k O.gap w' i (XD _) (XC f c.below.size) (Holds.below j c.below f)).mono (by rintro e b ⟨v,rfl,c,d⟩;exact⟨_,rfl,c,d.nv⟩)
 go_enter func180,ntmps180;refine RG.M.enter [(0,.v (sZ g 64 64))] 7 kR ?_;intro a0 m;repeat apply XG
 refine m.T [.m 0] [(0,RG.z 4)] [] [RG.z 4] [0,2] ⟨mk 0 44,yEZ⟩ ?_;intro p r o l;repeat apply XG
 refine l.t (Tr (sZ g 64 64) (mK N k)) [] [(0,4,wn (mK N k))] [wn (mK N k)] [(2,.p 0 0)] ⟨cl iD,st,clB (λ_ _=>kR) n,st,RG.pt i40,yEZ⟩ ?_;intro a2 q d;refine Za<|XN (v:=(nv (mK N k))) (aH d.st rfl rfl (d.at (s:=(.p 0 0))) u40 i40) d.sl.defers ?_
 exact⟨_,rfl,d.st.bel.below,rfl⟩
def oS{k:Bs}(O:Ord N):mK N k<N:=Y8 _ O.pos
def chL(N:Nat)(k:List UInt8)(b:List (List UInt8)):Nat:=mK N (kX (iU k b).toList 64)
def Ck(O:Ord N)(g:Nat)(T:Bs)(w:XA)(q:T.size=32)(s:hZ w g 0 T):
 cZ 122 #[sZ g 32 32] w (rZ w λe w'=>e=nv (mK N (kX T.toList 64))):=by
 obtain⟨S,o⟩:=yH (kX T.toList 64);have p:S.size=64:=o.out▸Ap;rw[o.out];obtain⟨c,k⟩:=yH (w.alloc (.cells #[uZ 0,uZ 0,uZ 0,uZ 0] 44));have f:Hid (Row c w.heap.size [uZ 0,uZ 0,uZ 0,uZ 0]/\kZ w c/\hZ c g 0 T):=by rw[<-k.out];exact⟨row_new w _ _,aD _,Holds.below s (aD _) (Holds.lt s oM)⟩
 clear s;go_enter func122,ntmps122;go_wp2_with fail
 rw[k.out];clear k;apply(zY (some (aZ g)) g 0 32 32 64 T c dC q (XD _) dC (X7 ⟨rfl,f.2.2⟩)).mono;rintro e l ⟨a,rfl,B,t,x⟩;rw[o.out]at x;have d:Hid (Row l w.heap.size [uZ 0,uZ 0,uZ 0,uZ 0]/\kZ w l/\hZ l a 0 S):=⟨f.1.below t,f.2.1.trans (t.mono f.2.1.size),x⟩
 clear B t x f;go_wp2_with fail
 apply(Au O a S p l (Holds.lt d.2.2 oM) d.2.2).mono;rintro e r ⟨v,rfl,b,rfl⟩;have u:Hid (Row r w.heap.size [uZ 0,uZ 0,uZ 0,uZ 0]/\kZ w r):=⟨d.1.below b,d.2.1.trans (b.mono d.2.1.size)⟩
 clear b d;obtain⟨m,z⟩:=yH (mK N S);rw[z.out];obtain⟨n,i⟩:=yH (r.setCells w.heap.size 0 (wn m));have y:Hid (Row n w.heap.size (wn m)/\kZ w n):=by rw[<-i.out];exact⟨u.1.put rfl,RG.below_setCells (XD _) _ _ _ u.2⟩
 obtain⟨A,j⟩:=yH (nv m);rw[j.out];go_wp2_with (refine Yk rfl 44 _ _ rfl w.heap.size 0 (wn m).toArray ?_ ?_ ?_ ?_ ?_ ?_;rfl;exact j.symm;exact u.1.2.2;exact i40;exact aI;rw[show(wn m).toArray.toList=wn m from rfl,i.out])
 refine XN (aF 2 rfl y.1 rfl u40 i40) rfl ?_;exact⟨_,rfl,y.2,by rw[z.out];rfl⟩
def Dc(O:Ord N)(k:ByteArray)(u:Option Y0)(n cap:Nat)(i:List (List UInt8))(w:XA)(j:k.size<=1048576)(I:i.length=n)(p:n<=1048576)(F:PartsOk w u i):
 cZ 74 #[.string k,.slice u n cap] w (rZ w λe w'=>e=nv (chL N k.data.toList i)):=by
 obtain⟨T,z⟩:=yH (iU k.data.toList i);have x:T.size=32:=z.out▸bR;have B:chL N k.data.toList i=mK N (kX T.toList 64):=by unfold chL;rw[z.out]
 rw[B];clear B;obtain⟨c,f⟩:=yH (w.alloc (.cells #[uZ 0,uZ 0,uZ 0,uZ 0] 44));have b:Hid (Row c w.heap.size [uZ 0,uZ 0,uZ 0,uZ 0]/\kZ w c):=by rw[<-f.out];exact⟨row_new w _ _,aD _⟩
 have d:Hid (cZ 46 #[.string k,.slice u n cap] c λe w'=>∃r,e=.returned (sZ r 32 32)/\c.heap.size<=r/\kZ c w'/\hZ w' r 0 T):=by
  subst I;rw[<-z.out];exact kO k u cap i c j p (F.below b.2)
 clear F I p;go_enter func74,ntmps74;go_wp2_with fail
 rw[f.out];clear f;refine d.mono ?_;rintro e t ⟨D,rfl,J,a,H⟩;have l:Hid (Row t w.heap.size [uZ 0,uZ 0,uZ 0,uZ 0]/\kZ w t/\hZ t D 0 T):=⟨b.1.below a,b.2.trans (a.mono b.2.size),H⟩
 clear J a H d b;go_wp2_with fail
 apply(Ck O D T t x l.2.2).mono;rintro e y ⟨v,rfl,g,rfl⟩;have A:Hid (Row y w.heap.size [uZ 0,uZ 0,uZ 0,uZ 0]/\kZ w y):=⟨l.1.below g,l.2.1.trans (g.mono l.2.1.size)⟩
 clear g l;obtain⟨m,E⟩:=yH (mK N (kX T.toList 64));rw[E.out];obtain⟨s,o⟩:=yH (y.setCells w.heap.size 0 (wn m));have C:Hid (Row s w.heap.size (wn m)/\kZ w s):=by rw[<-o.out];exact⟨A.1.put rfl,RG.below_setCells (XD _) _ _ _ A.2⟩
 obtain⟨G,q⟩:=yH (nv m);rw[q.out];go_wp2_with (refine Yk rfl 44 _ _ rfl w.heap.size 0 (wn m).toArray ?_ ?_ ?_ ?_ ?_ ?_;rfl;exact q.symm;exact A.1.2.2;exact i40;exact aI;rw[show(wn m).toArray.toList=wn m from rfl,o.out])
 refine XN (aF 4 rfl C.1 rfl u40 i40) rfl ?_;exact⟨_,rfl,C.2,by rw[E.out];rfl⟩
section
section
variable {P:YJ}{ops:Array Yp}{rest:List Yp}{op:Yp}{a:Act}{w w':XA}{v:XB}{Q:yAM->Act->XA->Prop}
def bH(k:op.guard=none)(X:Op)(_:op.op=X)(c:(Yh a.eval op).run P w=.ok (.value v) w')(h:wpList P ops Q rest (a.put op.dst v) w'):wpList P ops Q (op :: rest) a w:=
 ZL k λK b=>by
  unfold Y3;rw[c];exact b _ _ h
end
variable {N:Nat}
def Row.only{W W':XA}{k b o n:Nat}{vs:List XB}(h:Row W k vs)(f:SP.Only b o n W W')(d:k≠b):Row W' k vs:=by
 refine⟨XC h.1 f.size,λj v e=>?_,λj e=>?_⟩
 .rw[(f.other (c:=k) (o:=0+j) d h.1).1];exact h.2.1 j v e
 .have g:=h.2.2 j e;have i:=f.other (c:=k) (o:=0+j) d h.1;exact⟨by rw[i.1];exact g.1,by rw[i.2];exact g.2⟩
def dT{w W:XA}{q y o n k:Nat}{vs:List XB}(h:SP.Only y o n w W)(e:y<w.heap.size)(f:w.heap.size<=k):SP.Only y o n w (W.setCells k q vs):=
 have b:=RG.below_setCells f _ _ _ (XR _ _)
 ⟨b.os.trans h.os,b.tape.trans h.tape,b.output.trans h.output,XH h.size b.size,λj d c=>(b.block j d).trans (h.block j d c),λp g=>(X4 (a:=⟨y,p,none⟩) (b.block y e)).trans (h.cell p g),λp=>(Y2 (a:=⟨y,p,none⟩) (b.block y e)).trans (h.froz p)⟩
def Hid.mk'{p:Prop}(h:p):Hid p:=h
def u124:yZ 157:=yQ
def i124:gZ 157 1:=gQ
def H5(k:ByteArray)(w:XA)(l:k.size<=1048576):cZ 185 #[.string k] w (rZ w λe w'=>∃r,e=.agg #[jZ r]/\w.heap.size<=r/\r<w'.heap.size/\hZ w' r 0 (newL k.data.toList)):=by
 obtain⟨L,t⟩:=hE (newL k.data.toList);have u:L.size=32:=by rw[<-t.out];exact AH
 rw[t.out];obtain⟨c,d⟩:=yH (w.alloc (.cells #[.pointer none] 157));have n:Hid (Row c w.heap.size [.pointer none]/\kZ w c):=by rw[<-d.out];exact⟨row_new w _ _,aD _⟩
 go_enter func185,ntmps185;go_wp2_with fail
 rw[d.out];clear d;refine(Ft k c l).mono ?_;rintro e g ⟨rfl,f,b⟩;rw[t.out]at b;have o:c.heap.size<g.heap.size:=Holds.lt b oM;obtain⟨r,s⟩:=yH c.heap.size;rw[s.out]at b o⊢;have x:w.heap.size<r:=by rw[<-s.out];exact n.1.1
 have p:Hid (Row g w.heap.size [.pointer none]/\kZ w g/\hZ g r 0 L):=⟨n.1.below f,n.2.trans (f.mono n.2.size),b⟩
 clear f b n s;obtain⟨i,m⟩:=yH (g.setCells w.heap.size 0 [jZ r]);have q:Hid (Row i w.heap.size [jZ r]/\kZ w i/\hZ i r 0 L/\r<i.heap.size):=by
  rw[<-m.out];refine⟨p.1.put rfl,RG.below_setCells (XD _) _ _ _ p.2.1,λj y=>?_,by rw[setCells_size];exact o⟩;have h:=p.2.2 j y;have e:=aE (k:=w.heap.size) [jZ r] 0 g r oM;rw[X4 (a:=⟨r,0+j,none⟩) e,Y2 (a:=⟨r,0+j,none⟩) e];exact h
 go_wp2_with (refine bH (v:=.agg #[jZ r]) (w':=g) rfl (.build 157 _) rfl ?_ ?_;kernel_rfl;refine yBN ?_)
 show wpList _ _ _ _ _ _;refine Yk rfl 157 _ _ rfl w.heap.size 0 #[jZ r] ?_ ?_ ?_ ?_ ?_ ?_
 .kernel_rfl
 .kernel_rfl
 .exact p.1.2.2
 .exact i124
 .kernel_rfl
 rw[show(#[jZ r]).toList=[jZ r] from rfl,m.out];go_wp2;refine XN (aF 2 rfl q.1 rfl u124 i124) rfl ?_;exact⟨_,rfl,q.2.1,r,rfl,oM,q.2.2.2,q.2.2.1⟩
def cha(N:Nat)(L:Bs):Nat:=mK N (Dk L [99,104,97,108,108,101,110,103,101] 64)
end
namespace SP
attribute [local go_sem] cY dQ dW qF
end SP
namespace SP
attribute [local go_sem] cY dQ dW qF
end SP
namespace SP
attribute [local go_sem] cY dQ dW qY qF
end SP
namespace SP
attribute [local go_sem] cY dQ dW qY qF Fu PP
end SP
namespace SP
attribute [local go_sem] AV
end SP
def n12(P:Nat)[NeZero P]:List XB:=ws (0:Fin P)++(ws (1:Fin P)++ws (0:Fin P))
def WJ(w:XA):(yAh 23 (iZ 32) (iZ 32)).run prog w=.ok (sZ w.heap.size 32 32) (w.alloc (.cells (madeCells #[.int .u8 0] 32) 5)):=
 run_make_row' (P:=prog) 23 5 (.int .u8 0) 1 Jf EE rfl .i64 .i64 32 dC dC w
def Po:prog.underlying 51=some (.array 33 5):=kR
def dD{b:Bs}(h:b.size=33):aA b=[.int .u8 (ub b[0]!),.int .u8 (ub b[1]!),.int .u8 (ub b[2]!),.int .u8 (ub b[3]!),.int .u8 (ub b[4]!),.int .u8 (ub b[5]!),.int .u8 (ub b[6]!),.int .u8 (ub b[7]!),.int .u8 (ub b[8]!),.int .u8 (ub b[9]!),.int .u8 (ub b[10]!),.int .u8 (ub b[11]!),.int .u8 (ub b[12]!),.int .u8 (ub b[13]!),.int .u8 (ub b[14]!),.int .u8 (ub b[15]!),.int .u8 (ub b[16]!),.int .u8 (ub b[17]!),.int .u8 (ub b[18]!),.int .u8 (ub b[19]!),.int .u8 (ub b[20]!),.int .u8 (ub b[21]!),.int .u8 (ub b[22]!),.int .u8 (ub b[23]!),.int .u8 (ub b[24]!),.int .u8 (ub b[25]!),.int .u8 (ub b[26]!),.int .u8 (ub b[27]!),.int .u8 (ub b[28]!),.int .u8 (ub b[29]!),.int .u8 (ub b[30]!),.int .u8 (ub b[31]!),.int .u8 (ub b[32]!)]:=by
 apply yA8;intro i;by_cases k:i<33
 .rw[sM (k:=b) (i:=i) oM];match i,k with
  | 0,_=>rfl
  | 1,_=>rfl
  | 2,_=>rfl
  | 3,_=>rfl
  | 4,_=>rfl
  | 5,_=>rfl
  | 6,_=>rfl
  | 7,_=>rfl
  | 8,_=>rfl
  | 9,_=>rfl
  | 10,_=>rfl
  | 11,_=>rfl
  | 12,_=>rfl
  | 13,_=>rfl
  | 14,_=>rfl
  | 15,_=>rfl
  | 16,_=>rfl
  | 17,_=>rfl
  | 18,_=>rfl
  | 19,_=>rfl
  | 20,_=>rfl
  | 21,_=>rfl
  | 22,_=>rfl
  | 23,_=>rfl
  | 24,_=>rfl
  | 25,_=>rfl
  | 26,_=>rfl
  | 27,_=>rfl
  | 28,_=>rfl
  | 29,_=>rfl
  | 30,_=>rfl
  | 31,_=>rfl
  | 32,_=>rfl
  | n+33,h=>exact absurd h oM
 .rw[ZK (by rw[aB h];omega),ZK (by show 33<=i;omega)]
def bytes_eq{a b:Bs}(c:a.size=33)(f:b.size=33):(∀i∈YA 33,ub a[i]! = ub b[i]!)↔a=b:=by
 constructor
 .intro h;apply Array.ext (by rw[c,f]);intro i e g;have k:=h i (Y4.2 oM);rw[getElem!_pos a i e,getElem!_pos b i g]at k;have d:a[i].toNat=b[i].toNat:=by unfold ub at k;omega
  exact UInt8.toNat_inj.1 d
 .rintro rfl i _;rfl
def U4{a b:Bs}(d:a.size=33)(e:b.size=33)(w:XA):(Op.equal 51 (.agg (aA a).toArray) (.agg (aA b).toArray)).run prog w=.ok (decide (a=b)) w:=by
 have c:(prog.info? 5).isSome=true:=kR;obtain⟨f,k⟩:=YQ.1 c;show(Op.equalIn 10000 51 _ _).run prog w=_;rw[run_equalIn_array w 9999 _ _ Po k,cells5,
  eqI _ _ w (YA 33) (λi c=>by
   rw[Yj];exact sM (by rw[d];exact Y4.1 c)) (λi c=>by
   rw[Yj];exact sM (by rw[e];exact Y4.1 c))]
 rw[decide_eq_decide.2 (bytes_eq d e)]
def GR{b:Bs}(k:b.size=33)(e:Bool)(w:XA):(Instr.checkKey e 10000 51 (.agg (aA b).toArray)).run prog w=.ok () w:=by
 rw[dD k];kernel_rfl
def at?(b:Bs):List Bs->Nat->Option Nat
 | [],_=>none
 | k :: r,i=>if b=k then some i else at? b r (i+1)
def ents:List Bs->Nat->List MapEntry
 | [],_=>[]
 | k :: r,i=>{ key:=.agg (aA k).toArray,val:=iZ i,born:=i } :: ents r (i+1)
def C6{b:Bs}(d:b.size=33)(w:XA):∀(D:List Bs) (i:Nat),(∀k∈D,k.size=33)->(yDJ 51 (.agg (aA b).toArray) (ents D i) i).run prog w=.ok ((at? b D i).map λj=>(j,iZ j)) w
 | [],i,_=>rfl
 | k :: r,i,h=>by
  have f:=C6 d w r (i+1) (λx hx=>h x (Yo _ hx));have e:=U4 d (h k YH) w;unfold ents yDJ at?;simp only[X1,e,Yz];by_cases c:b=k
  .simp only[c,decide_true,if_true,Zr,Option.map_some]
  .simp only[c,decide_false,Bool.false_eq_true,if_false,f]
def Gs{D:List Bs}{b:Bs}(d:b.size=33)(h:∀k∈D,k.size=33)(w:XA):(yEe 51 (.agg (aA b).toArray) (ents D 0)).run prog w=.ok ((at? b D 0).map λj=>(j,iZ j)) w:=by
 have e:=yAZ Po w;unfold yEe;rw[X1,e,Yz];cases D with
 | nil=>rfl
 | cons k r =>
  have c:Instr.findNow (.array 33 5) (.agg (aA b).toArray) (ents (k :: r) 0) 0=none:=rfl;simp only[c];exact C6 d w (k :: r) 0 h
def at?_none{b:Bs}:∀ {D:List Bs}{i:Nat},at? b D i=none↔b ∉ D
 | [],i=>by simp[at?]
 | k :: r,i=>by
  unfold at?;by_cases h:b=k
  .simp[h]
  .simp[h,at?_none (D:=r) (i:=i+1)]
section
section
variable {P:YJ}{ops:Array Yp}{rest:List Yp}{op:Yp}{a:Act}{w w':XA}{v u:XB}{Q:yAM->Act->XA->Prop}
def aG(k:op.guard=none)(T:Yd)(x:yAe)(ho:op.op=.box T x)(hx:a.eval x=u)(c:(Ys T u).run P w=.ok v w')(h:wpList P ops Q rest (a.put op.dst v) w'):wpList P ops Q (op :: rest) a w:=
 ZL k λK b=>by
  unfold Y3 Yh;simp only[ho,hx,X1,c,Yz,Zr];exact b _ _ h
end
variable {N:Nat}
def cV:gZ 51 33:=gQ
def uCP:yZ 51:=yQ
def sL{a:Bs}(k:a.size=33)(w:XA):(Ys 51 (.agg (aA a).toArray)).run prog w=.ok (jZ w.heap.size) (w.alloc (.cells (aA a).toArray 51)):=by
 rw[dD k];kernel_rfl
def TT(k:Nat)(w:XA):(Zy 51 (jZ k) none none none).run prog w=.ok (sZ k 33 33) w:=kR
theorem row_holds{W:XA}{k:Nat}{a:Bs}(h:Row W k (aA a)):hZ W k 0 a:=cb_holds h.2.1 h.2.2
def xP{W:XA}{k:Nat}{a:Bs}(b:a.size=33)(h:Row W k (aA a)):PartOk W (sZ k 33 33) a.toList:=
 ⟨_,k,0,33,a,by rw[b],rfl,oM,oM,X7 ⟨rfl,row_holds h⟩⟩
def QQ{W:XA}{r:Nat}{L:Bs}(h:hZ W r 0 L):Holds SP.encB W r 0 L:=h
def QP{W:XA}{r:Nat}{L:Bs}(h:Holds SP.encB W r 0 L):hZ W r 0 L:=h
end
def Hb(g k:Nat)(w:XA):(yEf 51 (sZ g 33 k)).run prog w=.ok (jZ g) w:=kR
def qN{W:XA}{k:Nat}{a:Bs}(b:hZ W k 0 a)(c:k<W.heap.size):Row W k (aA a):=⟨c,(sJ b).1,(sJ b).2⟩
def bN{a:Bs}:(aA a).toArray.all (·.oneCell')=true:=by
 rw[ZJ];intro v hv;obtain⟨x,-,rfl⟩:=YC.1 (yAI.1 hv);rfl
def pvl(a:Bs):XB:=.agg (aA a).toArray
def P7(C:Fld P):Gives 77 #[] (pvl (wr (gG P))):=by
 intro w;obtain⟨T,u⟩:=yH (wr (gG P));have t:T.size=33:=u.out▸aL _;rw[u.out];obtain⟨f,b⟩:=yH (w.alloc (.cells z33.toArray 51));have r:Hid (Row f w.heap.size z33/\kZ w f):=by rw[<-b.out];exact⟨row_new w _ _,aD _⟩
 obtain⟨d,j,m⟩:=XE.1 uCP;have x:Hid (prog.underlying 51=some d/\d.isRow=true):=⟨j,m⟩
 clear j m;go_enter func77,ntmps77;go_wp2_with (refine bH (v:=jZ w.heap.size) (w':=f) rfl (.alloc 51) rfl ?_ ?_;(rw[<-b.out];kernel_rfl))
 apply(Ts C f).mono;rintro e l ⟨E,rfl,c,g,B,rfl,-,D,A,s⟩;rw[u.out]at s;have o:Hid (Row l w.heap.size z33/\kZ w l/\Row l g (aA T)):=⟨r.1.below c,r.2.trans (c.mono r.2.size),qN s A⟩
 clear c D A s r b;have z:=Hb g B;obtain⟨p,i⟩:=yH (l.setCells w.heap.size 0 (aA T));have k:(aA T).length=33:=aB t;have a:Hid (Row p w.heap.size (aA T)/\kZ w p):=by rw[<-i.out];exact⟨o.1.put (by rw[k];rfl),RG.below_setCells (XD _) _ _ _ o.2.1⟩
 obtain⟨y,n⟩:=yH (X9 (aA T).toArray);have q:Hid (gZ 51 (aA T).length/\l.there w.heap.size 0 (aA T).toArray.size/\gZ 51 (aA T).toArray.size):=by
  have e:(aA T).toArray.size=33:=by rw[YF];exact k
  refine⟨by rw[k];exact cV,by rw[e];exact o.1.2.2,by rw[e];exact cV⟩
 clear k;go_wp2_with (first|(refine YI rfl 51 _ rfl g 0 ?_ (aA T) d ?_ ?_ ?_ ?_ ?_;rfl;exact o.2.2.2.1;exact x.1;exact x.2;exact q.1;rw[n.out])|(refine Yk rfl 51 _ _ rfl w.heap.size 0 (aA T).toArray ?_ ?_ ?_ ?_ ?_ ?_;rfl;exact n.symm;exact q.2.1;exact q.2.2;exact bN;rw[show(aA T).toArray.toList=aA T from rfl,i.out]))
 refine XN (aF 0 rfl a.1 rfl uCP q.1) rfl ?_;exact⟨_,rfl,a.2,rfl⟩
section
section
variable {P:YJ}{ops:Array Yp}{rest:List Yp}{op:Yp}{a:Act}{w w':XA}{v:XB}{Q:yAM->Act->XA->Prop}
def mB(b:op.guard=none)(T:Yd)(k:Array (Nat × yAe))(ho:op.op=.build T k)(vs:Array (Nat × XB))(hx:(k.map λ(i,x)=>(i,a.eval x))=vs)(d:(yBR T vs).run P w=.ok v w')(h:wpList P ops Q rest (a.put op.dst v) w'):wpList P ops Q (op :: rest) a w:=
 ZL b λK c=>by
  unfold Y3 Yh;simp only[ho,hx,X1,d,Yz,Zr];exact c _ _ h
def jK(b:op.guard=none)(T:Yd)(n:Nat)(k:Array (Nat × yAe))(ho:op.op=.buildSlice T n k)(vs:Array (Nat × XB))(hx:(k.map λ(i,x)=>(i,a.eval x))=vs)(d:(Yw T n vs).run P w=.ok v w')(h:wpList P ops Q rest (a.put op.dst v) w'):wpList P ops Q (op :: rest) a w:=
 ZL b λK c=>by
  unfold Y3 Yh;simp only[ho,hx,X1,d,Yz,Zr];exact c _ _ h
end
def VA{a:Bs}(k:a.size=33)(n:Nat)(w:XA):(yBR 124 #[(0,nv n),(1,pvl a)]).run prog w=.ok (.agg (wn n++aA a).toArray) w:=by
 unfold pvl;rw[dD k];kernel_rfl
def Vl{a:Bs}(k:a.size=33)(n:Nat)(w:XA):(Yw 82 1 #[(0,.agg (wn n++aA a).toArray)]).run prog w=.ok (sZ w.heap.size 1 1) (w.alloc (.cells (wn n++aA a).toArray 124)):=by
 rw[dD k];kernel_rfl
def boxS{w:XA}(n:Nat):(Ys 44 (nv n)).run prog w=.ok (jZ w.heap.size) (w.alloc (.cells (wn n).toArray 44)):=kR
def lH(a:Bs)(q:a.size=33)(n:Nat)(w:XA):YN prog 32 #[pvl a,nv n] w (rZ w λe w'=>∃k,e=sZ k 1 1/\w.heap.size<=k/\Row w' k (wn n++aA a)):=by
 have H:=Hid.mk' (sL q w);obtain⟨c,g⟩:=hE (w.alloc (.cells (aA a).toArray 51));rw[g.out]at H;have r:c.heap.size=w.heap.size+1:=by rw[<-g.out,XP]
 have D:=Hid.mk' (boxS n (w:=c));obtain⟨b,i⟩:=hE (c.alloc (.cells (wn n).toArray 44));rw[i.out,r]at D;have G:b.heap.size=w.heap.size+2:=by rw[<-i.out,XP,r]
 have E:=Hid.mk' (VA q n b);have A:=Hid.mk' (Vl q n b);obtain⟨m,l⟩:=hE (b.alloc (.cells (wn n++aA a).toArray 124));rw[l.out,G]at A;have K:Hid (Row b w.heap.size (aA a)/\Row b (w.heap.size+1) (wn n)/\kZ w m/\Row m (w.heap.size+2) (wn n++aA a)):=by
  have j:Row c w.heap.size (aA a):=by rw[<-g.out];exact row_new w _ _
  have p:Row b (w.heap.size+1) (wn n):=by rw[<-i.out,<-r];exact row_new c _ _
  have s:Row m (w.heap.size+2) (wn n++aA a):=by rw[<-l.out,<-G];exact row_new b _ _
  have b1:kZ w c:=by rw[<-g.out];exact aD (w:=w) _
  have f:kZ c b:=by rw[<-i.out];exact aD (w:=c) _
  have o:kZ b m:=by rw[<-l.out];exact aD (w:=b) _
  exact⟨j.below f,p,(b1.trans (f.mono oM)).trans (o.mono oM),s⟩
 have HL:Hid ((prog.info? 51).map (·.size)=some (aA a).length):=by show _=_;rw[aB q];exact cV
 obtain⟨d,y,z⟩:=XE.1 uCP;obtain⟨B,t,s⟩:=XE.1 u40;have p:Hid ((prog.underlying 51=some d/\d.isRow=true)/\prog.underlying 44=some B/\B.isRow=true):=⟨⟨y,z⟩,t,s⟩
 obtain⟨va,f⟩:=hE (pvl a);obtain⟨C,j⟩:=hE (nv n);obtain⟨F,o⟩:=hE (X9 (wn n++aA a).toArray);have x:Hid ((Ys 51 va).run prog w=.ok (jZ w.heap.size) c):=by rw[<-f.out];exact H
 rw[j.out]at D;rw[f.out,j.out,o.out]at E;rw[o.out]at A;rw[f.out,j.out];go_enter func32,ntmps32;go_wp2_with (first|(refine aG (u:=va) (v:=jZ w.heap.size) (w':=c) rfl 51 (.tmp 0) rfl ?_ ?_ ?_;rfl;exact x)|(refine aG (u:=C) (v:=jZ (w.heap.size+1)) (w':=b) rfl 44 (.tmp 1) rfl ?_ ?_ ?_;rfl;exact D)|(refine YI rfl 44 _ rfl (w.heap.size+1) 0 ?_ (wn n) B ?_ ?_ ?_ ?_ ?_;rfl;exact K.2.1.2.1;exact p.2.1;exact p.2.2;exact i40;rw[show X9 (wn n).toArray=C from j.out])|(refine YI rfl 51 _ rfl w.heap.size 0 ?_ (aA a) d ?_ ?_ ?_ ?_ ?_;rfl;exact K.1.2.1;exact p.1.1;exact p.1.2;exact HL;rw[show X9 (aA a).toArray=va from f.out])|(refine mB (v:=F) (w':=b) rfl 124 _ rfl #[(0,C),(1,va)] ?_ ?_ ?_;kernel_rfl;exact E)|(refine jK (v:=sZ (w.heap.size+2) 1 1) (w':=m) rfl 82 1 _ rfl #[(0,F)] ?_ ?_ ?_;kernel_rfl;exact A))
 go_ret;exact⟨_,rfl,K.2.2.1,w.heap.size+2,rfl,oM,K.2.2.2⟩
end
def Xk{a:Bs}(k:a.size=33)(n:Nat)(w:XA):(Ys 124 (.agg (wn n++aA a).toArray)).run prog w=.ok (jZ w.heap.size) (w.alloc (.cells (wn n++aA a).toArray 124)):=by
 rw[dD k];kernel_rfl
def Xl{w:XA}:(yBR 44 #[]).run prog w=.ok (nv 0) w:=kR
def tvl(n:Nat)(a:Bs):XB:=.agg (wn n++aA a).toArray
def kH{W:XA}{k:Nat}{xs ys:List XB}(h:W.rangeAt k 0 (xs++ys)):W.rangeAt k 0 xs:=λj v b=>h j v (by rw[XY (XM.1 b).1];exact b)
def mL{W:XA}{k:Nat}{xs ys:List XB}(h:W.rangeAt k 0 (xs++ys)):W.rangeAt k xs.length ys:=λj v b=>by
 have:=h (xs.length+j) v (by rw[XW (yBK _ _),Nat.add_sub_cancel_left];exact b);rwa[XI]at this
def Kk{n:Nat}(s:n<top){a:Bs}(r:a.size=33):Gives 110 #[tvl n a] (.bool (decide (n=0))):=by
 intro w;have l:=Hid.mk' (Xk r n w);obtain⟨k,e⟩:=hE (w.alloc (.cells (wn n++aA a).toArray 124));rw[e.out]at l;have K:Hid (Row k w.heap.size (wn n++aA a)/\kZ w k):=by rw[<-e.out];exact⟨row_new w _ _,aD (w:=w) _⟩
 obtain⟨t,i,g⟩:=XE.1 u40;have m:=mk2 i g;obtain⟨va,d⟩:=hE (tvl n a);obtain⟨p,c⟩:=hE (nv n);obtain⟨v0,b⟩:=hE (nv 0);have j:Hid ((Ys 124 va).run prog w=.ok (jZ w.heap.size) k):=by rw[<-d.out];exact l
 have x:Hid ((yBR 44 #[]).run prog k=.ok v0 k):=by rw[<-b.out];exact Xl (w:=k)
 have f:=Hid.mk' (eqS s (show 0<top by unfold top;omega) (w:=k));rw[c.out,b.out]at f;have q:=f.out;obtain⟨z,o⟩:=hE (decide (n=0));rw[o.out]at q;have y:(eqGuard .eql 44 (.tmp 4) (.tmp 5) p v0).run prog k=.ok () k:=by rw[<-c.out,<-b.out];kernel_rfl
 rw[d.out,o.out];clear l f;go_enter func110,ntmps110;go_wp2_with (first|(refine aG (u:=va) (v:=jZ w.heap.size) (w':=k) rfl 124 (.tmp 0) rfl ?_ ?_ ?_;rfl;exact j.out)|(refine YI rfl 44 _ rfl w.heap.size 0 ?_ (wn n) t ?_ ?_ ?_ ?_ ?_;rfl;exact kH K.1.2.1;exact m.1;exact m.2;exact i40;rw[show X9 (wn n).toArray=p from c.out])|(refine mB (v:=v0) (w':=k) rfl 44 _ rfl #[] ?_ ?_ ?_;kernel_rfl;exact x.out))
 go_wp2;go_ret;exact⟨_,rfl,K.2,rfl⟩
def uT:yZ 124:=yQ
def iT:gZ 124 37:=gQ
def atT{n i:Nat}(k o c:Nat)(b:i<n)(w:XA):(Yv 82 (qZ k o n c) (iZ i)).run prog w=.ok (oZ k (o+37*i)) w:=by
 go_simp
def kU(ns:Nat->Nat):Nat->Nat->Int
 | _,0=>-1
 | i,m+1=>if ns i=0 then(i:Int) else kU ns (i+1) m
def Qu(b:Bool):List It:=[.x 9 [] (.bool b)]
def Qt(g k c i n:Nat)(a:Bs)(z:Bool):List It:=[.x 11 [] (.func (.func 110) #[] #[]),.x 12 [] (sZ g k c),.x 13 [] (iZ i),.x 14 [(12,1),(13,2)] (oZ g (0+37*i)),.x 15 [(14,3)] (tvl n a),.c 16 [(11,0),(15,4)] (.bool z)]
def Gv(g k c:Nat)(Y:k<=1000000)(ns:Nat->Nat)(B:Nat->Bs)(V:∀j,j<k->ns j<top)(U:∀j,j<k->(B j).size=33)(w:XA)(N:g<w.heap.size)(P:∀j,j<k->w.rangeAt g (37*j) (wn (ns j)++aA (B j))):
 cZ 165 #[sZ g k c,.func (.func 110) #[] #[]] w (rZ w λe w'=>e=iZ (kU ns 0 k)):=by
 obtain⟨R,hR⟩:=vH (kU ns 0 k);rw[hR];go_enter func165,ntmps165;refine RG.M.enter [(0,.v (sZ g k c)),(1,.v (.func (.func 110) #[] #[]))] 19 kR ?_;intro a0 T;repeat apply XG
 refine T.U [.x (iZ 0)] [0,1] ⟨st,yEZ⟩ ?_;intro a1 W Q;repeat apply XG
 refine Q.U [.x (sZ g k c),.x (iZ k),.x (iZ 0)] [0,1,7,8] ⟨st,st,st,yEZ⟩ ?_;intro a2 Z S;repeat apply XG
 refine wp_block<|wp_loop_ghost (λm a wr=>∃i:Nat,i+m=k/\kU ns i m=R/\RG.M w w.heap.size [] 19 [] [] [(0,.v (sZ g k c)),(1,.v (.func (.func 110) #[] #[])),(7,.v (iZ k)),(8,.v (iZ i))] a wr) k ⟨0,oM,hR,S⟩ ?_
 intro G a wr;rintro⟨i,O,hf,y⟩;by_cases s:i<k
 .obtain⟨n,x⟩:=vH (ns i);obtain⟨b,K⟩:=vH (B i);have u:=V i s;have r:=U i s;have t:=P i s;rw[x]at u t;rw[K]at r t;have p:w.rangeAt g (0+37*i) (wn n++aA b):=by rw[XI];exact t
  have q:gZ 124 (wn n++aA b).length:=by rw[XK,aB r];exact iT
  have z:=Kk u r;obtain⟨F,rfl⟩:∃F,G=F+1:=⟨G-1,oM⟩
  unfold kU at hf;rw[x]at hf;repeat apply XG
  refine y.u (Qu true) [(0,.v (sZ g k c)),(1,.v (.func (.func 110) #[] #[])),(7,.v (iZ k)),(8,.v (iZ i)),(9,.v tZ)] ⟨aX rfl .lss (T:=3) 3 (t1:=8) (t2:=7) (v1:=(iZ i)) (v2:=(iZ k)) (v:=tZ) rfl rfl sx sx (λw=>kR) (qS s),yEZ⟩ ?_;intro C L f;repeat apply XG
  refine Yy f.ev ?_;refine wp_skip<|XG<|wp_block ?_
  repeat apply XG
  refine f.U [.x (iZ i),.x (iZ i)] [0,1,7,8,5] ⟨st,st,yEZ⟩ ?_;intro D E d;repeat apply XG
  by_cases A:n=0
  .rw[decide_eq_true A]at z;rw[yEX A]at hf;refine d.u (Qt g k c i n b true) [(0,.v (sZ g k c)),(1,.v (.func (.func 110) #[] #[])),(7,.v (iZ k)),(8,.v (iZ i)),(5,.v (iZ i)),(16,.v tZ)] ⟨st,st,st,cA rfl 82 (t:=12) (u:=13) rfl (.v (sZ g k c)) (iv:=(iZ i)) sx sx (λμ w=>atT _ 0 _ (i:=i) s w),eH rfl (k:=g) (off:=(0+37*i)) N Yf (T:=124) (t:=14) rfl (cs:=(wn n++aA b)) rfl sx p uT q,clB (λ_ _=>kR) (λw' _=>z w'),yEZ⟩ ?_;intro J M l;repeat apply XG
   refine Yy l.ev ?_;repeat apply XG
   refine l.U [.x (iZ i),.x (iZ i)] [4] ⟨st,st,yEZ⟩ ?_;intro H I o;refine Za<|XN (v:=iZ i) (jH (t:=4) rfl (v:=(iZ i)) o.av) o.sl.defers ?_
   exact⟨_,rfl,o.st.bel.below,by rw[hf]⟩
  .rw[decide_eq_false A]at z;rw[yEY A]at hf;refine d.u (Qt g k c i n b false) [(0,.v (sZ g k c)),(1,.v (.func (.func 110) #[] #[])),(7,.v (iZ k)),(8,.v (iZ i)),(16,.v fZ)] ⟨st,st,st,cA rfl 82 (t:=12) (u:=13) rfl (.v (sZ g k c)) (iv:=(iZ i)) sx sx (λμ w=>atT _ 0 _ (i:=i) s w),eH rfl (k:=g) (off:=(0+37*i)) N Yf (T:=124) (t:=14) rfl (cs:=(wn n++aA b)) rfl sx p uT q,clB (λ_ _=>kR) (λw' _=>z w'),yEZ⟩ ?_;intro J M l;repeat apply XG
   refine Yb l.ev ?_;apply wp_skip;repeat apply XG
   refine l.U [.x (iZ ((i+1:Nat):Int)),.x (iZ ((i+1:Nat):Int))] [0,1,7,8] ⟨aN rfl .add (T:=3) 3 (t1:=8) (v1:=(iZ i)) (v2:=(iZ 1)) (v:=(iZ ((i+1:Nat):Int))) rfl rfl sx (λw=>kR) (B7 (a:=i) (b:=1) oM oM),st,yEZ⟩ ?_;intro H I o;show ∃X,_;exact⟨F,oM,i+1,oM,hf,o⟩
 .have l:G=0:=oM;rw[l]at hf;unfold kU at hf;repeat apply XG
  refine y.u (Qu false) [(9,.v fZ)] ⟨aX rfl .lss (T:=3) 3 (t1:=8) (t2:=7) (v1:=(iZ i)) (v2:=(iZ k)) (v:=fZ) rfl rfl sx sx (λw=>kR) (yK s),yEZ⟩ ?_;intro C L f;repeat apply XG
  refine Yb f.ev ?_;apply wp_exit;dsimp only[Exit.then,Exit.inBlock];rw[yEX rfl];repeat apply XG
  refine f.U [.x (iZ (-1))] [4] ⟨st,yEZ⟩ ?_;intro D E d;refine Za<|XN (v:=iZ (-1)) (jH (t:=4) rfl (v:=(iZ (-1))) d.av) d.sl.defers ?_
  exact⟨_,rfl,d.st.bel.below,by rw[<-hf]⟩
def uX{ns:Nat->Nat}:∀(m i:Nat),(∀j,i<=j->j<i+m->ns j≠0)->kU ns i m = -1
 | 0,_,_=>rfl
 | m+1,i,h=>by
  unfold kU;rw[yEY (h i (XD _) oM)];exact uX m (i+1) (λj k b=>h j oM oM)
def C7(g k c:Nat)(r:k<=1000000)(ns:Nat->Nat)(b:Nat->Bs)(u:∀j,j<k->ns j<top)(f:∀j,j<k->ns j≠0)(t:∀j,j<k->(b j).size=33)(w:XA)(m:g<w.heap.size)(o:∀j,j<k->w.rangeAt g (37*j) (wn (ns j)++aA (b j))):
 cZ 109 #[sZ g k c,.func (.func 110) #[] #[]] w (rZ w λe w'=>e=(sZ g k c)):=by
 have x:∀w',BelX w.heap.size [] w w'->cZ 165 #[sZ g k c,.func (.func 110) #[] #[]] w' (Ret λe i=>kZ w' i/\e=iZ (-1)):=λw' l=>by
  have h:=Gv g k c r ns b u t w' (XC m l.below.size) (λj d=>RG.range_below (o j d) l.below m);rw[uX k 0 (λj _ n=>f j oM)]at h;exact h
 go_enter func109,ntmps109;refine RG.M.enter [(0,.v (sZ g k c)),(1,.v (.func (.func 110) #[] #[]))] 42 kR ?_;intro a0 s;repeat apply XG
 refine s.U [.x nZ] [0,1] ⟨st,yEZ⟩ ?_;intro C y p;repeat apply XG
 refine p.U [.x (sZ g k c),.x (.func (.func 110) #[] #[]),.c (iZ (-1)),.x (iZ (-1))] [0,5] ⟨st,st,clB (λ_ _=>kR) x,st,yEZ⟩ ?_;intro a2 B q;repeat apply XG
 refine q.U [.x (iZ (-1)),.x tZ] [0,12] ⟨st,st,yEZ⟩ ?_;intro z a n;repeat apply XG
 refine Yy n.ev ?_;repeat apply XG
 refine n.U [.x (sZ g k c),.x (sZ g k c)] [4] ⟨st,st,yEZ⟩ ?_;intro D A d;refine Za<|XN (v:=(sZ g k c)) (jH rfl d.av) d.sl.defers ?_
 exact⟨_,rfl,d.st.bel.below,rfl⟩
def TA:prog.underlying 202=some (.map 51 3):=kR
def zero3(w:XA):(zeroValue 3).run prog w=.ok (iZ 0) w:=kR
def AO(b:Bs):∀(D:List Bs) (i:Nat),ents (D++[b]) i=ents D i++[{ key:=.agg (aA b).toArray,val:=iZ ((i+D.length:Nat):Int),born:=i+D.length }]
 | [],i=>rfl
 | k :: r,i=>by
  rw[ZX];unfold ents;rw[AO b r (i+1),Yx,show i+1+r.length=i+(r.length+1) by omega];rfl
def CP{D:List Bs}{m c:Nat}{w:XA}{b:Bs}(d:b.size=33)(o:∀k∈D,k.size=33)(n:w.heap[m]? = some (.map (ents D 0).toArray c)):
 (yC0 202 (.map (some m)) (.agg (aA b).toArray) true).run prog w=.ok (.tuple #[iZ (((at? b D 0).getD 0:Nat):Int),.bool (at? b D 0).isSome]) w:=by
 have i:=yAZ TA w;have l:=λe=>GR d e w
 have g:=Gs d o w;have f:(getObj m).run prog w=.ok (.map (ents D 0).toArray c) w:=by
  simp[getObj,yEu,n]
 unfold yC0;simp only[X1,i,Yz,f,Zr,l,g];cases h:at? b D 0 with
 | none=>simp[X1,zero3]
 | some j=>simp
def MZ{D:List Bs}{b:Bs}(d:b.size=33)(n:∀k∈D,k.size=33)(m:Nat)(w:XA)(f:w.heap[m]? = some (.map (ents D 0).toArray D.length))(i:at? b D 0=none):
 (yBI 202 (.map (some m)) (.agg (aA b).toArray) (iZ (D.length:Int))).run prog w=.ok () (w.putObj m (.map (ents (D++[b]) 0).toArray (D.length+1))):=by
 have j:=yAZ TA w;have l:=λe=>GR d e w
 have c:=Gs d n w;rw[i]at c;have g:(getObj m).run prog w=.ok (.map (ents D 0).toArray D.length) w:=by
  simp[getObj,yEu,f]
 unfold yBI;simp only[X1,j,Yz,g,Zr,l,c];rw[AO,XI];simp[setObj,yEu,f,yCX]
def DD:prog.underlying 82=some (.slice 124):=kR
def UI:(prog.info? 124).map (λi=>(i.size,i.bytes,i.zero.map λz=>z.cells.size))=some (37,72,some 37):=kR
def cells_one{n:Nat}{a:Bs}:∀u∈wn n++aA a,u.oneCell'=true:=by
 intro u k;rcases Y9.1 k with h|h
 .unfold wn at h;simp only[Y6,Yf,or_false]at h;rcases h with rfl|rfl|rfl|rfl<;>rfl
 .obtain⟨x,-,rfl⟩:=YC.1 h;rfl
def Ms{b k g n:Nat}{v:XB}{xs:List XB}{a:Bs}(t:a.size=33){W:XA}(c:W.ownsRow b 124 37 v k xs)(hR:Row W g (wn n++aA a))(B:k<=1000000)(p:b<=W.heap.size):
 ∃d W',(YG #[82,82] 82 #[v,sZ g 1 1]).run prog W=.ok d W'/\W'.ownsRow b 124 37 d (k+1) (xs++(wn n++aA a))/\W.grownBy W' v.ownBlock:=by
 obtain⟨i,m,f⟩:=XE.1 UI;simp only[Ze.injEq]at f;obtain⟨q,s,w⟩:=f;obtain⟨z,l,e⟩:=XE.1 w;obtain⟨d,W',y,o,r,-⟩:=yBm (P:=prog) W b 82 82 124 i z 37 72 DD m l q s e dC v k xs c (aZ g) 1 1 (wn n++aA a) (by rw[XK,aB t];rfl)
  (λj u x=>by
   have:=hR.2.1 j u x;rw[XI]at this;rw[show(⟨g,0,none⟩:Y0).add j=⟨g,j,none⟩ by unfold yBT;split<;>simp_all];exact this) cells_one (by unfold maxLen;omega) oM p
 exact⟨d,W',y,o,r⟩
def fH(N:Nat):LB->Nat->Bs->LB
 | [],n,p=>[(n,p)]
 | (s,q) :: r,n,p=>if p=q then(sPl N s n,q) :: r else(s,q) :: fH N r n p
def mrg(N:Nat)(ns:Nat->Nat)(k:Nat->Bs):Nat->LB
 | 0=>[]
 | i+1=>fH N (mrg N ns k i) (ns i) (k i)
def aP(l:LB):List XB:=l.flatMap λx=>wn x.1++aA x.2
def Dm{N n:Nat}{p:Bs}:∀ {l:LB},at? p (l.map (·.2)) 0=none->fH N l n p=l++[(n,p)]
 | [],_=>rfl
 | (s,q) :: r,h=>by
  have k:=at?_none.1 h;rw[Z7,Y6,not_or]at k;unfold fH;rw[yEY k.1,Dm (l:=r) (at?_none.2 k.2)];rfl
def Dg(l:LB)(n:Nat)(p:Bs):aP (l++[(n,p)])=aP l++(wn n++aA p):=by
 unfold aP;rw[yBf];simp
structure Mx(w W:XA)(m:Nat)(l:LB)(v:XB):Prop where
 bl:kZ w W
 mp:W.heap[m]? = some (.map (ents (l.map (·.2)) 0).toArray l.length)
 lm:w.heap.size<=m
 ow:W.ownsRow w.heap.size 124 37 v l.length (aP l)
def Mx.own_ne{w W:XA}{m:Nat}{l:LB}{v:XB}(h:Mx w W m l v){g:Nat}(k:v.ownBlock=some g):g≠m/\w.heap.size<=g/\g<W.heap.size:=by
 rcases h.ow.2 with⟨rfl,-⟩|⟨d,cap,cur,rfl,c,b,-⟩
 .cases k
 .obtain rfl:d=g:=by simpa[Value.ownBlock]using k
  refine⟨λe=>?_,c,(X5.1 b).1⟩;have:=h.mp;rw[<-e,b]at this;cases this
def tK{W W':XA}{b k:Nat}{e:Yd}{s:Nat}{v:XB}{xs:List XB}(h:W.ownsRow b e s v k xs)(f:∀g,v.ownBlock=some g->W'.heap[g]? = W.heap[g]?):W'.ownsRow b e s v k xs:=by
 refine⟨h.1,?_⟩;rcases h.2 with c|⟨g,cap,cur,rfl,i,c,d⟩
 .exact Ye c
 .exact X7 ⟨g,cap,cur,rfl,i,by rw[f g rfl];exact c,d⟩
def Mx.kept{w W W':XA}{m:Nat}{l:LB}{v:XB}(h:Mx w W m l v)(k:kZ W W'):Mx w W' m l v:=
 ⟨h.bl.trans (k.mono h.bl.size),by rw[k.block m (X5.1 h.mp).1];exact h.mp,h.lm,tK h.ow λg b=>k.block g (h.own_ne b).2.2⟩
def LI(l:LB)(n:Nat)(p:Bs):(l++[(n,p)]).map (·.2)=l.map (·.2)++[p]:=by simp
def Mx.push{w W:XA}{m:Nat}{l:LB}{v:XB}(h:Mx w W m l v){p:Bs}(E:p.size=33)(C:l.length<=1000000)(n:Nat):
 ∃i b,(YG #[82,82] 82 #[v,sZ W.heap.size 1 1]).run prog ((W.putObj m (.map (ents (l.map (·.2)++[p]) 0).toArray (l.length+1))).alloc (.cells (wn n++aA p).toArray 124))=.ok i b/\Mx w b m (l++[(n,p)]) i/\W.heap.size<b.heap.size/\∀j,j<W.heap.size->w.heap.size<=j->j≠m->some j≠v.ownBlock->b.heap[j]? = W.heap[j]?:=by
 obtain⟨c,d⟩:=vH (W.putObj m (.map (ents (l.map (·.2)++[p]) 0).toArray (l.length+1)));have s3:c.heap.size=W.heap.size:=by rw[<-d];simp[yCX]
 have s:=(X5.1 h.mp).1;have r:∀j,j≠m->c.heap[j]? = W.heap[j]?:=λj x=>by rw[<-d];exact World.putObj_heap_other x
 have f:=h.bl.trans ⟨by rw[<-d];rfl,by rw[<-d];rfl,by rw[<-d];rfl,oM,λj x=>r j (oN h.lm)⟩;have A:=tK h.ow λg t=>r g (h.own_ne t).1
 have B:c.heap[m]? = some (.map (ents (l.map (·.2)++[p]) 0).toArray (l.length+1)):=by rw[<-d];exact World.putObj_heap_same s
 rw[d];have R4:=row_new c (wn n++aA p) 124;have q:=aD (w:=c) (.cells (wn n++aA p).toArray 124);have s4:(c.alloc (.cells (wn n++aA p).toArray 124)).heap.size=W.heap.size+1:=by rw[XP,s3]
 have D:=tK A λg t=>q.block g (oN ((h.own_ne t).2.2))
 rw[s3]at R4;obtain⟨i,b,F,a,o⟩:=Ms E D R4 C (oN f.size);have y:some m≠v.ownBlock:=λe=>(h.own_ne e.symm).1 rfl
 refine⟨i,b,F,⟨?_,?_,h.lm,?_⟩,oN o.size,λj x _ u z=>?_⟩
 .exact(f.trans (q.mono f.size)).grown o (oN f.size) (λk e=>(h.own_ne e).2.1)
 .rw[o.block m oM y,q.block m oM,B,LI,XK];rfl
 .rw[Dg,XK];exact a
 .rw[o.block j oM z,q.block j oM,r j u]
section
variable {P:YJ}{ops:Array Yp}{rest:List Yp}{op:Yp}{a:Act}{w w':XA}{v x y z:XB}{Q:yAM->Act->XA->Prop}
def Ah(b:op.guard=none)(T:Yd)(m k:yAe)(ok:Bool)(ho:op.op=.lookup T m k ok)(f:a.eval m=x)(c:a.eval k=y)(e:(yC0 T x y ok).run P w=.ok v w')(h:wpList P ops Q rest (a.put op.dst v) w'):wpList P ops Q (op :: rest) a w:=
 ZL b λK d=>by
  unfold Y3 Yh;simp only[ho,f,c,X1,e,Yz,Zr];exact d _ _ h
def Hv(b:op.guard=none)(T:Yd)(m k u:yAe)(ho:op.op=.mapUpdate T m k u)(g:a.eval m=x)(c:a.eval k=y)(f:a.eval u=z)(e:(yBI T x y z).run P w=.ok () w')(h:wpList P ops Q rest (a.put op.dst Zs) w'):wpList P ops Q (op :: rest) a w:=
 ZL b λK d=>by
  unfold Y3 Yh;simp only[ho,g,c,f,X1,e,Yz,Zr];exact d _ _ h
def mC(k:op.guard=none)(s u:yAe)(t:Yd)(ho:op.op=.call { callee:=.builtin .append,args:=#[s,u],argTypes:=#[t,t] })(c:a.eval s=x)(e:a.eval u=y)(d:(YG #[t,t] op.type #[x,y]).run P w=.ok v w')(h:wpList P ops Q rest (a.put op.dst v) w'):wpList P ops Q (op :: rest) a w:=
 ZL k λK b=>by
  unfold Y3 Yh;simp only[ho,resolve,invoke,builtin,X1,Zr,Yz,yDO,Z7,yCp,c,e,d];exact b _ _ h
end
def zT:List XB:=[uZ 0,uZ 0,uZ 0,uZ 0]++z33
def Ij{W:XA}{b k:Nat}{e:Yd}{s:Nat}{v:XB}{xs:List XB}(h:W.ownsRow b e s v k xs):∃q cap,v=.slice q k cap:=by
 rcases h.2 with⟨rfl,rfl⟩|⟨g,cap,cur,rfl,-⟩
 .exact⟨none,0,rfl⟩
 .exact⟨some (aZ g),cap,rfl⟩
def BC(ns:Nat->Nat)(k:Nat->Bs):∀i,(mrg N ns k i).length<=i
 | 0=>XD _
 | i+1=>by
  have b:=BC ns k i;have h:∀(l:LB) n p,(fH N l n p).length<=l.length+1:=by
   intro l n p;induction l with
   | nil=>exact XD _
   | cons x r ihr =>
    unfold fH;split
    .simp
    .simp only[Yx];omega
  exact XH (h _ _ _) oM
def yF(ns:Nat->Nat)(b:Nat->Bs){k:Nat}(d:∀j,j<k->(b j).size=33):∀i,i<=k->∀x∈(mrg N ns b i).map (·.2),x.size=33
 | 0,_=>λx hx=>by cases hx
 | i+1,hi=>by
  have g:=yF ns b d i oM;have h:∀(l:LB) n p,p.size=33->(∀x∈l.map (·.2),x.size=33)->∀x∈(fH N l n p).map (·.2),x.size=33:=by
   intro l n p e;induction l with
   | nil=>intro _ x hx;simp[fH]at hx;rw[hx];exact e
   | cons y r ihr =>
    intro c x hx;unfold fH at hx;split at hx
    .exact c x (by simpa using hx)
    .rw[Z7,Y6]at hx;rcases hx with hx|hx
     .exact c x (by rw[hx];simp)
     .exact ihr (λz f=>c z (Yo _ f)) x hx
  exact h _ _ _ (d i oM) g
def lQ:∀(l:LB),(∀x∈l.map (·.2),x.size=33)->∀(j:Nat) (k:j<l.length) (t:Nat),t<37->(aP l)[37*j+t]? = (wn (l[j]).1++aA (l[j]).2)[t]?
 | [],_,j,k,_,_=>by cases k
 | x :: r,hs,j,k,t,ht=>by
  have hx:(wn x.1++aA x.2).length=37:=by rw[XK,aB (hs x.2 (by simp))];rfl
  have e:aP (x :: r)=(wn x.1++aA x.2)++aP r:=by unfold aP;rw[yCc]
  rw[e];cases j with
  | zero =>
   rw[yCv,XI,XY oM];rfl
  | succ j =>
   rw[XW oM,hx,show 37*(j+1)+t-37=37*j+t by omega,lQ r (λy b=>hs y (Yo _ b)) j (by simpa using k) t ht];rfl
def tJ{W:XA}{k:Nat}{v:XB}{l:LB}(h:W.ownsRow k 124 37 v l.length (aP l))(c:∀x∈l.map (·.2),x.size=33)(p:0<l.length):
 ∃g cap,v=sZ g l.length cap/\k<=g/\g<W.heap.size/\∀j (b:j<l.length),W.rangeAt g (37*j) (wn (l[j]).1++aA (l[j]).2):=by
 have o:=h;rcases h.2 with⟨-,f⟩|⟨g,cap,cur,rfl,n,f,q⟩
 .omega
 .refine⟨g,cap,rfl,n,(X5.1 f).1,λj b t u d=>?_⟩;have m:t<37:=by
   have:=(XM.1 d).1;rw[XK,aB (c _ (YC.2 ⟨_,YS b,rfl⟩))]at this;exact this
  have i:=o.cells (g:=g) rfl (37*j+t) u (by rw[lQ l c j b t m];exact d);have e:(⟨g,0,none⟩:Y0).add (37*j+t)=⟨g,37*j+t,none⟩:=by
   unfold yBT;split
   .rename_i h;rw[h]
   .simp
  rw[e]at i;exact i
def Qw(w:XA):(zeroValue 124).run prog w=.ok (.agg zT.toArray) w:=kR
def Qx:∀v∈zT,v.oneCell'=true:=by
 intro v hv;unfold zT z33 at hv;rcases Y9.1 hv with h|h
 .simp only[Y6,Yf,or_false]at h;rcases h with rfl|rfl|rfl|rfl<;>rfl
 .rw[(List.mem_replicate.1 h).2];rfl
namespace RG
variable {P:YJ}{ops:Array Yp}{Q:yAM->Act->XA->Prop}{w:XA}{a0:Act}{L:Array Bool}
structure Flow where
 R:Nat->XB->XA->Prop
 B:Nat->XA->Prop
 E:Nat->XA->XA->Prop
 kill:Nat->List Nat
 killB:Nat->List Nat
def aU(k:Array Yp)(i:Nat):Option Zw:=(k[i]?).bind (·.dst)
def depOn(b:Array Yp)(x k:Nat):Bool:=match b[x]? with|some o=>cO o k|none=>true
def okK(b:Array Yp)(k:Nat)(l:List Nat):Bool:=l.all (λx=>x == k || depOn b x k)
def qE(b:Array Yp)(k:Nat)(t:Zw):Bool:=(YA b.size).all (λi=>aU b i != some t || i == k || depOn b i k)
structure InvF(F:Flow)(ops:Array Yp)(a0:Act)(L:Array Bool)(a:Act)(w:XA):Prop where
 size:L.size=ops.size
 cl:∀(i:Nat) (o:Yp),ops[i]? = some o->on L i=true->∀e∈o.after,Zb .any e=true->on L e.on=true
 def':a.defers=a0.defers
 sz:a.tmps.size=a0.tmps.size
 rest:∀t:Zw,(∀i,on L i=true->aU ops i≠some t)->a.tmps[t]? = a0.tmps[t]?
 all:∃V:Nat->XB,(∀i d,on L i=true->aU ops i=some d->a.tmps[d]? = some (V i))/\(∀i,on L i=true->(∀x∈F.kill i,on L x=false)->F.R i (V i) w)
 base:∀b,(∀x∈F.killB b,on L x=false)->F.B b w
def bD(P:YJ)(Q:yAM->Act->XA->Prop)(F:Flow)(c:Array Yp)(a0:Act)(k:Nat)(o:Yp):Prop:=
 ∀(a:Act) (w:XA) (K:Act->XA->Prop),
  (∀j d,cO o j=true->okK c k (F.kill j)=true->aU c j=some d->F.R j (a.eval (.tmp d)) w) ->
  (∀t,qE c k t=true->a.eval (.tmp t)=a0.eval (.tmp t)) ->
  (∀b,okK c k (F.killB b)=true->F.B b w) ->
  (∀v w',F.E k w w'->F.R k v w'->K (a.put o.dst v) w')->o.wp P a w K Q
def A5(P:YJ)(Q:yAM->Act->XA->Prop)(F:Flow)(b:Array Yp)(a0:Act)(k:Nat)(o:Yp):Prop:=
 match o.guard with
 | none=>bD P Q F b a0 k o
 | some (j,want)=>cO o j=true/\(aU b j).isSome=true/\okK b k (F.kill j)=true /\
  (((∀v w,F.R j v w->v=.bool want)/\bD P Q F b a0 k o)\/((∀v w,F.R j v w->v=.bool (!want))/\∀w,F.E k w w/\F.R k Zs w))
def BO(k:Array Yp)(n:Nat):Bool:=
 (YA k.size).all (λi=>match k[i]? with
  | some o=>o.after.all (λe=>!Zb .any e || e.on<i) && (match o.dst with|none=>true|some d=>decide (d<n) && (YA k.size).all (λj=>j == i || aU k j != some d))
  | none=>false)
structure RegF(P:YJ)(Q:yAM->Act->XA->Prop)(F:Flow)(ops:Array Yp)(a0:Act)(m:Nat):Prop where
 chk:BO ops a0.tmps.size=true
 cert:∀k o,k<m->ops[k]? = some o->A5 P Q F ops a0 k o
 stab:∀i j,i<m->j<m->i≠j->(F.kill j).contains i=false->depOn ops j i=false->∀v w w',F.E i w w'->F.R j v w->F.R j v w'
 stabB:∀i b,i<m->(F.killB b).contains i=false->∀w w',F.E i w w'->F.B b w->F.B b w'
variable {F:Flow}{m:Nat}
def RegF.of{k:Nat}{o:Yp}(h:RegF P Q F ops a0 m)(ho:ops[k]? = some o):(∀e∈o.after,Zb .any e=true->e.on<k)/\∀d,o.dst=some d->d<a0.tmps.size/\∀j,aU ops j=some d->j=k:=by
 have l:=(X5.1 ho).1;have f:=Yq.1 h.chk k (Y4.2 l);rw[ho]at f;simp only[XV]at f;obtain⟨p,b⟩:=f;refine⟨λe i n=>?_,λd hd=>?_⟩
 .have:=ZJ.1 p e i;simpa[n]using this
 .rw[hd]at b;simp only[XV,decide_eq_true_eq]at b;refine⟨b.1,λj c=>?_⟩;have g:j<ops.size:=by
   unfold aU at c;cases hx:ops[j]? with
   | none=>rw[hx]at c;cases c
   | some x=>exact(X5.1 hx).1
  have:=Yq.1 b.2 j (Y4.2 g);simpa[c]using this
def fE{i:Nat}{o:Yp}(ho:ops[i]? = some o):aU ops i=o.dst:=by unfold aU;rw[ho];rfl
def BM{a:Act}{x k:Nat}{o:Yp}(h:InvF F ops a0 L a w){ho:ops[x]? = some o}(hd:cO o k=true)(hx:on L x=true):on L k=true:=by
 obtain⟨e,c,b⟩:=yAv.1 hd;simp only[XV,beq_iff_eq]at b;rw[<-b.2];exact h.cl x o ho hx e c b.1
def AD{L:Array Bool}{x:Nat}(h:on L x=true):x<L.size:=by
 rcases Zp x L.size with k|k
 .exact k
 .unfold on at h;rw[XQ,Array.getElem?_eq_none k]at h;cases h
def InvF.nt{k:Nat}{a:Act}(e:on L k=false)(h:InvF F ops a0 L a w)(x:Nat)(hx:(x == k || depOn ops x k)=true):on L x=false:=by
 cases b:on L x with
 | false=>rfl
 | true =>
  rcases Z2 _ _ ▸ hx with d|d
  .rw[show x=k by simpa using d,e]at b;cases b
  .unfold depOn at d;have f:x<ops.size:=by rw[<-h.size];exact AD b
   have c:=X8 f;rw[c]at d;have:=BM (ho:=c) h d b;rw[e]at this;cases this
def InvF.nx{k:Nat}{o:Yp}{a:Act}{v:XB}{w':XA}(R:RegF P Q F ops a0 m)(z:k<m)(H:∀i,on L i=true->i<m)(ho:ops[k]? = some o)(K:on L k=false)(q:∀e∈o.after,Zb .any e=true->on L e.on=true)(h:InvF F ops a0 L a w)(hE:F.E k w w')(hR:F.R k v w'):InvF F ops a0 (L.setIfInBounds k true) (a.put o.dst v) w':=by
 obtain⟨C,n⟩:=R.of ho;have G:=(X5.1 ho).1;have E:k<L.size:=by rw[h.size];exact G
 have u:=fE ho;have r:=λx hx=>h.nt K x hx
 obtain⟨V,D,I⟩:=h.all;have f:∀x,on (L.setIfInBounds k true) x=(on L x || k == x):=λx=>dX E
 refine⟨by rw[YR];exact h.size,λi O p j e M s=>?_,?_,?_,λt N=>?_,⟨λx=>if x=k then v else V x,λi d j hd=>?_,λi j A=>?_⟩,λb s=>?_⟩
 .rw[f]at j⊢;by_cases c:k=i
  .subst c;rw[ho]at p;obtain rfl:=XX.inj p;rw[q e M s,yAN]
  .rw[h.cl i O p (by simpa[c]using j) e M s,yAN]
 .rw[<-h.def'];cases o.dst<;>rfl
 .rw[rI];exact h.sz
 .have y:o.dst≠some t:=λhd=>N k (by rw[f];simp) (by rw[u];exact hd)
  rw[oV a v y];exact h.rest t λi j=>N i (by rw[f,j,yAN])
 .rw[f]at j;by_cases c:i=k
  .subst c;rw[u]at hd;rw[hd];show(a.tmps.setIfInBounds d v)[d]? = some (if i=i then v else V i);rw[yEX (rfl:i=i)];rw[Zx,yEX rfl,yEX (by rw[h.sz];exact(n d hd).1)]
  .have B:o.dst≠some d:=λl=>c ((n d l).2 i hd)
   rw[oV a v B];show _=some (if i=k then v else V i);rw[yEY c];have g:¬k=i:=λe=>c e.symm
   exact D i d (by simpa[g]using j) hd
 .rw[f]at j;by_cases c:i=k
  .subst c;show F.R i (if i=i then v else V i) w';rw[yEX rfl];exact hR
  .show F.R i (if i=k then v else V i) w';rw[yEY c];have g:¬k=i:=λe=>c e.symm
   have l:on L i=true:=by simpa[g]using j
   have y:∀x∈F.kill i,on L x=false:=λx hx=>by
    have:=A x hx;rw[f,yDj]at this;exact this.1
   have J:(F.kill i).contains k=false:=by
    cases B:(F.kill i).contains k with
    | false=>rfl
    | true =>
     have:=A k (by simpa using B);rw[f]at this;simp at this
   have S:depOn ops i k=false:=by
    cases B:depOn ops i k with
    | false=>rfl
    | true=>rw[r i (by rw[B,Bool.or_true])]at l;cases l
   exact R.stab k i z (H i l) (Ne.symm c) J S _ _ _ hE (I i l y)
 .have y:∀x∈F.killB b,on L x=false:=λx hx=>by
   have:=s x hx;rw[f,yDj]at this;exact this.1
  have J:(F.killB b).contains k=false:=by
   cases B:(F.killB b).contains k with
   | false=>rfl
   | true =>
    have:=s k (by simpa using B);rw[f]at this;simp at this
  exact R.stabB k b z J _ _ hE (h.base b y)
def FI{k:Nat}{o:Yp}{a:Act}(R:RegF P Q F ops a0 m)(B:k<m)(N:∀i,on L i=true->i<m)(ho:ops[k]? = some o)(D:on L k=false)(r:∀e∈o.after,Zb .any e=true->on L e.on=true)(h:InvF F ops a0 L a w):
 wpOp P ops Q k (InvF F ops a0 (L.setIfInBounds k true)) a w:=by
 obtain⟨H,U⟩:=R.of ho;have M:=(X5.1 ho).1;have Y:k<L.size:=by rw[h.size];exact M
 have Z:=fE ho;have l:=λx hx=>h.nt D x hx
 obtain⟨V,J,O⟩:=h.all;have u:∀j d,cO o j=true->okK ops k (F.kill j)=true->aU ops j=some d->a.tmps[d]? = some (V j)/\F.R j (V j) w:=λj d G q hd=>by
  obtain⟨e,f,s⟩:=yAv.1 G;simp only[XV,beq_iff_eq]at s;have c:on L j=true:=by rw[<-s.2];exact r e f s.1
  exact⟨J j d c hd,O j c λx hx=>l x (Yq.1 q x hx)⟩
 have n:∀j d,cO o j=true->okK ops k (F.kill j)=true->aU ops j=some d->F.R j (a.eval (.tmp d)) w:=λj d G q hd=>by
  rw[BI (u j d G q hd).1];exact(u j d G q hd).2
 have p:∀t,qE ops k t=true->a.eval (.tmp t)=a0.eval (.tmp t):=λt hf=>by
  have y:=h.rest t λi c hd=>by
   have f:i<ops.size:=by rw[<-h.size];exact AD c
   have g:=Yq.1 hf i (Y4.2 f);rw[hd]at g;have z:(i == k || depOn ops i k)=true:=by simpa using g
   rw[l i z]at c;cases c
  show a.tmps.getD t Zs=a0.tmps.getD t Zs;rw[XQ,XQ,y]
 have g:∀b,okK ops k (F.killB b)=true->F.B b w:=λb s=>h.base b λx hx=>l x (Yq.1 s x hx)
 have f:=λv w' hE hR=>h.nx (v:=v) (w':=w') R B N ho D r hE hR
 have z:=R.cert k o B ho;unfold A5 at z;unfold wpOp;rw[ho];dsimp only;cases E:o.guard with
 | none =>
  rw[E]at z;rw[Ce E,yEX rfl];left;exact z a w _ n p g f
 | some jw =>
  obtain⟨j,c⟩:=jw;rw[E]at z;obtain⟨S,T,K,y⟩:=z;obtain⟨d,hd⟩:=YQ.1 T;obtain⟨X,C⟩:=u j d S K hd;have W:∀b,V j=.bool b->Zc o (yielded ops a.tmps)=(b == c):=λb s=>by
   have I:yielded ops a.tmps j=some b:=by
    unfold aU at hd;unfold yielded;cases A:ops[j]? with
    | none=>rw[A]at hd;cases hd
    | some oj =>
     rw[A]at hd;show(match oj.dst.bind (a.tmps[·]?) with|some (.bool b)=>some b|_=>none)=_;rw[show oj.dst=some d from hd];show(match a.tmps[d]? with|some (.bool b)=>some b|_=>none)=_;rw[X,s]
   unfold Zc;rw[E];show(yielded ops a.tmps j == some c)=_;rw[I];cases b<;>cases c<;>rfl
  rcases y with⟨I,hc⟩|⟨I,A⟩
  .rw[W _ (I _ _ C),show(c == c)=true by cases c<;>rfl,yEX rfl];left;exact hc a w _ n p g f
  .rw[W _ (I _ _ C),show((!c) == c)=false by cases c<;>rfl];exact f Zs w (A w).1 (A w).2
def bW(V:Nat->XB):List Yp->Nat->Act->Act
 | [],_,a=>a
 | o :: r,i,a=>bW V r (i+1) (a.put o.dst (V i))
def nS(V:Nat->XB):∀(l:List Yp) (i:Nat) (a:Act),(bW V l i a).defers=a.defers
 | [],_,_=>rfl
 | o :: r,i,a=>by
  rw[bW,nS V r];cases o.dst<;>rfl
def mO(V:Nat->XB):∀(l:List Yp) (i:Nat) (a:Act) (t:Zw),(∀o∈l,o.dst≠some t)->(bW V l i a).tmps[t]? = a.tmps[t]?
 | [],_,_,_,_=>rfl
 | o :: r,i,a,t,h=>by
  rw[bW,mO V r _ _ t (λx hx=>h x (Yo _ hx)),oV a _ (h o YH)]
def tD(V:Nat->XB):∀(l:List Yp) (i:Nat) (a:Act) (j:Nat) (o:Yp) (d:Zw),l[j]? = some o->o.dst=some d->(∀k b,l[k]? = some b->b.dst=some d->k=j)->d<a.tmps.size->(bW V l i a).tmps[d]? = some (V (i+j))
 | [],_,_,_,_,_,h,_,_,_=>by simp at h
 | x :: r,i,a,0,o,d,h,hd,hu,hs=>by
  obtain rfl:x=o:=by simpa using h
  rw[bW,mO V r _ _ d (λy f c=>by
   obtain⟨k,e⟩:=ZA f;have:=hu (k+1) y (by simpa using e) c;omega),hd]
  show(a.tmps.setIfInBounds d _)[d]? = _;rw[Zx,yEX rfl,yEX hs];rfl
 | x :: r,i,a,j+1,o,d,h,hd,hu,hs=>by
  rw[bW,tD V r (i+1) _ j o d (by simpa using h) hd (λk b e c=>by
   have:=hu (k+1) b (by simpa using e) c;omega) (by rw[rI];exact hs)]
  congr 2
  omega
def InvF.done{a:Act}(R:RegF P Q F ops a0 m)(h:InvF F ops a0 L a w)(k:∀i,i<ops.size->on L i=true)
 (n:∀(V:Nat->XB),(∀i,i<ops.size->F.kill i=[]->F.R i (V i) w)->(∀b,F.killB b=[]->F.B b w)->Q .normal (bW V ops.toList 0 a0) w):Q .normal a w:=by
 obtain⟨V,f,j⟩:=h.all;have e:a=bW V ops.toList 0 a0:=by
  refine Act.ext' ?_ (by rw[nS];exact h.def');apply yDs;intro t;by_cases d:∃(i:Nat) (o:Yp),ops[i]? = some o/\o.dst=some t
  .obtain⟨i,o,ho,hd⟩:=d;rw[f i t (k i (X5.1 ho).1) (by rw[fE ho];exact hd)];rw[tD V ops.toList 0 a0 i o t (by rw[YE];exact ho) hd (λl p c g=>((R.of ho).2 t hd).2 l (by rw[YE]at c;rw[fE c];exact g)) ((R.of ho).2 t hd).1,XI]
  .rw[h.rest t (λi c hd=>?_),mO V ops.toList 0 a0 t (λo g hd=>?_)]
   .obtain⟨i,c⟩:=ZA g;rw[YE]at c;exact d ⟨i,o,c,hd⟩
   .unfold aU at hd;cases hx:ops[i]? with
    | none=>rw[hx]at hd;cases hd
    | some x=>rw[hx]at hd;exact d ⟨i,x,hx,hd⟩
 rw[e];exact n V (λi c g=>j i (k i c) (by rw[g];simp)) (λb d=>h.base b (by rw[d];simp))
def InvF.full{a:Act}(R:RegF P Q F ops a0 m)(h:InvF F ops a0 L a w)(g:Yu .any ops L=[]):∀i,i<ops.size->on L i=true:=by
 intro i;induction i using Nat.strongRecOn with
 | ind i ih =>
  intro c;have ho:ops[i]? = some ops[i]:=X8 _;cases k:on L i with
  | true=>rfl
  | false =>
   have:i∈Yu .any ops L:=mem_ready.2 ⟨?_,_,ho,λe d f=>?_⟩
   .rw[g]at this;cases this
   .unfold on at k;rw[XQ,X8 (by rw[h.size];exact c)]at k⊢;exact k
   .have b:=(R.of ho).1 e d f;exact ih e.on b (Nat.lt_trans b c)
def qV{id:Nat}(F:Flow)(s:P.follows .mixedOrders=true)(R:RegF P Q F ops a0 ops.size)(q:∀b,F.B b w.drew)
 (n:∀(V:Nat->XB) (w':XA),(∀i,i<ops.size->F.kill i=[]->F.R i (V i) w')->(∀b,F.killB b=[]->F.B b w')->Q .normal (bW V ops.toList 0 a0) w'):(Zd id ops true).wp P Q a0 w:=by
 have key:∀(c:Nat) (L:Array Bool) (a:Act) (w:XA),unl L=c->InvF F ops a0 L a w->wpAny P .any ops Q c L a w:=by
  intro c;induction c with
  | zero =>
   intro L a w m g;have k:∀i,i<ops.size->on L i=true:=λi f=>kW m (by rw[g.size];exact f)
   refine⟨?_,g.done R k (λV=>n V w)⟩;apply yCr.2;intro i f;obtain⟨e,o,ho,-⟩:=mem_ready.1 f;have j:=k i (X5.1 ho).1;unfold on at j;rw[XQ]at e j;cases hh:L[i]? with
   | none=>rw[hh]at e;cases e
   | some b=>rw[hh]at e j;rw[show b=false from e]at j;cases j
  | succ c ih =>
   intro L a w m g;refine⟨λr=>g.done R (g.full R r) (λV=>n V w),λi f=>?_⟩;obtain⟨e,o,ho,j⟩:=mem_ready.1 f;have k:on L i=false:=by
    unfold on;rw[XQ]at e⊢;cases hh:L[i]? with
    | none=>rfl
    | some b=>rw[hh]at e;exact e
   exact yDv (λp w' l=>ih _ p w' (oN (mE e)) l) (FI R (X5.1 ho).1 (λi f=>by rw[<-g.size];exact AD f) ho k j g)
 have k:∀i,on (XT ops.size false) i=false:=λi=>by
  unfold on;rw[XQ,yBy];by_cases h:i<ops.size
  .rw[yEX h];rfl
  .rw[yEY h];rfl
 refine yEM s (key _ _ a0 _ ?_ ⟨X0,(λi o _ h=>by rw[k]at h;cases h),rfl,rfl,λ_ _=>rfl,⟨λ_=>Zs,λi d h=>(by rw[k]at h;cases h),λi h=>(by rw[k]at h;cases h)⟩,λb _=>q b⟩);unfold unl;rw[yC3,yDd];simp
structure PreF(F:Flow)(ops:Array Yp)(a0:Act)(k:Nat)(o:Yp)(a:Act)(w:XA):Prop where
 n:∀j d,cO o j=true->okK ops k (F.kill j)=true->aU ops j=some d->F.R j (a.eval (.tmp d)) w
 o:∀t,qE ops k t=true->a.eval (.tmp t)=a0.eval (.tmp t)
 b:∀b,okK ops k (F.killB b)=true->F.B b w
def iY(P:YJ)(Q:yAM->Act->XA->Prop)(F:Flow)(b:Array Yp)(a0:Act):Nat->List Yp->Prop
 | _,[]=>True
 | k,o :: r=>A5 P Q F b a0 k o/\iY P Q F b a0 (k+1) r
def zK:∀(l:List Yp) (i:Nat),iY P Q F ops a0 i l->∀k o,l[k]? = some o->A5 P Q F ops a0 (i+k) o
 | [],_,_,k,o,h=>by simp at h
 | x :: r,i,hc,0,o,h=>by
  obtain rfl:x=o:=by simpa using h
  exact hc.1
 | x :: r,i,hc,k+1,o,h=>by
  have:=zK r (i+1) hc.2 k o (by simpa using h);rwa[show i+1+k=i+(k+1) by omega]at this
def Dd(h:iY P Q F ops a0 0 ops.toList):∀k o,k<ops.size->ops[k]? = some o->A5 P Q F ops a0 k o:=λk o _ ho=>by
 have:=zK ops.toList 0 h k o (by rw[YE];exact ho);rwa[XI]at this
def evo(ev:Zw->XB):yAe->XB
 | .tmp t=>ev t
 | .const v=>v
 | .global g=>jZ g
 | .func f=>.func (.func f) #[] #[]
def cJ(T:List Zw)(o:Yp):Bool:=
 (match o.op with | .select _ _=>false|_=>true) && o.op.operands.all (λx=>match x with | .tmp t=>T.contains t|_=>true)
def jE{a:Act}{o:Yp}(ev:Zw->XB)(T:List Zw)(h:cJ T o=true)(k:∀t∈T,a.eval (.tmp t)=ev t):Yh a.eval o=Yh (evo ev) o:=by
 simp only[cJ,XV]at h;refine execOp_congr o (λcs b k=>?_) (λx hx=>?_)
 .rw[k]at h;exact absurd h.1 (by simp)
 .have c:=ZJ.1 h.2 x hx;cases x with
  | tmp t=>exact k t (by simpa using c)
  | const v=>rfl
  | global g=>rfl
  | func f=>rfl
def oH{k:Nat}{o:Yp}(h:∀(a:Act) (w:XA),PreF F ops a0 k o a w->∃v w',(Yh a.eval o).run P w=.ok (.value v) w'/\F.E k w w'/\F.R k v w'):bD P Q F ops a0 k o:=by
 intro a w K d e c b;obtain⟨v,w',f,hE,hR⟩:=h a w ⟨d,e,c⟩;unfold Y3;rw[f];exact b v w' hE hR
def mY{k:Nat}{o:Yp}(t:Zw)(h:∀(a:Act) (w:XA),PreF F ops a0 k o a w->∃v w',(cJ [t] o=true)/\(Yh (evo λ_=>a.eval (.tmp t)) o).run P w=.ok (.value v) w'/\F.E k w w'/\F.R k v w'):bD P Q F ops a0 k o:=by
 refine oH λa w c=>?_
 obtain⟨v,w',b,d,hE⟩:=h a w c;refine⟨v,w',?_,hE⟩;rw[jE (λ_=>a.eval (.tmp t)) [t] b (λx hx=>by rw[show x=t by simpa using hx])];exact d
def GV{k:Nat}{o:Yp}(t:Zw)(h:∀(a:Act) (w:XA),PreF F ops a0 k o a w->∃f args,(cJ [t] o=true)/\(Yh (evo λ_=>a.eval (.tmp t)) o).run P w=.ok (.enter f args) w/\YN P f args w (Ret λe w'=>F.E k w w'/\F.R k e w')):bD P Q F ops a0 k o:=by
 intro a w K d g l j;obtain⟨f,args,b,c,i⟩:=h a w ⟨d,g,l⟩;unfold Y3;rw[jE (λ_=>a.eval (.tmp t)) [t] b (λx hx=>by rw[show x=t by simpa using hx]),c,ZM];refine i.mono ?_;rintro e w' ⟨v,rfl,hE,hR⟩;exact j _ _ hE hR
def BQ{T:Yd}{k:Nat}{o:Yp}(t:Zw)(ho:o.op=.load T (.tmp t))(b:(P.underlying T).map (·.isRow)=some true)(h:∀(a:Act) (w:XA),PreF F ops a0 k o a w->∃g off cs,a.eval (.tmp t)=oZ g off/\w.rangeAt g off cs/\(P.info? T).map (·.size)=some cs.length/\F.E k w w/\F.R k (.agg cs.toArray) w):bD P Q F ops a0 k o:=by
 intro a w K i j m l;obtain⟨g,off,cs,c,e,f,hE,hR⟩:=h a w ⟨i,j,m⟩;obtain⟨d,b,hd⟩:=XE.1 b;exact wp_load_mid T (.tmp t) ho g off c cs d e b hd f (l _ _ hE hR)
def LZ{k:Nat}{o:Yp}(s u:Zw)(t:Yd)(ho:o.op=.call { callee:=.builtin .append,args:=#[.tmp s,.tmp u],argTypes:=#[t,t] })
 (h:∀(a:Act) (w:XA),PreF F ops a0 k o a w->∃v w',(YG #[t,t] o.type #[a.eval (.tmp s),a.eval (.tmp u)]).run P w=.ok v w'/\F.E k w w'/\F.R k v w'):bD P Q F ops a0 k o:=by
 intro a w K c d f e;obtain⟨v,w',b,hE,hR⟩:=h a w ⟨c,d,f⟩;unfold Y3 Yh;simp only[ho,resolve,invoke,builtin,X1,Zr,Yz,yDO,Z7,yCp,b];exact e _ _ hE hR
def uD(h:iY P Q F ops a0 0 (ops.toList.take m)):∀k o,k<m->ops[k]? = some o->A5 P Q F ops a0 k o:=λk o b ho=>by
 have:=zK (ops.toList.take m) 0 h k o (by rw[Zv,yEX b,YE];exact ho);rwa[XI]at this
def InvF.act{a:Act}(R:RegF P Q F ops a0 m)(h:InvF F ops a0 L a w)(n:m<=ops.size)(c:∀i,on L i=true↔i<m){V:Nat->XB}(f:∀i d,on L i=true->aU ops i=some d->a.tmps[d]? = some (V i)):a=bW V (ops.toList.take m) 0 a0:=by
 refine Act.ext' ?_ (by rw[nS];exact h.def');apply yDs;intro t;by_cases e:∃(i:Nat) (o:Yp),i<m/\ops[i]? = some o/\o.dst=some t
 .obtain⟨i,o,b,ho,hd⟩:=e;rw[f i t ((c i).2 b) (by rw[fE ho];exact hd)];rw[tD V (ops.toList.take m) 0 a0 i o t (by rw[Zv,yEX b,YE];exact ho) hd (λj l k g=>((R.of ho).2 t hd).2 j (by
   rw[Zv]at k;split at k
   .rw[YE]at k;rw[fE k];exact g
   .cases k)) ((R.of ho).2 t hd).1,XI]
 .rw[h.rest t (λi k hd=>?_),mO V (ops.toList.take m) 0 a0 t (λo g hd=>?_)]
  .obtain⟨i,k⟩:=ZA g;rw[Zv]at k;split at k
   .rename_i b
    rw[YE]at k;exact e ⟨i,o,b,k,hd⟩
   .cases k
  .unfold aU at hd;cases hx:ops[i]? with
   | none=>rw[hx]at hd;cases hd
   | some x=>rw[hx]at hd;exact e ⟨i,x,(c i).1 k,hx,hd⟩
def Iy{id:Nat}(F:Flow)(n:Nat)(X:ops.size=n+1)(hd:(YA n).all (λj=>depOn ops n j || (YA n).any (λi=>depOn ops n i && depOn ops i j))=true)(T:P.follows .mixedOrders=true)(R:RegF P Q F ops a0 n)(O:∀b,F.B b w.drew)
 (Y:∀(V:Nat->XB) (w':XA),(∀i,i<n->F.kill i=[]->F.R i (V i) w')->(∀b,F.killB b=[]->F.B b w')->wpList P ops Q (ops.toList.drop n) (bW V (ops.toList.take n) 0 a0) w'):(Zd id ops true).wp P Q a0 w:=by
 have key:∀(c:Nat) (L:Array Bool) (a:Act) (w:XA),unl L=c->on L n=false->InvF F ops a0 L a w->wpAny P .any ops Q c L a w:=by
  intro c;induction c with
  | zero =>
   intro L a w M k p;have:=kW M (i:=n) (by rw[p.size];omega);rw[k]at this;cases this
  | succ c ih =>
   intro L a w M k p;refine⟨λC=>?_,λi S=>?_⟩
   .have:=p.full R C n oM;rw[k]at this;cases this
   .obtain⟨r,o,ho,s⟩:=mem_ready.1 S;have I:=(X5.1 ho).1;have E:on L i=false:=by
     unfold on;rw[XQ]at r⊢;cases hh:L[i]? with
     | none=>rfl
     | some b=>rw[hh]at r;exact r
    by_cases z:i=n
    .subst z;have q:∀j,on L j=true↔j<i:=λj=>by
      constructor
      .intro m;have g:j<ops.size:=by rw[<-p.size];exact AD m
       rcases Zp j i with h|h
       .exact h
       .obtain rfl:j=i:=oM;rw[k]at m;cases m
      .intro m;have t:∀j,depOn ops i j=true->on L j=true:=λj g=>by
        unfold depOn at g;rw[ho]at g;obtain⟨e,u,v⟩:=yAv.1 g;simp only[XV,beq_iff_eq]at v;have:=s e u v.1;rw[v.2]at this;exact this
       have g:=Yq.1 hd j (Y4.2 m);rw[Z2]at g;rcases g with g|g
       .exact t j g
       .obtain⟨x,hx,B⟩:=List.any_eq_true.1 g;rw[XV]at B;have A:=t x B.1;have D:x<ops.size:=oN (Y4.1 hx);have u:=X8 D;have y:=B.2;unfold depOn at y;rw[u]at y;exact BM (ho:=u) p y A
     obtain⟨V,H,J⟩:=p.all;have W:=p.act R oM q H;have A:∀l:List Nat,l=[]->∀x∈l,on L x=false:=λl N x hx=>by rw[N]at hx;cases hx
     have t:=Y V w (λj m U=>J j ((q j).2 m) (A _ U)) (λb v=>p.base b (A _ v));have u:ops.toList.drop i=[o]:=by
      have y:ops.toList.length=i+1:=by rw[XU];exact X
      rw[List.drop_eq_getElem_cons oM,List.drop_of_length_le oM];have:ops.toList[i]? = some o:=by rw[YE];exact ho
      rw[XO oM]at this;rw[XX.inj this]
     rw[u,<-W]at t;have G:wpOp P ops Q i (λB w'=>Q .normal B w') a w:=by
      unfold wpOp;rw[ho];exact t
     refine yDv (λB w' K=>?_) G;have y:∀j,j<ops.size->on (L.setIfInBounds i true) j=true:=λj m=>by
      rw[dX (by rw[p.size];omega)];by_cases h:j<i
      .rw[(q j).2 h,yAN]
      .rw[show j=i by omega];simp
     have C:Yu .any ops (L.setIfInBounds i true)=[]:=by
      apply yCr.2;intro j m;obtain⟨r,Z,D,-⟩:=mem_ready.1 m;have g:=y j (X5.1 D).1;unfold on at g;rw[XQ]at r g;cases hh:(L.setIfInBounds i true)[j]? with
      | none=>rw[hh]at r;cases r
      | some b=>rw[hh]at r g;rw[show b=false from r]at g;cases g
     cases c with
     | zero=>exact⟨C,K⟩
     | succ f=>exact⟨λ_=>K,λj m=>by rw[C]at m;cases m⟩
    .refine yDv (λB w' q=>ih _ B w' (oN (mE r)) ?_ q) (FI R oM (λj m=>?_) ho E s p)
     .rw[dX (by rw[p.size];exact I),k];simpa using z
     .have g:j<ops.size:=by rw[<-p.size];exact AD m
      rcases Zp j n with h|h
      .exact h
      .obtain rfl:j=n:=oM;rw[k]at m;cases m
 have k:∀i,on (XT ops.size false) i=false:=λi=>by
  unfold on;rw[XQ,yBy];by_cases h:i<ops.size
  .rw[yEX h];rfl
  .rw[yEY h];rfl
 refine yEM T (key _ _ a0 _ ?_ (k n) ⟨X0,(λi o _ h=>by rw[k]at h;cases h),rfl,rfl,λ_ _=>rfl,⟨λ_=>Zs,λi d h=>(by rw[k]at h;cases h),λi h=>(by rw[k]at h;cases h)⟩,λb _=>O b⟩);unfold unl;rw[yC3,yDd];simp
end RG
namespace RG
variable {P:YJ}{ops:Array Yp}{Q:yAM->Act->XA->Prop}{w:XA}{a0:Act}
def AllE(a:Act):List (Zw × XB)->Prop
 | []=>True
 | x :: r=>a.eval (.tmp x.1)=x.2/\AllE a r
def evl(k:List (Zw × XB))(t:Zw):XB:=match k.find? (λx=>x.1 == t) with|some x=>x.2|none=>Zs
def AllE.mem{a:Act}:∀ {k:List (Zw × XB)},AllE a k->∀x∈k,a.eval (.tmp x.1)=x.2
 | [],_,x,hx=>by cases hx
 | y :: r,h,x,hx=>by
  rcases Y6.1 hx with rfl|hx
  .exact h.1
  .exact AllE.mem h.2 x hx
def AllE.ev{a:Act}{k:List (Zw × XB)}(h:AllE a k):∀t∈k.map (·.1),a.eval (.tmp t)=evl k t:=λt c=>by
 obtain⟨x,hx,rfl⟩:=YC.1 c;unfold evl;cases hf:k.find? (λy=>y.1 == x.1) with
 | none =>
  have:=List.find?_eq_none.1 hf x hx;simp at this
 | some y =>
  have b:=List.mem_of_find?_eq_some hf;have d:y.1=x.1:=by simpa using List.find?_some hf
  have:=h.mem y b;rw[d]at this;exact this
structure Gw where
 R:Nat->XB->XA->Prop
 B:XA->Prop
 sR:∀i v w w',kZ w w'->R i v w->R i v w'
 sB:∀w w',kZ w w'->B w->B w'
def Gw.flow(G:Gw):Flow:=⟨G.R,λ_=>G.B,λ_ w w'=>kZ w w',λ_=>[],λ_=>[]⟩
structure PreG(G:Gw)(ops:Array Yp)(a0:Act)(k:Nat)(o:Yp)(a:Act)(w:XA):Prop where
 n:∀j d,cO o j=true->aU ops j=some d->G.R j (a.eval (.tmp d)) w
 o:∀t,qE ops k t=true->a.eval (.tmp t)=a0.eval (.tmp t)
 b:G.B w
variable {G:Gw}
def xX{k:Nat}{o:Yp}{a:Act}(h:PreF G.flow ops a0 k o a w):PreG G ops a0 k o a w:=⟨λj d b hd=>h.n j d b rfl hd,h.o,h.b 0 rfl⟩
def bJ{k:Nat}{o:Yp}(h:∀(a:Act) (w:XA),PreG G ops a0 k o a w->∃(b:List (Zw × XB)) (v:XB) (w':XA),AllE a b/\(cJ (b.map (·.1)) o,(Yh (evo (evl b)) o).run P w)=(true,.ok (.value v) w')/\kZ w w'/\G.R k v w'):bD P Q G.flow ops a0 k o:=
 oH λa w e=>by
  obtain⟨b,v,w',d,c,hE⟩:=h a w (xX e);simp only[Ze.injEq]at c;refine⟨v,w',?_,hE⟩;rw[jE (evl b) (b.map (·.1)) c.1 d.ev];exact c.2
def fX{k:Nat}{o:Yp}(h:∀(a:Act) (w:XA),PreG G ops a0 k o a w->∃(b:List (Zw × XB)) (f:FuncId) (args:Array XB),AllE a b/\(cJ (b.map (·.1)) o,(Yh (evo (evl b)) o).run P w)=(true,.ok (.enter f args) w)/\YN P f args w (rZ w λe w'=>G.R k e w')):bD P Q G.flow ops a0 k o:=by
 intro a w K g i m l;obtain⟨b,f,args,d,c,j⟩:=h a w (xX ⟨g,i,m⟩);simp only[Ze.injEq]at c;unfold Y3;rw[jE (evl b) (b.map (·.1)) c.1 d.ev,c.2,ZM];refine j.mono ?_;rintro e w' ⟨v,rfl,hE,hR⟩;exact l _ _ hE hR
def jD{T:Yd}{k:Nat}{o:Yp}(t:Zw)(ho:o.op=.load T (.tmp t))(i:(P.underlying T).map (·.isRow)=some true)(h:∀(a:Act) (w:XA),PreG G ops a0 k o a w->∃g off cs,a.eval (.tmp t)=oZ g off/\w.rangeAt g off cs/\(P.info? T).map (·.size)=some cs.length/\G.R k (.agg cs.toArray) w):bD P Q G.flow ops a0 k o:=
 BQ t ho i λa w f=>by
  obtain⟨g,off,cs,b,e,c,d⟩:=h a w (xX f);exact⟨g,off,cs,b,e,c,XR _ _,d⟩
def Gw.reg{m:Nat}(k:BO ops a0.tmps.size=true)(h:iY P Q G.flow ops a0 0 (ops.toList.take m)):RegF P Q G.flow ops a0 m:=
 ⟨k,uD h,λi j _ _ _ _ _ v w w' hE hR=>G.sR j v w w' hE hR,λi b _ _ w w' hE c=>G.sB w w' hE c⟩
def Gw.draws{id:Nat}(G:Gw)(f:P.follows .mixedOrders=true)(k:BO ops a0.tmps.size=true)(h:iY P Q G.flow ops a0 0 (ops.toList.take ops.size))(d:G.B w.drew)
 (c:∀(V:Nat->XB) (w':XA),(∀i,i<ops.size->G.R i (V i) w')->G.B w'->Q .normal (bW V ops.toList 0 a0) w'):(Zd id ops true).wp P Q a0 w:=
 qV G.flow f (Gw.reg k h) (λ_=>d) λV w' b g=>c V w' (λi e=>b i e rfl) (g 0 rfl)
def Gw.last{id:Nat}(G:Gw)(n:Nat)(k:((ops.size == n+1) && (YA n).all (λj=>depOn ops n j || (YA n).any (λi=>depOn ops n i && depOn ops i j)))=true)(g:P.follows .mixedOrders=true)(b:BO ops a0.tmps.size=true)(h:iY P Q G.flow ops a0 0 (ops.toList.take n))(e:G.B w.drew)
 (d:∀(V:Nat->XB) (w':XA),(∀i,i<n->G.R i (V i) w')->G.B w'->wpList P ops Q (ops.toList.drop n) (bW V (ops.toList.take n) 0 a0) w'):(Zd id ops true).wp P Q a0 w:=by
 rw[XV,beq_iff_eq]at k;exact Iy G.flow n k.1 k.2 g (Gw.reg b h) (λ_=>e) λV w' c l=>d V w' (λi f=>c i f rfl) (l 0 rfl)
end RG
def Cn{w:XA}{g o:Nat}{v:XB}{cur:Array XB}{e:Yd}{z:Nat × Nat}(h:w.heap[g]? = some (.cells cur e z)):∃k:Array XB,(w.setCell ⟨g,o,none⟩ v).heap[g]? = some (.cells k e z)/\k.size=cur.size:=by
 have b:=(X5.1 h).1;refine⟨cur.setIfInBounds o v,?_,YR ..⟩;have c:w.heap[g]=.cells cur e z:=by rw[X8 b]at h;exact XX.inj h
 simp[World.setCell,Array.getElem_modify,b,c]
def rE{g:Nat}{e:Yd}{z:Nat × Nat}:∀(vs:List XB) (o:Nat) (w:XA) (cur:Array XB),w.heap[g]? = some (.cells cur e z)->∃k:Array XB,(w.setCells g o vs).heap[g]? = some (.cells k e z)/\k.size=cur.size
 | [],_,_,cur,h=>⟨cur,h,rfl⟩
 | v :: r,o,w,cur,h=>by
  obtain⟨c1,d,f⟩:=Cn (o:=o) (v:=v) h;obtain⟨c2,c,b⟩:=rE r (o+1) _ c1 d;exact⟨c2,c,b.trans f⟩
def J5{W:XA}{k n s g o cap:Nat}{e:Yd}{xs vs:List XB}(h:W.ownsRow k e s (sZ g n cap) n xs)(u:o+vs.length<=n*s):(W.setCells g o vs).ownsRow k e s (sZ g n cap) n (rep xs o vs):=by
 have hx:o+vs.length<=xs.length:=by rw[h.1];exact u
 refine⟨by rw[gK hx];exact h.1,?_⟩;rcases h.2 with⟨d,-⟩|⟨a,q,cur,d,w,t,m,y,l,x⟩
 .cases d
 .injection d with e1 e2 e3
  injection e1 with e1
  injection e1 with e1
  subst e1;subst e3;obtain⟨c2,p,v⟩:=rE vs o W cur t;refine X7 ⟨g,cap,c2,rfl,w,p,m,y,by rw[v];exact l,?_⟩;have z:n*s<=cur.size:=by rw[l];exact yAn s m
  apply yA8;intro i;rw[RG.rep_at hx,Zv,<-x];have c1:∀i,W.cell? ⟨g,i,none⟩=cur[i]?:=λi=>cell_of_row W g i cur e (0,0) t
  have r:(W.setCells g o vs).cell? ⟨g,i,none⟩=c2[i]?:=cell_of_row _ g i c2 e (0,0) p;by_cases c:i<n*s
  .rw[yEX c];by_cases b:o<=i/\i<o+vs.length
   .rw[yEX b];have f:i-o<vs.length:=oM;have:=World.cell?_setCells_in g vs o W (λj f=>by rw[c1 (o+j),X8 oM];rfl) (i-o) f;rw[show o+(i-o)=i by omega,r]at this;rw[YE,this,XO f]
   .rw[yEY b,Zv,yEX c,YE,YE,<-r,<-c1 i];exact World.cell?_setCells_out g vs o W ⟨g,i,none⟩ (λ_ _=>by show i<o\/o+vs.length<=i;omega)
  .rw[yEY c,yEY oM,Zv,yEY c]
def NP{xs ys vs:List XB}{o:Nat}:rep (xs++ys) (xs.length+o) vs=xs++rep ys o vs:=by
 unfold rep;rw[List.take_length_add_append,Nat.add_assoc,List.drop_length_add_append,List.append_assoc]
def iF{n:Nat}{p:Bs}(k:p.size=33):(wn n++aA p).length=37:=by rw[XK,aB k];rfl
def fM(x:Nat × Bs)(r:LB):aP (x :: r)=(wn x.1++aA x.2)++aP r:=by unfold aP;rw[yCc]
def zN(s:Nat):∀(l:LB) (j:Nat) (k:j<l.length),(∀x∈l.map (·.2),x.size=33)->aP (l.set j (s,(l[j]).2))=rep (aP l) (37*j) (wn s)
 | [],j,k,_=>by cases k
 | x :: r,0,_,_=>by
  show aP ((s,x.2) :: r)=_;rw[fM,fM];rfl
 | x :: r,j+1,k,hs=>by
  have hx:=iF (n:=x.1) (hs x.2 (by simp));show aP (x :: r.set j (s,(r[j]'(by simpa using k)).2))=_;rw[fM,fM,zN s r j (by simpa using k) (λy b=>hs y (Yo _ b)),show 37*(j+1)=(wn x.1++aA x.2).length+37*j by rw[hx];omega,NP]
def at?_some{p:Bs}:∀ {l:LB}{i j:Nat},at? p (l.map (·.2)) i=some j->i<=j/\∃h:j-i<l.length,(l[j-i]).2=p/\∀n,fH N l n p=l.set (j-i) (sPl N (l[j-i]).1 n,p)
 | [],i,j,h=>by cases h
 | (s,q) :: r,i,j,h=>by
  rw[Z7]at h;unfold at? at h;by_cases k:p=q
  .rw[yEX k]at h;obtain rfl:=XX.inj h;refine⟨XD _,by simp,?_,λn=>?_⟩
   .simp[k]
   .unfold fH;rw[yEX k];simp[k]
  .rw[yEY k]at h;obtain⟨d,f,c,b⟩:=at?_some h;have e:j-i=(j-(i+1))+1:=oM;refine⟨oM,by simp;omega,?_,λn=>?_⟩
   .simp only[e,yC5];exact c
   .unfold fH;rw[yEY k,b n];simp only[e,yC5,XJ]
def Mz{n:Nat}{p:Bs}{l:LB}{j:Nat}(h:at? p (l.map (·.2)) 0=some j):(fH N l n p).map (·.2)=l.map (·.2)/\(fH N l n p).length=l.length:=by
 obtain⟨-,b,d,c⟩:=at?_some (N:=N) h;rw[c n];refine⟨?_,List.length_set ..⟩;rw[List.map_set];apply yA8;intro i;rw[List.getElem?_set];by_cases k:j-0=i
 .subst k;rw[yEX rfl,yEX (by rw[XZ];exact b),YB,XO b];exact congrArg some d.symm
 .rw[yEY k]
def Mx.again{w W:XA}{m g cap:Nat}{l:LB}{p:Bs}{j:Nat}(h:Mx w W m l (sZ g l.length cap))(e:∀x∈l.map (·.2),x.size=33)(d:at? p (l.map (·.2)) 0=some j)(i:j<l.length)(n:Nat):
 Mx w (W.setCells g (37*j) (wn (sPl N (l[j]).1 n))) m (fH N l n p) (sZ g l.length cap):=by
 have k:=h.own_ne (g:=g) rfl;obtain⟨f,b⟩:=Mz (N:=N) (n:=n) d;refine⟨RG.below_setCells k.2.1 _ _ _ h.bl,?_,h.lm,?_⟩
 .rw[aE _ _ _ _ (Ne.symm k.1),f,b];exact h.mp
 .obtain⟨-,q,c,o⟩:=at?_some (N:=N) d;have e3:fH N l n p=l.set j (sPl N (l[j]).1 n,(l[j]).2):=by rw[o n];simp only[yBz]at c⊢;rw[c]
  rw[b,e3,zN _ l j i e];exact J5 h.ow (by show 37*j+4<=_;omega)
def Eu{ns:Nat->Nat}(O:Ord N)(c:Nat->Bs){k:Nat}(d:∀j,j<k->ns j<N):∀i,i<=k->∀x∈mrg N ns c i,x.1<N
 | 0,_=>λx hx=>by cases hx
 | i+1,hi=>by
  have f:=Eu O c d i oM;have h:∀(l:LB) n p,n<N->(∀x∈l,x.1<N)->∀x∈fH N l n p,x.1<N:=by
   intro l n p g;induction l with
   | nil=>intro _ x hx;simp[fH]at hx;rw[hx];exact g
   | cons y r ihr =>
    intro b x hx;unfold fH at hx;split at hx
    .rcases Y6.1 hx with rfl|hx
     .exact Y8 _ O.pos
     .exact b x (Yo _ hx)
    .rcases Y6.1 hx with rfl|hx
     .exact b _ YH
     .exact ihr (λz e=>b z (Yo _ e)) x hx
  exact h _ _ _ (d i oM) f
section
variable (w:XA) (m g4 cap k6 j s n z:Nat) (l:List (Nat × Bs)) (p:Bs)
def Ra:Nat->XB->XA->Prop
 | 0,v,_=>v=sZ g4 l.length cap
 | 1,v,_=>v=iZ j
 | 2,v,_=>v=sZ g4 l.length cap
 | 3,v,_=>v=iZ j
 | 4,v,_=>v=oZ g4 (0+37*j)
 | 5,v,_=>v=oZ g4 (0+37*j)
 | 6,v,_=>v=nv s
 | 7,v,_=>v=jZ k6
 | 8,v,_=>v=nv n
 | 9,v,_=>v=nv z
 | 10,v,_=>v=oZ g4 (0+37*j)
 | 11,v,_=>v=oZ g4 (0+37*j)
 | _,_,_=>True
def To{i:Nat}{v:XB}{W W':XA}(h:Ra g4 cap k6 j s n z l i v W):Ra g4 cap k6 j s n z l i v W':=by
 match i,h with
 | 0,h=>exact h
 | 1,h=>exact h
 | 2,h=>exact h
 | 3,h=>exact h
 | 4,h=>exact h
 | 5,h=>exact h
 | 6,h=>exact h
 | 7,h=>exact h
 | 8,h=>exact h
 | 9,h=>exact h
 | 10,h=>exact h
 | 11,h=>exact h
 | _+12,_=>trivial
def Ga:Gw:=⟨Ra g4 cap k6 j s n z l,λW=>Mx w W m l (sZ g4 l.length cap)/\Row W k6 (wn n++aA p),λ_ _ _ _ _ h=>To g4 cap k6 j s n z l h,λ_ _ k h=>⟨h.1.kept k,h.2.below k⟩⟩
end
def range_front'{W:XA}{k o:Nat}{xs ys:List XB}(h:W.rangeAt k o (xs++ys)):W.rangeAt k o xs:=λj v b=>h j v (by rw[XY (XM.1 b).1];exact b)
def Mx.drew{w W:XA}{m:Nat}{l:LB}{v:XB}(h:Mx w W m l v):Mx w W.drew m l v:=⟨h.bl.drew,h.mp,h.lm,h.ow⟩
def Kv(O:Ord N)(R:XB->XA->Prop)(g k c:Nat)(hk:k<=1000)(ns:Nat->Nat)(o:Nat->Bs)(ha:∀j,j<k->(o j).size=33)(hn:∀j,j<k->ns j<N)(w:XA)(hg:g<w.heap.size)(hr:∀j,j<k->w.rangeAt g (37*j) (wn (ns j)++aA (o j)))
 (h5:∀W v,Mx w W w.heap.size (mrg N ns o k) v->YN prog 109 #[v,.func (.func 110) #[] #[]] W (Ret R)) :
 YN prog 63 #[sZ g k c] w (Ret R):=by
 have h4:=Hid.mk' h5;have k6:(yEd 202 none).run prog w=.ok (.map (some w.heap.size)) (w.alloc (.map #[] 0)):=kR;obtain⟨w1,h8⟩:=hE (w.alloc (.map #[] 0));rw[h8.out]at k6;have M1:Hid (Mx w w1 w.heap.size (mrg N ns o 0) (.slice none 0 0)):=by
  rw[<-h8.out];exact⟨aD (w:=w) _,by show(w.heap.push (.map #[] 0))[w.heap.size]? = _;rw[Array.getElem?_push_size];rfl,XD _,rfl,Ye ⟨rfl,rfl⟩⟩
 have J:=mk5 O ha hn hg hr;obtain⟨d,hz,k4⟩:=XE.1 uCP;obtain⟨d',k3,hq⟩:=XE.1 uT;have K:Hid ((prog.underlying 51=some d/\d.isRow=true)/\prog.underlying 124=some d'/\d'.isRow=true):=⟨⟨hz,k4⟩,k3,hq⟩
 go_enter func63,ntmps63;go_wp2;go_loopg [4,12] k (λq s4 s12 W=>∃i:Nat,i+q=k/\s12=iZ i/\Hid (Mx w W w.heap.size (mrg N ns o i) s4))
 case atStart=>exact⟨0,oM,rfl,M1⟩
 case round =>
  obtain⟨i,kg,rfl,X⟩:=hrel;by_cases hi:i<k
  .have ka:(i:Int)<(k:Int):=oM;obtain⟨n,H⟩:=hE (ns i);obtain⟨p,I⟩:=hE (o i);obtain⟨l,hl⟩:=hE (mrg N ns o i);rw[hl.out]at X;have r:Hid (p.size=33):=by have:=J.2.1 i hi;rw[I.out]at this;exact this
   have kb:Hid (l.length<=i):=by have:=BC (N:=N) ns o i;rw[hl.out]at this;exact this
   obtain⟨q,cap,rfl⟩:=Ij X.ow;obtain⟨P,h1⟩:=hE (wr.alloc (.cells zT.toArray 124));obtain⟨G,U⟩:=hE (P.setCells wr.heap.size 0 (wn n++aA p));have m:(wn n++aA p).length=37:=by rw[XK,aB r.out];rfl
   have F1:Hid (Row P wr.heap.size zT/\kZ wr P/\P.heap.size=wr.heap.size+1):=by rw[<-h1.out];exact⟨row_new wr _ _,aD (w:=wr) _,XP _ _⟩
   have Z:Hid (Row G wr.heap.size (wn n++aA p)/\kZ wr G/\G.heap.size=wr.heap.size+1):=by rw[<-U.out];exact⟨F1.1.put (by rw[m];rfl),RG.below_setCells (XD _) _ _ _ F1.2.1,by rw[setCells_size];exact F1.2.2⟩
   have S:=mk1 (X.kept Z.2.1);have C:∀x∈l.map (·.2),x.size=33:=by have:=yF (N:=N) ns o J.2.1 i oM;rw[hl.out]at this;exact this
   cases D:at? p (l.map (·.2)) 0 with
   | none =>
    have b:=mk1 (D);have T:=Hid.mk' (CP r.out (D:=(l.map (·.2))) C (m:=w.heap.size) (c:=l.length) (w:=G) S.mp);rw[b.out]at T;have B2:Hid ((yBI 202 (.map (some w.heap.size)) (.agg (aA p).toArray) (iZ (l.length:Int))).run prog G=.ok () (G.putObj w.heap.size (.map (ents (l.map (·.2)++[p]) 0).toArray (l.length+1)))):=by
     have h:=MZ r.out (D:=(l.map (·.2))) C w.heap.size G (by rw[XZ];exact S.mp) b.out;rw[XZ]at h;exact h
    obtain⟨v',W5,f,K5,kh,-⟩:=S.push r.out (oN kb.out) n;obtain⟨Q,A⟩:=hE (G.putObj w.heap.size (.map (ents (l.map (·.2)++[p]) 0).toArray (l.length+1)));have F3:Hid (Row Q wr.heap.size (wn n++aA p)/\Q.heap.size=wr.heap.size+1):=by rw[<-A.out];exact⟨Z.1.putObj S.mp rfl _,by simp[yCX];exact Z.2.2⟩
    have V:=Hid.mk' (Vl r.out n Q);obtain⟨W4,M⟩:=hE (Q.alloc (.cells (wn n++aA p).toArray 124));rw[A.out]at B2 f;rw[M.out]at V f;rw[F3.2]at V;rw[Z.2.2]at f;have kc:Hid (Mx w W5 w.heap.size (mrg N ns o (i+1)) v'):=by
     have e:mrg N ns o (i+1)=l++[(n,p)]:=by
      show fH N (mrg N ns o i) (ns i) (o i)=_;rw[hl.out,H.out,I.out];exact Dm b.out
     rw[e];exact K5
    have B0:Hid (wr.rangeAt g (37*i) (wn n++aA p)):=by
     have h:=RG.range_below (J.2.2.2.2 i hi) X.bl J.2.2.2.1;rw[H.out,I.out]at h;exact h
    have L:Hid ((prog.info? 124).map (·.size)=some (wn n++aA p).length):=by show _=_;rw[m];exact iT
    have E:Hid ((prog.info? 124).map (·.size)=some (wn n++aA p).toArray.size/\P.there wr.heap.size 0 (wn n++aA p).toArray.size):=by
     have e:(wn n++aA p).toArray.size=37:=by rw[YF];exact m
     rw[e];exact⟨iT,F1.1.2.2⟩
    have Y:Hid ((prog.info? 51).map (·.size)=some (aA p).length):=by show _=_;rw[aB r.out];exact cV
    have HB:=mk1 (mL (xs:=wn n) Z.1.2.1);have h0:Hid ((wn n++aA p).toArray.all (·.oneCell')=true):=by
     show _=_;rw[ZJ];intro u hu;exact cells_one (n:=n) (a:=p) u (yAI.1 hu)
    have hm:=atT g 0 (n:=k) c (i:=i) hi;have hy:=Hid.mk' f;obtain⟨vt,B⟩:=hE (X9 (wn n++aA p).toArray);obtain⟨vp,F⟩:=hE (X9 (aA p).toArray);rw[F.out]at T B2;rw[B.out]at V;go_wp2_with (first|(refine YI rfl 124 _ rfl g (37*i) ?_ (wn n++aA p) d' ?_ ?_ ?_ ?_ ?_;rfl;exact B0.out;exact K.2.1;exact K.2.2;exact L.out;rw[B.out])|(refine bH (v:=jZ wr.heap.size) (w':=P) rfl (.alloc 124) rfl ?_ ?_;(rw[<-h1.out];kernel_rfl))|(refine Yk rfl 124 _ _ rfl wr.heap.size 0 (wn n++aA p).toArray ?_ ?_ ?_ ?_ ?_ ?_;rfl;exact B.symm;exact E.2;exact E.1;exact h0.out;rw[show(wn n++aA p).toArray.toList=wn n++aA p from rfl,U.out])|(refine YI rfl 51 _ rfl wr.heap.size 4 ?_ (aA p) d ?_ ?_ ?_ ?_ ?_;rfl;exact HB.out;exact K.1.1;exact K.1.2;exact Y.out;rw[F.out])|(refine Ah (x:=.map (some w.heap.size)) (y:=vp) (w':=G) rfl 202 _ _ true rfl ?_ ?_ T.out ?_;rfl;rfl)|(refine Hv (x:=.map (some w.heap.size)) (y:=vp) (z:=iZ (l.length:Int)) (w':=Q) rfl 202 _ _ _ rfl ?_ ?_ ?_ B2.out ?_;rfl;rfl;rfl)|(refine YI rfl 124 _ rfl wr.heap.size 0 ?_ (wn n++aA p) d' ?_ ?_ ?_ ?_ ?_;rfl;exact F3.1.2.1;exact K.2.1;exact K.2.2;exact L.out;rw[B.out])|(refine jK (v:=sZ (wr.heap.size+1) 1 1) (w':=W4) rfl 82 1 _ rfl #[(0,vt)] ?_ V.out ?_;kernel_rfl)|(refine mC (x:=.slice q l.length cap) (y:=sZ (wr.heap.size+1) 1 1) (v:=v') (w':=W5) rfl _ _ 82 rfl ?_ ?_ ?_ ?_;rfl;rfl;exact hy.out))
    go_roundg (gk-1)
    case measure=>omega
    case rel=>exact⟨i+1,oM,rfl,kc⟩
   | some j =>
    obtain⟨-,A,h6,-⟩:=at?_some (N:=N) D;rw[yBz]at A;simp only[yBz]at h6;have T:=Hid.mk' (CP r.out (D:=(l.map (·.2))) C (m:=w.heap.size) (c:=l.length) (w:=G) S.mp);rw[D]at T;obtain⟨f,kf,hw,-,k2,kd⟩:=tJ S.ow C oM;injection hw with q1 q2 q3
    subst q1;obtain⟨s,h2⟩:∃s,Hid ((l[j]'A).1=s):=⟨(l[j]'A).1,(rfl:(l[j]'A).1=(l[j]'A).1)⟩
    have k7:Hid (s<N):=by
     have:=Eu J.1 (ns:=ns) o J.2.2.1 i oM;rw[hl.out]at this;rw[<-h2.out];exact this _ (YS A)
    have k0:Hid (n<N):=by rw[<-H.out];exact J.2.2.1 i hi
    have B0:Hid (wr.rangeAt g (37*i) (wn n++aA p)):=by
     have h:=RG.range_below (J.2.2.2.2 i hi) X.bl J.2.2.2.1;rw[H.out,I.out]at h;exact h
    have L:Hid ((prog.info? 124).map (·.size)=some (wn n++aA p).length):=by show _=_;rw[m];exact iT
    have E:Hid ((prog.info? 124).map (·.size)=some (wn n++aA p).toArray.size/\P.there wr.heap.size 0 (wn n++aA p).toArray.size):=by
     have e:(wn n++aA p).toArray.size=37:=by rw[YF];exact m
     rw[e];exact⟨iT,F1.1.2.2⟩
    have Y:Hid ((prog.info? 51).map (·.size)=some (aA p).length):=by show _=_;rw[aB r.out];exact cV
    have HB:=mk1 (mL (xs:=wn n) Z.1.2.1);have h0:Hid ((wn n++aA p).toArray.all (·.oneCell')=true):=by
     show _=_;rw[ZJ];intro u hu;exact cells_one (n:=n) (a:=p) u (yAI.1 hu)
    have hm:=atT g 0 (n:=k) c (i:=i) hi;obtain⟨vt,B⟩:=hE (X9 (wn n++aA p).toArray);obtain⟨vp,F⟩:=hE (X9 (aA p).toArray);rw[F.out]at T;have HL:=mk1 (A);have HS:Hid (∀h:j<l.length,(l[j]'h).1=s):=λ_=>h2.out
    have HJ:=mk2 D C;have HK:=mk2 S.out Z.1;have KN:Hid (mrg N ns o (i+1)=fH N l n p):=by
     show fH N (mrg N ns o i) (ns i) (o i)=_;rw[hl.out,H.out,I.out]
    clear m C S X h6 q2 q3 kd k2;clear D;go_wp2_with (first|(refine YI rfl 124 _ rfl g (37*i) ?_ (wn n++aA p) d' ?_ ?_ ?_ ?_ ?_;rfl;exact B0.out;exact K.2.1;exact K.2.2;exact L.out;rw[B.out])|(refine bH (v:=jZ wr.heap.size) (w':=P) rfl (.alloc 124) rfl ?_ ?_;(rw[<-h1.out];kernel_rfl))|(refine Yk rfl 124 _ _ rfl wr.heap.size 0 (wn n++aA p).toArray ?_ ?_ ?_ ?_ ?_ ?_;rfl;exact B.symm;exact E.2;exact E.1;exact h0.out;rw[show(wn n++aA p).toArray.toList=wn n++aA p from rfl,U.out])|(refine YI rfl 51 _ rfl wr.heap.size 4 ?_ (aA p) d ?_ ?_ ?_ ?_ ?_;rfl;exact HB.out;exact K.1.1;exact K.1.2;exact Y.out;rw[F.out])|(refine Ah (x:=.map (some w.heap.size)) (y:=vp) (w':=G) rfl 202 _ _ true rfl ?_ ?_ T.out ?_;rfl;rfl)|fail)
    refine(Ga w w.heap.size f cap wr.heap.size j s n (sPl N s n) l p).last 12 kR kR kR ⟨
     bJ λa W b=>⟨[(4,sZ f l.length cap)],sZ f l.length cap,W,⟨b.o 4 kR,yEZ⟩,kR,XR _ _,rfl⟩,
     bJ λa W b=>⟨[(7,iZ j)],iZ j,W,⟨b.o 7 kR,yEZ⟩,kR,XR _ _,rfl⟩,
     bJ λa W b=>⟨[(4,sZ f l.length cap)],sZ f l.length cap,W,⟨b.o 4 kR,yEZ⟩,kR,XR _ _,rfl⟩,
     bJ λa W b=>⟨[(7,iZ j)],iZ j,W,⟨b.o 7 kR,yEZ⟩,kR,XR _ _,rfl⟩,
     bJ λa W b=>⟨[(36,sZ f l.length cap),(37,iZ j)],.pointer (some ⟨f,0+37*j,none⟩),W,⟨b.n 2 36 kR kR,b.n 3 37 kR kR,yEZ⟩,by
      rw[Ze.injEq];refine⟨kR,?_⟩;show((Yv 82 (sZ f l.length cap) (iZ j)) >>= λv=>pure (ZS v)).run prog W=_;rw[X1,atT f 0 (n:=l.length) cap (i:=j) HL.out];rfl,XR _ _,rfl⟩,
     bJ λa W b=>⟨[(38,.pointer (some ⟨f,0+37*j,none⟩))],.pointer (some ⟨f,0+37*j,none⟩),W,⟨b.n 4 38 kR kR,yEZ⟩,kR,XR _ _,rfl⟩,
     jD (T:=44) 39 rfl Go.Proofs.YtlofhpkoaljmeaaGreat.u40 λa W b=>⟨f,0+37*j,wn s,b.n 5 39 kR kR,by
      obtain⟨g5,ke,V,-,-,k5⟩:=tJ b.b.1.ow HJ.2 (oN HL.out);injection V with q1 q2 q3
      injection q1 with q1
      injection q1 with q1
      subst q1;have:=k5 j HL.out;rw[HS HL.out]at this;rw[XI];exact range_front' this,i40,rfl⟩,
     bJ λa W b=>⟨[(6,jZ wr.heap.size)],jZ wr.heap.size,W,⟨b.o 6 kR,yEZ⟩,kR,XR _ _,rfl⟩,
     jD (T:=44) 41 rfl Go.Proofs.YtlofhpkoaljmeaaGreat.u40 λa W b=>⟨wr.heap.size,0,wn n,b.n 7 41 kR kR,kH b.b.2.2.1,i40,rfl⟩,
     fX λa W b=>⟨[(40,nv s),(42,nv n)],25,#[nv s,nv n],⟨b.n 6 40 kR kR,b.n 8 42 kR kR,yEZ⟩,kR,(mJ J.1 s n k7.out k0.out W).mono (by
      rintro e W' ⟨u,rfl,V,rfl⟩;exact⟨_,rfl,V,rfl⟩)⟩,
     bJ λa W b=>⟨[(34,sZ f l.length cap),(35,iZ j)],.pointer (some ⟨f,0+37*j,none⟩),W,⟨b.n 0 34 kR kR,b.n 1 35 kR kR,yEZ⟩,by
      rw[Ze.injEq];refine⟨kR,?_⟩;show((Yv 82 (sZ f l.length cap) (iZ j)) >>= λv=>pure (ZS v)).run prog W=_;rw[X1,atT f 0 (n:=l.length) cap (i:=j) HL.out];rfl,XR _ _,rfl⟩,
     bJ λa W b=>⟨[(44,.pointer (some ⟨f,0+37*j,none⟩))],.pointer (some ⟨f,0+37*j,none⟩),W,⟨b.n 10 44 kR kR,yEZ⟩,kR,XR _ _,rfl⟩,yEZ⟩ ⟨HK.1.drew,HK.2⟩ ?_
    intro V Q h3 h7;have k9:=h3 9 dC;have h9:=h3 11 dC;obtain⟨W4,M⟩:=hE (Q.setCells f (37*j) (wn (sPl N s n)));have K4:Hid (Mx w W4 w.heap.size (mrg N ns o (i+1)) (sZ f l.length cap)):=by
     rw[<-M.out,KN.out,<-(HS HL.out)];exact h7.1.again HJ.2 HJ.1 HL.out n
    have k1:Hid (Q.there f (37*j) 4):=by
     intro t ht;have hj:=HL.out;rcases h7.1.ow.2 with⟨h,-⟩|⟨g2,b,cur,he,-,hc,hn,-,hs,-⟩
     .cases h
     .injection he with he1 he2 he3
      injection he1 with he1
      injection he1 with he1
      subst he1;have k8:37*j+t<cur.size:=by
       rw[hs];have:(j+1)*37<=b*37:=yAn 37 oM;omega
      refine⟨?_,?_⟩
      .simp[YZ,hc,k8]
      .simp[Zk,hc]
    dsimp only[bW,YT,List.take,List.drop];simp only[Act.put,List.setIfInBounds_toArray,XJ,List.set_cons_zero];obtain⟨vz,b⟩:=hE (nv (sPl N s n));rw[k9,h9,b.out,XI];go_wp2_with (first|(refine Yk rfl 44 _ _ rfl f (37*j) (wn (sPl N s n)).toArray ?_ ?_ ?_ ?_ ?_ ?_;rfl;exact b.symm;exact k1.out;exact i40;exact aI (n:=(sPl N s n));rw[show(wn (sPl N s n)).toArray.toList=wn (sPl N s n) from rfl,M.out])|fail)
    go_roundg (gk-1)
    case measure=>omega
    case rel=>exact⟨i+1,oM,rfl,K4⟩
  .have ka:¬(i:Int)<(k:Int):=oM;obtain rfl:i=k:=oM;go_wp2_with fail
   refine(h4 wr _ X.out).mono ?_;rintro e r ⟨m,rfl,b⟩;have f:=Hid.mk' b;go_wp2;go_ret;exact⟨_,rfl,f.out⟩
def LF(l:LB):LB:=l.filter λx=>x.1 != 0
def qA{l:LB}{j:Nat}(k:j<l.length):LF (l.take (j+1))=LF (l.take j)++(if (l[j]).1=0 then [] else [l[j]]):=by
 unfold LF;rw[yCm,XO k,List.filter_append]
 congr 1
 by_cases h:(l[j]).1=0
 .simp[h]
 .simp[h]
def Qs(l:LB)(j:Nat):(LF (l.take j)).length<=j:=
 XH (yDb _ _) (by rw[Z8];exact Nat.min_le_left _ _)
def B9{l:LB}{x:Nat × Bs}(h:x∈LF l):x∈l:=(yBJ.1 h).1
def uW{ns:Nat->Nat}:∀(m i:Nat),(∃j,i<=j/\j<i+m/\ns j=0)->∃k,kU ns i m=((k:Nat):Int)/\i<=k/\k<i+m/\ns k=0/\∀j,i<=j->j<k->ns j≠0
 | 0,i,h=>by obtain⟨j,e,f,-⟩:=h;omega
 | m+1,i,h=>by
  unfold kU;by_cases b:ns i=0
  .rw[yEX b];exact⟨i,rfl,XD _,oM,b,λj e f=>oM⟩
  .rw[yEY b];obtain⟨j,e,f,g⟩:=h;obtain⟨k,l,q,e3,n,p⟩:=uW m (i+1) ⟨j,by
    rcases Zp i j with h|h
    .omega
    .obtain rfl:j=i:=oM;exact absurd g b,oM,g⟩
   refine⟨k,l,oM,oM,n,λc o d=>?_⟩;rcases Zp i c with h|h
   .exact p c h d
   .obtain rfl:c=i:=oM;exact b
def Rw(W:XA)(g j:Nat)(x:Nat × Bs):Prop:=W.rangeAt g (37*j) (wn x.1++aA x.2)
def Rw.below{W W':XA}{g j:Nat}{x:Nat × Bs}(h:Rw W g j x)(b:kZ W W')(k:g<W.heap.size):Rw W' g j x:=RG.range_below h b k
structure Dz(base:Nat)(w W:XA)(g:Nat)(l:LB)(j:Nat):Prop where
 bl:Below base w W
 hb:base<=W.heap.size
 lt:g<W.heap.size
 th:W.there g 0 (37*l.length)
 lo:∀a (ha:a<(LF (l.take j)).length),Rw W g a ((LF (l.take j))[a])
 hi:∀b (hb:b<l.length),j<=b->Rw W g b (l[b])
def Dz.grow{k:Nat}{w W W':XA}{g:Nat}{l:LB}{j:Nat}(h:Dz k w W g l j)(c:kZ W W'):Dz k w W' g l j:=
 ⟨h.bl.trans (c.mono h.hb),XH h.hb c.size,XC h.lt c.size,eC h.th c h.lt,λa e=>(h.lo a e).below c h.lt,λb d f=>(h.hi b d f).below c h.lt⟩
def Dz.skip{k:Nat}{w W:XA}{g:Nat}{l:LB}{j:Nat}(h:Dz k w W g l j)(c:j<l.length)(m:(l[j]).1=0):Dz k w W g l (j+1):=by
 have e:LF (l.take (j+1))=LF (l.take j):=by rw[qA c,yEX m,yAk]
 exact⟨h.bl,h.hb,h.lt,h.th,λa d=>by
  have f:=h.lo a (by rw[<-e];exact d);simp only[e];exact f,λb i c=>h.hi b i oM⟩
def Dz.put{k:Nat}{w W:XA}{g:Nat}{l:LB}{j:Nat}(h:Dz k w W g l j)(s:k<=g)(o:∀x∈l.map (·.2),x.size=33)(n:j<l.length)(u:(l[j]).1≠0):
 Dz k w (W.setCells g (37*(LF (l.take j)).length) (wn (l[j]).1++aA (l[j]).2)) g l (j+1):=by
 have e:LF (l.take (j+1))=LF (l.take j)++[l[j]]:=by rw[qA n,yEY u]
 have v:=Qs l j;have f:∀x∈l,(wn x.1++aA x.2).length=37:=λx hx=>iF (o x.2 (YC.2 ⟨x,hx,rfl⟩))
 have c:=f (l[j]) (YS n);refine⟨RG.below_setCells s _ _ _ h.bl,by rw[setCells_size];exact h.hb,by rw[setCells_size];exact h.lt,Zg h.th _ _ _,λa m=>?_,λb r q=>?_⟩
 .simp only[e]at m⊢;by_cases d:a<(LF (l.take j)).length
  .rw[List.getElem_append_left d];have p:=h.lo a d;have i:=yDf (B9 (YS d));exact Yn p g _ _ (X7 (Ye (by rw[f _ i];omega)))
  .have i:a=(LF (l.take j)).length:=by rw[XK,List.length_singleton]at m;omega
   subst i;rw[List.getElem_append_right (XD _)];simp only[Nat.sub_self,List.getElem_singleton];refine YY W g _ _ λt p=>?_
   rw[c]at p;have:=h.th (37*(LF (l.take j)).length+t) oM;rwa[XI]at this
 .exact Yn (h.hi b r oM) g _ _ (X7 (X7 (by rw[c];omega)))
def I6(n:Nat):∀v∈(Zt (X9 zT.toArray).cells n).toList,v.oneCell'=true:=by
 intro v hv;have c:=Qx;have b:(X9 zT.toArray).cells.size=37:=kR;unfold Zt at hv;rw[Array.toList_map]at hv;obtain⟨i,-,rfl⟩:=YC.1 hv;have k:i%(X9 zT.toArray).cells.size<(X9 zT.toArray).cells.size:=Y8 _ (by rw[b];decide);rw[getElem!_pos (X9 zT.toArray).cells _ k];exact c _ (by
  have e:(X9 zT.toArray).cells.toList=zT:=kR;have d:=Array.getElem_mem_toList k;rwa[e]at d)
def OO(g i n c:Nat)(w:XA)(p:0<n)(h:w.there g 0 (37*(i+n))):∃Z:List XB,∀d,(yDA #[82] d #[qZ g (37*i) n c]).run prog w=.ok (.tuple #[]) (w.setCells g (37*i) Z):=by
 have e:=Qw w;have m:=yAZ DD w;have ho:=I6 n;have k:(Zt (X9 zT.toArray).cells n).toList.length=n*37:=by
  have:(X9 zT.toArray).cells.size=37:=kR;rw[XU,size_zeroCells,this]
 generalize (X9 zT.toArray)=f at e ho k;generalize o:(Zt f.cells n).toList=Z at ho k;have l:(storeCells ⟨g,37*i,none⟩ Z).run prog w=.ok () (w.setCells g (37*i) Z):=
  run_storeCells_cells (P:=prog) g (37*i) Z 0 w (λj b=>by rw[k]at b;have:=(h (37*i+j) oM).1;simpa using this) (λj b=>by rw[k]at b;have:=(h (37*i+j) oM).2;simpa using this) ho
 refine⟨Z,λd=>?_⟩;obtain⟨b,rfl⟩:∃b,n=b+1:=⟨n-1,oM⟩
 unfold yDA;simp[X1,m,e,o,l]
def V5{n c:Nat}(g i:Nat)(e:i<=n)(k:n<=c)(w:XA):(Zy 82 (sZ g n c) none (some (iZ i)) none).run prog w=.ok (sZ g i c) w:=by
 have b:¬(i:Int)<0:=oM;have d:(i:Int)<=(c:Int):=oM;go_simp
def V4{n c i:Nat}(g:Nat)(e:i<n)(k:n<=c)(w:XA):(Zy 82 (sZ g n c) (some (iZ i)) none none).run prog w=.ok (qZ g (37*i) (n-i) (c-i)) w:=by
 have b:¬(i:Int)<0:=oM;have d:(i:Int)<=(n:Int):=oM;go_simp;rw[yEY oM,YK]
def TmL(W:XA)(q:Option Y0)(l:LB):Prop:=0<l.length->∃g,q=some (aZ g)/\g<W.heap.size/\∀j (k:j<l.length),W.rangeAt g (37*j) (wn (l[j]).1++aA (l[j]).2)
def Xv(k:Nat)(l:LB)(w:XA)(e:XB)(w':XA):Prop:=Below k w w'/\∃q cap,e=.slice q (LF l).length cap/\TmL w' q (LF l)
def Hn{l:LB}(h:∀x∈l,x.1≠0):LF l=l:=List.filter_eq_self.2 λx hx=>by simpa using h x hx
def Qr{l:LB}{k:Nat}(d:k<l.length)(c:(l[k]).1=0):∀j,k<j->j<=l.length->(LF (l.take j)).length<j
 | 0,h,_=>oM
 | j+1,h,hj=>by
  rw[qA oM,XK];rcases Zp k j with b|b
  .have:=Qr d c j b oM;split<;>simp<;>omega
  .obtain rfl:j=k:=oM;rw[yEX c];have:=Qs l j;simp;omega
def LP(l:LB)(hl:0<l.length)(hy:l.length<=1000)(hs:∀x∈l.map (·.2),x.size=33)(hn:∀x∈l,x.1<top)(d:Nat)(v:XB)(w:XA)(hb:d<=w.heap.size)(ho:w.ownsRow d 124 37 v l.length (aP l)):
 cZ 109 #[v,.func (.func 110) #[] #[]] w (Ret (Xv d l w)):=by
 obtain⟨g,c,rfl,Y,A,T⟩:=tJ ho hs hl;have G:∀(j:Nat) (k:j<l.length),(l[j]).2.size=33:=λj k=>hs _ (YC.2 ⟨_,YS k,rfl⟩)
 have D:l.length<=c/\w.there g 0 (37*l.length):=by
  rcases ho.2 with⟨h,-⟩|⟨z,q,cur,s,-,r,f,-,o,-⟩
  .cases h
  .injection s with he1 he2 he3
   injection he1 with he1
   injection he1 with he1
   subst he1;subst he3;refine⟨f,λt ht=>?_⟩;have y:0+t<cur.size:=by
    rw[o];have:l.length*37<=c*37:=yAn 37 f;omega
   exact⟨by simp only[YZ,r];simp;omega,by simp[Zk,r]⟩
 by_cases z:∀x∈l,x.1≠0
 .have L:=Hn z;refine(C7 g l.length c oM (λj=>((l[j]?).getD (0,#[])).1) (λj=>((l[j]?).getD (0,#[])).2) (λj k=>by rw[XO k];exact hn _ (YS k)) (λj k=>by rw[XO k];exact z _ (YS k)) (λj k=>by rw[XO k];exact G j k) w A (λj k=>by rw[XO k];exact T j k)).mono ?_;rintro e o ⟨vv,rfl,f,rfl⟩;refine⟨_,rfl,f.mono hb,some (aZ g),c,by rw[L],?_⟩;rw[L];exact λ_=>⟨g,rfl,XC A f.size,λj k=>RG.range_below (T j k) f A⟩
 .have hI:=Gv g l.length c oM (λj=>((l[j]?).getD (0,#[])).1) (λj=>((l[j]?).getD (0,#[])).2) (λj k=>by rw[XO k];exact hn _ (YS k)) (λj k=>by rw[XO k];exact G j k) w A (λj k=>by rw[XO k];exact T j k);obtain⟨f,e1,-,e3,R,e5⟩:=uW (ns:=λj=>((l[j]?).getD (0,#[])).1) l.length 0 (by
   have:∃x,x∈l/\x.1=0:=Zo λh=>z λx hx H=>h ⟨x,hx,H⟩
   obtain⟨x,hx,o⟩:=this;obtain⟨j,k⟩:=ZA hx;exact⟨j,Zl _,oN ((XM.1 k).1),by show((l[j]?).getD (0,#[])).1=0;rw[k];exact o⟩)
  rw[e1]at hI;have F:f<l.length:=oM;have E:(l[f]).1=0:=by
   have:((l[f]?).getD (0,#[])).1=0:=R;rw[XO F]at this;exact this
  have B:LF (l.take f)=l.take f:=Hn λx hx=>by
   obtain⟨j,k⟩:=ZA hx;rw[Zv]at k;split at k
   .rename_i hji
    have:=e5 j (Zl _) hji;have o:((l[j]?).getD (0,#[])).1≠0:=this;rw[k]at o;exact o
   .cases k
  have C:(LF (l.take f)).length=f:=by rw[B,Z8];omega
  have D0:Dz d w w g l f:=⟨XR _ _,hb,A,D.2,λa O=>by
   simp only[B]at O⊢;rw[List.getElem_take];exact T a _,λb o _=>T b o⟩
  have D1:Dz d w w g l (f+1):=D0.skip F E;have e6:(LF (l.take (f+1))).length=f:=by rw[qA F,yEX E,yAk];exact C
  have HI:=Hid.mk' hI;have HZ:Hid (∀j,f<j->j<=l.length->(LF (l.take j)).length<j):=Qr F E;have V:=Hid.mk' D1;have J:Hid (d<=g/\l.length<=c/\(∀x∈l.map (·.2),x.size=33)/\(∀x∈l,x.1<top)/\∀(j:Nat) (k:j<l.length),(l[j]).2.size=33):=⟨Y,D.1,hs,hn,G⟩
  obtain⟨d',h1,X⟩:=XE.1 uT;have S:Hid (prog.underlying 124=some d'/\d'.isRow=true):=⟨h1,X⟩
  have hq:¬((f:Int) = -1):=oM;clear h1 X hI D0 D1 hs hn ho T G D z e1 R e5 B C E Y A;go_enter func109,ntmps109;go_wp2_with fail
  refine HI.mono ?_;rintro e w1 ⟨vv,rfl,h5,rfl⟩;have K1:Hid (Dz d w w1 g l (f+1)):=V.grow h5;clear h5 HI V;go_wp2_with fail
  go_loopg [5,6] (l.length-(f+1)) (λm s5 s6 W=>∃j:Nat,f<j/\j+m=l.length/\s6=iZ j/\s5=iZ ((LF (l.take j)).length:Int)/\Hid (Dz d w W g l j))
  case atStart=>exact⟨f+1,oM,oM,rfl,by rw[e6],K1⟩
  case round =>
   clear K1;obtain⟨j,h7,hw,rfl,rfl,I⟩:=hrel;by_cases k:j<l.length
   .have hk:(j:Int)<(l.length:Int):=oM;obtain⟨n,r⟩:∃n,Hid ((l[j]'k).1=n):=⟨(l[j]'k).1,(rfl:(l[j]'k).1=(l[j]'k).1)⟩
    obtain⟨p,P⟩:∃p,Hid ((l[j]'k).2=p):=⟨(l[j]'k).2,(rfl:(l[j]'k).2=(l[j]'k).2)⟩
    obtain⟨i,q⟩:=yH ((LF (l.take j)).length);have y:i<l.length:=by have:=HZ j h7 oM;rw[q.out]at this;omega
    rw[q.out];have h4:Hid (p.size=33):=P.out▸J.2.2.2.2 j k;have hi:Hid (n<top):=r.out▸J.2.2.2.1 _ (YS k);have B0:Hid (wr.rangeAt g (37*j) (wn n++aA p)):=by
     have h:=I.hi j k (XD _);unfold Rw at h;rw[r.out,P.out]at h;exact h
    obtain⟨K,h9⟩:=yH (wr.alloc (.cells zT.toArray 124));obtain⟨U,Z⟩:=yH (K.setCells wr.heap.size 0 (wn n++aA p));have s:(wn n++aA p).length=37:=iF h4;have F1:Hid (Row K wr.heap.size zT/\kZ wr K/\K.heap.size=wr.heap.size+1):=by rw[<-h9.out];exact⟨row_new wr _ _,aD _,XP _ _⟩
    have F2:Hid (Row U wr.heap.size (wn n++aA p)/\kZ wr U):=by rw[<-Z.out];exact⟨F1.1.put (by rw[s];rfl),RG.below_setCells (XD _) _ _ _ F1.2.1⟩
    have M:Hid (gZ 124 (wn n++aA p).length):=by show _=_;rw[s];exact iT
    have N:Hid (gZ 124 (wn n++aA p).toArray.size/\K.there wr.heap.size 0 (wn n++aA p).toArray.size):=by
     have e:(wn n++aA p).toArray.size=37:=by rw[YF];exact s
     rw[e];exact⟨iT,F1.1.2.2⟩
    have h8:Hid ((wn n++aA p).toArray.all (·.oneCell')=true):=by
     show _=_;rw[ZJ];intro u o;exact cells_one u (yAI.1 o)
    have hp:=atT g 0 c k;obtain⟨vt,h2⟩:=yH (tvl n p);have o:Hid (X9 (wn n++aA p).toArray=vt):=h2;have K2:Hid (Dz d w U g l j):=I.grow F2.2;have HN:=Hid.mk' (Kk hi h4 U);rw[h2.out]at HN;clear I;go_wp2_with (first|(refine YI rfl 124 _ rfl g (37*j) ?_ (wn n++aA p) d' ?_ ?_ ?_ ?_ ?_;rfl;exact B0;exact S.1;exact S.2;exact M;rw[o.out])|(refine bH (v:=jZ wr.heap.size) (w':=K) rfl (.alloc 124) rfl ?_ ?_;(rw[<-h9.out];kernel_rfl))|(refine Yk rfl 124 _ _ rfl wr.heap.size 0 (wn n++aA p).toArray ?_ ?_ ?_ ?_ ?_ ?_;rfl;exact o.symm;exact N.2;exact N.1;exact h8;rw[show(wn n++aA p).toArray.toList=wn n++aA p from rfl,Z.out])|(refine YI rfl 124 _ rfl wr.heap.size 0 ?_ (wn n++aA p) d' ?_ ?_ ?_ ?_ ?_;rfl;exact F2.1.2.1;exact S.1;exact S.2;exact M;rw[o.out])|fail)
    refine HN.mono ?_;rintro e W3 ⟨vv,rfl,Q,rfl⟩;have K3:Hid (Dz d w W3 g l j/\Row W3 wr.heap.size (wn n++aA p)):=⟨K2.grow Q,F2.1.below Q⟩
    clear Q K2 HN F2 F1;by_cases H:n=0
    .rw[show decide (n=0)=true by simp[H]];have K4:Hid (Dz d w W3 g l (j+1)):=K3.1.skip k (r.out▸H);have R:Hid ((LF (l.take (j+1))).length=i):=by
      show _=_;rw[qA k,yEX (r.out▸H),yAk];exact q
     go_wp2;go_roundg (gk-1)
     case measure=>omega
     case rel=>exact⟨j+1,oM,oM,rfl,by rw[R.out],K4⟩
    .rw[show decide (n=0)=false by simp[H]];obtain⟨W4,h3⟩:=yH (W3.setCells g (37*i) (wn n++aA p));have K4:Hid (Dz d w W4 g l (j+1)):=by
      have h:=K3.1.put J.1 J.2.2.1 k (r.out▸H);rw[q.out,r.out,P.out,h3.out]at h;exact h
     have R:Hid ((LF (l.take (j+1))).length=i+1):=by
      show _=_;rw[qA k,yEY (r.out▸H),XK,q.out];rfl
     have hg:Hid (W3.there g (37*i) (wn n++aA p).toArray.size):=by
      have e:(wn n++aA p).toArray.size=37:=by rw[YF];exact s
      rw[e];intro t ht;have:=K3.1.th (37*i+t) oM;rwa[XI]at this
     have hm:=atT g 0 c y;go_wp2_with (first|(refine YI rfl 124 _ rfl wr.heap.size 0 ?_ (wn n++aA p) d' ?_ ?_ ?_ ?_ ?_;rfl;exact K3.2.2.1;exact S.1;exact S.2;exact M;rw[o.out])|(refine Yk rfl 124 _ _ rfl g (37*i) (wn n++aA p).toArray ?_ ?_ ?_ ?_ ?_ ?_;rfl;exact o.symm;exact hg;exact N.1;exact h8;rw[show(wn n++aA p).toArray.toList=wn n++aA p from rfl,h3.out])|fail)
     go_roundg (gk-1)
     case measure=>omega
     case rel=>exact⟨j+1,oM,oM,rfl,by rw[R.out];rfl,K4⟩
   .have hk:¬(j:Int)<(l.length:Int):=oM;obtain rfl:j=l.length:=oM;have L:LF (l.take l.length)=LF l:=by rw[yCl]
    rw[L];have y:(LF l).length<l.length:=by have:=HZ l.length h7 (XD _);rw[L]at this;exact this
    have s:∀a (O:a<(LF l).length),Rw wr g a ((LF l)[a]):=λa O=>by
     have:=I.lo a (by rw[L];exact O);simp only[L]at this;exact this
    have o:∀x∈LF l,(wn x.1++aA x.2).length=37:=λx hx=>iF (J.2.2.1 _ (YC.2 ⟨x,B9 hx,rfl⟩))
    obtain⟨Z,P⟩:=OO g (LF l).length (l.length-(LF l).length) (c-(LF l).length) wr oM (by rw[show(LF l).length+(l.length-(LF l).length)=l.length by omega];exact I.th);obtain⟨H,r⟩:=yH (wr.setCells g (37*(LF l).length) Z);rw[r.out]at P;have N:Hid (Below d w H/\TmL H (some (aZ g)) (LF l)):=by
     rw[<-r.out];refine⟨RG.below_setCells J.1 _ _ _ I.bl,λ_=>⟨g,rfl,by rw[setCells_size];exact I.lt,λa O=>?_⟩⟩;exact Yn (s a O) g _ _ (X7 (Ye (by rw[o _ (YS O)];omega)))
    have M:=V4 g y J.2.1;have K:=V5 g (LF l).length oM J.2.1;clear I s o L r;obtain⟨i,q⟩:=yH ((LF l).length);rw[q.out]at M K P y⊢;go_wp2;go_ret;exact⟨_,rfl,N.1,some (aZ g),c,by rw[q.out];rfl,N.2⟩
def TK{p:Option Y0}{n c:Nat}{x:UInt8}:encB x≠.slice p n c:=λh=>by cases h
def El(n:Nat)(W:XA)(x:XB)(b:Bs):Prop:=∃k c,x=sZ k n c/\n<=c/\b.size=n/\k<W.heap.size/\hZ W k 0 b
def isL(n:Nat)(W:XA)(g:Nat):Prop:=∃p c,W.cell? ⟨g,0,none⟩=some (.slice p n c)
structure Gr(n:Nat)(v:XB)(W W':XA):Prop where
 gr:W.grownBy W' v.ownBlock
 is:∀g,v.ownBlock=some g->isL n W g
def Gr.of{W W':XA}{n:Nat}(h:kZ W W'):Gr n nZ W W':=
 ⟨⟨h.os,h.tape,h.output,h.size,λk c _=>h.block k c⟩,λg b=>by cases b⟩
def Gr.below{n:Nat}{v:XB}{w W W':XA}{B:Nat}(h:Gr n v W W')(c:Below B w W)(d:B<=W.heap.size)(hv:∀g,v.ownBlock=some g->B<=g):Below B w W':=
 c.grown h.gr d (λk b=>hv k b)
def Gr.block{n k:Nat}{v:XB}{W W':XA}(h:Gr n v W W')(f:k<W.heap.size)(b:∀p c,W.cell? ⟨k,0,none⟩≠some (.slice p n c)):W'.heap[k]? = W.heap[k]? :=
 h.gr.block k f λe=>by
  obtain⟨p,c,d⟩:=h.is k e.symm;exact b p c d
def Holds.kept{W W':XA}{k:Nat}{b:Bs}(h:hZ W k 0 b)(e:W'.heap[k]? = W.heap[k]?):hZ W' k 0 b:=λj c=>by
 rw[X4 (a:=⟨k,0+j,none⟩) e,Y2 (a:=⟨k,0+j,none⟩) e];exact h j c
def El.kept{m n:Nat}{v x:XB}{W W':XA}{b:Bs}(h:El m W x b)(l:0<m)(e:Gr n v W W'):El m W' x b:=by
 obtain⟨k,c,rfl,g,i,f,d⟩:=h;refine⟨k,c,rfl,g,i,XC f e.gr.size,Holds.kept d (e.block f λp o j=>?_)⟩;have:=(d 0 oM).1;rw[XI,j]at this;exact TK (XX.inj this).symm
def Row.kept{n k:Nat}{v:XB}{W W':XA}{vs:List XB}(h:Row W k vs)(f:Gr n v W W')(b:∀p c,vs[0]?≠some (.slice p n c))(g:0<vs.length):Row W' k vs:=by
 have e:=f.block h.1 λp c i=>by
  have d:=h.2.1 0 vs[0] (XO g);rw[XI,i]at d;exact b p c (by rw[XO g,d])
 refine⟨XC h.1 f.gr.size,λj u d=>?_,λj d=>?_⟩
 .rw[X4 (a:=⟨k,0+j,none⟩) e];exact h.2.1 j u d
 .rw[X4 (a:=⟨k,0+j,none⟩) e,Y2 (a:=⟨k,0+j,none⟩) e];exact h.2.2 j d
structure Lo(n base:Nat)(W:XA)(v:XB)(bs:List Bs):Prop where
 ex:∃xs:List XB,xs.length=bs.length/\W.ownsRow base 23 1 v bs.length xs/\∀(j:Nat) (x:XB) (b:Bs),xs[j]? = some x->bs[j]? = some b->El n W x b
 nil:bs=[]->v=nZ
def Lo.begin(n k:Nat)(W:XA):Lo n k W nZ []:=⟨⟨[],rfl,yB8 _ _ _ _,λj x b h=>by cases h⟩,λ_=>rfl⟩
def add0(g j:Nat):(⟨g,0,none⟩:Y0).add j=⟨g,j,none⟩:=by unfold yBT;split<;>simp_all
def Lo.isL{n d:Nat}{W:XA}{v:XB}{f:List Bs}(h:Lo n d W v f){g:Nat}(i:v.ownBlock=some g):isL n W g:=by
 obtain⟨xs,l,o,m⟩:=h.ex;have j:f≠[]:=λe=>by rw[h.nil e]at i;cases i
 cases f with
 | nil=>exact absurd rfl j
 | cons b r =>
  cases xs with
  | nil=>cases l
  | cons x xr =>
   obtain⟨k,c,rfl,-⟩:=m 0 x b rfl rfl;have:=o.cells i 0 _ rfl;rw[add0]at this;exact⟨_,_,this⟩
def Lo.lt{n k:Nat}{W:XA}{v:XB}{b:List Bs}(h:Lo n k W v b):∀g,v.ownBlock=some g->k<=g/\g<W.heap.size:=by
 obtain⟨xs,e,c,d⟩:=h.ex;exact c.lt
def Lo.kept{m n d:Nat}{W W':XA}{v s:XB}{l:List Bs}(h:Lo m d W v l)(r:0<m)(f:Gr n s W W')(i:m≠n):Lo m d W' v l:=by
 have o:=λ{g}=>h.isL (g:=g)
 obtain⟨xs,t,u,y⟩:=h.ex;refine⟨⟨xs,t,u.kept f.gr ?_,λj x b hx q=>(y j x b hx q).kept r f⟩,h.nil⟩;cases hv:v.ownBlock with
 | none=>exact Ye rfl
 | some g =>
  refine X7 λe=>i ?_
  obtain⟨p,c,w⟩:=o hv;obtain⟨z,a,k⟩:=f.is g e.symm;rw[w]at k;injection k with k
  injection k with _ h5 _
def UK:(prog.info? 23).map (λi=>(i.size,i.bytes,i.zero.map λz=>z.cells.size))=some (1,24,some 1):=kR
def VV:prog.underlying 27=some (.slice 23):=kR
def Lo.app{n f g:Nat}{W:XA}{v x:XB}{o:List Bs}{b:Bs}(h:Lo n f W v o)(w:0<n)(hx:El n W x b)(L:W.cell? ⟨g,0,none⟩=some x)(Q:o.length<=1000000)(D:f<=W.heap.size):
 ∃q W',(YG #[27,27] 27 #[v,sZ g 1 1]).run prog W=.ok q W'/\Lo n f W' q (o++[b])/\Gr n v W W':=by
 obtain⟨i,B,t⟩:=XE.1 UK;simp only[Ze.injEq]at t;obtain⟨H,K,M⟩:=t;obtain⟨z,A,r⟩:=XE.1 M;obtain⟨xs,a,E,I⟩:=h.ex;obtain⟨q,W',N,C,J,O⟩:=yBm (P:=prog) W f 27 27 23 i z 1 24 VV B A H K r dC v o.length xs E (aZ g) 1 1 [x] rfl
  (λj u s=>by
   cases j with
   | zero =>
    obtain rfl:x=u:=by simpa using s
    rw[add0];exact L
   | succ j=>simp at s) (λu l=>by
   obtain rfl:u=x:=by simpa using l
   obtain⟨k,c,rfl,-⟩:=hx;rfl) (by unfold maxLen;omega) oM D
 have G:Gr n v W W':=⟨J,λg F=>h.isL F⟩
 refine⟨q,W',N,⟨⟨xs++[x],by simp[a],by rw[XK];exact C,λj y c m l=>?_⟩,λe=>by simp at e⟩,G⟩;by_cases s:j<o.length
 .rw[XY oM]at m l;exact(I j y c m l).kept w G
 .rw[XW oM]at m l;rw[a]at m;cases p:j-o.length with
  | zero =>
   rw[p]at m l;obtain rfl:x=y:=by simpa using m
   obtain rfl:b=c:=by simpa using l
   exact hx.kept w G
  | succ d=>rw[p]at m;simp at m
def Ia{w:XA}{a:Bs}(f:a.size=33):YN prog 19 #[pvl a] w (rZ w λe w'=>El 33 w' e a):=by
 have g:=Hid.mk' (sL f w);obtain⟨c,b⟩:=hE (w.alloc (.cells (aA a).toArray 51));rw[b.out]at g;have K:Hid (Row c w.heap.size (aA a)/\kZ w c):=by rw[<-b.out];exact⟨row_new w _ _,aD _⟩
 obtain⟨va,k⟩:=hE (pvl a);have d:Hid ((Ys 51 va).run prog w=.ok (jZ w.heap.size) c):=by rw[<-k.out];exact g
 rw[k.out];have i:=TT w.heap.size;go_enter func19,ntmps19;go_wp2_with (first|(refine aG (u:=va) (v:=jZ w.heap.size) (w':=c) rfl 51 (.tmp 0) rfl ?_ ?_ ?_;rfl;exact d))
 go_ret;exact⟨_,rfl,K.2,w.heap.size,33,rfl,oM,f,K.1.1,row_holds K.1⟩
def Bo(n c:Nat)(W:XA)(v:XB)(b:Bs):Prop:=∃k x,v=sZ k 1 1/\c<=k/\k<W.heap.size/\W.cell? ⟨k,0,none⟩=some x/\El n W x b
def Bo.kept{m n d:Nat}{W W':XA}{v u:XB}{b:Bs}(h:Bo n d W v b)(p:0<n)(c:Gr m u W W')(i:∀g,u.ownBlock=some g->g<d):Bo n d W' v b:=by
 obtain⟨k,x,rfl,l,f,o,j⟩:=h;refine⟨k,x,rfl,l,XC f c.gr.size,?_,j.kept p c⟩;rw[X4 (a:=⟨k,0,none⟩) (c.gr.block k f λe=>oN (i k e.symm))];exact o
def Tm(W:XA)(q:Option Y0)(k:Nat)(ns:Nat->Nat)(b:Nat->Bs):Prop:=0<k->∃g,q=some (aZ g)/\g<W.heap.size/\∀j,j<k->W.rangeAt g (37*j) (wn (ns j)++aA (b j))
def Tm.kept{m k:Nat}{W W':XA}{u:XB}{q:Option Y0}{ns:Nat->Nat}{b:Nat->Bs}(h:Tm W q k ns b)(d:Gr m u W W'):Tm W' q k ns b:=λf=>by
 obtain⟨g,r,n,o⟩:=h f;refine⟨g,r,XC n d.gr.size,λj t i v hv=>?_⟩;have e:=d.block n λp c s=>by
  have l:=o 0 f 0 _ (show(wn (ns 0)++aA (b 0))[0]? = some _ from rfl);rw[show 37*0+0=0 from rfl,s]at l;cases l
 rw[X4 (a:=⟨g,37*j+i,none⟩) e];exact o j t i v hv
section
variable (w0:XA) (v3 v4:XB) (k6 n B0 base:Nat) (p:Bs) (bs cs:List Bs) (q:Option Y0) (k:Nat) (ns:Nat->Nat) (az:Nat->Bs)
def PR:Nat->XB->XA->Prop
 | 0,v,_=>v=v3
 | 1,v,_=>v=jZ k6
 | 2,v,_=>v=nv n
 | 3,v,w=>El 32 w v (bx n)
 | 4,v,w=>Bo 32 B0 w v (bx n)
 | 5,v,w=>Lo 32 base w v (bs++[bx n])
 | 6,v,_=>v=v4
 | 7,v,_=>v=oZ k6 4
 | 8,v,_=>v=pvl p
 | 9,v,w=>El 33 w v p
 | 10,v,w=>Bo 33 B0 w v p
 | 11,v,w=>Lo 33 base w v (cs++[p])
 | 12,v,w=>Lo 32 base w v (bs++[bx n])
 | 13,v,w=>Lo 33 base w v (cs++[p])
 | _,_,_=>True
def PBs:Nat->XA->Prop
 | 0,w=>Row w k6 (wn n++aA p)
 | 1,w=>Lo 32 base w v3 bs
 | 2,w=>Lo 33 base w v4 cs
 | 3,w=>Below base w0 w/\base<=w.heap.size/\B0<=w.heap.size
 | 4,w=>Tm w q k ns az
 | 5,w=>Row w base z33
 | _,_=>True
def PE:Nat->XA->XA->Prop
 | 5=>Gr 32 v3
 | 11=>Gr 33 v4
 | _=>Gr 0 nZ
def Pk1:Nat->List Nat
 | 4=>[5]
 | 10=>[11]
 | _=>[]
def Pk2:Nat->List Nat
 | 1=>[5]
 | 2=>[11]
 | _=>[]
def FP:Flow:=⟨PR v3 v4 k6 n B0 base p bs cs,PBs w0 v3 v4 k6 n B0 base p bs cs q k ns az,PE v3 v4,Pk1,Pk2⟩
def MG{i:Nat}{w w':XA}(h:PE v3 v4 i w w'):∃m u,Gr m u w w'/\((i=5/\m=32/\u=v3)\/(i=11/\m=33/\u=v4)\/(i≠5/\i≠11/\m=0/\u=nZ)):=by
 unfold PE at h;split at h
 .exact⟨_,_,h,Ye ⟨rfl,rfl,rfl⟩⟩
 .exact⟨_,_,h,X7 (Ye ⟨rfl,rfl,rfl⟩)⟩
 .rename_i h1 h2
  exact⟨_,_,h,X7 (X7 ⟨h1,h2,rfl,rfl⟩)⟩
variable (hv3:∀g,v3.ownBlock=some g->base<=g/\g<B0) (hv4:∀g,v4.ownBlock=some g->base<=g/\g<B0)
include hv3 hv4
def MF{i m:Nat}{u:XB}(h:(i=5/\m=32/\u=v3)\/(i=11/\m=33/\u=v4)\/(i≠5/\i≠11/\m=0/\u=nZ)):∀g,u.ownBlock=some g->base<=g/\g<B0:=by
 rcases h with⟨-,-,rfl⟩|⟨-,-,rfl⟩|⟨-,-,-,rfl⟩
 .exact hv3
 .exact hv4
 .intro g k;cases k
def Tq{i j:Nat}(s:j<14)(d:i≠j)(t:(Pk1 j).contains i=false)(o:¬(j=12/\i=5))(f:¬(j=13/\i=11))(v:XB)(w w':XA)(hE:PE v3 v4 i w w')(hR:PR v3 v4 k6 n B0 base p bs cs j v w):PR v3 v4 k6 n B0 base p bs cs j v w':=by
 obtain⟨m,u,k,q⟩:=MG v3 v4 hE;have r:=MF v3 v4 B0 base hv3 hv4 q;have l:m=32->i=5:=λh=>by rcases q with⟨o,-⟩|⟨-,f,-⟩|⟨-,-,f,-⟩<;>omega
 have c:m=33->i=11:=λh=>by rcases q with⟨-,f,-⟩|⟨o,-⟩|⟨-,-,f,-⟩<;>omega
 match j,s,hR with
 | 0,_,h=>exact h
 | 1,_,h=>exact h
 | 2,_,h=>exact h
 | 3,_,h=>exact El.kept h dC k
 | 4,_,h=>exact Bo.kept h dC k λg b=>(r g b).2
 | 5,_,h=>exact Lo.kept h dC k λe=>d (l e.symm)
 | 6,_,h=>exact h
 | 7,_,h=>exact h
 | 8,_,h=>exact h
 | 9,_,h=>exact El.kept h dC k
 | 10,_,h=>exact Bo.kept h dC k λg b=>(r g b).2
 | 11,_,h=>exact Lo.kept h dC k λe=>d (c e.symm)
 | 12,_,h=>exact Lo.kept h dC k λe=>o ⟨rfl,l e.symm⟩
 | 13,_,h=>exact Lo.kept h dC k λe=>f ⟨rfl,c e.symm⟩
 | _+14,s,_=>omega
def Pi{i b:Nat}(f:(Pk2 b).contains i=false)(w w':XA)(hE:PE v3 v4 i w w')(hR:PBs w0 v3 v4 k6 n B0 base p bs cs q k ns az b w):PBs w0 v3 v4 k6 n B0 base p bs cs q k ns az b w':=by
 obtain⟨m,u,d,r⟩:=MG v3 v4 hE;have t:=MF v3 v4 B0 base hv3 hv4 r;have s:m=32->i=5:=λh=>by rcases r with⟨v,-⟩|⟨-,o,-⟩|⟨-,-,o,-⟩<;>omega
 have l:m=33->i=11:=λh=>by rcases r with⟨-,o,-⟩|⟨v,-⟩|⟨-,-,o,-⟩<;>omega
 match b,f,hR with
 | 0,_,h=>exact Row.kept h d (λp c e=>by cases e) (by rw[XK];exact XC dC (yBK 4 _))
 | 1,f,h=>exact Lo.kept h dC d λe=>by rw[s e.symm]at f;cases f
 | 2,f,h=>exact Lo.kept h dC d λe=>by rw[l e.symm]at f;cases f
 | 3,_,h=>exact⟨d.below h.1 h.2.1 λg j=>(t g j).1,XH h.2.1 d.gr.size,XH h.2.2 d.gr.size⟩
 | 4,_,h=>exact Tm.kept h d
 | 5,_,h=>exact Row.kept h d (λp c e=>by cases e) dC
 | _+6,_,_=>trivial
end
def Lo.drew{n k:Nat}{W:XA}{v:XB}{b:List Bs}(h:Lo n k W v b):Lo n k W.drew v b:=⟨h.ex,h.nil⟩
def SumR.all(C:Fld P)(O:Ord N){w w':XA}{k:Nat}(y:k<=512){ns:Nat->Nat}{X:Nat->EC.Pt P}(o:∀j,j<k->ns j<N)(u:∀j,j<k->On (X j)){L M:Nat->Bs}(t:∀j,j<k->L j=bx (ns j))(v:∀j,j<k->M j=wr (X j)){e:XB}(h:SumR P N w k k L M e w'):
 I1 w (wr (tot X k (λj=>(ns j:Int)))) e w':=by
 have q:∀j,j<k->rq N (L j)=some (ns j):=λj b=>by
  rw[t j b];have c:=EZ (XC (o j b) O.le);unfold rq;rw[yEX ⟨cQ _,by rw[c];exact o j b⟩,c]
 have s:∀j,j<k->∃p,rd P (M j)=some p/\pt p=X j:=λj b=>by rw[v j b];exact xR C (u j b)
 rcases h with⟨h,-⟩|⟨-,h,-⟩|⟨-,-,⟨⟨j,b,c⟩,-⟩|⟨d,m,⟨⟨j,b,c⟩,-⟩|⟨xs,ys,l,h⟩⟩⟩
 .exact absurd rfl h
 .omega
 .rw[q j b]at c;cases c
 .obtain⟨p,f,-⟩:=s j b;rw[f]at c;cases c
 .have r:∀j,j<k->d j=ns j:=λj b=>by
   have:=m j b;rw[q j b]at this;exact(XX.inj this).symm
  have f:∀j,j<k->Pair (xs j) (ys j) (X j)/\On (X j):=λj b=>by
   obtain⟨p,f,hpt⟩:=s j b;have n:=l j b;rw[f]at n;have x:=XX.inj n;have g:=Ub C f;rw[hpt]at g;rw[x]at g;exact g
  have n:=Ch C (ns:=d) (xs:=xs) (ys:=ys) (p:=X) (N:=k) (λi g=>by rw[r i g];exact XC (o i g) O.le) (λi g=>(f i g).1) (λi g=>(f i g).2);have x:tot X k (λj=>(d j:Int))=tot X k (λj=>(ns j:Int)):=eJ k λj b=>by rw[r j b]
  rw[x]at n;rw[<-wO C (n.pair C) n.2];exact h
structure Pz(w W:XA)(q:Option Y0)(k i:Nat)(ns:Nat->Nat)(az:Nat->Bs)(s3 s4:XB):Prop where
 bl:kZ w W
 l3:Lo 32 w.heap.size W s3 ((YA i).map λj=>bx (ns j))
 l4:Lo 33 w.heap.size W s4 ((YA i).map az)
 tm:Tm W q k ns az
 r2:Row W w.heap.size z33
def El.of_made{w w':XA}{k n:Nat}{b:Bs}(h:Made w k (cb b) w')(c:b.size=n):El n w' (sZ k n n) b:=⟨k,n,rfl,XD _,c,h.lt,cb_holds h.range h.there⟩
def Xj{x:XB}(hx:∃p n c,x=.slice p n c)(w:XA):(Yw 27 1 #[(0,x)]).run prog w=.ok (sZ w.heap.size 1 1) (w.alloc (.cells #[x] 23)):=by
 obtain⟨p,n,c,rfl⟩:=hx;kernel_rfl
def Bo.of{n k:Nat}{w:XA}{x:XB}{b:Bs}(h:El n w x b)(c:0<n)(d:k<=w.heap.size)(T:Yd):Bo n k (w.alloc (.cells #[x] T)) (sZ w.heap.size 1 1) b:=
 ⟨w.heap.size,x,rfl,d,by rw[XP];omega,by rw[World.cell?_alloc_new];rfl,h.kept c (Gr.of (n:=0) (aD _))⟩
def Lo.args{n k:Nat}{W:XA}{v:XB}{c:List Bs}(h:Lo n k W v c):∃q cap,v=.slice q c.length cap/\(0<c.length->∃g,q=some (aZ g)/\g<W.heap.size/\∀(j:Nat) (b:Bs),c[j]? = some b->∃x,W.cell? ⟨g,j,none⟩=some x/\El n W x b):=by
 obtain⟨xs,l,e,p⟩:=h.ex;have i:=λ{g:Nat}=>e.cells (g:=g)
 rcases e.2 with⟨rfl,m⟩|⟨g,cap,cur,rfl,-,o,-⟩
 .exact⟨none,0,by rw[m],λh=>oM⟩
 .refine⟨_,_,rfl,λ_=>⟨g,rfl,(X5.1 o).1,λj b d=>?_⟩⟩;have f:j<xs.length:=by rw[l];exact(XM.1 d).1
  have:=i (g:=g) rfl j xs[j] (XO f);rw[add0]at this;exact⟨_,this,p j _ b (XO f) d⟩
def El.arg{W:XA}{x:XB}{b:Bs}(h:El 32 W x b):Arg W x b:=by
 obtain⟨k,c,rfl,f,g,e,d⟩:=h;exact⟨_,_,_,rfl,g,λ_=>⟨k,0,rfl,f,e,d⟩⟩
def El.arg33{W:XA}{x:XB}{b:Bs}(h:El 33 W x b):Arg33 W x b:=by
 obtain⟨k,c,rfl,f,g,e,d⟩:=h;exact⟨_,_,_,rfl,g,λ_=>⟨k,0,rfl,f,e,d⟩⟩
def xH(C:Fld P)(O:Ord N)(v:XB)(w:XA)(k:Nat)(hk:k<=512)(ns:Nat->Nat)(X:Nat->EC.Pt P)(hn:∀j,j<k->ns j<N)(hX:∀j,j<k->On (X j))
 (B:∀W,kZ w W->cZ 63 #[v] W (rZ W λe w'=>∃q cap,e=.slice q k cap/\Tm w' q k ns (λj=>wr (X j)))) :
 cZ 33 #[v] w (rZ w λe w'=>e=pvl (wr (tot X k (λj=>(ns j:Int))))):=by
 have HM:=Hid.mk' B;have y:Hid (Fld P/\Ord N/\(∀j,j<k->ns j<N)/\∀j,j<k->On (X j)):=⟨C,O,hn,hX⟩
 obtain⟨s,S⟩:=yH ((λj=>wr (X j)):Nat->Bs);have E:Hid (∀j,s j=wr (X j)):=λj=>by rw[<-S.out]
 rw[S.out]at HM;obtain⟨Y,Q⟩:=yH (w.alloc (.cells z33.toArray 51));have K1:Hid (Row Y w.heap.size z33/\kZ w Y):=by rw[<-Q.out];exact⟨row_new w _ _,aD _⟩
 obtain⟨d,h5,hc⟩:=XE.1 uCP;obtain⟨d',ha,Z⟩:=XE.1 uT;have HD:Hid ((prog.underlying 51=some d/\d.isRow=true)/\prog.underlying 124=some d'/\d'.isRow=true):=⟨⟨h5,hc⟩,ha,Z⟩
 clear h5 hc ha Z B hn hX S C O;go_enter func33,ntmps33;go_wp2_with (refine bH (v:=jZ w.heap.size) (w':=Y) rfl (.alloc 51) rfl ?_ ?_;(rw[<-Q.out];kernel_rfl))
 clear Q;apply(HM Y K1.2).mono;rintro e w2 ⟨vv,rfl,H,q,cap,rfl,U⟩;have K2:Hid (Pz w w2 q k 0 ns s nZ nZ):=⟨K1.2.trans (H.mono K1.2.size),Lo.begin _ _ _,Lo.begin _ _ _,U,K1.1.below H⟩
 clear H U K1 HM;go_wp2_with fail
 go_loopg [3,4,12] k (λm s3 s4 s12 W=>∃i:Nat,i+m=k/\s12=iZ i/\Hid (Pz w W q k i ns s s3 s4))
 case atStart=>exact⟨0,oM,rfl,K2⟩
 case round =>
  clear K2;obtain⟨i,k2,rfl,l⟩:=hrel;by_cases hi:i<k
  .have hy:(i:Int)<(k:Int):=oM;obtain⟨g,hq,A,hr⟩:=l.tm oM;subst hq;obtain⟨n,J⟩:=yH (ns i);obtain⟨p,M⟩:=yH (s i);have B0:Hid (wr.rangeAt g (37*i) (wn n++aA p)):=by
    have h:=hr i hi;rw[J.out,M.out]at h;exact h
   have L:Hid (p.size=33):=by rw[<-M.out,E.out i];exact aL _
   have ht:Hid (n<N):=J.out▸y.2.2.1 i hi;obtain⟨D,hl⟩:=yH (wr.alloc (.cells zT.toArray 124));obtain⟨r,h8⟩:=yH (D.setCells wr.heap.size 0 (wn n++aA p));have f:(wn n++aA p).length=37:=by rw[XK,aB L.out];rfl
   have F1:Hid (Row D wr.heap.size zT/\kZ wr D/\D.heap.size=wr.heap.size+1):=by rw[<-hl.out];exact⟨row_new wr _ _,aD _,XP _ _⟩
   have F:Hid (Row r wr.heap.size (wn n++aA p)/\kZ wr r):=by rw[<-h8.out];exact⟨F1.1.put (by rw[f];rfl),RG.below_setCells (XD _) _ _ _ F1.2.1⟩
   have hs:Hid (gZ 124 (wn n++aA p).length):=by show _=_;rw[f];exact iT
   have h9:Hid (gZ 124 (wn n++aA p).toArray.size/\D.there wr.heap.size 0 (wn n++aA p).toArray.size):=by
    have e:(wn n++aA p).toArray.size=37:=by rw[YF];exact f
    rw[e];exact⟨iT,F1.1.2.2⟩
   have hz:Hid ((wn n++aA p).toArray.all (·.oneCell')=true):=by
    show _=_;rw[ZJ];intro u c;exact cells_one u (yAI.1 c)
   have k1:=atT g 0 cap hi;obtain⟨vt,t⟩:=yH (X9 (wn n++aA p).toArray);have G2:Gr 0 nZ wr r:=Gr.of F.2;have HB:Hid (∀b,PBs w u3 u4 wr.heap.size n r.heap.size w.heap.size p ((YA i).map λj=>bx (ns j)) ((YA i).map s) (some (aZ g)) k ns s b r.drew):=λb=>by
    match b with
    | 0=>exact F.1
    | 1=>exact(l.l3.kept dC G2 dC).drew
    | 2=>exact(l.l4.kept dC G2 dC).drew
    | 3=>exact⟨(l.bl.trans (F.2.mono l.bl.size)).drew,XH l.bl.size F.2.size,XD _⟩
    | 4=>exact l.tm.kept (W':=r) G2
    | 5=>exact l.r2.below (W':=r) F.2
    | _+6=>trivial
   have H3:Hid (∀g,u3.ownBlock=some g->w.heap.size<=g/\g<r.heap.size):=λg A=>⟨(l.l3.lt g A).1,XC (l.l3.lt g A).2 F.2.size⟩
   have H4:Hid (∀g,u4.ownBlock=some g->w.heap.size<=g/\g<r.heap.size):=λg A=>⟨(l.l4.lt g A).1,XC (l.l4.lt g A).2 F.2.size⟩
   have HG:=Hid.mk' A;clear f hr G2 l F A;go_wp2_with (first|(refine YI rfl 124 _ rfl g (37*i) ?_ (wn n++aA p) d' ?_ ?_ ?_ ?_ ?_;rfl;exact B0;exact HD.2.1;exact HD.2.2;exact hs;rw[t.out])|(refine bH (v:=jZ wr.heap.size) (w':=D) rfl (.alloc 124) rfl ?_ ?_;(rw[<-hl.out];kernel_rfl))|(refine Yk rfl 124 _ _ rfl wr.heap.size 0 (wn n++aA p).toArray ?_ ?_ ?_ ?_ ?_ ?_;rfl;exact t.symm;exact h9.2;exact h9.1;exact hz;rw[show(wn n++aA p).toArray.toList=wn n++aA p from rfl,h8.out])|fail)
   refine qV (FP w u3 u4 wr.heap.size n r.heap.size w.heap.size p ((YA i).map λj=>bx (ns j)) ((YA i).map s) (some (aZ g)) k ns s) kR ⟨kR,Dd ?_,λi' j k3 hj hw I z=>Tq u3 u4 wr.heap.size n r.heap.size w.heap.size p _ _ H3 H4 hj hw I (λh=>by rw[h.1,h.2]at z;exact absurd (show false=true from z.symm.trans kR) dC) (λh=>by rw[h.1,h.2]at z;exact absurd (show false=true from z.symm.trans kR) dC),λi' b _ I=>Pi w u3 u4 wr.heap.size n r.heap.size w.heap.size p _ _ _ k ns s H3 H4 I⟩ HB ?_
   .have o:∀W:XA,Gr 0 nZ W W:=λW=>Gr.of (XR _ _)
    refine⟨mY 3 λa W c=>⟨a.eval (.tmp 3),W,kR,kR,o W,c.o 3 kR⟩,
     mY 6 λa W c=>⟨jZ wr.heap.size,W,kR,by rw[show a.eval (.tmp 6)=jZ wr.heap.size from c.o 6 kR];kernel_rfl,o W,rfl⟩,
     BQ 17 rfl u40 λa W c=>⟨wr.heap.size,0,wn n,c.n 1 17 kR kR kR,kH (show Row W wr.heap.size (wn n++aA p) from c.b 0 kR).2.1,i40,o W,rfl⟩,
     GV 18 λa W c=>⟨10,#[nv n],kR,by rw[show a.eval (.tmp 18)=nv n from c.n 2 18 kR kR kR];kernel_rfl,(nP y.2.1 ht W).mono (by
      rintro e W' ⟨u,rfl,V,G,rfl⟩;exact⟨_,rfl,Gr.of G.bel,El.of_made G (cQ n)⟩)⟩,
     mY 19 λa W c=>⟨sZ W.heap.size 1 1,W.alloc (.cells #[a.eval (.tmp 19)] 23),kR,by
      obtain⟨V,R,G,-⟩:=show El 32 W (a.eval (.tmp 19)) (bx n) from c.n 3 19 kR kR kR
      rw[G];kernel_rfl,Gr.of (aD _),Bo.of (show El 32 W (a.eval (.tmp 19)) (bx n) from c.n 3 19 kR kR kR) dC (c.b 3 kR).2.2 _⟩,
     LZ 16 20 27 rfl λa W c=>?_,
     mY 4 λa W c=>⟨a.eval (.tmp 4),W,kR,kR,o W,c.o 4 kR⟩,
     mY 6 λa W c=>⟨oZ wr.heap.size 4,W,kR,by rw[show a.eval (.tmp 6)=jZ wr.heap.size from c.o 6 kR];kernel_rfl,o W,rfl⟩,
     BQ 23 rfl uCP λa W c=>⟨wr.heap.size,4,aA p,c.n 7 23 kR kR kR,mL (xs:=wn n) (show Row W wr.heap.size (wn n++aA p) from c.b 0 kR).2.1,by rw[aB L.out];exact cV,o W,rfl⟩,
     GV 24 λa W c=>⟨19,#[pvl p],kR,by rw[show a.eval (.tmp 24)=pvl p from c.n 8 24 kR kR kR];kernel_rfl,(Ia L).mono (by
      rintro e W' ⟨u,rfl,K,hE⟩;exact⟨_,rfl,Gr.of K,hE⟩)⟩,
     mY 25 λa W c=>⟨sZ W.heap.size 1 1,W.alloc (.cells #[a.eval (.tmp 25)] 23),kR,by
      obtain⟨V,R,G,-⟩:=show El 33 W (a.eval (.tmp 25)) p from c.n 9 25 kR kR kR
      rw[G];kernel_rfl,Gr.of (aD _),Bo.of (show El 33 W (a.eval (.tmp 25)) p from c.n 9 25 kR kR kR) dC (c.b 3 kR).2.2 _⟩,
     LZ 22 26 27 rfl λa W c=>?_,
     mY 21 λa W c=>⟨a.eval (.tmp 21),W,kR,kR,o W,c.n 5 21 kR kR kR⟩,
     mY 27 λa W c=>⟨a.eval (.tmp 27),W,kR,kR,o W,c.n 11 27 kR kR kR⟩,yEZ⟩
    .obtain⟨V,x,G,h1,h2,K,R⟩:=show Bo 32 r.heap.size W (a.eval (.tmp 20)) (bx n) from c.n 4 20 kR kR kR
     obtain⟨v',W',r1,r2,r3⟩:=Lo.app (show Lo 32 w.heap.size W u3 _ from c.b 1 kR) dC R K (by rw[XZ,ZZ];omega) (c.b 3 kR).2.1;refine⟨v',W',?_,r3,r2⟩;rw[G,show a.eval (.tmp 16)=u3 from c.n 0 16 kR kR kR];exact r1
    .obtain⟨V,x,G,h1,h2,K,R⟩:=show Bo 33 r.heap.size W (a.eval (.tmp 26)) p from c.n 10 26 kR kR kR
     obtain⟨v',W',r1,r2,r3⟩:=Lo.app (show Lo 33 w.heap.size W u4 _ from c.b 2 kR) dC R K (by rw[XZ,ZZ];omega) (c.b 3 kR).2.1;refine⟨v',W',?_,r3,r2⟩;rw[G,show a.eval (.tmp 22)=u4 from c.n 6 22 kR kR kR];exact r1
   .intro V G o c;have KN:Hid (Pz w G (some (aZ g)) k (i+1) ns s (V 12) (V 13)):=by
     have h1:=o 12 (Z6 (YL kR)) rfl;have h2:=o 13 (Z6 (YL kR)) rfl;refine⟨(c 3 rfl).1,?_,?_,c 4 rfl,c 5 rfl⟩
     .rw[yAT,Y1];show Lo 32 w.heap.size G (V 12) (_++[bx (ns i)]);rw[J.out];exact h1
     .rw[yAT,Y1];show Lo 33 w.heap.size G (V 13) (_++[s i]);rw[M.out];exact h2
    clear o c HB H3 H4;dsimp only[bW,YT];generalize V 12=s3 at KN⊢;generalize V 13=s4 at KN⊢;go_wp2;go_roundg (gk-1)
    case measure=>omega
    case rel=>exact⟨i+1,oM,rfl,KN⟩
  .have hy:¬(i:Int)<(k:Int):=oM;obtain rfl:i=k:=oM;obtain⟨q3,c3,rfl,K⟩:=l.l3.args;obtain⟨q4,c4,rfl,R⟩:=l.l4.args;rw[XZ,ZZ]at K R;have HA:Hid (wT wr q3 i (λj=>bx (ns j))):=λG=>by
    obtain⟨g,o,c,e3⟩:=K G;refine⟨g,o,c,λj hj=>?_⟩;obtain⟨x,z,r⟩:=e3 j (bx (ns j)) (by rw[YB,yBo hj];rfl);exact⟨x,z,r.arg⟩
   have HP:Hid (ArgsPts wr q4 i s):=λG=>by
    obtain⟨g,o,c,e3⟩:=R G;refine⟨g,o,c,λj hj=>?_⟩;obtain⟨x,z,r⟩:=e3 j (s j) (by rw[YB,yBo hj];rfl);exact⟨x,z,r.arg33⟩
   rw[XZ,ZZ,XZ,ZZ];have D:Hid (kZ w wr/\Row wr w.heap.size z33):=⟨l.bl,l.r2⟩
   clear K R l;go_wp2_with fail
   apply(SA y.1 y.2.1.gap y.2.1.le q3 q4 i c3 i c4 (λj=>bx (ns j)) s wr HA HP).mono;rintro e o ⟨vv,rfl,c,M⟩;obtain⟨L,cs,rfl,-,-,V,J⟩:=SumR.all y.1 y.2.1 oM y.2.2.1 y.2.2.2 (λ_ _=>rfl) (λj _=>E j) M;obtain⟨T,U⟩:=yH (Go.Proofs.YtlofhpkoaljmeaaGreat.wr (tot X i (λj=>(ns j:Int))));have I:T.size=33:=U.out▸aL _;rw[U.out]at J;have A:Hid (Row o w.heap.size z33/\kZ w o/\Row o L (aA T)):=⟨D.2.below c,D.1.trans (c.mono D.1.size),qN J V⟩
   clear c M V J D HA HP;have k0:=Hb L cs;obtain⟨F,r⟩:=yH (o.setCells w.heap.size 0 (aA T));have f:(aA T).length=33:=aB I;have K7:Hid (Row F w.heap.size (aA T)/\kZ w F):=by rw[<-r.out];exact⟨A.1.put (by rw[f];rfl),RG.below_setCells (XD _) _ _ _ A.2.1⟩
   obtain⟨vt,t⟩:=yH (X9 (aA T).toArray);have z:Hid (gZ 51 (aA T).length/\o.there w.heap.size 0 (aA T).toArray.size/\gZ 51 (aA T).toArray.size):=by
    have e:(aA T).toArray.size=33:=by rw[YF];exact f
    refine⟨by rw[f];exact cV,by rw[e];exact A.1.2.2,by rw[e];exact cV⟩
   clear f;go_wp2_with (first|(refine YI rfl 51 _ rfl L 0 ?_ (aA T) d ?_ ?_ ?_ ?_ ?_;rfl;exact A.2.2.2.1;exact HD.1.1;exact HD.1.2;exact z.1;rw[t.out])|(refine Yk rfl 51 _ _ rfl w.heap.size 0 (aA T).toArray ?_ ?_ ?_ ?_ ?_ ?_;rfl;exact t.symm;exact z.2.1;exact z.2.2;exact bN;rw[show(aA T).toArray.toList=aA T from rfl,r.out]))
   refine XN (aF 2 rfl K7.1 rfl uCP z.1) rfl ?_;exact⟨_,rfl,K7.2,by rw[U.out];rfl⟩
namespace EC
variable {P:Nat}[NeZero P]
def pts(P:Nat)[NeZero P]:List (Pt P):=
 none :: (yEi P).flatMap λx=>((yEi P).filter λy=>decide (y^2=x^3+7)).map λy=>some (x,y)
def mT{a:Pt P}:a∈pts P↔On a:=by
 unfold pts;rcases a with _|⟨x,y⟩
 .exact⟨λ_=>trivial,λ_=>YH⟩
 .rw[Y6,yCo];constructor
  .rintro(h|⟨u,-,h⟩)
   .cases h
   .obtain⟨v,hv,e⟩:=YC.1 h;cases e
    have k:=(yBJ.1 hv).2;exact(decide_eq_true_iff (p:=y^2=x^3+7)).1 k
  .intro h;have h:=h;exact X7 ⟨x,yDF x,YC.2 ⟨y,yBJ.2 ⟨yDF y,decide_eq_true h⟩,rfl⟩⟩
def AE:(pts P).Nodup:=by
 unfold pts;refine yAU.2 ⟨λh=>?_,?_⟩
 .obtain⟨u,-,h⟩:=yCo.1 h;obtain⟨v,-,e⟩:=YC.1 h;cases e
 .refine List.pairwise_flatMap.2 ⟨λx _=>yDE.2 ?_,?_⟩
  .refine yCG ?_ ((yBX P).sublist yDn);intro a b h e;exact h (by cases e;rfl)
  .refine yCG ?_ (yBX P);intro a b h u k v hv e;obtain⟨c,-,rfl⟩:=YC.1 k;obtain⟨d,-,rfl⟩:=YC.1 hv;exact h (by cases e;rfl)
def Nr{u v c:Fin P}(k:u^2=c)(hv:v^2=c):(u-v)*(u+v)=0:=by grobner
def Od{a b d:Fin P}(k:a+b=0)(c:a+d=0):b=d:=by grobner
def Hw(C:Cur P){c:Fin P}:∀l:List (Fin P),l.Nodup->(∀y,y∈l->y^2=c)->l.length<=2
 | [],_,_=>Zl _
 | [_],_,_=>Nat.le_succ _
 | [_,_],_,_=>XD _
 | a :: b :: d :: l,k,h=>by
  exfalso;have g:=h a (by simp);have n:=h b (by simp);have hd:=h d (by simp);have p:a≠b:=λe=>(yAU.1 k).1 (by rw[e];simp)
  have j:a≠d:=λe=>(yAU.1 k).1 (by rw[e];simp)
  have q:b≠d:=λe=>(yAU.1 (yAU.1 k).2).1 (by rw[e];simp)
  have f:∀u v:Fin P,u^2=c->v^2=c->u≠v->u+v=0:=λu v m hv k=>by
   exact Zo λi=>cG C.pr (qJ k) i (Nr m hv)
  have i:=f a b g n p;have o:=f a d g hd j;exact q (Od i o)
def C5{k:Nat}{α β:Type}{f:α->List β}(h:∀a,(f a).length<=k):∀l:List α,(l.flatMap f).length<=k*l.length
 | []=>Zl _
 | a :: l=>by
  rw[yCc,XK,Yx,yBA,yEs];exact Nat.add_le_add (C5 h l) (h a)
def Ou(C:Cur P):(pts P).length<=2*P+1:=by
 unfold pts;rw[Yx];refine Nat.succ_le_succ (XH (C5 (λx=>?_) _) (by rw[List.length_finRange];exact XD _));rw[XZ];exact Hw C (c:=x^3+7) _ ((yBX P).sublist yDn) λy k=>of_decide_eq_true (yBJ.1 k).2
def NV:0<(pts P).length:=Nat.succ_pos _
def vT:List (Pt P)->Pt P
 | []=>none
 | a :: l=>add a (vT l)
def wJ(C:Cur P):∀l:List (Pt P),(∀a,a∈l->On a)->On (vT l)
 | [],_=>jB
 | a :: l,h=>C.on (h a YH) (wJ C l λb k=>h b (Yo _ k))
def Iq(C:Cur P){l m:List (Pt P)}(p:l.Perm m):(∀a,a∈l->On a)->vT l=vT m:=by
 induction p with
 | nil=>intro _;rfl
 | cons x _ ih =>
  intro h;show add x _=add x _;rw[ih λb k=>h b (Yo _ k)]
 | swap x y l =>
  intro h;have c:=h y YH;have hx:=h x (Yo _ YH);have d:=wJ C l λb k=>h b (Yo _ (Yo _ k))
  show add y (add x (vT l))=add x (add y (vT l));rw[<-C.assoc c hx d,C.comm c hx,C.assoc hx c d]
 | trans p _ ih1 ih2 =>
  intro h;rw[ih1 h,ih2 λa k=>h a (p.mem_iff.2 k)]
def yJ(C:Cur P){r:Pt P}(k:On r):∀l:List (Pt P),(∀a,a∈l->On a)->vT (l.map λa=>add a r)=add (vT l) (mul l.length r)
 | [],_=>rfl
 | a :: l,h=>by
  have d:=h a YH;have c:∀b,b∈l->On b:=λb e=>h b (Yo _ e)
  show add (add a r) (vT (l.map _))=add (add a (vT l)) (add (mul l.length r) r);rw[yJ C k l c,C.comm (cE C k _) k,C.swap d k (wJ C l c) (cE C k _)]
def zV(C:Cur P){a b r:Pt P}(c:On a)(d:On b)(k:On r)(e:add a r=add b r):a=b:=by
 have:add (add a r) (neg r)=add (add b r) (neg r):=by rw[e]
 rwa[C.assoc c k (cD k),C.assoc d k (cD k),add_neg,bK,bK]at this
def xM(C:Cur P){r:Pt P}(k:On r):((pts P).map λa=>add a r).Perm (pts P):=by
 refine(List.perm_ext_iff_of_nodup ?_ AE).2 λa=>?_
 .refine yDE.2 (List.Pairwise.imp_of_mem ?_ (AE (P:=P)));intro a b c d h e;exact h (zV C ((mT).1 c) ((mT).1 d) k e)
 .rw[mT,YC];constructor
  .rintro⟨b,d,rfl⟩;exact C.on ((mT).1 d) k
  .intro c;refine⟨add a (neg r),(mT).2 (C.on c (cD k)),?_⟩;rw[C.assoc c (cD k) k,C.neg_l k,bK]
def Gl(C:Cur P){r:Pt P}(k:On r):mul (pts P).length r=none:=by
 have e:∀a,a∈pts P->On a:=λa b=>(mT).1 b
 have d:=yJ C k (pts P) e;rw[Iq C (xM C k) λa b=>(mT).1 ((xM C k).mem_iff.1 b)]at d;have c:=wJ C (pts P) e;have f:=cE C k (pts P).length;have g:add (mul (pts P).length r) (vT (pts P))=add none (vT (pts P)):=by
  rw[C.comm f c,<-d,jS]
 exact zV C f jB c g
def mQ(C:Cur P){a:Pt P}(k:On a)(m:Nat):∀n,mul (m*n) a=mul n (mul m a)
 | 0=>rfl
 | n+1=>by
  rw[yBA,mul_add C k,mQ C k m n];rfl
def nW:∀n,mul n (none:Pt P)=none
 | 0=>rfl
 | n+1=>by
  show add (mul n none) none=none;rw[nW n];rfl
def DF(C:Cur P){a:Pt P}(k:On a)(e:add a a=none):a=none:=by
 rcases a with _|⟨x,y⟩
 .rfl
 .exfalso;have ho:=C.opp_ne k;rw[cC C.pr C.two k k ho (bT C.pr C.two k k ho)]at e;cases e
def J8(C:Cur P){n:Nat}(f:IsP n)(p:2*P+1<3*n){g:Pt P}(b:On g)(l:g≠none)(j:mul n g=none){r:Pt P}(d:On r):mul n r=none:=by
 have hd:n ∣ (pts P).length:=Zo λhd=>by
  have i:=f.fermat1 _ hd;have e:mul ((pts P).length^(n-1)) g=none:=by
   have:n-1=(n-2)+1:=oN f.1;rw[this,Nat.pow_succ,YK,mQ C b,Gl C b,nW]
  have k:=yEa ((pts P).length^(n-1)) n;rw[i]at k;rw[<-k,mul_add C b,mQ C b,j,nW,jS]at e;exact l e
 obtain⟨c,m⟩:=hd;have i:=Ou C;have o:=NV (P:=P);have k:=Gl C d;rw[m]at i o k;have e:c<3:=Nat.lt_of_mul_lt_mul_left (a:=n) oM;match c,e with
 | 0,_=>omega
 | 1,_=>rwa[Nat.mul_one]at k
 | 2,_ =>
  rw[mQ C d]at k;exact DF C (cE C d n) k
end EC
def gA(P:Nat)[NeZero P](b:Bs):EC.Pt P:=match rd P b with|some p=>pt p|none=>none
def mD(C:Fld P){X:EC.Pt P}(h:On X):gA P (wr X)=X:=by
 obtain⟨p,k,b⟩:=xR C h;unfold gA;rw[k];exact b
def fN(P:Nat)[NeZero P]:LB->EC.Pt P
 | []=>none
 | x :: r=>EC.add (mul x.1 (gA P x.2)) (fN P r)
def PtsL(P:Nat)[NeZero P](l:LB):Prop:=∀x∈l,∃X:EC.Pt P,On X/\x.2=wr X
def PtsL.on(C:Fld P){l:LB}(h:PtsL P l){x:Nat × Bs}(hx:x∈l):On (gA P x.2):=by
 obtain⟨X,k,b⟩:=h x hx;rw[b,mD C k];exact k
def oQ(C:Fld P):∀ {l:LB},PtsL P l->On (fN P l)
 | [],_=>jB
 | x :: r,h=>C.cur.on (cE C.cur (h.on C YH) _) (oQ C λy k=>h y (Yo _ k))
def An{y:Nat × Bs}(C:Fld P)(b:On (gA P y.2)):∀ {l:LB},PtsL P l->fN P (l++[y])=EC.add (fN P l) (mul y.1 (gA P y.2))
 | [],_=>bK
 | x :: r,h=>by
  have k:PtsL P r:=λz c=>h z (Yo _ c)
  show EC.add (mul x.1 (gA P x.2)) (fN P (r++[y]))=_;rw[An C b k];exact(C.cur.assoc (cE C.cur (h.on C YH) _) (oQ C k) (cE C.cur b _)).symm
def Bh:∀l:LB,fN P (LF l)=fN P l
 | []=>rfl
 | x :: r=>by
  unfold LF;rw[List.filter_cons];by_cases h:x.1=0
  .rw[yEY (by simp[h])];show fN P (LF r)=EC.add (mul x.1 (gA P x.2)) (fN P r);rw[h,Bh r];rfl
  .rw[yEX (by simp[h])];show EC.add _ (fN P (LF r))=EC.add _ (fN P r);rw[Bh r]
def mul_mod(C:Fld P)(k:∀r:EC.Pt P,On r->mul N r=none){X:EC.Pt P}(b:On X)(n:Nat):mul (n%N) X=mul n X:=by
 have h:=mul_add C.cur b (N*(n/N)) (n%N);rw[yEa,mQ C.cur b N (n/N),k X b,nW,jS]at h;exact h.symm
def Ao{p:Bs}(C:Fld P)(k:∀r:EC.Pt P,On r->mul N r=none)(n:Nat)(c:On (gA P p)):∀ {l:LB},PtsL P l->fN P (fH N l n p)=EC.add (fN P l) (mul n (gA P p))
 | [],_=>bK
 | (s,q) :: r,h=>by
  have g:PtsL P r:=λz j=>h z (Yo _ j)
  have i:=h.on C (x:=(s,q)) YH;have f:=cE C.cur i s;have d:=oQ C g;have b:=cE C.cur c n;unfold fH;by_cases e:p=q
  .rw[yEX e];subst e;show EC.add (mul (sPl N s n) (gA P p)) (fN P r)=EC.add (EC.add (mul s (gA P p)) (fN P r)) (mul n (gA P p));unfold sPl;rw[mul_mod C k c,mul_add C.cur c,C.cur.assoc f b d,C.cur.assoc f d b,C.cur.comm b d]
  .rw[yEY e];show EC.add (mul s (gA P q)) (fN P (fH N r n p))=EC.add (EC.add (mul s (gA P q)) (fN P r)) (mul n (gA P p));rw[Ao C k n c g,C.cur.assoc f d b]
def He{n:Nat}{p:Bs}(k:∃X:EC.Pt P,On X/\p=wr X):∀ {l:LB},PtsL P l->PtsL P (fH N l n p)
 | [],_=>λx hx=>by
  have:x=(n,p):=by simpa[fH]using hx
  rw[this];exact k
 | (s,q) :: r,h=>by
  have b:PtsL P r:=λz c=>h z (Yo _ c)
  unfold fH;split
  .intro x hx;rcases Y6.1 hx with rfl|hx
   .exact h (s,q) YH
   .exact b x hx
  .intro x hx;rcases Y6.1 hx with rfl|hx
   .exact h (s,q) YH
   .exact He k b x hx
def Bz(ns:Nat->Nat)(X:Nat->EC.Pt P){k:Nat}(b:∀j,j<k->On (X j)):∀i,i<=k->PtsL P (mrg N ns (λj=>wr (X j)) i)
 | 0,_=>λx hx=>by cases hx
 | i+1,hi=>He ⟨X i,b i oM,rfl⟩ (Bz ns X b i oM)
def Gm{X:Nat->EC.Pt P}(C:Fld P)(b:∀r:EC.Pt P,On r->mul N r=none)(ns:Nat->Nat){k:Nat}(d:∀j,j<k->On (X j)):∀i,i<=k->fN P (mrg N ns (λj=>wr (X j)) i)=tot X i (λj=>(ns j:Int))
 | 0,_=>rfl
 | i+1,hi=>by
  have c:=d i oM;show fN P (fH N (mrg N ns (λj=>wr (X j)) i) (ns i) (wr (X i)))=EC.add (tot X i (λj=>(ns j:Int))) (mul (ns i) (X i));rw[Ao C b _ (by rw[mD C c];exact c) (Bz ns X d i oM),Gm C b ns d i oM,mD C c]
def xC{l:LB}(C:Fld P)(h:PtsL P l):∀i,i<=l.length->tot (λj=>gA P ((l[j]?).getD (0,#[])).2) i (λj=>(((l[j]?).getD (0,#[])).1:Int))=fN P (l.take i)
 | 0,_=>by rw[List.take_zero];rfl
 | i+1,hi=>by
  have k:i<l.length:=oM;show EC.add (tot _ i _) (mul ((l[i]?).getD (0,#[])).1 (gA P ((l[i]?).getD (0,#[])).2))=_;rw[xC C h i oM,yCm,XO k];exact(An C (h.on C (YS k)) λx hx=>h x (yDf hx)).symm
def DU{g k c:Nat}{ns:Nat->Nat}{X:Nat->EC.Pt P}{w:XA}(C:Fld P)(O:Ord N)(p:∀r:EC.Pt P,On r->mul N r=none)(K:0<k)(T:k<=512)(F:∀j,j<k->ns j<N)(B:∀j,j<k->On (X j))(D:g<w.heap.size)(J:∀j,j<k->w.rangeAt g (37*j) (wn (ns j)++aA (wr (X j)))):
 cZ 33 #[sZ g k c] w (rZ w λe w'=>e=pvl (wr (tot X k (λj=>(ns j:Int))))):=by
 have E:=Bz (N:=N) ns X B k (XD _);have m:=Eu O (λj=>wr (X j)) F k (XD _);have o:=yF (N:=N) ns (λj=>wr (X j)) (k:=k) (λj _=>aL _) k (XD _);have y:=BC (N:=N) ns (λj=>wr (X j)) k;have i:=Gm C p ns B k (XD _);have l:0<(mrg N ns (λj=>wr (X j)) k).length:=by
  obtain⟨b,rfl⟩:∃b,k=b+1:=⟨k-1,oM⟩
  show 0<(fH N _ _ _).length;cases mrg N ns (λj=>wr (X j)) b with
  | nil=>exact yBW 0
  | cons x r=>unfold fH;split<;>simp
 have f:=λW (s:kZ w W)=>Kv O (λe w'=>kZ W w'/\∃q cap,e=.slice q (LF (mrg N ns (λj=>wr (X j)) k)).length cap/\TmL w' q (LF (mrg N ns (λj=>wr (X j)) k))) g k c oM ns (λj=>wr (X j)) (λj _=>aL _) F W (XC D s.size) (λj b=>RG.range_below (J j b) s D) (λW' v n=>by
  apply(LP _ l oM o (λx hx=>XC (m x hx) O.le) W.heap.size v W' n.bl.size n.ow).mono;rintro e w' ⟨u,rfl,d,z⟩;exact⟨_,rfl,n.bl.trans d,z⟩)
 generalize mrg N ns (λj=>wr (X j)) k=L at E m o y i l f;have t:PtsL P (LF L):=λx hx=>E x (B9 hx)
 have I:(LF L).length<=L.length:=yDb _ _;refine(xH C O _ w (LF L).length oM (λj=>(((LF L)[j]?).getD (0,#[])).1) (λj=>gA P (((LF L)[j]?).getD (0,#[])).2) (λj b=>by rw[XO b];exact m _ (B9 (YS b))) (λj b=>by rw[XO b];exact t.on C (YS b)) λW s=>?_).mono ?_
 .apply(f W s).mono;rintro e w' ⟨u,rfl,d,q,cap,rfl,z⟩;refine⟨_,rfl,d,q,cap,rfl,λM=>?_⟩;obtain⟨a,H,Q,e3⟩:=z M;refine⟨a,H,Q,λj b=>?_⟩;have S:=e3 j b;obtain⟨Y,R,G⟩:=t _ (YS b);show w'.rangeAt a (37*j) (wn (((LF L)[j]?).getD (0,#[])).1++aA (wr (gA P (((LF L)[j]?).getD (0,#[])).2)));rw[XO b];show w'.rangeAt a (37*j) (wn ((LF L)[j]).1++aA (wr (gA P ((LF L)[j]).2)));rw[G,mD C R,<-G];exact S
 .rintro e w' ⟨u,rfl,d,rfl⟩;refine⟨_,rfl,d,?_⟩;rw[xC C t _ (XD _),yCl,Bh,i]
def Ty:prog.underlying 23=some (.slice 5):=kR
def TB:prog.underlying 3=some (.int .i64):=kR
def PY:(prog.info? 5).map (λi=>(i.size,i.bytes,i.zero.map λz=>z.cells.size))=some (1,1,some 1):=kR
def atB{n i:Nat}(k o c:Nat)(b:i<n)(w:XA):(Yv 27 (qZ k o n c) (iZ i)).run prog w=.ok (oZ k (o+1*i)) w:=by
 go_simp
def Sz(n:Nat)(a:n<=10000000)(w:XA):cZ 45 #[nZ,iZ n] w (rZ w λe w'=>w'.ownsRow w.heap.size 5 1 e 0 []):=by
 by_cases u:n=0
 .subst u;go_enter func45,ntmps45;go_wp2;go_ret;exact⟨_,rfl,XR _ _,yB8 _ _ _ _⟩
 .obtain⟨i,p,m⟩:=XE.1 PY;simp only[Ze.injEq]at m;obtain⟨t,q,r⟩:=m;obtain⟨z,o,f⟩:=XE.1 r;have d:=yCZ (P:=prog) w 23 3 23 5 i z .i64 .i64 Ty TB p o n oM oM oM (by rw[q];omega);have g:=grownCap_ge w n 0 5;have k:=grownCap_le_maxLen w n 0 5 (by unfold maxLen;omega);have b:(Zt z.cells n++Zt z.cells (grownCap w n 0 5-n)).size=grownCap w n 0 5*1:=by rw[Yl,size_zeroCells,size_zeroCells,f];omega
  generalize grownCap w n 0 5=l at d g k b;generalize Zt z.cells n++Zt z.cells (l-n)=cur at d b;obtain⟨j,c⟩:=yH (w.drew.alloc (.cells cur 5));rw[c.out]at d;have s:=Hid.mk' d;have K:Hid (kZ w j/\j.ownsRow w.heap.size 5 1 (sZ w.heap.size 0 l) 0 []):=by
   rw[<-c.out];exact⟨(XR _ _).drew.alloc (XD _) _,yDo w.drew cur l (XD _) k b⟩
  clear d c b p o f t q r;have v:(0:Int)<(n:Int):=oM;have x:¬((n:Int)<0):=oM;have y:Ya.wrap (n:Int)=n:=by rw[YD];omega
  go_enter func45,ntmps45;go_wp2_with (at_builtin;refine yAj _ rfl _ _ _ _ rfl _ _ rfl rfl _ _ s ?_)
  go_ret;exact⟨_,rfl,K.1,K.2⟩
def gW(L:Nat->Bs)(k:Nat):List UInt8:=(YA k).flatMap λj=>(L j).toList
def gV(L:Nat->Bs)(i:Nat):gW L (i+1)=gW L i++(L i).toList:=by
 unfold gW;rw[yAT,yBf];simp
def GX{L:Nat->Bs}{k m:Nat}(b:∀j,j<k->(L j).size<=m):∀i,i<=k->(gW L i).length<=m*i
 | 0,_=>XD _
 | i+1,hi=>by
  have c:=GX b i oM;have d:=b i oM;have e:(L i).toList.length=(L i).size:=rfl;rw[gV,XK,e,yBA];omega
def El.below{n B:Nat}{W W':XA}{x:XB}{b:Bs}(h:El n W x b)(d:Below B W W')(j:W.heap.size<=B):El n W' x b:=by
 obtain⟨k,c,rfl,g,i,f,e⟩:=h;exact⟨k,c,rfl,g,i,XC f d.size,Holds.kept e (d.block k oM)⟩
def Ob{d n m:Nat}{W:XA}{v x:XB}{xs:List XB}{b:Bs}(e:W.ownsRow d 5 1 v n xs)(hx:El m W x b)(G:n+m<=100000000)(t:d<=W.heap.size):
 ∃f W',(YG #[23,23] 23 #[v,x]).run prog W=.ok f W'/\W'.ownsRow d 5 1 f (n+m) (xs++cb b)/\W.grownBy W' v.ownBlock:=by
 obtain⟨i,q,l⟩:=XE.1 PY;simp only[Ze.injEq]at l;obtain⟨w,B,C⟩:=l;obtain⟨z,o,g⟩:=XE.1 C;obtain⟨k,c,rfl,F,A,e3,p⟩:=hx;obtain⟨f,W',E,s,a,-⟩:=yBm (P:=prog) W d 23 23 5 i z 1 1 Ty q o w B g dC v n xs e (aZ k) m c (cb b) (by rw[lS,A];omega)
  (λj u D=>by
   have:=(sJ p).1 j u D;rw[XI]at this;rw[add0];exact this) (λu r=>by
   obtain⟨y,-,rfl⟩:=YC.1 r;rfl) (by unfold maxLen;omega) oM t
 exact⟨f,W',E,s,a⟩
def SY(L:Nat->Bs)(i:Nat):(gW L (i+1)).map encB=(gW L i).map encB++cb (L i):=by rw[gV,Y1];rfl
def C9(g k c:Nat)(L:Nat->Bs)(M:k<=1000)(D:∀j,j<k->(L j).size<=10000)(w:XA)(K:g<w.heap.size)(G:∀j,j<k->∃x,w.cell? ⟨g,j,none⟩=some x/\El (L j).size w x (L j)):
 cZ 23 #[sZ g k c] w (rZ w λe w'=>w'.ownsRow w.heap.size 5 1 e (gW L k).length ((gW L k).map encB)):=by
 have HL:=Hid.mk' G;have t:Hid (∀i,i<=k->(gW L i).length<=10000*i):=GX D;have S:=Hid.mk' K;clear G D K;go_enter func23,ntmps23;go_wp2_with fail
 go_loopg [3,11] k (λm s3 s11 W=>∃i:Nat,i+m=k/\s11=iZ i/\s3=iZ ((gW L i).length:Int)/\w=W)
 case atStart=>exact⟨0,oM,rfl,rfl,rfl⟩
 case round =>
  obtain⟨i,U,rfl,rfl,rfl⟩:=hrel;by_cases E:i<k
  .have B:(i:Int)<(k:Int):=oM;obtain⟨x,O,hE⟩:=HL i E;obtain⟨F,H,rfl,u,-⟩:=hE;have n:=atB g 0 c E;rw[show 0+1*i=i by omega]at n;have d:(gW L (i+1)).length=(gW L i).length+(L i).size:=by rw[gV,XK];rfl
   have l:=t i oM;have o:=t (i+1) oM;obtain⟨a,q⟩:=yH ((gW L i).length);obtain⟨b,f⟩:=yH ((L i).size);rw[q.out]at d l;rw[f.out]at d u;rw[q.out];have r:Ya.wrap ((a:Int)+(b:Int))=((a+b:Nat):Int):=by rw[YD];omega
   have s:¬(((a+b:Nat):Int)<0):=oM;rw[f.out]at O;go_wp2;go_roundg (gk-1)
   case measure=>omega
   case rel=>exact⟨i+1,oM,rfl,by rw[d,yCz],rfl⟩
  .have B:¬(i:Int)<(k:Int):=oM;obtain rfl:i=k:=oM;go_wp2_with fail
   apply(Sz (gW L i).length (oN (t i (XD _))) w).mono;rintro e C ⟨v,rfl,l,r⟩;have I:Hid (kZ w C/\C.ownsRow w.heap.size 5 1 v (gW L 0).length ((gW L 0).map encB)):=⟨l,r⟩
   clear l r;go_wp2_with fail
   go_loopg [6,27] i (λm s6 s27 W=>∃j:Nat,j+m=i/\s27=iZ j/\Hid (kZ w W/\W.ownsRow w.heap.size 5 1 s6 (gW L j).length ((gW L j).map encB)))
   case atStart=>exact⟨0,oM,rfl,I⟩
   case round =>
    clear I;obtain⟨j,R,rfl,f⟩:=hrel;by_cases P:j<i
    .have A:(j:Int)<(i:Int):=oM;obtain⟨x,s,q⟩:=HL j P;have O:wr.cell? ⟨g,j,none⟩=some x:=by rw[f.1.cell (p:=⟨g,j,none⟩) S.out];exact s
     have hE:=q.below f.1 (XD _);have o:=t (j+1) oM;have d:(gW L (j+1)).length=(gW L j).length+(L j).size:=by rw[gV,XK];rfl
     obtain⟨J,W',Q,u,N⟩:=Ob f.2 hE oM f.1.size;rw[<-d,<-SY]at u;have T:Hid (kZ w W'/\W'.ownsRow w.heap.size 5 1 J (gW L (j+1)).length ((gW L (j+1)).map encB)):=⟨f.1.grown N f.1.size (λk M=>(f.2.lt k M).1),u⟩
     have z:=Hid.mk' Q;obtain⟨F,H,rfl,-⟩:=hE;have n:=atB g 0 c P;rw[show 0+1*j=j by omega]at n;clear Q u N d o f q s;go_wp2_with (first|(refine mC (x:=u6) (y:=sZ F (L j).size H) (v:=J) (w':=W') rfl _ _ 23 rfl ?_ ?_ ?_ ?_;rfl;rfl;exact z)|fail)
     go_roundg (gk-1)
     case measure=>omega
     case rel=>exact⟨j+1,oM,rfl,T⟩
    .have A:¬(j:Int)<(i:Int):=oM;obtain rfl:j=i:=oM;go_wp2;go_ret;exact⟨_,rfl,f.1,f.2⟩
section
open Go.Shelf
attribute [local go_sem] yBQ
def BG{row:Option Nat}{w w':XA}(h:kZ w w'):w.grownBy w' row:=⟨h.os,h.tape,h.output,h.size,λk b _=>h.block k b⟩
def KW{w:XA}{g o:Nat}{k:Bs}(h:hZ w g o k)(b:0<k.size):g<w.heap.size:=by
 obtain⟨c,ho,-⟩:=cells_of_cell (h 0 b).1;exact(X5.1 ho).1
noncomputable def cand (P:Nat) [NeZero P] (k:ByteArray) (b:List UInt8) (i:Nat):Option (Fin P × Fin P):=
 if beV (iU ((⟨#[112,111,105,110,116,32]⟩:ByteArray)++k).data.toList [b,[XS i]]).toList<P then
  (rt (ZT P (beV (iU ((⟨#[112,111,105,110,116,32]⟩:ByteArray)++k).data.toList [b,[XS i]]).toList)*ZT P (beV (iU ((⟨#[112,111,105,110,116,32]⟩:ByteArray)++k).data.toList [b,[XS i]]).toList)*ZT P (beV (iU ((⟨#[112,111,105,110,116,32]⟩:ByteArray)++k).data.toList [b,[XS i]]).toList)+7)).map λy=>(ZT P (beV (iU ((⟨#[112,111,105,110,116,32]⟩:ByteArray)++k).data.toList [b,[XS i]]).toList),y)
 else none
noncomputable def cands (P:Nat) [NeZero P] (k:ByteArray) (b:List UInt8) (i:Nat):List (Fin P × Fin P):=(YA i).filterMap (cand P k b)
def jW(k:ByteArray)(b:List UInt8)(i:Nat):cands P k b (i+1)=cands P k b i++(cand P k b i).toList:=by
 unfold cands;rw[yAT,List.filterMap_append];cases h:cand P k b i<;>simp[h]
def IM(k:ByteArray)(b:List UInt8){i j:Nat}(h:i<=j):cands P k b i <+: cands P k b j:=by
 induction j with
 | zero=>rw[Nat.le_zero.1 h];exact yDX
 | succ j ih =>
  rcases Zp i (j+1)with c|c
  .rw[jW];exact(ih oM).trans (List.prefix_append _ _)
  .rw[show i=j+1 by omega];exact yDX
def IP{k:ByteArray}{b:List UInt8}{i:Nat}:(cands P k b i).length<=i:=by
 unfold cands;exact XH (List.length_filterMap_le _ _) (by rw[ZZ];exact XD _)
end
section
open Go.Shelf
attribute [local go_sem] yBQ
section
variable {F:Fence}{n:Nat}{P:YJ}{ops:Array Yp}{rest:List Yp}{op:Yp}{a:Act}{w:XA}{Q:yAM->Act->XA->Prop}
def qB{x:yAe}(g:Zc op (yielded ops a.tmps)=true)(k:Yd)(ho:op.op=.load k x)(b o:Nat)(hx:a.eval x=oZ b o)(cs:List XB)(d:TypeDesc)(l:w.rangeAt b o cs)(j:P.underlying k=some d)(hd:d.isRow=true)(i:(P.info? k).map (·.size)=some cs.length)(h:wpListIn F n P ops Q rest (a.put op.dst (.agg cs.toArray)) w):wpListIn F n P ops Q (op :: rest) a w:=
 wpListIn_step λK m=>by
  rw[g,yEX rfl];refine⟨λf hf=>(by unfold yDz at hf;rw[ho]at hf;cases hf),?_⟩;rw[yCR _ _ _ (λc=>by rw[ho];intro e;cases e)];unfold Yh;simp only[ho,hx,yCe,yA3,X1,Zr,Yz,yAx w b o k cs d l j hd i];exact m _ _ h
end
variable {P:Nat}[NeZero P]
def Hid.mk{p:Prop}(h:p):Hid p:=h
def Si(C:Fld P)(c:ByteArray)(vb:XB)(b:List UInt8)(k1 k2:Nat)(w:XA)(ke:c.size<=1000000)(h1:w.cell? ⟨k1,0,none⟩=some (.string c))(h2:w.cell? ⟨k2,0,none⟩=some vb)(l1:k1<w.heap.size)(l2:k2<w.heap.size)(hb:PartOk w vb b)(n:Nat):
 SeqStopsK yCJ n prog 117 #[jZ k1,jZ k2] (λx:Fin P × Fin P=>#[pv x.1 x.2]) (Below w.heap.size) (λxs=>xs=cands P c b 256) (λk=>k <+: cands P c b 256) 256 w:=by
 have HP:=hb;obtain⟨a0,sb,so,cap,bs,rfl,-,-,-,-⟩:=hb;intro l J Jx W hW hJ kh hY h0;refine callsIn_of_wp func117 rfl trivial ?_ rfl;simp only[ntmps117,YF,Yx,Zz,YT,yDe,yBV,yBU,yCn,yB5,Z1,ZX]
 gi_wp2
 gi_loopw [10] (λp wr=>∃i:Nat,i<=256/\p=iZ i/\J (cands P c b i) wr/\kZ w wr/\W.heap.size<=wr.heap.size) (λp wr=>256-(intOf p).toNat)
 case atStart =>
  exact⟨0,dC,rfl,h0,hW,XD _⟩
 case round =>
  obtain⟨i,hi,rfl,R,V,hs⟩:=hrel;have k8:=V;by_cases he:i=256
  .subst he
   gi_wp2
   go_end0
   exact⟨⟨_,rfl⟩,.inl ⟨_,rfl,R⟩⟩
  .have kc:(i:Int)<256:=oM;have c1:wr.cell? ⟨k1,0,none⟩=some (.string c):=(X4 (V.block k1 l1)).trans h1;have c2:wr.cell? ⟨k2,0,none⟩=some (.slice a0 bs.size cap):=(X4 (V.block k2 l2)).trans h2;have hn:=Made.alloc wr [.int .u8 i] 5;have h9:=Made.alloc (wr.alloc (.cells #[.int .u8 i] 5)) [.slice a0 bs.size cap,sZ wr.heap.size 1 1] 23;rw[XP]at h9;have k9:ub (XS i)=(i:Int):=by
    show(((XS i).toNat:Nat):Int)=_;rw[UInt8.toNat_ofNat',X6 oM]
   obtain⟨W1,X⟩:∃W1,W1=(wr.alloc (.cells #[.int .u8 i] 5)).alloc (.cells #[.slice a0 bs.size cap,sZ wr.heap.size 1 1] 23):=⟨_,rfl⟩
   have K:kZ wr W1:=by rw[X];exact((XR _ wr).alloc (XD _) _).alloc (by rw[XP];omega) _
   have hP:PartsOk W1 (some ⟨wr.heap.size+1,0,none⟩) [b,[XS i]]:=by
    have k:W1.rangeAt (wr.heap.size+1) 0 [.slice a0 bs.size cap,sZ wr.heap.size 1 1]:=by rw[X];exact h9.range
    refine X7 ⟨_,_,rfl,λj m=>?_⟩;have g:j=0\/j=1:=by simp at m;omega
    rcases g with rfl|rfl
    .exact⟨_,k 0 _ rfl,(HP.below k8).below K⟩
    .refine⟨_,k 1 _ rfl,some (aZ wr.heap.size),wr.heap.size,0,1,#[XS i],rfl,rfl,XD _,YL rfl,X7 ⟨rfl,?_⟩⟩;have o:=hn.range;have s:wr.heap.size<(wr.alloc (.cells #[.int .u8 i] 5)).heap.size:=by rw[XP];omega
     intro j m;have f:j=0:=by simp at m;omega
     subst f;have q:W1.heap[wr.heap.size]? = (wr.alloc (.cells #[.int .u8 i] 5)).heap[wr.heap.size]?:=by rw[X];exact yDH _ _ _ s
     refine⟨?_,?_⟩
     .rw[X4 (a:=⟨wr.heap.size,0+0,none⟩) q];show _=some (Value.int .u8 (ub (XS i)));rw[k9];exact o 0 _ rfl
     .rw[Y2 (a:=⟨wr.heap.size,0+0,none⟩) q];exact(hn.there 0 (XD _)).2
   have h8:=kO ((⟨#[112,111,105,110,116,32]⟩:ByteArray)++c) (some ⟨wr.heap.size+1,0,none⟩) 2 [b,[XS i]] W1 (by rw[ByteArray.size_append];show 6+c.size<=_;omega) (YL rfl) hP
   gi_wp2_with fail
   rw[<-X];refine⟨trivial,λh=>(by cases h),(callsIn_wide.2 h8).mono ?_⟩;rintro e w2 ⟨r,rfl,ka,hg,U⟩;clear h8 hP c1 c2 hn h9 kc;obtain⟨T,O⟩:=yH (iU ((⟨#[112,111,105,110,116,32]⟩:ByteArray)++c).data.toList [b,[XS i]]);rw[O.out]at U
   gi_wp2_with fail
   refine⟨trivial,λh=>(by cases h),(callsIn_wide.2 (bM _)).mono ?_⟩;rintro e w3 ⟨v,rfl,S,rfl⟩;have hk:r<w2.heap.size:=KW U (by rw[<-O.out,bR];decide);have hm:T.size=32:=by rw[<-O.out];exact bR
   have ha:hZ w3 r 0 T:=Holds.below U S hk;have L:r<w3.heap.size:=XC hk S.size;have t:kZ wr w3:=(K.trans (hg.mono K.size)).trans (S.mono (XH K.size hg.size));by_cases hx:beV T.toList<P
   .obtain⟨x,Y⟩:∃x:Fin P,Hid (beV T.toList=x.val):=⟨ZT P (beV T.toList),(X6 hx).symm⟩
    have Q:Hid (ZT P (beV T.toList)=x):=Fin.ext (by show beV T.toList%P=_;rw[X6 hx];exact Y.out);have hx:Hid (beV T.toList<P):=hx
    gi_wp2_with fail
    refine⟨trivial,λh=>(by cases h),(callsIn_wide.2 (MB C hm (XD _) Y.out L ha)).mono ?_⟩;rintro e B ⟨v,rfl,M,rfl⟩;have A:=(Made.alloc B [uZ 0,uZ 0,uZ 0,uZ 0] 42).there;have g:=t.trans (M.mono t.size);have k0:=YY _ _ 0 (ws x) A;obtain⟨d,hu,k3⟩:=XE.1 u85;clear A k0 hm ha hk L S M U ka hg K;obtain⟨w5,hl⟩:=yH ((B.alloc (.cells #[uZ 0,uZ 0,uZ 0,uZ 0] 42)).setCells B.heap.size 0 (ws x));have o:Hid (kZ wr w5):=by rw[<-hl.out];exact RG.below_setCells g.size _ _ _ (g.alloc g.size _)
    have h4:w5.rangeAt B.heap.size 0 (ws x):=by rw[<-hl.out];exact YY _ _ 0 (ws x) (Made.alloc B [uZ 0,uZ 0,uZ 0,uZ 0] 42).there
    gi_wp2_with (first|(refine bL rfl 42 rfl 0 rfl rfl (Made.alloc B [uZ 0,uZ 0,uZ 0,uZ 0] 42).there i85 kR ?_;rw[show(ws x).toArray.toList=ws x from rfl,hl.out])|refine kA rfl rfl rfl d h4 hu k3 i85 ?_)
    refine⟨trivial,λh=>(by cases h),?_⟩;clear h4 hu k3;have kg:True:=trivial;obtain⟨d8,h7,h3⟩:=XE.1 iQ;cases F:rt (x*x*x+7) with
    | none =>
     obtain⟨z,I⟩:∃z:Fin P,Hid (z=0):=⟨_,rfl⟩
     have k:=A3 C x F w5;rw[<-I.out]at k;obtain⟨vz,E⟩:=yH (pv z z);rw[E.out]at k;refine(callsIn_wide.2 k).mono ?_;clear k;rintro e s ⟨v,rfl,H,rfl⟩;have f:Hid (cand P c b i=none):=by
      show cand P c b i=none;unfold cand;rw[O.out,yEX hx.out,Q.out,F];rfl
     clear F;have q:Hid (kZ wr ((s.alloc (.cells #[uZ 0,uZ 0,uZ 0,uZ 0,uZ 0,uZ 0,uZ 0,uZ 0] 131)).setCells s.heap.size 0 (ws z++ws z))):=
      have Z:=o.trans (H.mono o.size)
      RG.below_setCells Z.size _ _ _ (Z.alloc Z.size _)
     clear H;have D:(ws z++ws z).toArray.size=8:=kR;have u:Hid <| (s.alloc (.cells #[uZ 0,uZ 0,uZ 0,uZ 0,uZ 0,uZ 0,uZ 0,uZ 0] 131)).there s.heap.size 0 (ws z++ws z).toArray.size:=by show yEm _ _ _ _;rw[D];exact(Made.alloc s [uZ 0,uZ 0,uZ 0,uZ 0,uZ 0,uZ 0,uZ 0,uZ 0] 131).there
     have N:Hid (gZ 131 (ws z++ws z).toArray.size):=by show _=_;rw[D];exact i109
     clear D;obtain⟨G,m⟩:=yH ((s.alloc (.cells #[uZ 0,uZ 0,uZ 0,uZ 0,uZ 0,uZ 0,uZ 0,uZ 0] 131)).setCells s.heap.size 0 (ws z++ws z));rw[m.out]at q
     gi_wp2_with (refine bL rfl 131 rfl (b:=s.heap.size) 0 (k:=(ws z++ws z).toArray) ?_ ?_ ?_ ?_ ?_ ?_;rfl;exact E.symm;exact u.out;exact N.out;kernel_rfl;rw[show(ws z++ws z).toArray.toList=ws z++ws z from rfl,m.out];refine yBN ?_)
     clear u N E I m o Q Y hx O;show wpListIn _ _ _ _ _ _ _ _
     gi_wp2_with fail
     refine⟨λ_ h=>(by cases h),?_⟩
     gi_wp2_with fail
     refine⟨⟨i+1,oM,rfl,?_,V.trans (q.mono V.size),XH hs q.size⟩,?_⟩
     .rw[jW,f.out];exact hJ _ wr _ none (by simpa using R) (BG q.out) (λ_ e=>by cases e)
     .simp[intOf];omega
    | some y =>
     have k:=A0 C x y F w5;obtain⟨vz,E⟩:=yH (pv x y);rw[E.out]at k;refine(callsIn_wide.2 k).mono ?_;clear k;rintro e s ⟨v,rfl,H,rfl⟩;have f:Hid (cand P c b i=some (x,y)):=by
      show cand P c b i=some (x,y);unfold cand;rw[O.out,yEX hx.out,Q.out,F];rfl
     clear F;obtain⟨G,m⟩:=yH ((s.alloc (.cells #[uZ 0,uZ 0,uZ 0,uZ 0,uZ 0,uZ 0,uZ 0,uZ 0] 131)).setCells s.heap.size 0 (ws x++ws y));have I:Hid (kZ wr G):=by
      rw[<-m.out];have Z:=o.trans (H.mono o.size);exact RG.below_setCells Z.size _ _ _ (Z.alloc Z.size _)
     clear H;have h5:G.rangeAt s.heap.size 0 (ws x++ws y):=by rw[<-m.out];exact YY _ _ 0 (ws x++ws y) (Made.alloc s [uZ 0,uZ 0,uZ 0,uZ 0,uZ 0,uZ 0,uZ 0,uZ 0] 131).there
     have kd:Hid (J (cands P c b i) G):=hJ _ wr _ none (by simpa using R) (BG I.out) (λ_ e=>by cases e);have D:(ws x++ws y).toArray.size=8:=kR;have u:Hid <| (s.alloc (.cells #[uZ 0,uZ 0,uZ 0,uZ 0,uZ 0,uZ 0,uZ 0,uZ 0] 131)).there s.heap.size 0 (ws x++ws y).toArray.size:=by show yEm _ _ _ _;rw[D];exact(Made.alloc s [uZ 0,uZ 0,uZ 0,uZ 0,uZ 0,uZ 0,uZ 0,uZ 0] 131).there
     have N:Hid (gZ 131 (ws x++ws y).toArray.size):=by show _=_;rw[D];exact i109
     clear D;obtain⟨fn,tmps,k7,kf,hy,hR⟩:=hY (cands P c b i) (x,y) G kd.out (Nat.lt_of_le_of_lt IP oM);dsimp only at hy;obtain⟨va,hr⟩:=yH (X9 (ws x++ws y).toArray);rw[show pv x y=va from hr.out]at hy
     gi_wp2_with (refine bL rfl 131 rfl (b:=s.heap.size) 0 (k:=(ws x++ws y).toArray) ?_ ?_ ?_ ?_ ?_ ?_;rfl;exact E.symm;exact u.out;exact N.out;kernel_rfl;rw[show(ws x++ws y).toArray.toList=ws x++ws y from rfl,m.out];refine yBN ?_)
     clear u N m o Q Y hx O;have ht:=Hid.mk hR;have Z:=Hid.mk h5;have hw:=Hid.mk h7;have k6:=Hid.mk h3;clear hR h5 h7 h3;show wpListIn _ _ _ _ _ _ _ _
     gi_wp2_with (refine qB rfl 131 rfl s.heap.size 0 ?_ (ws x++ws y) d8 ?_ ?_ ?_ ?_ ?_;rfl;exact Z.out;exact hw.out;exact k6.out;exact i109;rw[hr.out];refine yBN ?_)
     clear Z hw k6 hr E;show wpListIn _ _ _ _ _ _ _ _
     gi_wp2_with fail
     refine⟨λh=>(by cases h),ht.mono ?_⟩;clear ht hy;rintro e W8 (⟨rfl,kb,k4⟩|⟨rfl,k5⟩)
     .gi_wp2_with fail
      refine⟨⟨i+1,oM,rfl,?_,(V.trans (I.mono V.size)).trans k4,XH hs (XH I.size k4.size)⟩,?_⟩
      .rw[jW,f.out];exact kb
      .simp[intOf];omega
     .gi_wp2_with fail
      refine XN (results_none rfl _ _ _) rfl ?_;refine⟨⟨_,rfl⟩,.inr ⟨_,?_,k5⟩⟩;have hp:=IM (P:=P) c b (i:=i+1) (j:=256) oM;rw[jW,f.out]at hp;exact hp
   .have f:cand P c b i=none:=by
     unfold cand;rw[O.out,yEY hx]
    gi_wp2_with fail
    refine⟨trivial,λh=>(by cases h),(callsIn_wide.2 (MC C hm (XD _) hx L ha)).mono ?_⟩;rintro e B ⟨v,rfl,M,rfl⟩;have A:Hid ((B.alloc (.cells #[uZ 0,uZ 0,uZ 0,uZ 0] 42)).there B.heap.size 0 4):=(Made.alloc B [uZ 0,uZ 0,uZ 0,uZ 0] 42).there;have g:=t.trans (M.mono t.size);have q:Hid (kZ wr ((B.alloc (.cells #[uZ 0,uZ 0,uZ 0,uZ 0] 42)).setCells B.heap.size 0 (ws (0:Fin P)))):=RG.below_setCells g.size _ _ _ (g.alloc g.size _);have f:Hid (cand P c b i=none):=f;obtain⟨G,m⟩:=yH ((B.alloc (.cells #[uZ 0,uZ 0,uZ 0,uZ 0] 42)).setCells B.heap.size 0 (ws (0:Fin P)));rw[m.out]at q
    gi_wp2_with (refine bL rfl 42 rfl (b:=B.heap.size) 0 (k:=(ws (0:Fin P)).toArray) ?_ ?_ ?_ ?_ ?_ ?_;rfl;rfl;exact A.out;exact i85;kernel_rfl;rw[show(ws (0:Fin P)).toArray.toList=ws (0:Fin P) from rfl,m.out];refine yBN ?_)
    clear A g t M O m;show wpListIn _ _ _ _ _ _ _ _
    gi_wp2_with fail
    refine⟨⟨i+1,oM,rfl,?_,V.trans (q.mono V.size),XH hs q.size⟩,?_⟩
    .rw[jW,f.out];exact hJ _ wr _ none (by simpa using R) (BG q.out) (λ_ e=>by cases e)
    .simp[intOf];omega
end
section
open Go.Shelf
def xY{k:ByteArray}{a:Option Y0}{m c:Nat}{w:XA}:
 cZ 68 #[.string k,.slice a m c] w (Ret λe w'=>e=.func (.func 117) #[] #[jZ w.heap.size,jZ (w.heap.size+1)]/\w'=(w.alloc (.cells #[.string k] 9)).alloc (.cells #[.slice a m c] 23)):=by
 go_enter func68,ntmps68;go_wp2;go_ret;exact⟨_,rfl,rfl,rfl⟩
noncomputable def hpt (P:Nat) [NeZero P] (k:ByteArray) (b:List UInt8):Fin P × Fin P:=(cands P k b 256).headD (gX P,gY P)
def OW{k:ByteArray}{b:List UInt8}{i:Nat}{x:Fin P × Fin P}(h:cand P k b i=some x):x.2*x.2=x.1*x.1*x.1+7:=by
 unfold cand at h;split at h
 .obtain⟨y,c,rfl⟩:=XE.1 h;exact Px c
 .cases h
def Mc{k:ByteArray}{b:List UInt8}{n:Nat}{x:Fin P × Fin P}(h:x∈cands P k b n):x.2*x.2=x.1*x.1*x.1+7:=by
 unfold cands at h;obtain⟨i,-,c⟩:=List.mem_filterMap.1 h;exact OW c
def BE{k:ByteArray}{b:List UInt8}(C:Fld P):On (.some (hpt P k b):EC.Pt P):=by
 unfold hpt;cases h:cands P k b 256 with
 | nil=>exact CZ C
 | cons x r=>exact Kc (x:=x.1) (y:=x.2) (Mc (by rw[h];exact YH))
def Nt{q:Fin P × Fin P}(C:Fld P)(h:On (.some q:EC.Pt P)):uE q.1 q.2=wr (.some q:EC.Pt P):=wO C ⟨rfl,rfl⟩ h
def Sq(C:Fld P)(k:ByteArray)(b:List UInt8):uE (hpt P k b).1 (hpt P k b).2=wr (.some (hpt P k b):EC.Pt P):=Nt C (BE C)
def AN{a:Option Y0}{m c:Nat}{b:List UInt8}{w:XA}(C:Fld P)(k:ByteArray)(f:k.size<=1000000)(l:PartOk w (.slice a m c) b):
 cZ 67 #[.func (.func 117) #[] #[jZ w.heap.size,jZ (w.heap.size+1)]] ((w.alloc (.cells #[.string k] 9)).alloc (.cells #[.slice a m c] 23)) (rZ w λe w'=>e=pv (hpt P k b).1 (hpt P k b).2):=by
 have g:=Made.alloc w [.string k] 9;have j:=Made.alloc (w.alloc (.cells #[.string k] 9)) [.slice a m c] 23;have d:kZ w ((w.alloc (.cells #[.string k] 9)).alloc (.cells #[.slice a m c] 23)):=((XR _ w).alloc (XD _) _).alloc (by rw[XP];omega) _;have q:((w.alloc (.cells #[.string k] 9)).alloc (.cells #[.slice a m c] 23)).heap.size=w.heap.size+2:=by rw[XP,XP]
 have o:((w.alloc (.cells #[.string k] 9)).alloc (.cells #[.slice a m c] 23)).cell? ⟨w.heap.size,0,none⟩=some (.string k):=by
  rw[X4 (a:=⟨w.heap.size,0,none⟩) (yDH _ _ _ (by rw[XP];exact yBW _))];exact g.range 0 _ rfl
 have p:((w.alloc (.cells #[.string k] 9)).alloc (.cells #[.slice a m c] 23)).cell? ⟨w.heap.size+1,0,none⟩=some (.slice a m c):=by
  have:=j.range 0 _ rfl;rwa[XP]at this
 apply(OG C _ (cands P k b 256) 256 _ (λn=>Si C k (.slice a m c) b w.heap.size (w.heap.size+1) _ f o p oM oM (l.below d) n)).mono;rintro e w' ⟨v,rfl,i,rfl⟩;exact⟨_,rfl,d.trans (i.mono d.size),rfl⟩
def MI(C:Fld P)(k:ByteArray)(a:Option Y0)(m c:Nat)(b:List UInt8)(w:XA)(j:k.size<=1000000)(x:PartOk w (.slice a m c) b):
 cZ 184 #[.string k,.slice a m c] w (rZ w λe w'=>I1 w (wr (.some (hpt P k b):EC.Pt P)) e w'):=by
 have t:=AN C k j x;have i:∀w,cZ 70 #[pv (hpt P k b).1 (hpt P k b).2] w (rZ w λe w'=>nC w (uE (hpt P k b).1 (hpt P k b).2) e w'):=wN C;rw[Sq C]at i;go_enter func184,ntmps184;go_wp2_with fail
 apply(xY).mono;rintro e z ⟨v,rfl,rfl,rfl⟩;go_wp2_with fail
 refine t.mono ?_;rintro e A ⟨v,rfl,n,rfl⟩;have f:=mk1 (n);go_wp2_with fail
 apply(i _).mono;rintro e y ⟨v,rfl,r,g,d,rfl,p,o,l,s⟩;have q:=mk1 (f.trans (r.mono f.size));have u:Hid (I1 w (wr (.some (hpt P k b):EC.Pt P)) (.tuple #[sZ g 33 d,iZ 0]) y):=⟨g,d,rfl,p,XH f.size o,l,s⟩
 go_wp2
 go_ret2
 exact⟨_,rfl,q,u⟩
end
def GZ(C:Fld P)(lb:ByteArray)(o:lb.size<=1000000)(x:Option Y0)(p q:Nat)(tx:List UInt8)(w:XA)(H:PartOk w (.slice x p q) tx):
 cZ 130 #[.string lb,.slice x p q] w (rZ w λe w'=>e=pvl (wr (.some (hpt P lb tx):EC.Pt P))):=by
 obtain⟨T,u⟩:=hE (wr (.some (hpt P lb tx):EC.Pt P));have r:T.size=33:=u.out▸aL _;rw[u.out];have F:=mk1 (C);have G:=Hid.mk' H;have HL:=Hid.mk' o;obtain⟨j,b⟩:=hE (lZ w z33 51);have n:Hid (Row j w.heap.size z33/\kZ w j):=by rw[<-b.out];exact⟨row_new w _ _,aD _⟩
 obtain⟨d,s,t⟩:=XE.1 uCP;have y:=mk2 s t;go_enter func130,ntmps130;go_wp2_with (refine bH (v:=jZ w.heap.size) (w':=j) rfl (.alloc 51) rfl ?_ ?_;(rw[<-b.out];kernel_rfl))
 apply(MI F lb x p q tx j HL (G.below n.2)).mono;rintro e D ⟨J,rfl,c,g,E,rfl,-,-,I,a⟩;rw[u.out]at a;have l:=mk3 (n.1.below c) (n.2.trans (c.mono n.2.size)) (qN a I);have A:=Hb g E;obtain⟨z,f⟩:=hE (D.setCells w.heap.size 0 (aA T));have k:=aB r;have B:Hid (Row z w.heap.size (aA T)/\kZ w z):=by rw[<-f.out];exact⟨l.1.put (by rw[k];rfl),RG.below_setCells (XD _) _ _ _ l.2.1⟩
 obtain⟨K,i⟩:=hE (X9 (aA T).toArray);have m:Hid (gZ 51 (aA T).length/\D.there w.heap.size 0 (aA T).toArray.size/\gZ 51 (aA T).toArray.size):=by
  have e:(aA T).toArray.size=33:=by rw[YF];exact k
  refine⟨by rw[k];exact cV,by rw[e];exact l.1.2.2,by rw[e];exact cV⟩
 go_wp2_with (first|(refine YI rfl 51 _ rfl g 0 ?_ (aA T) d ?_ ?_ ?_ ?_ ?_;rfl;exact l.2.2.2.1;exact y.1;exact y.2;exact m.1;rw[i.out])|(refine Yk rfl 51 _ _ rfl w.heap.size 0 (aA T).toArray ?_ ?_ ?_ ?_ ?_ ?_;rfl;exact i.symm;exact m.2.1;exact m.2.2;exact bN;rw[show(aA T).toArray.toList=aA T from rfl,f.out]))
 refine XN (aF 4 rfl B.1 rfl uCP m.1) rfl ?_;exact⟨_,rfl,B.2,rfl⟩
def Kf:Gives 15 #[uZ 1] (nv 1):=by
 intro w;go_enter func15,ntmps15;refine RG.M.enter [(0,.v (uZ 1))] 6 kR ?_;intro a0 d;repeat apply XG
 refine d.T [.m 0] [(0,RG.z 4)] [] [RG.z 4] [0,2] ⟨mk 0 44,yEZ⟩ ?_;intro k f e c;repeat apply XG
 refine c.T [.x (uZ 1),.x (nv 1),.x (nv 1),.u 0] [] [(0,3,wn 1)] [wn 1] [2] ⟨st,st,st,RG.pt i40,yEZ⟩ ?_;intro a2 g b;refine Za<|XN (v:=nv 1) (aH b.st rfl rfl (b.at (s:=(.p 0 0))) u40 i40) b.sl.defers ?_
 exact⟨_,rfl,b.st.bel.below,rfl⟩
def Sm(B:Nat)(W:XA)(v:XB)(l:LB):Prop:=∃g c,v=sZ g l.length c/\l.length<=c/\B<=g/\g<W.heap.size/\W.rangeAt g 0 (aP l)
def Sm.grow{B:Nat}{W W':XA}{v:XB}{l:LB}(h:Sm B W v l)(b:kZ W W'):Sm B W' v l:=by
 obtain⟨g,c,f,i,e,k,d⟩:=h;exact⟨g,c,f,i,e,XC k b.size,RG.range_below d b k⟩
def cellsT_one'(n:Nat)(a:Bs):aP [(n,a)]=wn n++aA a:=by rw[fM];exact yAk _
def Sm.one{B W k n}{w:XA}{a:Bs}(h:Row w k (wn n++aA a))(b:B<=k)(c:w=W):Sm B W (sZ k 1 1) [(n,a)]:=by
 subst c;exact⟨k,1,rfl,XD _,b,h.1,by rw[cellsT_one'];exact h.2.1⟩
def infoT':(prog.info? 124).map (λi=>(i.size,i.bytes,i.zero.map λz=>z.cells.size))=some (37,72,some 37):=kR
def GE(n:Nat)(v:n<=10000000)(w:XA):cZ 108 #[nZ,iZ n] w (rZ w λe w'=>w'.ownsRow w.heap.size 124 37 e 0 []):=by
 by_cases r:n=0
 .subst r;go_enter func108,ntmps108;go_wp2;go_ret;exact⟨_,rfl,XR _ _,yB8 _ _ _ _⟩
 .obtain⟨i,p,m⟩:=XE.1 infoT';simp only[Ze.injEq]at m;obtain⟨u,s,t⟩:=m;obtain⟨z,o,j⟩:=XE.1 t;have g:=yCZ (P:=prog) w 82 3 82 124 i z .i64 .i64 DD TB p o n oM oM oM (by rw[s];omega);have d:=grownCap_ge w n 0 124;have k:=grownCap_le_maxLen w n 0 124 (by unfold maxLen;omega);have b:(Zt z.cells n++Zt z.cells (grownCap w n 0 124-n)).size=grownCap w n 0 124*37:=by rw[Yl,size_zeroCells,size_zeroCells,j];omega
  generalize grownCap w n 0 124=l at g d k b;generalize Zt z.cells n++Zt z.cells (l-n)=cur at g b;obtain⟨f,c⟩:=yH (w.drew.alloc (.cells cur 124));rw[c.out]at g;have q:=Hid.mk' g;have K:Hid (kZ w f/\f.ownsRow w.heap.size 124 37 (sZ w.heap.size 0 l) 0 []):=by
   rw[<-c.out];exact⟨(XR _ _).drew.alloc (XD _) _,yDo w.drew cur l (XD _) k b⟩
  go_enter func108,ntmps108;go_wp2_with (at_builtin;refine yAj _ rfl _ _ _ _ rfl _ _ rfl rfl _ _ q ?_)
  go_ret;exact⟨_,rfl,K.1,K.2⟩
def EV(l m:LB):aP (l++m)=aP l++aP m:=by unfold aP;rw[yBf]
def IL{l:LB}:∀u∈aP l,u.oneCell'=true:=λu k=>by
 unfold aP at k;obtain⟨x,-,hx⟩:=yCo.1 k;exact cells_one u hx
def qX:∀ {l:LB},(∀x∈l,x.2.size=33)->(aP l).length=l.length*37
 | [],_=>rfl
 | x :: r,h=>by
  rw[fM,XK,iF (h x YH),qX λy k=>h y (Yo _ k),Yx];omega
def CC{b B:Nat}{W:XA}{v x:XB}{l m:LB}(d:W.ownsRow b 124 37 v l.length (aP l))(s:∀y∈m,y.2.size=33)(hx:Sm B W x m)(G:l.length+m.length<=1000000)(r:b<=W.heap.size):
 ∃e W',(YG #[82,82] 82 #[v,x]).run prog W=.ok e W'/\W'.ownsRow b 124 37 e (l++m).length (aP (l++m))/\W.grownBy W' v.ownBlock:=by
 obtain⟨i,p,g⟩:=XE.1 infoT';simp only[Ze.injEq]at g;obtain⟨t,a,A⟩:=g;obtain⟨z,n,f⟩:=XE.1 A;obtain⟨k,c,rfl,E,F,e3,o⟩:=hx;obtain⟨e,W',D,q,w,-⟩:=yBm (P:=prog) W b 82 82 124 i z 37 72 DD p n t a f dC v l.length (aP l) d (aZ k) m.length c (aP m) (qX s)
  (λj u C=>by
   have:=o j u C;rw[XI]at this;rw[add0];exact this) IL (by unfold maxLen;omega) oM r
 exact⟨e,W',D,by rw[XK,EV];exact q,w⟩
def atS{n i:Nat}(k o c:Nat)(b:i<n)(w:XA):(Yv 148 (qZ k o n c) (iZ i)).run prog w=.ok (oZ k (o+1*i)) w:=by
 go_simp
def eW(L:Nat->LB)(k:Nat):LB:=(YA k).flatMap L
def dB(L:Nat->LB)(i:Nat):eW L (i+1)=eW L i++L i:=by
 unfold eW;rw[yAT,yBf];simp
def BS{L:Nat->LB}{k m:Nat}(b:∀j,j<k->(L j).length<=m):∀i,i<=k->(eW L i).length<=m*i
 | 0,_=>XD _
 | i+1,hi=>by
  have c:=BS b i oM;have d:=b i oM;rw[dB,XK,yBA];omega
def IE(g k c:Nat)(L:Nat->LB)(I:k<=1000)(N:∀j,j<k->(L j).length<=600)(A:∀j,j<k->∀x∈L j,x.2.size=33)(w:XA)(T:g<w.heap.size)(Q:∀j,j<k->∃x,w.cell? ⟨g,j,none⟩=some x/\Sm 0 w x (L j)):
 cZ 62 #[sZ g k c] w (rZ w λe w'=>w'.ownsRow w.heap.size 124 37 e (eW L k).length (aP (eW L k))):=by
 have HL:=Hid.mk' Q;have s:=mk1 (BS N);have S:=Hid.mk' T;have O:=Hid.mk' A;go_enter func62,ntmps62;go_wp2_with fail
 go_loopg [3,11] k (λm s3 s11 W=>∃i:Nat,i+m=k/\s11=iZ i/\s3=iZ ((eW L i).length:Int)/\w=W)
 case atStart=>exact⟨0,oM,rfl,rfl,rfl⟩
 case round =>
  obtain⟨i,V,rfl,rfl,rfl⟩:=hrel;by_cases E:i<k
  .have C:(i:Int)<(k:Int):=oM;obtain⟨x,K,hE⟩:=HL i E;obtain⟨F,G,rfl,r,-⟩:=hE;have n:=atS g 0 c E;rw[show 0+1*i=i by omega]at n;have d:(eW L (i+1)).length=(eW L i).length+(L i).length:=by rw[dB,XK]
   have l:=s i oM;have o:=s (i+1) oM;obtain⟨a,q⟩:=hE ((eW L i).length);obtain⟨b,f⟩:=hE ((L i).length);rw[q.out]at d l;rw[f.out]at d r;rw[q.out];rw[f.out]at K;go_wp2;go_roundg (gk-1)
   case measure=>omega
   case rel=>exact⟨i+1,oM,rfl,by rw[d,yCz],rfl⟩
  .have C:¬(i:Int)<(k:Int):=oM;obtain rfl:i=k:=oM;go_wp2_with fail
   apply(GE (eW L i).length (oN (s i (XD _))) w).mono;rintro e X ⟨v,rfl,l,B⟩;have R:=mk2 l B;go_wp2_with fail
   go_loopg [6,27] i (λm s6 s27 W=>∃j:Nat,j+m=i/\s27=iZ j/\Hid (kZ w W/\W.ownsRow w.heap.size 124 37 s6 (eW L j).length (aP (eW L j))))
   case atStart=>exact⟨0,oM,rfl,R⟩
   case round =>
    obtain⟨j,P,rfl,f⟩:=hrel;by_cases D:j<i
    .have z:(j:Int)<(i:Int):=oM;obtain⟨x,r,q⟩:=HL j D;have K:wr.cell? ⟨g,j,none⟩=some x:=by rw[f.1.cell (p:=⟨g,j,none⟩) S.out];exact r
     have hE:=q.grow f.1;have o:=s (j+1) oM;have d:(eW L (j+1)).length=(eW L j).length+(L j).length:=by rw[dB,XK]
     obtain⟨H,W',M,t,J⟩:=CC f.2 (O j D) hE (by rw[<-d];omega) f.1.size;rw[<-dB]at t;have U:Hid (kZ w W'/\W'.ownsRow w.heap.size 124 37 H (eW L (j+1)).length (aP (eW L (j+1)))):=⟨f.1.grown J f.1.size (λk I=>(f.2.lt k I).1),t⟩
     have u:=Hid.mk' M;obtain⟨F,G,rfl,-⟩:=hE;have n:=atS g 0 c D;rw[show 0+1*j=j by omega]at n;clear M t J d o f q r;go_wp2_with (first|(refine mC (x:=u6) (y:=sZ F (L j).length G) (v:=H) (w':=W') rfl _ _ 82 rfl ?_ ?_ ?_ ?_;rfl;rfl;exact u)|fail)
     go_roundg (gk-1)
     case measure=>omega
     case rel=>exact⟨j+1,oM,rfl,U⟩
    .have z:¬(j:Int)<(i:Int):=oM;obtain rfl:j=i:=oM;go_wp2;go_ret;exact⟨_,rfl,f.1,f.2⟩
def FZ{W:XA}{k:Nat}{v:XB}{l:LB}(h:W.ownsRow k 124 37 v l.length (aP l))(i:0<l.length):Sm k W v l:=by
 have e:=λ{g:Nat}=>h.cells (g:=g)
 rcases h.2 with⟨-,m⟩|⟨g,cap,cur,rfl,d,b,c,-⟩
 .omega
 .refine⟨g,cap,rfl,c,d,(X5.1 b).1,λj u f=>?_⟩;have:=e (g:=g) rfl j u f;rw[add0]at this;rw[XI];exact this
def sW(B:Nat)(s t:XB)(l m:LB)(q:0<l.length)(P:l.length<=500)(Q:m.length<=500)(u:∀x∈l,x.2.size=33)(r:∀x∈m,x.2.size=33)(w:XA)(E:Sm B w s l)(I:Sm B w t m):
 cZ 31 #[s,t] w (rZ w λe w'=>Sm w.heap.size w' e (l++m)):=by
 have M:=q;obtain⟨a,c1,L,-⟩:=id E;obtain⟨p,c2,O,-⟩:=id I;subst L;subst O;obtain⟨b,k⟩:=hE (w.alloc (.cells #[sZ a l.length c1,sZ p m.length c2] 82));have D:kZ w b:=k.out▸aD _;have o:w.heap.size<b.heap.size:=by rw[<-k.out,XP];omega
 have F:b.rangeAt w.heap.size 0 [sZ a l.length c1,sZ p m.length c2]:=k.out▸(Made.alloc w [sZ a l.length c1,sZ p m.length c2] 82).range;have K:=Hid.mk' (IE w.heap.size 2 2 (λj=>if j=0 then l else m) dC (λj _=>by show(if j=0 then l else m).length<=600;split<;>omega) (λj _=>by
  show ∀x∈(if j=0 then l else m),x.2.size=33;split
  .exact u
  .exact r) b o (λj d=>by
  have i:∀ {v:XB}{l:LB},Sm B w v l->Sm 0 b v l:=λh=>by
   obtain⟨g,c,f,n,-,A,y⟩:=h.grow D;exact⟨g,c,f,n,Zl _,A,y⟩
  have d:j=0\/j=1:=oM;rcases d with rfl|rfl
  .exact⟨_,F 0 _ rfl,i E⟩
  .exact⟨_,F 1 _ rfl,i I⟩))
 have d:eW (λj=>if j=0 then l else m) 2=l++m:=by rw[dB,dB];rfl
 have z:=Hid.mk' D;have H:Hid (eW (λj=>if j=0 then l else m) 2=l++m/\0<(l++m).length):=⟨d,by rw[XK];omega⟩
 go_enter func31,ntmps31;go_wp2_with fail
 rw[k.out];refine K.mono ?_;rintro e G ⟨J,rfl,i,ho⟩;rw[H.1]at ho;have C:Hid (kZ w G/\Sm w.heap.size G J (l++m)):=by
  obtain⟨g,c,f,n,N,A,y⟩:=FZ ho H.2;exact⟨z.trans (i.mono z.size),g,c,f,n,XH z.size N,A,y⟩
 go_wp2;go_ret;exact⟨_,rfl,C.1,C.2⟩
def Sm.point(C:Fld P)(O:Ord N)(d:∀r:EC.Pt P,On r->mul N r=none){B:Nat}{w:XA}{v:XB}{l:List (Nat × Bs)}(h:Sm B w v l)(m:0<l.length)(p:l.length<=512)(D:∀x∈l,x.1<N)(f:PtsL P l):
 YN prog 33 #[v] w (rZ w λe w'=>e=pvl (wr (fN P l))):=by
 obtain⟨g,c,rfl,-,-,a,s⟩:=h;have b:∀x∈l.map (·.2),x.size=33:=λx hx=>by
  obtain⟨y,k,rfl⟩:=YC.1 hx;obtain⟨X,-,e⟩:=f y k;rw[e];exact aL _
 have i:∀j (k:j<l.length),((l[j]?).getD (0,#[]))=l[j]:=λj k=>by rw[XO k];rfl
 have z:∀j,j<l.length->On (gA P ((l[j]?).getD (0,#[])).2):=λj k=>by rw[i j k];exact f.on C (YS k)
 refine(DU C O d (g:=g) (k:=l.length) (c:=c) m p (ns:=(λj=>((l[j]?).getD (0,#[])).1)) (X:=(λj=>gA P ((l[j]?).getD (0,#[])).2)) (λj k=>by rw[i j k];exact D _ (YS k)) z (w:=w) a (λj k=>?_)).mono ?_
 .rw[i j k];obtain⟨X,E,o⟩:=f _ (YS k);rw[o,mD C E,<-o];intro t u n;have q:t<37:=by
   have:=(XM.1 n).1;rw[iF (b _ (YC.2 ⟨_,YS k,rfl⟩))]at this;exact this
  have:=s (37*j+t) u (by rw[lQ l b j k t q];exact n);rw[XI]at this;exact this
 .rintro e w' ⟨u,rfl,n,rfl⟩;refine⟨_,rfl,n,?_⟩;rw[xC C (l:=l) f _ (XD _),yCl]
def yE(C:Fld P){a b:EC.Pt P}(k:On a)(c:On b):∀n,mul n (EC.add a b)=EC.add (mul n a) (mul n b)
 | 0=>rfl
 | n+1=>by
  show EC.add (mul n (EC.add a b)) (EC.add a b)=EC.add (EC.add (mul n a) a) (EC.add (mul n b) b);rw[yE C k c n];exact C.cur.swap (cE C.cur k n) (cE C.cur c n) k c
def SmZ(B:Nat)(W:XA)(v:XB)(l:LB):Prop:=(v=nZ/\l=[])\/Sm B W v l
def SmZ.grow{B:Nat}{W W':XA}{v:XB}{l:LB}(h:SmZ B W v l)(k:kZ W W'):SmZ B W' v l:=by
 rcases h with h|h
 .exact Ye h
 .exact X7 (h.grow k)
def SmZ.form{B:Nat}{W:XA}{v:XB}{l:LB}(h:SmZ B W v l):∃q c,v=.slice q l.length c/\l.length<=c:=by
 rcases h with⟨rfl,rfl⟩|⟨g,c,k,b,-⟩
 .exact⟨none,0,rfl,XD _⟩
 .exact⟨_,_,k,b⟩
def Te:∀W:XA,(YG #[82,82] 82 #[nZ,nZ]).run prog W=.ok nZ W:=λW=>kR
def J7{b B:Nat}{W:XA}{v x:XB}{l m:LB}(k:W.ownsRow b 124 37 v l.length (aP l))(f:∀y∈m,y.2.size=33)(hx:SmZ B W x m)(n:l.length+m.length<=1000000)(e:b<=W.heap.size):
 ∃c W',(YG #[82,82] 82 #[v,x]).run prog W=.ok c W'/\W'.ownsRow b 124 37 c (l++m).length (aP (l++m))/\W.grownBy W' v.ownBlock:=by
 rcases hx with⟨rfl,rfl⟩|hx
 .rw[yAk];rcases id k.2 with⟨rfl,q⟩|⟨g,cap,cur,rfl,p,r,s,-⟩
  .exact⟨_,_,Te W,k,⟨rfl,rfl,rfl,XD _,λ_ _ _=>rfl⟩⟩
  .obtain⟨i,d,o⟩:=XE.1 infoT';have:=run_append_room_src (P:=prog) W 82 82 82 124 i DD d g 0 l.length cap nZ 0 [] (Src.ofNil (e':=124) _ DD 0) oM (λj c=>by cases c) (λj c=>by cases c);exact⟨_,_,this,k,⟨rfl,rfl,rfl,XD _,λ_ _ _=>rfl⟩⟩
 .exact CC k f hx n e
def ID(g k c:Nat)(L:Nat->LB)(I:k<=1000)(N:∀j,j<k->(L j).length<=600)(A:∀j,j<k->∀x∈L j,x.2.size=33)(w:XA)(T:g<w.heap.size)(Q:∀j,j<k->∃x,w.cell? ⟨g,j,none⟩=some x/\SmZ 0 w x (L j)):
 cZ 62 #[sZ g k c] w (rZ w λe w'=>w'.ownsRow w.heap.size 124 37 e (eW L k).length (aP (eW L k))):=by
 have HL:=Hid.mk' Q;have s:=mk1 (BS N);have S:=Hid.mk' T;have O:=Hid.mk' A;go_enter func62,ntmps62;go_wp2_with fail
 go_loopg [3,11] k (λm s3 s11 W=>∃i:Nat,i+m=k/\s11=iZ i/\s3=iZ ((eW L i).length:Int)/\w=W)
 case atStart=>exact⟨0,oM,rfl,rfl,rfl⟩
 case round =>
  obtain⟨i,V,rfl,rfl,rfl⟩:=hrel;by_cases E:i<k
  .have C:(i:Int)<(k:Int):=oM;obtain⟨x,K,hE⟩:=HL i E;obtain⟨F,G,rfl,r⟩:=hE.form;have n:=atS g 0 c E;rw[show 0+1*i=i by omega]at n;have d:(eW L (i+1)).length=(eW L i).length+(L i).length:=by rw[dB,XK]
   have l:=s i oM;have o:=s (i+1) oM;obtain⟨a,q⟩:=yH ((eW L i).length);obtain⟨b,f⟩:=yH ((L i).length);rw[q.out]at d l;rw[f.out]at d r;rw[q.out];rw[f.out]at K;go_wp2;go_roundg (gk-1)
   case measure=>omega
   case rel=>exact⟨i+1,oM,rfl,by rw[d,yCz],rfl⟩
  .have C:¬(i:Int)<(k:Int):=oM;obtain rfl:i=k:=oM;go_wp2_with fail
   apply(GE (eW L i).length (oN (s i (XD _))) w).mono;rintro e X ⟨v,rfl,l,B⟩;have R:=mk2 l B;go_wp2_with fail
   go_loopg [6,27] i (λm s6 s27 W=>∃j:Nat,j+m=i/\s27=iZ j/\Hid (kZ w W/\W.ownsRow w.heap.size 124 37 s6 (eW L j).length (aP (eW L j))))
   case atStart=>exact⟨0,oM,rfl,R⟩
   case round =>
    obtain⟨j,P,rfl,f⟩:=hrel;by_cases D:j<i
    .have z:(j:Int)<(i:Int):=oM;obtain⟨x,r,q⟩:=HL j D;have K:wr.cell? ⟨g,j,none⟩=some x:=by rw[f.1.cell (p:=⟨g,j,none⟩) S.out];exact r
     have hE:=q.grow f.1;have o:=s (j+1) oM;have d:(eW L (j+1)).length=(eW L j).length+(L j).length:=by rw[dB,XK]
     obtain⟨H,W',M,t,J⟩:=J7 f.2 (O j D) hE (by rw[<-d];omega) f.1.size;rw[<-dB]at t;have U:Hid (kZ w W'/\W'.ownsRow w.heap.size 124 37 H (eW L (j+1)).length (aP (eW L (j+1)))):=⟨f.1.grown J f.1.size (λk I=>(f.2.lt k I).1),t⟩
     have u:=Hid.mk' M;obtain⟨F,G,rfl,-⟩:=hE.form;have n:=atS g 0 c D;rw[show 0+1*j=j by omega]at n;clear M t J d o f q r;go_wp2_with (first|(refine mC (x:=u6) (y:=.slice F (L j).length G) (v:=H) (w':=W') rfl _ _ 82 rfl ?_ ?_ ?_ ?_;rfl;rfl;exact u)|fail)
     go_roundg (gk-1)
     case measure=>omega
     case rel=>exact⟨j+1,oM,rfl,U⟩
    .have z:¬(j:Int)<(i:Int):=oM;obtain rfl:j=i:=oM;go_wp2;go_ret;exact⟨_,rfl,f.1,f.2⟩
def bY(B:Nat)(s t:XB)(l m:LB)(q:0<(l++m).length)(O:l.length<=500)(P:m.length<=500)(u:∀x∈l,x.2.size=33)(r:∀x∈m,x.2.size=33)(w:XA)(E:SmZ B w s l)(I:SmZ B w t m):
 cZ 31 #[s,t] w (rZ w λe w'=>Sm w.heap.size w' e (l++m)):=by
 obtain⟨a,c1,L,-⟩:=E.form;obtain⟨p,c2,N,-⟩:=I.form;subst L;subst N;obtain⟨b,k⟩:=hE (w.alloc (.cells #[.slice a l.length c1,.slice p m.length c2] 82));have D:kZ w b:=k.out▸aD _;have o:w.heap.size<b.heap.size:=by rw[<-k.out,XP];omega
 have F:b.rangeAt w.heap.size 0 [.slice a l.length c1,.slice p m.length c2]:=k.out▸(Made.alloc w [.slice a l.length c1,.slice p m.length c2] 82).range;have K:=Hid.mk' (ID w.heap.size 2 2 (λj=>if j=0 then l else m) dC (λj _=>by show(if j=0 then l else m).length<=600;split<;>omega) (λj _=>by
  show ∀x∈(if j=0 then l else m),x.2.size=33;split
  .exact u
  .exact r) b o (λj d=>by
  have i:∀ {v:XB}{l:LB},SmZ B w v l->SmZ 0 b v l:=λh=>by
   rcases h.grow D with h|⟨g,c,f,n,-,A,y⟩
   .exact Ye h
   .exact X7 ⟨g,c,f,n,Zl _,A,y⟩
  have d:j=0\/j=1:=oM;rcases d with rfl|rfl
  .exact⟨_,F 0 _ rfl,i E⟩
  .exact⟨_,F 1 _ rfl,i I⟩))
 have d:eW (λj=>if j=0 then l else m) 2=l++m:=by rw[dB,dB];rfl
 have z:=Hid.mk' D;have H:=mk2 d q;go_enter func31,ntmps31;go_wp2_with fail
 rw[k.out];refine K.mono ?_;rintro e G ⟨J,rfl,i,ho⟩;rw[H.1]at ho;have C:Hid (kZ w G/\Sm w.heap.size G J (l++m)):=by
  obtain⟨g,c,f,n,M,A,y⟩:=FZ ho H.2;exact⟨z.trans (i.mono z.size),g,c,f,n,XH z.size M,A,y⟩
 go_wp2;go_ret;exact⟨_,rfl,C.1,C.2⟩
def Is(w:XA):cZ 165 #[nZ,.func (.func 110) #[] #[]] w (rZ w λe w'=>e=iZ (-1)):=by
 go_enter func165,ntmps165;go_wp2;go_loopg [8] 0 (λq s8 W=>q=0/\s8=iZ 0/\W=w)
 case atStart=>exact⟨rfl,rfl,rfl⟩
 case round =>
  obtain⟨rfl,rfl,rfl⟩:=hrel;go_wp2;go_ret;exact⟨_,rfl,XR _ _,rfl⟩
def EP(w:XA):cZ 109 #[nZ,.func (.func 110) #[] #[]] w (rZ w λe w'=>e=nZ):=by
 have b:=Is;go_enter func109,ntmps109;go_wp2_with fail
 apply(b w).mono;rintro e d ⟨v1,rfl,k,rfl⟩;have c:=Hid.mk' k;clear k b;go_wp2;go_ret;exact⟨_,rfl,c,rfl⟩
def Ev{w:XA}:cZ 63 #[nZ] w (rZ w λe w'=>e=nZ):=by
 have c:(yEd 202 none).run prog w=.ok (.map (some w.heap.size)) (w.alloc (.map #[] 0)):=kR;obtain⟨d,k⟩:=yH (w.alloc (.map #[] 0));rw[k.out]at c;have f:Hid (kZ w d):=k.out▸aD _;have g:=Hid.mk' EP;clear k;go_enter func63,ntmps63;go_wp2;clear c;go_loopg [4,12] 0 (λq s4 s12 W=>q=0/\s4=nZ/\s12=iZ 0/\W=d)
 case atStart=>exact⟨rfl,rfl,rfl,rfl⟩
 case round =>
  obtain⟨rfl,rfl,rfl,rfl⟩:=hrel;go_wp2_with fail
  apply(g wr).mono;rintro e j ⟨v2,rfl,b,rfl⟩;have i:Hid (kZ w j):=f.trans (b.mono f.size);clear b g f;go_wp2;go_ret;exact⟨_,rfl,i,rfl⟩
def Ie{w:XA}(C:Fld P)(O:Ord N):YN prog 33 #[.slice none 0 0] w (rZ w λe w'=>e=pvl (wr (none:EC.Pt P))):=by
 refine(xH C O (.slice none 0 0) w 0 dC (λ_=>0) (λ_=>none) (λj k=>absurd k (ZP _)) (λj k=>absurd k (ZP _)) λW _=>(Ev).mono ?_).mono ?_
 .rintro e w' ⟨v,rfl,b,rfl⟩;exact⟨_,rfl,b,_,_,rfl,λh=>absurd h (Nat.lt_irrefl _)⟩
 .rintro e w' ⟨v,rfl,b,rfl⟩;exact⟨_,rfl,b,rfl⟩
structure Kp(w:XA)(W:XA)(rs:List (Nat × List XB)):Prop where
 bl:kZ w W
 rw:∀x∈rs,Row W x.1 x.2
def Kp.grow{w W W':XA}{rs:List (Nat × List XB)}(h:Kp w W rs)(k:kZ W W'):Kp w W' rs:=⟨h.bl.trans (k.mono h.bl.size),λx hx=>(h.rw x hx).below k⟩
def Kp.drew{w W:XA}{rs:List (Nat × List XB)}(h:Kp w W rs):Kp w W.drew rs:=⟨h.bl.drew,h.rw⟩
def Kp.at{w W:XA}{rs:List (Nat × List XB)}(h:Kp w W rs){k:Nat}{c:List XB}(i:Nat)(b:rs[i]? = some (k,c)):Row W k c:=h.rw _ (List.mem_of_getElem? b)
def Nw(B:Nat)(c:List XB)(v:XB)(W:XA):Prop:=∃k,v=jZ k/\B<=k/\Row W k c
section
variable (w:XA) (k6 k8 k9 k10 x kk c z B0:Nat) (A F:Bs) (v1:XB)
def R5:Nat->XB->XA->Prop
 | 0,v,_=>v=nv kk
 | 1,v,_=>v=pvl A
 | 2,v,_=>v=pvl F
 | 3,v,W=>Nw B0 z33 v W
 | _,_,_=>True
def Two(v:XB)(W:XA):Prop:=∃k y,v=sZ k 2 2/\k<W.heap.size/\W.cell? ⟨k,0,none⟩=some (sZ k9 33 33)/\W.cell? ⟨k,1,none⟩=some y/\El 32 W y (bx z)
def Ans(v:XB)(W:XA):Prop:=W.ownsRow B0 5 1 v 65 ((F.toList++(bx z).toList).map encB)
def R7:Nat->XB->XA->Prop
 | 0,v,_=>v=sZ k9 33 33
 | 1,v,_=>v=nv c
 | 2,v,_=>v=nv kk
 | 3,v,_=>v=nv x
 | 4,v,_=>v=nv z
 | 5,v,W=>El 32 W v (bx z)
 | 6,v,W=>Two k9 z v W
 | 7,v,W=>Ans z B0 F v W
 | 8,v,W=>Ans z B0 F v W
 | 9,v,_=>v=iZ 0
 | _,_,_=>True
end
def results_ct{P:YJ}{c:Func}{tmps:Array XB}{W:XA}{k:Nat}{vs:List XB}{v:XB}(t u:Zw)(T:Yd)(f:c.results=#[.cell t T,.tmp u])(h:Row W k vs)(e:tmps[t]? = some (jZ k))(hv:tmps[u]? = some v)
 (b:(P.underlying T).map (·.isRow)=some true) (g:(P.info? T).map (·.size)=some vs.length):(results c tmps).run P W=.ok (.tuple #[.agg vs.toArray,v]) W:=by
 obtain⟨d,b,hd⟩:=XE.1 b;have i:=yAx (P:=P) W k 0 T vs d h.2.1 b hd g;have j:tmps.getD t Zs=jZ k:=by rw[XQ,e];rfl
 have l:tmps.getD u Zs=v:=by rw[XQ,hv];rfl
 unfold results;rw[f];simp only[Array.mapM_eq_mapM_toList,List.mapM_cons,List.mapM_nil,j,l,asAddr];simp[X1,i]
def Qi{w:XA}:(yBR 51 #[]).run prog w=.ok (.agg z33.toArray) w:=kR
def Td(g o k:Nat)(w:XA):(yEf 51 (qZ g o 33 k)).run prog w=.ok (oZ g o) w:=kR
def FS{k:Bs}{p:Fin P × Fin P}(h:rd P k=some p):k.size=33:=by
 unfold rd at h;split at h
 .assumption
 .cases h
def Iu{W:XA}{g o:Nat}{b:Bs}(h:hZ W g o b):W.rangeAt g o (aA b):=λj u c=>by
 unfold aA at c;rw[YB]at c;obtain⟨x,hx,rfl⟩:=XE.1 c;have k:j<b.size:=by have:=(XM.1 hx).1;simpa using this
 rw[(h j k).1,getElem!_pos b j k];rw[YE,X8 k]at hx;rw[XX.inj hx]
def GY(C:Fld P)(v:XB)(k:Bs)(p:Fin P × Fin P)(w:XA)(hv:Arg33 w v k)(A:rd P k=some p):cZ 57 #[v] w (rZ w λe w'=>e=.tuple #[pvl k,tZ]):=by
 have z:=FS A;have I:Hid (∀W,kZ w W->cZ 103 #[v] W (rZ W λe w'=>e=tZ)):=λW H=>by
  have h:=CY C v k W (hv.below H);rw[A]at h;exact h
 obtain⟨q,n,cap,rfl,a,L⟩:=hv;rw[z]at a;subst a;obtain⟨g,o,rfl,-,K,G⟩:=L rfl;have x:=mk2 (Iu G) K;obtain⟨m,i⟩:=hE (lZ w z33 51);have f:Hid (Row m w.heap.size z33/\kZ w m):=by rw[<-i.out];exact⟨row_new w _ _,aD _⟩
 obtain⟨d,t,u⟩:=XE.1 uCP;have y:=mk2 t u;have J:=Hid.mk' z;have D:=Td g o cap;go_enter func57,ntmps57;go_wp2_with (first|(refine bH (v:=jZ w.heap.size) (w':=m) rfl (.alloc 51) rfl ?_ ?_;(rw[<-i.out];kernel_rfl))|fail)
 apply(I m f.2).mono;rintro e F ⟨M,rfl,c,rfl⟩;have r:=mk3 (f.1.below c) (f.2.trans (c.mono f.2.size)) (RG.range_below x.1 (f.2.trans (c.mono f.2.size)) x.2);obtain⟨B,j⟩:=hE (F.setCells w.heap.size 0 (aA k));have b:=aB J;have E:Hid (Row B w.heap.size (aA k)/\kZ w B):=by rw[<-j.out];exact⟨r.1.put (by rw[b];rfl),RG.below_setCells (XD _) _ _ _ r.2.1⟩
 obtain⟨N,l⟩:=hE (X9 (aA k).toArray);have s:Hid (gZ 51 (aA k).length/\F.there w.heap.size 0 (aA k).toArray.size/\gZ 51 (aA k).toArray.size):=by
  have e:(aA k).toArray.size=33:=by rw[YF];exact b
  refine⟨by rw[b];exact cV,by rw[e];exact r.1.2.2,by rw[e];exact cV⟩
 go_wp2_with (first|(refine YI rfl 51 _ rfl g o ?_ (aA k) d ?_ ?_ ?_ ?_ ?_;rfl;exact r.2.2;exact y.1;exact y.2;exact s.1;rw[l.out])|(refine Yk rfl 51 _ _ rfl w.heap.size 0 (aA k).toArray ?_ ?_ ?_ ?_ ?_ ?_;rfl;exact l.symm;exact s.2.1;exact s.2.2;exact bN;rw[show(aA k).toArray.toList=aA k from rfl,j.out])|fail)
 refine XN (results_ct 2 3 51 rfl E.1 rfl rfl uCP s.1) rfl ?_;exact⟨_,rfl,E.2,rfl⟩
def OX(C:Fld P)(v:XB)(i:Bs)(w:XA)(hv:Arg33 w v i)(q:rd P i=none):cZ 57 #[v] w (rZ w λe w'=>e=.tuple #[.agg z33.toArray,fZ]):=by
 have t:Hid (∀W,kZ w W->cZ 103 #[v] W (rZ W λe w'=>e=fZ)):=λW s=>by
  have h:=CY C v i W (hv.below s);rw[q]at h;exact h
 obtain⟨f,k⟩:=hE (lZ w z33 51);have g:Hid (Row f w.heap.size z33/\kZ w f):=by rw[<-k.out];exact⟨row_new w _ _,aD (w:=w) _⟩
 obtain⟨p,d⟩:=hE (X9 z33.toArray);have r:Hid (z33.toArray.all (·.oneCell')=true):=by show _=_;decide +kernel
 go_enter func57,ntmps57;go_wp2_with (first|(refine bH (v:=jZ w.heap.size) (w':=f) rfl (.alloc 51) rfl ?_ ?_;(rw[<-k.out];kernel_rfl))|fail)
 apply(t f g.2).mono;rintro e l ⟨u,rfl,b,rfl⟩;have j:=mk2 (g.1.below b) (g.2.trans (b.mono g.2.size));obtain⟨m,c⟩:=hE (l.setCells w.heap.size 0 z33);have n:Hid (Row m w.heap.size z33/\kZ w m):=by rw[<-c.out];exact⟨j.1.put rfl,RG.below_setCells (XD _) _ _ _ j.2⟩
 have o:=Hid.mk' (Qi (w:=l));rw[d.out]at o;go_wp2_with (first|(refine mB (v:=p) (w':=l) rfl 51 _ rfl #[] ?_ ?_ ?_;kernel_rfl;exact o)|(refine Yk rfl 51 _ _ rfl w.heap.size 0 z33.toArray ?_ ?_ ?_ ?_ ?_ ?_;rfl;exact d.symm;exact j.1.2.2;exact cV;exact r;rw[show z33.toArray.toList=z33 from rfl,c.out])|fail)
 refine XN (results_ct 2 3 51 rfl n.1 rfl rfl uCP cV) rfl ?_;exact⟨_,rfl,n.2,rfl⟩
def atP{k o n c i:Nat}(b:i<n)(w:XA):(Yv 83 (qZ k o n c) (iZ i)).run prog w=.ok (oZ k (o+33*i)) w:=by
 go_simp
def Ux(N:Nat)(e:N<=512):∃C0:List XB,C0.length=33*N/\∀w:XA,(yAh 83 (iZ N) (iZ N)).run prog w=.ok (sZ w.heap.size N N) (w.alloc (.cells C0.toArray 51)):=by
 have g:prog.underlying 83=some (.slice 51):=kR;have n:(prog.info? 51).map (λi=>(i.size,decide (i.bytes<=4000),i.zero.isSome))=some (33,true,true):=kR;obtain⟨i,b,k⟩:=XE.1 n;simp only[Ze.injEq,decide_eq_true_eq]at k;obtain⟨f,j,d⟩:=k;obtain⟨z,m⟩:=YQ.1 d;refine⟨(madeCells z.cells (N*33)).toList,by rw[XU,size_madeCells,YK],λw=>?_⟩;have l:(i.bytes:Int)*(N:Int)<=281474976710656:=by
  have:i.bytes*N<=4000*512:=Nat.mul_le_mul j e;have c:((i.bytes*N:Nat):Int)<=281474976710656:=oM;rwa[Int.natCast_mul]at c
 have:=run_make (P:=prog) w 83 51 i z g b m .i64 .i64 (N:Int) (N:Int) oM oM l oM;rw[Int.toNat_natCast,f]at this;rw[Array.toArray_toList];exact this
structure Az(w W:XA)(K k i:Nat)(L:Nat->Bs):Prop where
 bl:kZ w W
 lt:K<W.heap.size
 th:W.there K 0 (33*k)
 rw:∀j,j<i->W.rangeAt K (33*j) (aA (L j))
def Az.grow{w W W':XA}{K k i:Nat}{L:Nat->Bs}(h:Az w W K k i L)(b:kZ W W'):Az w W' K k i L:=
 ⟨h.bl.trans (b.mono h.bl.size),XC h.lt b.size,eC h.th b h.lt,λj c=>RG.range_below (h.rw j c) b h.lt⟩
def Az.put{w W:XA}{K k i:Nat}{L:Nat->Bs}(h:Az w W K k i L)(d:w.heap.size<=K)(g:i<k)(c:∀j,j<=i->(L j).size=33):Az w (W.setCells K (33*i) (aA (L i))) K k (i+1) L:=by
 refine⟨RG.below_setCells d _ _ _ h.bl,by rw[setCells_size];exact h.lt,Zg h.th _ _ _,λj f=>?_⟩;by_cases b:j=i
 .subst b;refine YY W K _ _ λt e=>?_
  rw[aB (c j (XD _))]at e;have:=h.th (33*j+t) oM;rwa[XI]at this
 .exact Yn (h.rw j oM) K _ _ (X7 (Ye (by rw[aB (c j oM)];omega)))
def Xw(P:Nat)[NeZero P](w:XA)(k:Nat)(L:Nat->Bs)(e:XB)(w':XA):Prop:=
 kZ w w'/\(((∀j,j<k->∃p,rd P (L j)=some p)/\∃K,e=.tuple #[sZ K k k,tZ]/\w.heap.size<=K/\K<w'.heap.size/\∀j,j<k->w'.rangeAt K (33*j) (aA (L j)))\/((∃j,j<k/\rd P (L j)=none)/\e=.tuple #[nZ,fZ]))
def Qv(P:Nat)[NeZero P](w:XA)(k:Nat)(L:Nat->Bs)(e:XB)(w':XA):Prop:=
 kZ w w'/\(((∀j,j<k->∃p,rd P (L j)=some p)/\∃K,e=.tuple #[sZ K k k,tZ]/\w.heap.size<=K/\K<w'.heap.size/\w'.there K 0 (33*k)/\∀j,j<k->w'.rangeAt K (33*j) (aA (L j)))\/((∃j,j<k/\rd P (L j)=none)/\e=.tuple #[nZ,fZ]))
def Ti(C:Fld P)(B o k c:Nat)(hk:k<=512)(L:Nat->Bs)(w:XA)(hg:B<w.heap.size)(hL:∀j,j<k->∃v,w.cell? ⟨B,o+j,none⟩=some v/\Arg33 w v (L j)):
 YN prog 56 #[.func (.func 57) #[] #[],.slice (some ⟨B,o,none⟩) k c] w (Ret (Qv P w k L)):=by
 obtain⟨C0,Q,M⟩:=Ux k hk;have u:=M w;obtain⟨w1,A⟩:=hE (w.alloc (.cells C0.toArray 51));rw[A.out]at u;have HM:=Hid.mk' u;have K1:Hid (Az w w1 w.heap.size k 0 L):=by
  have hR:Row w1 w.heap.size C0:=by rw[<-A.out];exact row_new w _ _
  refine⟨by rw[<-A.out];exact aD _,hR.1,by rw[<-Q];exact hR.2.2,λj U=>oM⟩
 have S:Hid (Fld P/\(∀j,j<k->∃v,w.cell? ⟨B,o+j,none⟩=some v/\Arg33 w v (L j))/\B<w.heap.size):=⟨C,hL,hg⟩
 obtain⟨d,H,J⟩:=XE.1 uCP;have HD:=mk2 H J;have HO:Hid (z33.toArray.all (·.oneCell')=true):=by show _=_;decide +kernel
 clear H J C hL hg M Q A;go_enter func56,ntmps56;go_wp2;clear u;go_loopg [16] k (λm s16 W=>∃i:Nat,i+m=k/\s16=iZ i/\Hid (Az w W w.heap.size k i L/\∀j,j<i->∃p,rd P (L j)=some p))
 case atStart=>exact⟨0,oM,rfl,K1,λj U=>oM⟩
 case round =>
  obtain⟨i,h1,rfl,x⟩:=hrel;by_cases N:i<k
  .have X:(i:Int)<(k:Int):=oM;obtain⟨v,O,R⟩:=S.2.1 i N;have hc:wr.cell? ⟨B,o+i,none⟩=some v:=by rw[x.1.bl.cell (p:=⟨B,o+i,none⟩) S.2.2];exact O
   have V:Hid (Arg33 wr v (L i)):=R.below x.1.bl;have T:=atB B o c N;rw[show o+1*i=o+i by omega]at T;clear O R;obtain⟨b,a⟩:=yH (L i);rw[a.out]at V;obtain⟨g,f⟩:∃g:Nat,True:=⟨0,yEZ⟩
   clear f g;cases I:rd P b with
   | none =>
    go_wp2_with fail
    apply(OX S.1 v b wr V I).mono;rintro e z ⟨vv,rfl,E,rfl⟩;obtain⟨vz,l⟩:=hE (X9 z33.toArray);rw[l.out];obtain⟨g,f⟩:=hE (z.heap.size);obtain⟨y,r⟩:=hE (z.alloc (.cells z33.toArray 51));obtain⟨G,n⟩:=hE (y.setCells g 0 z33);have F:Hid (Row y g z33/\kZ w y/\w.heap.size<=g):=by
     have s:=x.1.bl.trans (E.mono x.1.bl.size);rw[<-r.out,<-f.out];exact⟨row_new z _ _,s.alloc s.size _,s.size⟩
    have D:Hid (kZ w G):=by rw[<-n.out];exact RG.below_setCells F.2.2 _ _ _ F.2.1
    have s:Hid (i<k/\rd P (L i)=none):=⟨N,by rw[a.out];exact I⟩
    go_wp2_with (first|(refine bH (v:=jZ g) (w':=y) rfl (.alloc 51) rfl ?_ ?_;(rw[<-r.out,<-f.out];kernel_rfl))|(refine Yk rfl 51 _ _ rfl g 0 z33.toArray ?_ ?_ ?_ ?_ ?_ ?_;rfl;exact l.symm;exact F.1.2.2;exact cV;exact HO;rw[show z33.toArray.toList=z33 from rfl,n.out])|fail)
    go_ret2
    exact⟨_,rfl,D,X7 ⟨⟨i,s⟩,rfl⟩⟩
   | some p =>
    have hs:=FS I;go_wp2_with fail
    apply(GY S.1 v b p wr V I).mono;rintro e z ⟨vv,rfl,E,rfl⟩;obtain⟨vz,l⟩:=hE (pvl b);rw[l.out];have s:=aB hs;have h0:(aA b).toArray.size=33:=by rw[YF];exact s
    obtain⟨g,f⟩:=hE (z.heap.size);obtain⟨y,r⟩:=hE (z.alloc (.cells z33.toArray 51));obtain⟨G,n⟩:=hE (y.setCells g 0 (aA b));obtain⟨W4,K⟩:=hE (G.setCells w.heap.size (33*i) (aA b));have A1:=x.1.grow E;have F:Hid (Row y g z33/\kZ z y):=by
     rw[<-r.out,<-f.out];exact⟨row_new z _ _,aD _⟩
    have Y:Hid (Row G g (aA b)/\Az w G w.heap.size k i L):=by
     rw[<-n.out];exact⟨F.1.put (by rw[s];rfl),A1.grow (RG.below_setCells (by rw[f.out];exact XD _) _ _ _ F.2)⟩
    have K4:Hid (Az w W4 w.heap.size k (i+1) L/\∀j,j<i+1->∃p,rd P (L j)=some p):=by
     have D:∀j,j<i+1->∃p,rd P (L j)=some p:=λj U=>by
      by_cases Z:j=i
      .subst Z;exact⟨p,by rw[a.out];exact I⟩
      .exact x.2 j oM
     have h:=Y.2.put (XD _) N (λj U=>by obtain⟨q,Z⟩:=D j oM;exact FS Z);rw[a.out,K.out]at h;exact⟨h,D⟩
    have D:Hid ((prog.info? 51).map (·.size)=some (aA b).length/\(prog.info? 51).map (·.size)=some (aA b).toArray.size/\y.there g 0 (aA b).toArray.size/\G.there w.heap.size (33*i) (aA b).toArray.size):=by
     rw[s,h0];refine⟨cV,cV,F.1.2.2,λt Z=>?_⟩;have:=Y.2.th (33*i+t) oM;rwa[XI]at this
    have Z:=atP (k:=w.heap.size) (o:=0) (c:=k) N;go_wp2_with (first|(refine bH (v:=jZ g) (w':=y) rfl (.alloc 51) rfl ?_ ?_;(rw[<-r.out,<-f.out];kernel_rfl))|(refine Yk rfl 51 _ _ rfl g 0 (aA b).toArray ?_ ?_ ?_ ?_ ?_ ?_;rfl;exact l.symm;exact D.2.2.1;exact D.2.1;exact bN;rw[show(aA b).toArray.toList=aA b from rfl,n.out])|(refine YI rfl 51 _ rfl g 0 ?_ (aA b) d ?_ ?_ ?_ ?_ ?_;rfl;exact Y.1.2.1;exact HD.1;exact HD.2;exact D.1;rw[show X9 (aA b).toArray=vz from l.out])|(refine Yk rfl 51 _ _ rfl w.heap.size (33*i) (aA b).toArray ?_ ?_ ?_ ?_ ?_ ?_;rfl;exact l.symm;exact D.2.2.2;exact D.2.1;exact bN;rw[show(aA b).toArray.toList=aA b from rfl,K.out])|fail)
    go_roundg (gk-1)
    case measure=>omega
    case rel=>exact⟨i+1,oM,rfl,K4⟩
  .have X:¬(i:Int)<(k:Int):=oM;obtain rfl:i=k:=oM;go_wp2
   go_ret2
   exact⟨_,rfl,x.1.bl,Ye ⟨x.2,w.heap.size,rfl,XD _,x.1.lt,x.1.th,x.1.rw⟩⟩
def Tj{b k c:Nat}{L:Nat->Bs}{w:XA}(C:Fld P)(d:k<=512)(e:b<w.heap.size)(f:∀j,j<k->∃v,w.cell? ⟨b,j,none⟩=some v/\Arg33 w v (L j)):
 cZ 56 #[.func (.func 57) #[] #[],sZ b k c] w (Ret (Qv P w k L)):=Ti C b 0 k c d L w e λj g=>by rw[XI];exact f j g
def Fo{b:Nat}{L:Nat->Bs}{w:XA}(C:Fld P)(k c:Nat)(l:k<=512)(i:b<w.heap.size)(f:∀j,j<k->∃v,w.cell? ⟨b,j,none⟩=some v/\Arg33 w v (L j)):
 cZ 56 #[.func (.func 57) #[] #[],sZ b k c] w (Ret (Xw P w k L)):=by
 apply(Tj C l i f).mono;rintro e w' ⟨v,rfl,g,h⟩;refine⟨_,rfl,g,?_⟩;rcases h with⟨m,K,n,p,d,-,o⟩|h
 .exact Ye ⟨m,K,n,p,d,o⟩
 .exact X7 h
end Go.Proofs.YtlofhpkoaljmeaaGreat
