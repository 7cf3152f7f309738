import Derived.Laws.IdiomCopy
import Derived.Lib.SlBuf
import Derived.Deep.AppendSrc
import Derived.Test.YtlofhpkoaljmeaaGreatat5
set_option linter.unusedVariables false
set_option linter.defProp false
set_option linter.constructorNameAsVariable false
set_option linter.unusedSimpArgs false
set_option maxRecDepth 1000000
set_option maxHeartbeats 4000000
namespace Go.Proofs.YtlofhpkoaljmeaaGreat
open EC NT RG SP
open _root_.And renaming intro->Y0
open _root_.Array renaming getD->yED,getD_eq_getD_getElem?->XU,getElem?_eq_getElem->Ye,getElem?_eq_some_iff->X9,getElem?_setIfInBounds->ZF,length_toList->X0,replicate->XW,replicate_succ->yB1,replicate_zero->yB0,setIfInBounds->yAQ,setIfInBounds_comm->yBF
open _root_.Bool renaming and_eq_true->XZ,and_true->yDd,noConfusion->yBl,or_eq_true->yAc
open _root_.Go renaming Addr->Y4,Calls->ZI,Exit->yAN,FuncId->ZZ,Oper->Yw,Operand->yAp,Program->YO,Tmp->ZC,TypeId->Yj,Value->XG,World->XF,bodyPost_ret->XR,execOp->Ym,getD_set_ne->yAI,run_loadVar_mid->yAH,run_storeVar_mid->yCk,undef->ZB,wpList_load_mid->YG,wpList_plain->ZT,wpList_store_mid->Yi,wpOp_mono->yCj
open _root_.Go.Act renaming put->Yo
open _root_.Go.Builtin renaming append_->YK,copy_->yAL
open _root_.Go.Code renaming region->Zg
open _root_.Go.Fence renaming wide->yCP
open _root_.Go.Instr renaming box->Yu,buildSlice->YF,sliceAt->ZH,storeAt->yBk,sureAddr->yAP
open _root_.Go.IntKind renaming i64->Yt,u64->Yy,wrap_i64->Zo,wrap_u64->ZX
open _root_.Go.KeepsOthers renaming alloc->yEg,setCell->yCs
open _root_.Go.Next renaming value->ZW
open _root_.Go.Oper renaming semAt_some->yBY,upon_enter->ZU,wp->Y8
open _root_.Go.Operand renaming tmp->yDX
open _root_.Go.Region renaming binds->Y3,free->yBy,noSelect->yAC,ready->Yq,wanted->Zd
open _root_.Go.Result renaming andThen_ok->YE
open _root_.Go.RowKit.Below renaming refl->XX
open _root_.Go.Sem renaming run_bind->X6,run_pure->Zu
open _root_.Go.Value renaming agg->Yg,func->yCO,int->Y1,ownBlock->Zm,slice->yA0
open _root_.Go.World renaming cell?->YY,cell?_of_block->Yb,frozen?->Zt,rangeAt->yBi,rangeAt_setCells_apart->Yr,size_alloc->XS,there_setCells->Za
open _root_.List renaming all_toArray->yAR,append_assoc->YU,append_nil->yAt,append_toArray->yCb,cons_append->ZS,drop->Z5,getElem?_append_left->X1,getElem?_append_right->X4,getElem?_cons_succ->Yl,getElem?_cons_zero->Yn,getElem?_eq_getElem->XV,getElem?_eq_some_iff->XT,getElem?_map->YC,getElem?_toArray->Yp,getElem_map->yAj,length_append->XP,length_cons->YA,length_map->X7,length_nil->ZD,length_range->yAb,map_append->Y5,mem_append->Zh,mem_cons->Zc,mem_map->YD,mem_of_getElem?->YZ,mem_singleton->Ze,nil_append->Z1,nodup_append->yBO,nodup_cons->yA3,nodup_nil->yEe,not_mem_nil->Yf,push_toArray->yCv,range->YB,range_succ->yA2,replicate->YR,setIfInBounds_toArray->XJ,set_cons_succ->XM,set_cons_zero->XO,size_toArray->YJ,take->Z4
open _root_.Nat renaming add_assoc->ZL,add_sub_cancel_left->ZN,add_zero->yAi,le_of_eq->yBh,le_of_lt->yAm,le_refl->XH,le_trans->XN,lt_of_lt_of_le->XI,lt_of_sub_eq_succ->yBg,lt_or_ge->Zx,min->yAG,min_le_left->yCS,min_le_right->yCM,mod_eq_of_lt->Ya,mod_lt->Zi,mul_add->yBa,mul_le_mul_left->yAf,mul_one->yAe,not_lt_zero->yAh,pow_pos->yAJ,pow_succ->Zr,reduceAdd->YQ,reduceSub->yDi,sub_zero->yBI,zero_add->XQ,zero_le->Zq,zero_lt_succ->yCL,zero_mod->yBf,zero_mul->yDA
open _root_.Ne renaming symm->yA7
open _root_.Option renaming isSome_iff_exists->YP,map_eq_some_iff->XK,some->X5
open _root_.Or renaming inl->Yk,inr->Yd
open _root_.Prod renaming mk->Zl
open Go.Proofs.Tryz
open Go.RowKit Go.Sort Go.Deep
section
section
variable {P:YO}{ops:Array Yw}{Q:yAN->Act->XF->Prop}{S:Array Bool->XF->Prop}
def bK{t:Array XG}{o:Yw}(k:o.guard=none):Zd o (yielded ops t)=true:=by
 unfold Zd;rw[k]
def anyS(P:YO)(k:Array Yw)(Q:yAN->Act->XF->Prop)(S:Array Bool->XF->Prop):Nat->Array Bool->Act->XF->Prop
 | 0,listed,a,w=>Yq .any k listed=[]/\Q .normal a w
 | fuel+1,listed,a,w=>(Yq .any k listed=[]->Q .normal a w) /\
  ∀i∈Yq .any k listed,wpOp P k Q i (λb w'=>S (listed.setIfInBounds i true) w'/\anyS P k Q S fuel (listed.setIfInBounds i true) b w') a w
def anyS.any:∀(k:Nat) (b:Array Bool) (a:Act) (w:XF),anyS P ops Q S k b a w->wpAny P .any ops Q k b a w
 | 0,_,_,_,h=>h
 | k+1,_,_,_,h=>⟨h.1,λi d=>yCj (λe w' c=>anyS.any k _ e w' c.2) (h.2 i d)⟩
def Bef(S:Array Bool->XF->Prop)(p:Nat)(w:XF):Prop:=∃l:Array Bool,l.getD p false=false/\S l w
def anyS.first{p i:Nat}{y op:Yw}{v:XG}(R:ops[i]? = some y)(Z:ops[p]? = some op)(J:∃e∈op.after,Y3 .any e=true/\e.on=i)(N:p≠i)(T:∀l w,S (yAQ l i true) w->S l w)
 (s:∀(j:Nat) (o:Yw) cs b,ops[j]? = some o->o.op≠.select cs b) (hQ:∀c a w,Q (.panic c) (a.put y.dst v) w->Q (.panic c) a w) :
 ∀(g:Nat) (d:Array Bool) (a:Act) (w:XF),d.getD p false=false ->
  (∀j u,ops[j]? = some u->j≠i->d.getD j true=false->(∀e∈u.after,Y3 .any e=true->e.on≠i)->y.apart ops u=true) ->
  i∈Yq .any ops d->YieldsIf P ops (Bef S p) y v a->Bef S p w->S (d.setIfInBounds i true) w ->
  anyS P ops Q S g (d.setIfInBounds i true) (a.put y.dst v) w->anyS P ops Q S (g+1) d a w:=by
 intro g;induction g with
 | zero =>
  intro d a w _ _ A E U x H;refine⟨λh=>absurd A (by rw[h];exact Yf),λj G=>?_⟩;by_cases f:j=i
  .subst f;exact E.wpOp R U ⟨x,H⟩
  .exact absurd (ready_mono G f) (by rw[H.1];exact Yf)
 | succ g ih =>
  intro d a w Y n A E U x H;refine⟨λh=>absurd A (by rw[h];exact Yf),λj G=>?_⟩;by_cases f:j=i
  .subst f;exact E.wpOp R U ⟨x,H⟩
  .obtain⟨r,u,m,C⟩:=mem_ready.1 G;have q:∀e∈u.after,Y3 .any e=true->e.on≠i:=λe K W L=>by
    have t:=C e K W;have B:=(mem_ready.1 A).1;rw[L]at t;rcases Zx i d.size with z|z
    .simp[z]at B t;rw[B]at t;cases t
    .simp[Array.getElem?_eq_none z]at t
   have B:j≠p:=by
    intro h;subst h;rw[Z]at m;obtain⟨e,K,W,t⟩:=J;injection m with m
    subst m;exact q e K W t
   have h2:=wpOp_putIf m (n j u m f r q) (λcs b=>s i y cs b R) (λcs b=>s j u cs b m) hQ E (H.2 j (ready_mono G f));have M:(d.setIfInBounds j true).getD p false=false:=by rw[yAI false B];exact Y
   refine yCj (λa' w' F=>?_) h2;have X:(d.setIfInBounds i true).setIfInBounds j true=(d.setIfInBounds j true).setIfInBounds i true:=(yBF _ _ (yA7 f))
   have t:=F.2.1;rw[X]at t;have O:Bef S p w':=⟨_,by rw[yAI false B,yAI false (yA7 N)];exact Y,F.2.1⟩
   refine⟨T _ _ t,ih (d.setIfInBounds j true) a' w' M (λk ok hk I D V=>?_) (ready_mono A (yA7 f)) F.1 O t ?_⟩
   .refine n k ok hk I ?_ V;by_cases z:j=k
    .subst z;exact r
    .rw[yAI true z]at D;exact D
   .rw[<-X];exact F.2.2
def anyS.take{p i:Nat}{f:Yw}{v:XG}{b:Nat}{k:Array Bool}{a:Act}{w:XF}(o:ops[i]? = some f)(g:∀l w,S (yAQ l i true) w->S l w)(s:YieldsIf P ops (Bef S p) f v a)(u:Bef S p w)(n:S (k.setIfInBounds i true) w)
 (h:anyS P ops Q S b (k.setIfInBounds i true) (a.put f.dst v) w) (d:waits ops p i=true:=by kernel_rfl) (t:yAC ops=true:=by kernel_rfl)
 (j:(k.getD p false || p == i)=false:=by kernel_rfl) (hf:yBy .any ops k i=true:=by kernel_rfl) (r:(Yq .any ops k).contains i=true:=by kernel_rfl)
 (x:∀c a w,Q (.panic c) (a.put f.dst v) w->Q (.panic c) a w:=by exact λ_ _ _ h=>h):anyS P ops Q S (b+1) k a w:=by
 rw[Bool.or_eq_false_iff]at j;unfold waits at d;cases ho:ops[p]? with
 | none=>rw[ho]at d;cases d
 | some op =>
  rw[ho]at d;obtain⟨e,q,m⟩:=Array.any_eq_true'.1 d;simp only[XZ,beq_iff_eq]at m;exact anyS.first o ho ⟨e,q,m.1,m.2⟩ (by simpa using j.2) g (Region.noSelect_spec t) x b k a w j.1 (Region.free_spec o hf) (by simpa using r) s u n h
def anyS.step{i:Nat}{o:Yw}{b:Nat}{k:Array Bool}{a:Act}{w:XF}(ho:ops[i]? = some o)(f:Yq .any ops k=[i])
 (h:∀c:Act->XF->Prop,Shut (∀a w,S (k.setIfInBounds i true) w->anyS P ops Q S b (k.setIfInBounds i true) a w->c a w) ->
  if Zd o (yielded ops a.tmps)=true then Y8 P o a w c Q else c (a.put o.dst ZB) w):anyS P ops Q S (b+1) k a w:=by
 refine⟨λd=>(by rw[f]at d;cases d),λj e=>?_⟩;rw[f,Ze]at e;subst e;exact wpOp_step ho (λc m=>h c (λa w l g=>m a w ⟨l,g⟩))
def anyS.done{k:Array Bool}{a:Act}{w:XF}(c:Yq .any ops k=[])(h:Q .normal a w):∀b,anyS P ops Q S b k a w
 | 0=>⟨c,h⟩
 | _+1=>⟨λ_=>h,by rw[c];intro i d;cases d⟩
def anyS.begin{id:Nat}{a:Act}{w:XF}(S:Array Bool->XF->Prop)(k:P.follows .mixedOrders=true)(h:anyS P ops Q S ops.size (XW ops.size false) a w.drew):(Zg id ops true).wp P Q a w:=
 wp_region_any k (anyS.any _ _ _ _ h)
section
variable {i p fuel:Nat}{o:Yw}{listed:Array Bool}{a:Act}{w w':XF}{v:XG}
def anyS.ins{d:Option ZC}{I:Sem XG}(ho:ops[i]? = some o)(hx:I.run P w=.ok v w')(b:S (listed.setIfInBounds i true) w')(h:anyS P ops Q S fuel (listed.setIfInBounds i true) (a.put d v) w')
 (f:Yq .any ops listed=[i]:=by kernel_rfl) (k:o.guard=none:=by rfl) (c:Ym a.eval o=I >>= λv=>pure (ZW v):=by kernel_rfl) (hd:o.dst=d:=by kernel_rfl):anyS P ops Q S (fuel+1) listed a w:=by
 subst hd;exact anyS.step ho f λK e=>by
  rw[yE3 (bK k)];unfold Y8;rw[c,X6,hx];exact e _ _ b h
def anyS.cal{d:Option ZC}{f:ZZ}{args:Array XG}{R:XG->XF->Prop}(ho:ops[i]? = some o)(g:ZI P f args w (Ret R))(h:∀v w',R v w'->S (listed.setIfInBounds i true) w'/\anyS P ops Q S fuel (listed.setIfInBounds i true) (a.put d v) w')
 (b:Yq .any ops listed=[i]:=by kernel_rfl) (k:o.guard=none:=by rfl) (hx:(Ym a.eval o).run P w=.ok (.enter f args) w:=by kernel_rfl) (hd:o.dst=d:=by kernel_rfl):anyS P ops Q S (fuel+1) listed a w:=by
 subst hd;exact anyS.step ho b λK c=>by
  rw[yE3 (bK k)];unfold Y8;rw[hx,ZU];refine g.mono ?_;rintro e w' ⟨v,rfl,hR⟩;exact c _ _ (h v w' hR).1 (h v w' hR).2
def anyS.sto{d:Option ZC}(ho:ops[i]? = some o)(k:Yj)(x y:yAp)(c:o.op=.store k x y)(b off:Nat)(u:XG)(hv:u.cells=#[u])(m:u.oneCell'=true)(p:w.there b off 1)(n:(P.info? k).map (·.size)=some 1)
 (q:S (listed.setIfInBounds i true) (w.setCells b off [u])) (h:anyS P ops Q S fuel (listed.setIfInBounds i true) (a.put d ZB) (w.setCells b off [u])) (hx:a.eval x=oZ b off:=by kernel_rfl) (l:a.eval y=u:=by kernel_rfl)
 (f:Yq .any ops listed=[i]:=by kernel_rfl) (g:o.guard=none:=by rfl) (hd:o.dst=d:=by kernel_rfl):anyS P ops Q S (fuel+1) listed a w:=by
 subst hd;exact anyS.step ho f λK j=>by
  rw[yE3 (bK g)];have f:=yCk (P:=P) w b off k #[u] p n (by simp[m]);have e:storeVar k ⟨b,off,none⟩ u=storeVar k ⟨b,off,none⟩ (.agg #[u]):=by
   unfold storeVar;rw[hv];rfl
  unfold Y8 Ym;simp only[c,hx,l,yBk,yAP,X6,Zu,YE,e,f];exact j _ _ q h
def anyS.cel{d:Option ZC}{x:XG}(ho:ops[i]? = some o)(p:Nat)(e:∀l w,S (yAQ l i true) w->S l w)(T:Yj)(t:ZC)(b off:Nat)(k:o.op=.load T (.tmp t))(y:(P.underlying T).map (·.isRow)=some false)(s:∀w,Bef S p w->w.cell? ⟨b,off,none⟩=some x)(r:Bef S p w)(g:S (listed.setIfInBounds i true) w)
 (h:anyS P ops Q S fuel (listed.setIfInBounds i true) (a.put d x) w) (hx:a.eval (.tmp t)=oZ b off:=by kernel_rfl) (j:o.guard=none:=by rfl) (m:waits ops p i=true:=by kernel_rfl) (q:yAC ops=true:=by kernel_rfl)
 (u:(listed.getD p false || p == i)=false:=by kernel_rfl) (hf:yBy .any ops listed i=true:=by kernel_rfl) (n:(Yq .any ops listed).contains i=true:=by kernel_rfl)
 (v:∀c a w,Q (.panic c) (a.put o.dst x) w->Q (.panic c) a w:=by exact λ_ _ _ h=>h) (hd:o.dst=d:=by kernel_rfl):anyS P ops Q S (fuel+1) listed a w:=by
 subst hd;exact anyS.take (p:=p) ho e (Yk ⟨bK j,λw f=>by
  unfold Ym;rw[k];dsimp only;rw[hx,X6,eN (s w f) y];rfl⟩) r g h m q u hf n v
def anyS.row{d:Option ZC}{cs:List XG}(ho:ops[i]? = some o)(p:Nat)(g:∀l w,S (yAQ l i true) w->S l w)(T:Yj)(t:ZC)(b off:Nat)(k:TypeDesc)(e:o.op=.load T (.tmp t))(z:P.underlying T=some k)(f:k.isRow=true)(s:(P.info? T).map (·.size)=some cs.length)(v:∀w,Bef S p w->w.rangeAt b off cs)(u:Bef S p w)(j:S (listed.setIfInBounds i true) w)
 (h:anyS P ops Q S fuel (listed.setIfInBounds i true) (a.put d (.agg cs.toArray)) w) (hx:a.eval (.tmp t)=oZ b off:=by kernel_rfl) (m:o.guard=none:=by rfl) (n:waits ops p i=true:=by kernel_rfl) (r:yAC ops=true:=by kernel_rfl)
 (x:(listed.getD p false || p == i)=false:=by kernel_rfl) (hf:yBy .any ops listed i=true:=by kernel_rfl) (q:(Yq .any ops listed).contains i=true:=by kernel_rfl)
 (y:∀c a w,Q (.panic c) (a.put o.dst (.agg cs.toArray)) w->Q (.panic c) a w:=by exact λ_ _ _ h=>h) (hd:o.dst=d:=by kernel_rfl):anyS P ops Q S (fuel+1) listed a w:=by
 subst hd;exact anyS.take (p:=p) ho g (yieldsIf_load_mid (bK m) T (.tmp t) e b off hx cs k v z f s) u j h n r x hf q y
def anyS.val{d:Option ZC}{x:XG}(ho:ops[i]? = some o)(p:Nat)(k:∀l w,S (yAQ l i true) w->S l w)(m:Bef S p w)(b:S (listed.setIfInBounds i true) w)(h:anyS P ops Q S fuel (listed.setIfInBounds i true) (a.put d x) w)(hv:∀w,(Ym a.eval o).run P w=.ok (.value x) w:=by intro _;kernel_rfl)(e:o.guard=none:=by rfl)(f:waits ops p i=true:=by kernel_rfl)(j:yAC ops=true:=by kernel_rfl)
 (n:(listed.getD p false || p == i)=false:=by kernel_rfl) (hf:yBy .any ops listed i=true:=by kernel_rfl) (g:(Yq .any ops listed).contains i=true:=by kernel_rfl)
 (q:∀c a w,Q (.panic c) (a.put o.dst x) w->Q (.panic c) a w:=by exact λ_ _ _ h=>h) (hd:o.dst=d:=by kernel_rfl):anyS P ops Q S (fuel+1) listed a w:=by
 subst hd;exact anyS.take (p:=p) ho k (Yk ⟨bK e,λw _=>hv w⟩) m b h f j n hf g q
def anyS.nxt{d:Option ZC}{x:XG}(ho:ops[i]? = some o)(b:S (listed.setIfInBounds i true) w)(h:anyS P ops Q S fuel (listed.setIfInBounds i true) (a.put d x) w)(hv:(Ym a.eval o).run P w=.ok (.value x) w:=by kernel_rfl)(e:Yq .any ops listed=[i]:=by kernel_rfl)(k:o.guard=none:=by rfl)(hd:o.dst=d:=by kernel_rfl):anyS P ops Q S (fuel+1) listed a w:=by
 subst hd;exact anyS.step ho e λK c=>by
  rw[yE3 (bK k)];unfold Y8;rw[hv];exact c _ _ b h
end
end
end
section
open SPA
variable {P:Nat}[NeZero P]{N:Nat}[NeZero N]
def Nt:yZ 64:=yQ
def Ll:gZ 64 4:=gQ
def DjF(B:Nat)(W:XF)(t:Nat)(f e c d:XG):Prop:=∃k b l m,c=r32 k/\d=r32 b/\(k :: b :: (l++m)).Nodup/\W.ownsRow 0 23 1 f t (l.map r33)/\W.ownsRow 0 23 1 e t (m.map r33)/\∀g,g∈k :: b :: (l++m)->B<=g/\g<W.heap.size
def DjF.keep{B e t:Nat}{W W':XF}{k b f d:XG}(h:DjF B W t k b f d)(n:e<=B)(s:W.heap.size<=W'.heap.size)(hv:∀g,k.ownBlock=some g->W'.heap[g]? = W.heap[g]?)(w:∀g,b.ownBlock=some g->W'.heap[g]? = W.heap[g]?):DjF e W' t k b f d:=by
 obtain⟨j,p,l,m,u,o,r,v,q,i⟩:=h;exact⟨j,p,l,m,u,o,r,bG v hv,bG q w,λg c=>⟨XN n (i g c).1,XI (i g c).2 s⟩⟩
def DjF.of{B t b c:Nat}{W W':XF}{v u:XG}(h:Dj W B t t v u)(r:W.heap.size<=W'.heap.size)(hv:∀g,v.ownBlock=some g->W'.heap[g]? = W.heap[g]?)(n:∀g,u.ownBlock=some g->W'.heap[g]? = W.heap[g]?)(o:B<=W.heap.size)(q:W.heap.size<=b)(s:b<c)(p:c<W'.heap.size):DjF B W' t v u (r32 b) (r32 c):=by
 obtain⟨l,m,f,i,j,d⟩:=h;refine⟨b,c,l,m,rfl,rfl,?_,bG i hv,bG j n,λg k=>?_⟩
 .rw[yA3,yA3];refine⟨λe=>?_,λe=>?_,f⟩
  .rcases Zc.1 e with e|e
   .omega
   .have:=(d _ e).2;omega
  .have:=(d _ e).2;omega
 .rcases Zc.1 k with rfl|k
  .exact⟨oM,oM⟩
  .rcases Zc.1 k with rfl|k
   .exact⟨oM,oM⟩
   .have:=d _ k;exact⟨this.1,oM⟩
structure PhR(w:XF)(r t:Nat)(Lb Rb:Nat->Bs)(L:Bs)(A B:Bs)(e:XG)(w':XF):Prop where
 on:SP.Only r 0 32 w w'
 ex:∃vL vR vA vB,e=.agg #[vL,vR,vA,vB]/\TlL (λ_=>True) w.heap.size t w' vL Lb/\TlL (λ_=>True) w.heap.size t w' vR Rb/\ElQ (w.heap.size<=·) 32 w' vA A/\ElQ (w.heap.size<=·) 32 w' vB B
 lg:hZ w' r 0 L
 dj:∀vL vR vA vB,e=.agg #[vL,vR,vA,vB]->DjF w.heap.size w' t vL vR vA vB
def uLL:wZ 27:=wQ
def iLL:gZ 27 1:=gQ
def Xn{k n c:Nat}{w:XF}:(YF 27 1 #[(0,sZ k n c)]).run prog w=.ok (sZ w.heap.size 1 1) (w.alloc (.cells #[sZ k n c] 23)):=kR
def Vz{Q:Nat->Prop}{W:XF}{x:XG}{b:Bs}(h:ElQ Q 33 W x b)(w:XF):(YF 27 1 #[(0,x)]).run prog w=.ok (sZ w.heap.size 1 1) (w.alloc (.cells #[x] 23)):=by
 obtain⟨k,c,rfl,-⟩:=h;exact Xn
def TlL.one{Q:Nat->Prop}{k i:Nat}{W:XF}{v:XG}{B:Nat->Bs}(h:TlL Q k i W v B):v.cells=#[v]/\v.oneCell'=true:=by
 obtain⟨xs,⟨-,⟨rfl,-⟩|⟨g,cap,cur,rfl,-⟩⟩,-⟩:=h.ex<;>exact⟨rfl,rfl⟩
def Ph.put'{w W W':XF}{r k j f n:Nat}{l m c d v va g:XG}{i Rb:Nat->Bs}{L:Bs}{a b:Nat->Nat}{G H:Nat->LB}{U:LB}(h:Ph w W r k j f n l m c d v va g i Rb L a b G H U)(e:W'=(W.setCells (k+3) 0 [c]).setCells (k+3) 1 [d]):Ph w W' r k j f n c d c d v va g i Rb L a b G H U:=e ▸ h.put
def anyS.fin{P:YO}{c:Array Yw}{Q:yAN->Act->XF->Prop}{S:Array Bool->XF->Prop}{k:Array Bool}{a:Act}{w:XF}(d:Yq .any c k=[])(h:∀W,W=w->Q .normal a W)(b:Nat):anyS P c Q S b k a w:=anyS.done d (h w rfl) b
def Ml{A B:OnP P}{X Y:Bs}(O:Ord N)(g:IsP N)(r:Nat)(L:Bs)(d:X=wP A)(n:Y=wP B):∃(s:Bs) (c:Fin N),Hid (chF N L A B=(s,c)/\s.size=32)/\Hid (∀W:XF,hZ W r 0 L->L.size=32->cZ 135 #[lgV r,.string ⟨#[108,101,102,116]⟩,pvl X,.string ⟨#[114,105,103,104,116]⟩,pvl Y] W (Ret λe w'=>SP.Only r 0 32 W w'/\hZ w' r 0 s/\e=nv c.val)):=by
 subst d n;have e:chF N L A B=(aX (kH [108,101,102,116] [114,105,103,104,116] L (wP A) (wP B)),lD N (kH [108,101,102,116] [114,105,103,104,116] L (wP A) (wP B))):=by unfold chF;dsimp only
 have j:=aL A.1;have f:=aL B.1;refine⟨_,_,⟨e,bD⟩,λW l m=>?_⟩;have k:=uM O r L (wP A) (wP B) ⟨#[108,101,102,116]⟩ ⟨#[114,105,103,104,116]⟩ dC dC j f W l m;have i:kH (⟨#[108,101,102,116]⟩:ByteArray).data.toList (⟨#[114,105,103,104,116]⟩:ByteArray).data.toList L (wP A) (wP B)=kH [108,101,102,116] [114,105,103,104,116] L (wP A) (wP B):=rfl;rw[i]at k;have b:∀M,cha N M<N:=λM=>pJ O
 generalize kH [108,101,102,116] [114,105,103,104,116] L (wP A) (wP B)=M at k;rw[Hd g.1 (b M)]at k;exact k
def own_base{W:XF}{c b n k:Nat}{e:Yj}{v:XG}{xs:List XG}(h:W.ownsRow c e k v n xs)(f:b<=c):W.ownsRow b e k v n xs:=by
 rcases h with⟨d,j|⟨g,cap,cur,rfl,l,i⟩⟩
 .exact⟨d,Yk j⟩
 .exact⟨d,Yd ⟨g,cap,cur,rfl,XN f l,i⟩⟩
def Ph.fin{w W:XF}{r k t n:Nat}{f i v va J m l:XG}{y Rb:Nat->Bs}{L A B:Bs}{a b:Nat->Nat}{G H:Nat->LB}{U:LB}(h:Ph w W r k t t n f i f i v va J y Rb L a b G H U)(I:ElQ (k+4<=·) 32 W m A)(C:ElQ (k+4<=·) 32 W l B)(hd:DjF (k+4) W t f i m l):
 Row W (k+2) [nZ,nZ,nZ,nZ]/\Row (W.setCells (k+2) 0 [f,i,m,l]) (k+2) [f,i,m,l]/\PhR w r t y Rb L A B (.agg #[f,i,m,l]) (W.setCells (k+2) 0 [f,i,m,l]):=by
 have K:=h.rk;have F:=h.wk;have j:∀g,g≠k+2->(W.setCells (k+2) 0 [f,i,m,l]).heap[g]? = W.heap[g]?:=λg u=>aE _ 0 _ g u
 have p:W.heap.size<=(W.setCells (k+2) 0 [f,i,m,l]).heap.size:=by rw[setCells_size];exact XH _
 have kq:Kq (QH r k f i) W (W.setCells (k+2) 0 [f,i,m,l]):=⟨p,λg q _=>j g (oN q.2.1)⟩
 have s:Kq (k+4<=·) W (W.setCells (k+2) 0 [f,i,m,l]):=⟨p,λg q _=>j g oM⟩
 have z:∀ {x:XG}{B:Nat->Bs},TlL (QH r k f i) (k+4) t W x B->TlL (λ_=>True) w.heap.size t (W.setCells (k+2) 0 [f,i,m,l]) x B:=λhx=>by
  have E:=(hx.keep kq λg o=>j g (oN ((hx.lt o).1))).mono2 (Q':=λ_=>True) λ_ _ _=>trivial
  obtain⟨xs,u,D⟩:=E.ex;exact⟨xs,own_base u oM,D⟩
 exact⟨h.r2,h.r2.put rfl,jQ h.on h.wk h.rk oM,⟨_,_,_,_,rfl,z h.tL,z h.tR,(I.keep s).mono2 λg _ o=>oM,(C.keep s).mono2 λg _ o=>oM⟩,jX h.lg (j r oM),λa b c d e=>by
  injection e with e
  simp only[Array.mk.injEq,List.cons.injEq,and_true]at e;obtain⟨rfl,rfl,rfl,rfl⟩:=e;exact hd.keep oM p (λg o=>j g (oN ((h.tL.lt o).1))) (λg o=>j g (oN ((h.tR.lt o).1)))⟩
omit [NeZero N] in
theorem eI(O:Ord N){a:Nat}(c:a<N)(w:XF):cZ 10 #[nv a] w (rZ w λe w'=>ElQ (w.heap.size<=·) 32 w' e (bx a)/\∃g,e=r32 g):=by
 apply(nV O c w).mono;rintro e w' ⟨v,rfl,k,b,rfl⟩;exact⟨_,rfl,b.bel,⟨k,32,rfl,XH _,cU a,b.le,b.lt,cb_holds b.range b.there⟩,k,rfl⟩
def iB1:gZ 23 1:=gQ
def hvI{P:YO}{I:Sem XG}{c:Sem Next}{x:XG}(b:∀w,I.run P w=.ok x w)(k:c=I >>= λv=>pure (ZW v)):∀w,c.run P w=.ok (.value x) w:=λw=>by rw[k,X6,b w,YE,Zu]
def nfB{b:Bool}(h:b=true):¬b=false:=λe=>by rw[h]at e;cases e
def WF{m:Nat}:((m+m:Nat):Int).tdiv 2=(m:Int):=by rw[Int.tdiv_eq_ediv_of_nonneg oM];omega
def Og(C:Fld P)(O:Ord N)(f:∀r:EC.Pt P,On r->mul N r=none)(hP:IsP N)(t:Nat)(ht:t<=6)(q:Md.Ps Bs (Fin N) (OnP P))(u:OnP P)(G0 H0:Nat->LB)(U:LB)(ez:Gd N (2^t) 1 G0 q.g)(e4:Gd N (2^t) 1 H0 q.h)(hU:Tl N U u)(dx:0<U.length)(fz:U.length<=16)
 (Lb Rb:Nat->Bs) (g7:∀j,Lb j=wP ((aD C f).pLi (chF N) ivF u t q j)) (i0:∀j,Rb j=wP ((aD C f).pTi (chF N) ivF u t q j)) (r:Nat) (v0 cp cf:XG) (w:XF) (hL:hZ w r 0 q.s) (dl:q.s.size=32) (hv:GRq (·≠r) w v0 (2^t) G0 H0 U) (ha:SLq (·≠r) w cp (2^t) (λi=>(q.a i).val)) (K:SLq (·≠r) w cf (2^t) (λi=>(q.b i).val)) :
 cZ 90 #[lgV r,v0,cp,cf] w (Ret (PhR w r t Lb Rb ((aD C f).pst (chF N) ivF u t q t).s (bx (((aD C f).pst (chF N) ivF u t q t).a 0).val) (bx (((aD C f).pst (chF N) ivF u t q t).b 0).val))):=by
 have hr:=Holds.lt hL (by rw[dl];decide);obtain⟨k,hk⟩:=yH w.heap.size;obtain⟨e0,gu,ff,fu⟩:=hv.ar;subst gu;obtain⟨w1,kb⟩:=hE (w.alloc (.cells #[jZ r] 159));obtain⟨w2,kp⟩:=hE (w1.alloc (.cells e0 150));obtain⟨w3,k6⟩:=hE (w2.alloc (.cells #[nZ,nZ,nZ,nZ] 64));obtain⟨w4,bc⟩:=yH (w3.alloc (.cells #[nZ,nZ,nZ,nZ] 64));have z1:w1.heap.size=k+1:=by rw[<-kb.out,XS,hk.out]
 have z2:w2.heap.size=k+2:=by rw[<-kp.out,XS,z1]
 have z3:w3.heap.size=k+3:=by rw[<-k6.out,XS,z2]
 have g9:r<k:=hk.out▸hr;have K4:Hid (∃G H,Gd N (2^(t-0)) (2^0) G ((aD C f).pst (chF N) ivF u t q 0).g/\Gd N (2^(t-0)) (2^0) H ((aD C f).pst (chF N) ivF u t q 0).h/\Ph w w4 r k 0 0 (2^(t-0)) nZ nZ nZ nZ (.agg e0) cp cf Lb Rb ((aD C f).pst (chF N) ivF u t q 0).s (λi=>(((aD C f).pst (chF N) ivF u t q 0).a i).val) (λi=>(((aD C f).pst (chF N) ivF u t q 0).b i).val) G H U):=by
  have b1:kZ w w1:=kb.out▸aC _;have E:kZ w1 w2:=kp.out▸aC _;have D:kZ w2 w3:=k6.out▸aC _;have F:kZ w3 w4:=bc.out▸aC _;have T:Row w1 k [jZ r]:=kb.out▸hk.out▸row_new w _ _;have S:Row w2 (k+1) e0.toList:=by rw[<-kp.out,<-z1];exact row_new w1 e0.toList 150
  have V:Row w3 (k+2) [nZ,nZ,nZ,nZ]:=by rw[<-k6.out,<-z2];exact row_new w2 _ _
  have R:Row w4 (k+3) [nZ,nZ,nZ,nZ]:=by rw[<-bc.out,<-z3];exact row_new w3 _ _
  have bb:kZ w w4:=((b1.trans (E.mono b1.size)).trans (D.mono (XN b1.size E.size))).trans (F.mono (XN b1.size (XN E.size D.size)));have J:∀g,g<w.heap.size->g≠r->QH r k nZ nZ g:=λg M L=>⟨L,Yk (hk.out▸M),(λe=>by cases e),(λe=>by cases e)⟩
  have A:∀(B:Nat->Bs) (Q:Nat->Prop),TlL Q (k+4) 0 w4 nZ B:=λB Q=>⟨[],⟨rfl,Yk ⟨rfl,rfl⟩⟩,λj hj=>absurd hj (yAh _)⟩
  have kq:∀ {Q:Nat->Prop},Kq Q w w4:=Kq.of_below bb;exact⟨G0,H0,ez,e4,SP.Only.of_below bb rfl hr,g9,hk,((T.below E).below D).below F,⟨e0,rfl,ff,fu,(S.below D).below F⟩,V.below F,⟨R.1,[nZ,nZ],rfl,R⟩,A _ _,A _ _,(λg e=>by cases e),(ha.mono2 J).keep kq,(K.mono2 J).keep kq,(hv.mono2 J).keep kq,Holds.below hL bb hr,dl,⟨[],[],yEe,⟨rfl,Yk ⟨rfl,rfl⟩⟩,⟨rfl,Yk ⟨rfl,rfl⟩⟩,λg M=>absurd M Yf⟩⟩
 obtain⟨vl,ba⟩:=hE (lgV r);obtain⟨vG,be⟩:=hE (Yg e0);have B1:Hid ((Yu 159 vl).run prog w=.ok (jZ k) w1):=ba.out▸kb.out▸hk.out▸Po;have B2:Hid ((Yu 150 vG).run prog w1=.ok (jZ (k+1)) w2):=by
  obtain⟨a1,a2,a3,ea⟩:∃a b c,e0=#[a,b,c]:=by
   obtain⟨E,D,A,e,-⟩:=hv.ex;injection e with e
   exact⟨E,D,A,e⟩
  rw[<-be.out,<-kp.out,<-z1,ea];exact DF
 have HZ:=mk3 z2 z3 hk;have e7:=mk2 g7 i0;have HF:Hid (Fld P/\Ord N/\IsP N/\Tl N U u/\0<U.length/\U.length<=16/\t<=6):=⟨C,O,hP,hU,dx,fz,ht⟩
 obtain⟨d,f7,f4⟩:=XK.1 uGr;have HD:=mk2 f7 f4;rw[be.out]at K4;rw[ba.out,be.out];clear f7 f4 z1 z2 z3 kb kp hk hL dl hv ha K ez e4 hU dx fz ff fu hr O hP be;go_enter func90,ntmps90;go_wp2_with (first|(refine aG (u:=vl) (v:=jZ k) (w':=w1) rfl 159 (.tmp 0) rfl ?_ ?_ ?_;rfl;exact B1)|(refine aG (u:=vG) (v:=jZ (k+1)) (w':=w2) rfl 150 (.tmp 1) rfl ?_ ?_ ?_;rfl;exact B2)|(refine fR (v:=jZ (k+2)) (w':=w3) rfl 64 8 rfl rfl ?_ ?_;(rw[<-k6.out,<-HZ.1];kernel_rfl))|(refine fR (v:=jZ (k+3)) (w':=w4) rfl 64 9 rfl rfl ?_ ?_;(rw[<-bc.out,<-HZ.2.1];kernel_rfl))|fail)
 clear B1 B2 k6 bc;simp only[Yo,XJ,XM,XO];go_loopg [2,3] t (λm s2 s3 W=>∃i:Nat,i+m=t/\Hid (∃E J v G H,Gd N (2^(t-i)) (2^i) G ((aD C f).pst (chF N) ivF u t q i).g/\Gd N (2^(t-i)) (2^i) H ((aD C f).pst (chF N) ivF u t q i).h/\Ph w W r k i i (2^(t-i)) E J E J v s2 s3 Lb Rb ((aD C f).pst (chF N) ivF u t q i).s (λj=>(((aD C f).pst (chF N) ivF u t q i).a j).val) (λj=>(((aD C f).pst (chF N) ivF u t q i).b j).val) G H U))
 case atStart=>exact⟨0,oM,_,_,_,K4⟩
 case round =>
  obtain⟨i,i8,KM⟩:=hrel;by_cases hi:i<t
  .obtain⟨E,J,v,G,H,hG,hH,h0⟩:=KM;clear KM;have HI:=Hid.mk' hi;obtain⟨m,hm⟩:∃m,m=2^(t-(i+1)):=⟨_,rfl⟩
   have b9:2^(t-i)=m+m:=by rw[hm,show t-i=t-(i+1)+1 by omega,Zr];omega
   have b8:0<m:=by rw[hm];exact yAJ dC
   obtain⟨c,hc⟩:∃c,c=2^i:=⟨_,rfl⟩
   have ki:0<c:=by rw[hc];exact yAJ dC
   have fh:c*(m+m)<=64:=by
    rw[<-b9,hc,<-Nat.pow_add,show i+(t-i)=t by omega];exact XN (Nat.pow_le_pow_right dC HF.2.2.2.2.2.2) dC
   have k0:c*m<=64:=oN (yAf c (show m<=m+m by omega));have fe:m<=64:=oN (Nat.mul_le_mul_right m ki);have eS:(aD C f).pst (chF N) ivF u t q (i+1)=(aD C f).rQ (chF N) ivF u m ((aD C f).pst (chF N) ivF u t q i):=by rw[hm];rfl
   have eL:(aD C f).pLi (chF N) ivF u t q i=(aD C f).pL u m ((aD C f).pst (chF N) ivF u t q i):=by rw[hm];rfl
   have eT:(aD C f).pTi (chF N) ivF u t q i=(aD C f).pT u m ((aD C f).pst (chF N) ivF u t q i):=by rw[hm];rfl
   have HE:Hid (2^(t-(i+1))=m/\2^(i+1)=c+c):=⟨hm.symm,by rw[Zr,hc];omega⟩
   rw[b9,<-hc]at hG hH;rw[b9]at h0;clear hm b9 hc;generalize (aD C f).pst (chF N) ivF u t q i=L at hG hH h0 eS eL eT;have HS:Hid ((aD C f).pst (chF N) ivF u t q (i+1)=(aD C f).rQ (chF N) ivF u m L/\(aD C f).pLi (chF N) ivF u t q i=(aD C f).pL u m L/\(aD C f).pTi (chF N) ivF u t q i=(aD C f).pT u m L):=⟨eS,eL,eT⟩
   clear eS eL eT;obtain⟨ga,oa,ca,rfl,fp,-⟩:=id h0.la;obtain⟨Z,ob,F,rfl,dm,-⟩:=id h0.lb;have sG:=Hid.mk' (Y0 hG (Y0 hH (Y0 b8 (Y0 ki (Y0 fh (Y0 fe k0))))));obtain⟨l1,fy,ft⟩:=JR (Q:=QH r k E J) C HF.2.1 f b8 ki k0 hG.high hH.low HF.2.2.2.1 HF.2.2.2.2.1 HF.2.2.2.2.2.1 L.a (λj=>L.b (m+j));obtain⟨l2,er,fn⟩:=JR (Q:=QH r k E J) C HF.2.1 f b8 ki k0 hG.low hH.high HF.2.2.2.1 HF.2.2.2.2.1 HF.2.2.2.2.2.1 (λj=>L.a (m+j)) L.b;obtain⟨X,hX⟩:∃X,X=wP ((aD C f).pL u m L):=⟨_,rfl⟩
   obtain⟨Y,hY⟩:∃Y,Y=wP ((aD C f).pT u m L):=⟨_,rfl⟩
   have sX:X.size=33:=by rw[hX];exact aL _
   have sY:Y.size=33:=by rw[hY];exact aL _
   have cd:∀(W:XF) (v:XG),Sm 0 W v l1->cZ 33 #[v] W (rZ W λe w'=>e=pvl X):=by rw[hX];exact ft
   have bs:∀(W:XF) (v:XG),Sm 0 W v l2->cZ 33 #[v] W (rZ W λe w'=>e=pvl Y):=by rw[hY];exact fn
   clear ft fn;obtain⟨PH,h4⟩:∃PH:XF->Prop,Hid (∀W,PH W↔Ph w W r k i i (m+m) E J E J v (qZ ga oa (m+m) ca) (qZ Z ob (m+m) F) Lb Rb L.s (λj=>(L.a j).val) (λj=>(L.b j).val) G H U):=⟨_,λ_=>Iff.rfl⟩
   have k5:Hid (∀W W':XF,kZ W W'->PH W->PH W'):=λW W' K h=>(h4 W').2 (((h4 W).1 h).grow K)
   have K0:Hid (PH wr):=(h4 wr).2 h0;have i4:Hid (∀W,PH W->cZ 142 #[v] W (Ret (CrR (QH r k E J) W m G H U))):=λW h=>IP m b8 oM G H U v W ((h4 W).1 h).gr
   have cS:Hid ((∀W (x:XG),PH W->GRq (QH r k E J) W x m (λi=>G (m+i)) H U->cZ 143 #[x,qZ ga oa m ca,qZ Z (ob+m*4) m (F-m)] W (rZ W λe w'=>Sm W.heap.size w' e l1))/\(∀W (x:XG),PH W->GRq (QH r k E J) W x m G (λi=>H (m+i)) U->cZ 143 #[x,qZ ga (oa+m*4) m (ca-m),qZ Z ob m F] W (rZ W λe w'=>Sm W.heap.size w' e l2))):=
    ⟨λW x h hx=>fy W x _ _ hx ((h4 W).1 h).la.low ((h4 W).1 h).lb.high,λW x h hx=>er W x _ _ hx ((h4 W).1 h).la.high ((h4 W).1 h).lb.low⟩
   have cP:Hid ((∀(W:XF) (v:XG),Sm 0 W v l1->cZ 33 #[v] W (rZ W λe w'=>e=pvl X))/\(∀(W:XF) (v:XG),Sm 0 W v l2->cZ 33 #[v] W (rZ W λe w'=>e=pvl Y))):=⟨cd,bs⟩
   have bk:=Eh ga oa (m+m) ca m oM;have kf:=Eg Z ob m oM dm;have kh:=Eg ga oa m oM fp;have bu:=Eh Z ob (m+m) F m oM;rw[Nat.add_sub_cancel]at kf kh;have h7:=mk4 sX sY hX hY;obtain⟨sx,cx,e8,eo⟩:∃(s:Bs) (c:Fin N),Hid (chF N L.s ((aD C f).pL u m L) ((aD C f).pT u m L)=(s,c)/\s.size=32)/\Hid (∀W:XF,hZ W r 0 L.s->L.s.size=32->cZ 135 #[lgV r,.string ⟨#[108,101,102,116]⟩,pvl X,.string ⟨#[114,105,103,104,116]⟩,pvl Y] W (Ret λe w'=>SP.Only r 0 32 W w'/\hZ w' r 0 s/\e=nv c.val)):=Ml HF.2.1 HF.2.2.1 r L.s hX hY;obtain⟨e1,g3,kr,c0,bh⟩:=h0.r1;have HV:=mk3 g3 kr c0;have R1:Hid (wr.rangeAt (k+1) 0 e1.toList/\gZ 150 e1.toList.length):=⟨bh.2.1,by rw[X0,kr];exact iGr⟩
   obtain⟨n,hn⟩:=hE (m+m);have hq:(n:Int).tdiv 2=(m:Int):=hn.out▸WF;have ia:(1:Int)<(n:Int):=by rw[<-hn.out];omega
   rw[hn.out]at bk kf kh bu;rw[hn.out];clear h0 fy er cd bs sX sY hX hY g3 kr c0 bh hG hH fh k0 fp dm ki hi;go_wp2_with (first|(refine YG rfl 150 (.tmp 5) rfl (k+1) 0 ?_ e1.toList d ?_ ?_ ?_ ?_ ?_;rfl;exact R1.1;exact HD.1;exact HD.2;exact R1.2;rw[show Yg e1.toList.toArray=v from HV.1.symm])|fail)
   apply(i4 wr K0).mono;rintro e W1 ⟨uu,rfl,g6,f1,f2,rfl,cz,cg,gn,i1,ge,gc⟩;have K1:=mk1 (k5 wr W1 g6 K0);obtain⟨b1,h8⟩:=yH W1.heap.size;obtain⟨W2,kt⟩:=yH (W1.alloc (.cells #[nZ,nZ,nZ] 150));obtain⟨W3,d6⟩:=yH (W2.alloc (.cells #[nZ,nZ,nZ] 150));obtain⟨W4,ds⟩:=yH (W3.setCells b1 0 f1.toList);obtain⟨W5,ed⟩:=yH (W4.setCells (b1+1) 0 f2.toList);have zz:W2.heap.size=b1+1:=by rw[<-kt.out,XS,h8.out]
   have bp:f1.toList.length=3:=by rw[X0];exact cz
   have bt:f2.toList.length=3:=by rw[X0];exact cg
   have F3:kZ W1 W3/\Row W3 b1 [nZ,nZ,nZ]/\Row W3 (b1+1) [nZ,nZ,nZ]:=by
    have bA:kZ W1 W2:=kt.out▸aC _;have A:kZ W2 W3:=d6.out▸aC _;have D:Row W2 b1 [nZ,nZ,nZ]:=kt.out▸h8.out▸row_new W1 _ _;have R:Row W3 (b1+1) [nZ,nZ,nZ]:=by rw[<-d6.out,<-zz];exact row_new W2 _ _
    exact⟨bA.trans (A.mono bA.size),D.below A,R⟩
   have F4:kZ W1 W4/\Row W4 b1 f1.toList/\Row W4 (b1+1) [nZ,nZ,nZ]:=by
    rw[<-ds.out];exact⟨RG.below_setCells (h8.out▸XH _) _ _ _ F3.1,F3.2.1.put (by rw[bp];rfl),aP F3.2.2 oM⟩
   have F5:kZ W1 W5/\Row W5 b1 f1.toList/\Row W5 (b1+1) f2.toList:=by
    rw[<-ed.out];exact⟨RG.below_setCells (by rw[h8.out];omega) _ _ _ F4.1,aP F4.2.1 oM,F4.2.2.put (by rw[bt];rfl)⟩
   have K5:=mk5 (k5 W1 W5 F5.1 K1) F5.2.1 F5.2.2 (ge.keep (Kq.of_below F5.1)) (gc.keep (Kq.of_below F5.1));have HT:Hid ((W2.heap.size=b1+1/\W3.there b1 0 f1.size/\W4.there (b1+1) 0 f2.size)/\f1.all (·.oneCell')=true/\f2.all (·.oneCell')=true/\gZ 150 f1.size/\gZ 150 f2.size/\gZ 150 f1.toList.length/\gZ 150 f2.toList.length):=⟨⟨zz,by rw[cz];exact F3.2.1.2.2,by rw[cg];exact F4.2.2.2.2⟩,gn,i1,by rw[cz];exact iGr,by rw[cg];exact iGr,by rw[bp];exact iGr,by rw[bt];exact iGr⟩
   obtain⟨y1,et⟩:=hE (Yg f1);obtain⟨y2,g0⟩:=hE (Yg f2);rw[et.out,g0.out];go_wp2_with (first|(refine alR 11 h8 kt ?_)|(refine fR (v:=jZ (b1+1)) (w':=W3) rfl 150 12 rfl rfl ?_ ?_;(rw[<-d6.out,<-HT.1.1];kernel_rfl))|(refine Yi rfl 150 (.tmp 11) _ rfl b1 0 f1 ?_ ?_ ?_ ?_ ?_ ?_;rfl;exact et.symm;exact HT.1.2.1;exact HT.2.2.2.1;exact HT.2.1;rw[ds.out])|(refine Yi rfl 150 (.tmp 12) _ rfl (b1+1) 0 f2 ?_ ?_ ?_ ?_ ?_ ?_;rfl;exact g0.symm;exact HT.1.2.2;exact HT.2.2.2.2.1;exact HT.2.2.1;rw[ed.out])|fail)
   refine(gwL [pE (.agg f1.toList.toArray),pE (qZ ga oa n ca),pE (iZ m),pE (qZ ga oa m ca),pE (qZ Z ob n F),pE (iZ m),pE (qZ Z (ob+m*4) m (F-m)),pM (λ_=>True) l1,pE (pvl X),RG.pN W5.heap.size z33] (λW=>kZ W5 W) (λW W' K h=>h.trans (K.mono h.size))).tail2 10 kR kR kR ⟨
    iU 11 b1 0 uGr HT.2.2.2.2.2.1 rfl (λW T=>RG.range_below K5.2.1.2.1 T K5.2.1.1) (λ_=>rfl),
    gO 2 (qZ ga oa n ca),
    gO 10 (iZ m),
    RG.gX 1 29 2 30 bk,
    gO 3 (qZ Z ob n F),
    gO 10 (iZ m),
    RG.gX 4 32 5 33 kf,
    nJ 0 28 3 31 6 34 143 (λx y z=>#[x,y,z]) (λx y z W hx A hz T=>by
     obtain rfl:x=.agg f1.toList.toArray:=hx;obtain rfl:y=(qZ ga oa m ca):=A;obtain rfl:z=(qZ Z (ob+m*4) m (F-m)):=hz;apply(cS.1 W _ (k5 W5 W T K5.1) (K5.2.2.2.1.keep (Kq.of_below T))).mono;rintro e W' ⟨uu,rfl,K,hs⟩;exact⟨_,rfl,K,hs.q.mono λ_ _=>trivial⟩),
    oL 7 35 33 (λx=>#[x]) (λx W hx T=>by
     have hx:=hx;apply(cP.1 W x hx.sm).mono;rintro e W' ⟨uu,rfl,K,rfl⟩;exact⟨_,rfl,K,rfl⟩),
    uG z33 51 (λW W' hR T=>⟨_,rfl,T.size,hR⟩),yE5⟩ (XX _ _).drew ?_
   intro V d7 hR T;have dd:=hR 8 dC;obtain⟨D,d0,h5,k8⟩:∃k,V 9=jZ k/\W5.heap.size<=k/\Row d7 k z33:=hR 9 dC;obtain⟨W7,d5⟩:=hE (d7.setCells D 0 (aA X));have kk:=aB h7.1;have de:kZ W5 W7:=d5.out▸RG.below_setCells h5 _ _ _ T;have gq:Row W7 D (aA X):=by rw[<-d5.out];exact k8.put (by rw[kk];rfl)
   have bn:Hid (d7.there D 0 (aA X).toArray.size/\gZ 51 (aA X).toArray.size):=by
    rw[YJ,kk];exact⟨k8.2.2,iCP⟩
   dsimp only[bY,YQ,Z4,Z5];simp only[Yo,XJ,XM,XO];obtain⟨i9,c8⟩:=hE (pvl X);rw[dd,d0,c8.out];have ey:=mk1 (XI ((h4 W5).1 K5.1).r3.1 h5);have c6:Hid (∀g,E.ownBlock=some g\/J.ownBlock=some g->g<D):=λg M=>by
    have h:=(h4 W5).1 K5.1;rcases M with M|M
    .exact XI (h.tL.lt M).2 h5
    .exact XI (h.tR.lt M).2 h5
   have K7:=mk4 (k5 W5 W7 de K5.1) (K5.2.2.1.below de) (K5.2.2.2.2.keep (Kq.of_below de)) gq;go_wp2_with (first|(refine stR 13 d5 c8 bn.1 bn.2 bQ ?_)|fail)
   refine(gwL [pE (.agg f2.toList.toArray),pE (qZ ga oa n ca),pE (iZ m),pE (qZ ga (oa+m*4) m (ca-m)),pE (qZ Z ob n F),pE (iZ m),pE (qZ Z ob m F),pM (λ_=>True) l2,pE (pvl Y),RG.pN W7.heap.size z33] (λW=>kZ W7 W) (λW W' K h=>h.trans (K.mono h.size))).tail2 10 kR kR kR ⟨
    iU 12 (b1+1) 0 uGr HT.2.2.2.2.2.2 rfl (λW T=>RG.range_below K7.2.1.2.1 T K7.2.1.1) (λ_=>rfl),
    gO 2 (qZ ga oa n ca),
    gO 10 (iZ m),
    RG.gX 1 38 2 39 kh,
    gO 3 (qZ Z ob n F),
    gO 10 (iZ m),
    RG.gX 4 41 5 42 bu,
    nJ 0 37 3 40 6 43 143 (λx y z=>#[x,y,z]) (λx y z W hx A hz T=>by
     obtain rfl:x=.agg f2.toList.toArray:=hx;obtain rfl:y=(qZ ga (oa+m*4) m (ca-m)):=A;obtain rfl:z=(qZ Z ob m F):=hz;apply(cS.2 W _ (k5 W7 W T K7.1) (K7.2.2.1.keep (Kq.of_below T))).mono;rintro e W' ⟨uu,rfl,K,hs⟩;exact⟨_,rfl,K,hs.q.mono λ_ _=>trivial⟩),
    oL 7 44 33 (λx=>#[x]) (λx W hx T=>by
     have hx:=hx;apply(cP.2 W x hx.sm).mono;rintro e W' ⟨uu,rfl,K,rfl⟩;exact⟨_,rfl,K,rfl⟩),
    uG z33 51 (λW W' hR T=>⟨_,rfl,T.size,hR⟩),yE5⟩ (XX _ _).drew ?_
   intro V ct hR T;have dd:=hR 8 dC;obtain⟨A,d0,h5,k8⟩:∃k,V 9=jZ k/\W7.heap.size<=k/\Row ct k z33:=hR 9 dC;obtain⟨W9,d2⟩:=yH (ct.setCells A 0 (aA Y));have kk:=aB h7.2.1;have fm:kZ W7 W9:=d2.out▸RG.below_setCells h5 _ _ _ T;have i2:Row W9 A (aA Y):=by rw[<-d2.out];exact k8.put (by rw[kk];rfl)
   have bo:Hid (ct.there A 0 (aA Y).toArray.size/\gZ 51 (aA Y).toArray.size):=by
    rw[YJ,kk];exact⟨k8.2.2,iCP⟩
   dsimp only[bY,YQ,Z4,Z5];simp only[Yo,XJ,XM,XO];obtain⟨i5,bz⟩:=hE (pvl Y);rw[dd,d0,bz.out];have K9:Hid (PH W9/\Row W9 D (aA X)/\Row W9 A (aA Y)/\W9.heap.size<=W9.heap.size):=⟨k5 W7 W9 fm K7.1,K7.2.2.2.below fm,i2,XH _⟩
   have f0:=mk2 ey (XI ((h4 W7).1 K7.1).r3.1 h5);have c4:Hid (∀g,E.ownBlock=some g\/J.ownBlock=some g->g<A):=λg M=>by
    have h:=(h4 W7).1 K7.1;rcases M with M|M
    .exact XI (h.tL.lt M).2 h5
    .exact XI (h.tR.lt M).2 h5
   go_wp2_with (first|(refine stR 14 d2 bz bo.1 bo.2 bQ ?_)|fail)
   obtain⟨dP,hw,k2⟩:=XK.1 uCP;have km:gZ 51 (aA X).length:=by rw[aB h7.1];exact iCP
   have ka:gZ 51 (aA Y).length:=by rw[aB h7.2.1];exact iCP
   have k9:∀W W':XF,kZ W W'->k+3<W.heap.size->D<W.heap.size->A<W.heap.size->(W.cell? ⟨k+3,0,none⟩=some E/\W.cell? ⟨k+3,1,none⟩=some J/\W.rangeAt D 0 (aA X)/\W.rangeAt A 0 (aA Y))->(W'.cell? ⟨k+3,0,none⟩=some E/\W'.cell? ⟨k+3,1,none⟩=some J/\W'.rangeAt D 0 (aA X)/\W'.rangeAt A 0 (aA Y)):=λW W' K h3 gj bf h=>⟨by rw[K.cell (p:=⟨k+3,0,none⟩) h3];exact h.1,by rw[K.cell (p:=⟨k+3,1,none⟩) h3];exact h.2.1,RG.range_below h.2.2.1 K gj,RG.range_below h.2.2.2 K bf⟩
   have co:∀W W':XF,W'.heap[k+3]? = W.heap[k+3]?->W'.heap[D]? = W.heap[D]?->W'.heap[A]? = W.heap[A]?->(W.cell? ⟨k+3,0,none⟩=some E/\W.cell? ⟨k+3,1,none⟩=some J/\W.rangeAt D 0 (aA X)/\W.rangeAt A 0 (aA Y))->(W'.cell? ⟨k+3,0,none⟩=some E/\W'.cell? ⟨k+3,1,none⟩=some J/\W'.rangeAt D 0 (aA X)/\W'.rangeAt A 0 (aA Y)):=λW W' e3 i3 gz h=>⟨by rw[Yb (a:=⟨k+3,0,none⟩) e3];exact h.1,by rw[Yb (a:=⟨k+3,1,none⟩) e3];exact h.2.1,λj u hj=>by rw[Yb (a:=⟨D,0+j,none⟩) i3];exact h.2.2.1 j u hj,λj u hj=>by rw[Yb (a:=⟨A,0+j,none⟩) gz];exact h.2.2.2 j u hj⟩
   have P9:=(h4 W9).1 K9.1;have gw:=P9.r3.1;obtain⟨-,i7,-,e6⟩:=P9.r3;have S9:W9.drew.cell? ⟨k+3,0,none⟩=some E/\W9.drew.cell? ⟨k+3,1,none⟩=some J/\W9.drew.rangeAt D 0 (aA X)/\W9.drew.rangeAt A 0 (aA Y):=⟨e6.2.1 0 _ rfl,e6.2.1 1 _ rfl,K9.2.1.2.1,K9.2.2.1.2.1⟩
   have z9:k+3<W9.drew.heap.size/\D<W9.drew.heap.size/\A<W9.drew.heap.size:=⟨P9.r3.1,K9.2.1.1,K9.2.2.1.1⟩
   have P9:=P9.drew;have fb:Lb i=X:=by rw[e7.1 i,HS.2.1];exact h7.2.2.1.symm
   have fa:Rb i=Y:=by rw[e7.2 i,HS.2.2];exact h7.2.2.2.symm
   have h9:∀(i:Nat),i≠13->i≠15->∀(l:Array Bool) (W:XF),(((l.setIfInBounds i true).getD 13 false=false->W.cell? ⟨k+3,0,none⟩=some E)/\((l.setIfInBounds i true).getD 15 false=false->W.cell? ⟨k+3,1,none⟩=some J)/\W.rangeAt D 0 (aA X)/\W.rangeAt A 0 (aA Y))->((l.getD 13 false=false->W.cell? ⟨k+3,0,none⟩=some E)/\(l.getD 15 false=false->W.cell? ⟨k+3,1,none⟩=some J)/\W.rangeAt D 0 (aA X)/\W.rangeAt A 0 (aA Y)):=λi h1 h2 l W h=>⟨λe=>h.1 (by rw[yAI false h1];exact e),λe=>h.2.1 (by rw[yAI false h2];exact e),h.2.2⟩
   have mS:∀(l:Array Bool) (W:XF),(W.cell? ⟨k+3,0,none⟩=some E/\W.cell? ⟨k+3,1,none⟩=some J/\W.rangeAt D 0 (aA X)/\W.rangeAt A 0 (aA Y))->((l.getD 13 false=false->W.cell? ⟨k+3,0,none⟩=some E)/\(l.getD 15 false=false->W.cell? ⟨k+3,1,none⟩=some J)/\W.rangeAt D 0 (aA X)/\W.rangeAt A 0 (aA Y)):=λl W h=>⟨λ_=>h.1,λ_=>h.2.1,h.2.2⟩
   refine anyS.begin (λl W=>(l.getD 13 false=false->W.cell? ⟨k+3,0,none⟩=some E)/\(l.getD 15 false=false->W.cell? ⟨k+3,1,none⟩=some J)/\W.rangeAt D 0 (aA X)/\W.rangeAt A 0 (aA Y)) kR ?_;have bS:∀(p:Nat),Bef (λl W=>(yED l 13 false=false->YY W ⟨k+3,0,none⟩=some E)/\(yED l 15 false=false->YY W ⟨k+3,1,none⟩=some J)/\yBi W D 0 (aA X)/\yBi W A 0 (aA Y)) p W9.drew:=λp=>⟨#[],by simp,mS _ _ S9⟩
   refine anyS.val (i:=0) (d:=some 46) (x:=jZ (k+3)) rfl 13 (h9 0 dC dC) (bS 13) (mS _ _ S9) ?_;refine anyS.cel (i:=1) (d:=some 47) (x:=E) rfl 13 (h9 1 dC dC) 27 46 (k+3) 0 rfl uLL (λW ⟨l,e,h⟩=>h.1 e) (bS 13) (mS _ _ S9) ?_;refine anyS.row (i:=2) (d:=some 48) (cs:=aA X) rfl 13 (h9 2 dC dC) 51 13 D 0 dP rfl hw k2 km (λW ⟨l,e,h⟩=>h.2.2.1) (bS 13) (mS _ _ S9) ?_;refine anyS.val (i:=6) (d:=some 52) (x:=oZ (k+3) 1) rfl 13 (h9 6 dC dC) (bS 13) (mS _ _ S9) ?_;refine anyS.cel (i:=7) (d:=some 53) (x:=J) rfl 15 (h9 7 dC dC) 27 52 (k+3) 1 rfl uLL (λW ⟨l,e,h⟩=>h.2.1 e) (bS 15) (mS _ _ S9) ?_;refine anyS.row (i:=8) (d:=some 54) (cs:=aA Y) rfl 14 (h9 8 dC dC) 51 14 A 0 dP rfl hw k2 ka (λW ⟨l,e,h⟩=>h.2.2.2) (bS 14) (mS _ _ S9) ?_;refine anyS.cal (i:=3) (d:=some 49) rfl (eJ h7.1) (λxa Wa hu=>?_);have Pa:=P9.grow hu.1;have Sa:=k9 _ _ hu.1 z9.1 z9.2.1 z9.2.2 S9;have za:k+3<Wa.heap.size/\D<Wa.heap.size/\A<Wa.heap.size:=oN hu.1.size;obtain⟨gx,rfl⟩:=hu.2.2;have Ea:=hu.2.1.mono2 λg _ M=>P9.qn g M
   have cy:=mk2 hu.1 hu.2.1;refine⟨mS _ _ Sa,?_⟩;have bb:=aC (w:=Wa) (.cells #[r33 gx] 23);have gg:=Vz Ea Wa;have Pb:=Pa.grow bb;have Sb:=k9 _ _ bb za.1 za.2.1 za.2.2 Sa;have zb:k+3<(Wa.alloc (.cells #[r33 gx] 23)).heap.size/\D<(Wa.alloc (.cells #[r33 gx] 23)).heap.size/\A<(Wa.alloc (.cells #[r33 gx] 23)).heap.size:=oN bb.size;have gt:=(row_new Wa [r33 gx] 23).2.1 0 _ rfl;refine anyS.ins (i:=4) (d:=some 50) (v:=sZ Wa.heap.size 1 1) (w':=Wa.alloc (.cells #[r33 gx] 23)) (I:=YF 27 1 #[(0,r33 gx)]) rfl gg (mS _ _ Sb) ?_;obtain⟨R,Wc,gp,Pc,A1⟩:=P9.appL (ga:=Wa.heap.size) (gx:=gx) (cy.1.trans (bb.mono cy.1.size)) (by rw[fb];exact cy.2.keep (Kq.of_below bb)) gt oM;have Sc:=co _ _ (A1.keep (k+3) zb.1 λe=>oN ((Pb.tL.lt e).1)) (A1.keep D zb.2.1 λe=>oN (c6 _ (Yk e))) (A1.keep A zb.2.2 λe=>oN (c4 _ (Yk e))) Sb;have zc:k+3<Wc.heap.size/\D<Wc.heap.size/\A<Wc.heap.size:=oN A1.size;refine anyS.ins (i:=5) (d:=some 51) (v:=R) (w':=Wc) (I:=YK #[27,27] 27 #[E,sZ Wa.heap.size 1 1]) rfl gp (mS _ _ Sc) ?_;refine anyS.val (i:=12) (d:=some 58) (x:=jZ (k+3)) rfl 13 (h9 12 dC dC) ⟨#[],by simp,mS _ _ Sc⟩ (mS _ _ Sc) ?_;refine anyS.cal (i:=9) (d:=some 55) rfl (eJ h7.2.1) (λxd Wd he=>?_);have Pd:=Pc.grow he.1;have Sd:=k9 _ _ he.1 zc.1 zc.2.1 zc.2.2 Sc;have zd:k+3<Wd.heap.size/\D<Wd.heap.size/\A<Wd.heap.size:=oN he.1.size;obtain⟨gy,rfl⟩:=he.2.2;have Ed:=he.2.1.mono2 λg _ M=>Pc.qn g M
   have d3:=mk2 he.1 he.2.1;refine⟨mS _ _ Sd,?_⟩;have bd:=aC (w:=Wd) (.cells #[r33 gy] 23);have fq:=Vz Ed Wd;have Pe:=Pd.grow bd;have Se:=k9 _ _ bd zd.1 zd.2.1 zd.2.2 Sd;have ze:k+3<(Wd.alloc (.cells #[r33 gy] 23)).heap.size/\D<(Wd.alloc (.cells #[r33 gy] 23)).heap.size/\A<(Wd.alloc (.cells #[r33 gy] 23)).heap.size:=oN bd.size;have gr:(Wd.alloc (.cells #[r33 gy] 23)).cell? ⟨Wd.heap.size,0,none⟩=some (r33 gy):=(row_new Wd [r33 gy] 23).2.1 0 _ rfl;refine anyS.ins (i:=10) (d:=some 56) (v:=sZ Wd.heap.size 1 1) (w':=Wd.alloc (.cells #[r33 gy] 23)) (I:=YF 27 1 #[(0,r33 gy)]) rfl fq (mS _ _ Se) ?_;have gs:ElQ (Wc.heap.size<=·) 33 (Wd.alloc (.cells #[r33 gy] 23)) (r33 gy) (Rb i):=by rw[fa];exact d3.2.keep (Kq.of_below bd)
   have g5:i<=900:=oM;have e9:=Pc.appR (ga:=Wd.heap.size) (gx:=gy) (d3.1.trans (bd.mono d3.1.size)) gs gr g5;obtain⟨S,Wf,gv,Pf,A2⟩:=e9;have Sf:=co _ _ (A2.keep (k+3) ze.1 λe=>oN ((Pe.tR.lt e).1)) (A2.keep D ze.2.1 λe=>oN (c6 _ (Yd e))) (A2.keep A ze.2.2 λe=>oN (c4 _ (Yd e))) Se;have zf:D<Wf.heap.size/\A<Wf.heap.size:=oN A2.size;refine anyS.ins (i:=11) (d:=some 57) (v:=S) (w':=Wf) (I:=YK #[27,27] 27 #[J,sZ Wd.heap.size 1 1]) rfl gv (mS _ _ Sf) ?_;have k7:=Pf.tL.one;have kl:=Pf.tR.one;obtain⟨-,i6,-,da⟩:=Pf.r3;have fs:Wf.there (k+3) 0 1:=λj hj=>da.2.2 j (XI hj (Nat.succ_le_succ (Zq _)))
   have dq:Wf.there (k+3) 1 1:=λj hj=>by
    have kn:j=0:=oM;subst kn;exact da.2.2 1 (Nat.succ_lt_succ (yCL _))
   have gm:D≠k+3:=oN f0.1;have g8:A≠k+3:=oN f0.2;have rg:∀(o:Nat) (x:XG) (W:XF),W.rangeAt D 0 (aA X)/\W.rangeAt A 0 (aA Y)->(W.setCells (k+3) o [x]).rangeAt D 0 (aA X)/\(W.setCells (k+3) o [x]).rangeAt A 0 (aA Y):=λo x W h=>⟨Yr h.1 _ _ _ (Yk gm),Yr h.2 _ _ _ (Yk g8)⟩
   have cn:=(lJ (x:=R) (o:=0) da (yCL _)).2.1 1 _ rfl;refine anyS.sto (i:=13) (d:=none) rfl 27 (.tmp 58) (.tmp 51) rfl (k+3) 0 R k7.1 k7.2 fs iLL ⟨λe=>absurd e (nfB kR),λ_=>cn,rg _ _ _ Sf.2.2⟩ ?_;refine anyS.nxt (i:=14) (d:=some 59) (x:=oZ (k+3) 1) rfl ⟨λe=>absurd e (nfB kR),λ_=>cn,rg _ _ _ Sf.2.2⟩ ?_;refine anyS.sto (i:=15) (d:=none) rfl 27 (.tmp 59) (.tmp 57) rfl (k+3) 1 S kl.1 kl.2 (Za dq _ _ _) iLL ⟨λe=>absurd e (nfB kR),λe=>absurd e (nfB kR),rg _ _ _ (rg _ _ _ Sf.2.2)⟩ ?_;simp only[Yo,XJ,XM,XO];refine anyS.fin kR (λWg eg=>?_) _;have Pg:=Pf.put' eg;have ec:Wg.rangeAt D 0 (aA X)/\Wg.rangeAt A 0 (aA Y):=by rw[eg];exact rg 1 S _ (rg 0 R _ Sf.2.2)
   have zg:D<Wg.heap.size/\A<Wg.heap.size:=by rw[eg,setCells_size,setCells_size];exact zf
   clear Pf Sf k7 kl fs dq rg cn zf mS h9 S9 P9 z9 k9 co eg;have KG:=Hid.mk' (Y0 Pg (Y0 ec zg));clear Pg ec zg;obtain⟨dL,bv,bq⟩:=XK.1 uLg;have cq:Hid ((prog.underlying 159=some dL/\dL.isRow=true)/\prog.underlying 51=some dP/\dP.isRow=true):=⟨⟨bv,bq⟩,hw,k2⟩
   have kc:Hid (gZ 51 (aA X).length/\gZ 51 (aA Y).length):=⟨km,ka⟩
   clear bv bq hw k2 km ka fb fa gw;obtain⟨pX,f9⟩:=yH (pvl X);obtain⟨pY,f6⟩:=yH (pvl Y);have eu:Hid (cZ 135 #[vl,.string ⟨#[108,101,102,116]⟩,pX,.string ⟨#[114,105,103,104,116]⟩,pY] Wg (Ret λe w'=>SP.Only r 0 32 Wg w'/\hZ w' r 0 sx/\e=nv cx.val)):=by
    rw[<-ba.out,<-f9.out,<-f6.out];exact eo Wg KG.1.lg KG.1.ls
   go_wp2_with (first|(refine YG rfl 159 (.tmp 4) rfl k 0 ?_ [jZ r] dL ?_ ?_ ?_ ?_ ?_;rfl;exact KG.1.r0.2.1;exact cq.1.1;exact cq.1.2;exact iLg;rw[show Yg [jZ r].toArray=vl from ba.out])|(refine ldR 13 KG.2.1.1 f9 uCP kc.1 ?_)|(refine ldR 14 KG.2.1.2 f6 uCP kc.2 ?_)|fail)
   refine eu.mono ?_;rintro e Wh ⟨uu,rfl,f5,dz,rfl⟩;have es:Hid (Ph w Wh r k (i+1) (i+1) (m+m) R S R S v (qZ ga oa (m+m) ca) (qZ Z ob (m+m) F) Lb Rb sx (λj=>(L.a j).val) (λj=>(L.b j).val) G H U):=KG.1.say f5 dz e8.2;clear f5 dz eu KG cq kc eo;obtain⟨x,hp⟩:=yH cx.val;obtain⟨xi,h6⟩:=yH ((ivF cx).val);have fj:Hid (∀W:XF,cZ 144 #[nv x] W (rZ W λe w'=>e=nv xi)):=by
    rw[<-hp.out,<-h6.out];exact λW=>wS HF.2.1 cx.val cx.isLt W
   rw[hp.out];obtain⟨b5,kv⟩:=yH Wh.heap.size;obtain⟨Wi,cj⟩:=yH (Wh.alloc (.cells #[uZ 0,uZ 0,uZ 0,uZ 0] 44));obtain⟨Wj,kx⟩:=yH (Wi.setCells b5 0 (wn x));have Fi:Hid (Row Wi b5 [uZ 0,uZ 0,uZ 0,uZ 0]/\kZ Wh Wi):=by rw[<-cj.out,<-kv.out];exact⟨row_new Wh _ _,aC _⟩
   have bj:kZ Wh Wj:=by rw[<-kx.out];exact RG.below_setCells (kv.out▸XH _) _ _ _ Fi.2
   have Kj:Hid (Ph w Wj r k (i+1) (i+1) (m+m) R S R S v (qZ ga oa (m+m) ca) (qZ Z ob (m+m) F) Lb Rb sx (λj=>(L.a j).val) (λj=>(L.b j).val) G H U/\Row Wj b5 (wn x)):=⟨es.grow bj,kx.out▸Fi.1.put rfl⟩
   obtain⟨vx,b7⟩:=yH (nv x);have bl:Hid (∀W:XF,cZ 144 #[vx] W (rZ W λe w'=>e=nv xi)):=b7.out▸fj;rw[b7.out];clear bj es fj;go_wp2_with (first|(refine alR 15 kv cj ?_)|(refine stR 15 kx b7 Fi.1.2.2 nSc (aI) ?_)|(refine ldR 15 Kj.2.2.1 b7 rSc nSc ?_)|fail)
   apply(bl Wj).mono;rintro e Wk ⟨uu,rfl,h5,rfl⟩;obtain⟨b6,ky⟩:=yH Wk.heap.size;obtain⟨Wl,df⟩:=yH (Wk.alloc (.cells #[uZ 0,uZ 0,uZ 0,uZ 0] 44));obtain⟨Wm,kw⟩:=yH (Wl.setCells b6 0 (wn xi));have Fl:Hid (Row Wl b6 [uZ 0,uZ 0,uZ 0,uZ 0]/\kZ Wk Wl):=by rw[<-df.out,<-ky.out];exact⟨row_new Wk _ _,aC _⟩
   have bm:kZ Wj Wm:=by
    have:kZ Wk Wm:=by rw[<-kw.out];exact RG.below_setCells (ky.out▸XH _) _ _ _ Fl.2
    exact h5.trans (this.mono h5.size)
   have Km:Hid (Ph w Wm r k (i+1) (i+1) (m+m) R S R S v (qZ ga oa (m+m) ca) (qZ Z ob (m+m) F) Lb Rb sx (λj=>(L.a j).val) (λj=>(L.b j).val) G H U/\Row Wm b5 (wn x)/\Row Wm b6 (wn xi)):=⟨Kj.1.grow bm,Kj.2.below bm,kw.out▸Fl.1.put rfl⟩
   obtain⟨vi,fd⟩:=yH (nv xi);rw[fd.out];clear bm h5 Kj Fi bl cj kx kv;go_wp2_with (first|(refine alR 16 ky df ?_)|(refine stR 16 kw fd Fl.1.2.2 nSc (aI) ?_)|fail)
   clear Fl df kw ky;simp only[Yo,XJ,XM,XO];have ku:x<N:=hp.out▸cx.isLt;have kd:xi<N:=h6.out▸(ivF cx).isLt;have ew:sIn N x=xi:=by rw[<-hp.out,<-h6.out];rfl
   have eh:GOk N (m+m) c G H U:=uH (oN sG.2.2.1) sG.2.2.2.1 sG.2.2.2.2.1 sG.1 sG.2.1 HF.2.2.2.1 HF.2.2.2.2.1 HF.2.2.2.2.2.1;have PW:Hid (∀W,kZ Wm W->Ph w W r k (i+1) (i+1) (m+m) R S R S v (qZ ga oa (m+m) ca) (qZ Z ob (m+m) F) Lb Rb sx (λj=>(L.a j).val) (λj=>(L.b j).val) G H U):=λW K=>Km.1.grow K
   have cF:Hid ((∀W,kZ Wm W->cZ 145 #[qZ ga oa n ca,nv x,nv xi] W (rZ W λe w'=>SLq (QH r k R S) w' e m (oP N x xi m (λj=>(L.a j).val))))/\(∀W,kZ Wm W->cZ 145 #[qZ Z ob n F,nv xi,nv x] W (rZ W λe w'=>SLq (QH r k R S) w' e m (oP N xi x m (λj=>(L.b j).val))))/\(∀W,kZ Wm W->cZ 146 #[v,nv x] W (rZ W λe w'=>GRq (QH r k R S) w' e m (lY N xi x m G) (lY N x xi m H) U))):=by
    rw[<-hn.out];refine⟨λW K=>?_,λW K=>?_,λW K=>?_⟩
    .apply(LP HF.2.1 m (oN sG.2.2.2.2.2.1) _ x xi ku kd (λj _=>(L.a j).isLt) _ W (PW W K).la).mono;rintro e w' ⟨uu,rfl,h1,h2⟩;exact⟨_,rfl,h1,h2.mono λg M=>(PW W K).qn g M⟩
    .apply(LP HF.2.1 m (oN sG.2.2.2.2.2.1) _ xi x kd ku (λj _=>(L.b j).isLt) _ W (PW W K).lb).mono;rintro e w' ⟨uu,rfl,h1,h2⟩;exact⟨_,rfl,h1,h2.mono λg M=>(PW W K).qn g M⟩
    .have:=GW HF.2.1 m c sG.2.2.1 G H U eh x ku v W (PW W K).qn (PW W K).gr;rw[ew]at this;exact this
   obtain⟨ev,fl,ke,dw,c5⟩:=Km.1.r1;have k4:Hid (v=.agg ev/\Row Wm (k+1) ev.toList/\gZ 150 ev.toList.length/\ev.size=3):=⟨fl,c5,by rw[X0,ke];exact iGr,ke⟩
   clear fl ke dw c5 ku kd ew eh;refine(gwL [pE (qZ ga oa n ca),pE (nv x),pE (nv xi),RG.pS (QH r k R S) m (oP N x xi m (λj=>(L.a j).val)),pE (qZ Z ob n F),pE (nv xi),pE (nv x),RG.pS (QH r k R S) m (oP N xi x m (λj=>(L.b j).val)),pE (.agg ev.toList.toArray),pE (nv x),pR (QH r k R S) m (lY N xi x m G) (lY N x xi m H) U] (λW=>kZ Wm W) (λW W' K h=>h.trans (K.mono h.size))).tail2 11 kR kR kR ⟨
    gO 2 (qZ ga oa n ca),
    gLo 15 (λW T=>RG.range_below Km.2.1.2.1 T Km.2.1.1) rSc nSc,
    gLo 16 (λW T=>RG.range_below Km.2.2.2.1 T Km.2.2.1) rSc nSc,
    nJ 0 66 1 67 2 68 145 (λx y z=>#[x,y,z]) (λa1 a2 a3 W h1 h2 h3 T=>by
     obtain rfl:a1=(qZ ga oa n ca):=h1;obtain rfl:a2=nv x:=h2;obtain rfl:a3=nv xi:=h3;apply(cF.1 W T).mono;rintro e W' ⟨uu,rfl,K,hs⟩;exact⟨_,rfl,K,hs⟩),
    gO 3 (qZ Z ob n F),
    gLo 16 (λW T=>RG.range_below Km.2.2.2.1 T Km.2.2.1) rSc nSc,
    gLo 15 (λW T=>RG.range_below Km.2.1.2.1 T Km.2.1.1) rSc nSc,
    nJ 4 70 5 71 6 72 145 (λx y z=>#[x,y,z]) (λa1 a2 a3 W h1 h2 h3 T=>by
     obtain rfl:a1=(qZ Z ob n F):=h1;obtain rfl:a2=nv xi:=h2;obtain rfl:a3=nv x:=h3;apply(cF.2.1 W T).mono;rintro e W' ⟨uu,rfl,K,hs⟩;exact⟨_,rfl,K,hs⟩),
    iU 5 (k+1) 0 uGr k4.2.2.1 kR (λW T=>RG.range_below k4.2.1.2.1 T k4.2.1.1) (λ_=>rfl),
    gLo 15 (λW T=>RG.range_below Km.2.1.2.1 T Km.2.1.1) rSc nSc,
    eF 8 74 9 75 146 (λx y=>#[x,y]) (λa1 a2 W h1 h2 T=>by
     obtain rfl:a1=v:=(show a1=.agg ev.toList.toArray from h1).trans k4.1.symm;obtain rfl:a2=nv x:=h2;apply(cF.2.2 W T).mono;rintro e W' ⟨uu,rfl,K,hs⟩;exact⟨_,rfl,K,hs⟩),yE5⟩ (XX _ _).drew ?_
   intro V Wn hR T;have dk:SLq (QH r k R S) Wn (V 3) m (oP N x xi m (λj=>(L.a j).val)):=hR 3 dC;have d9:SLq (QH r k R S) Wn (V 7) m (oP N xi x m (λj=>(L.b j).val)):=hR 7 dC;have k3:GRq (QH r k R S) Wn (V 10) m (lY N xi x m G) (lY N x xi m H) U:=hR 10 dC;obtain⟨ef,d1,kg,br⟩:=k3.ar;rw[d1]at k3;dsimp only[bY,YQ,Z4,Z5];simp only[Yo,XJ,XM,XO];rw[d1];generalize V 3=na at dk⊢;generalize V 7=nb at d9⊢;have Pn:=(PW Wn T).next dk d9 k3;obtain⟨Wo,f8⟩:=yH (Wn.setCells (k+1) 0 ef.toList);rw[f8.out]at Pn;have db:Hid (Wn.there (k+1) 0 ef.size/\gZ 150 ef.size/\ef.all (·.oneCell')=true):=by
    refine⟨?_,by rw[kg];exact iGr,br⟩;rw[kg];have:=(k4.2.1.below T).2.2;rw[X0,k4.2.2.2]at this;exact this
   have c9:(aD C f).rQ (chF N) ivF u m L=⟨sx,Md.fS cx (ivF cx) m L.a,Md.fS (ivF cx) cx m L.b,(aD C f).fP (ivF cx) cx m L.g,(aD C f).fP cx (ivF cx) m L.h⟩:=by
    unfold Md.rQ;rw[e8.1]
   have g4:Hid (∃E J v G H,Gd N (2^(t-(i+1))) (2^(i+1)) G ((aD C f).pst (chF N) ivF u t q (i+1)).g/\Gd N (2^(t-(i+1))) (2^(i+1)) H ((aD C f).pst (chF N) ivF u t q (i+1)).h/\Ph w Wo r k (i+1) (i+1) (2^(t-(i+1))) E J E J v na nb Lb Rb ((aD C f).pst (chF N) ivF u t q (i+1)).s (λj=>(((aD C f).pst (chF N) ivF u t q (i+1)).a j).val) (λj=>(((aD C f).pst (chF N) ivF u t q (i+1)).b j).val) G H U):=by
    show ∃E J v G H,_;rw[HS.1,c9,HE.1,HE.2];have ea:oP N x xi m (λj=>(L.a j).val)=λj=>(Md.fS cx (ivF cx) m L.a j).val:=by
     rw[<-hp.out,<-h6.out];funext j;exact Do cx (ivF cx) m L.a j
    have eb:oP N xi x m (λj=>(L.b j).val)=λj=>(Md.fS (ivF cx) cx m L.b j).val:=by
     rw[<-hp.out,<-h6.out];funext j;exact Do (ivF cx) cx m L.b j
    rw[ea,eb]at Pn;have g1:=sG.1.fold C f (ivF cx) cx;have g2:=sG.2.1.fold C f cx (ivF cx);rw[hp.out,h6.out]at g1 g2;exact⟨_,_,_,_,_,g1,g2,Pn⟩
   obtain⟨vf,du⟩:=yH (Yg ef);rw[du.out];clear hR T dk d9 k3 d1 kg br Pn c9 cF PW Km;generalize V 0=q0;generalize V 1=q1;generalize V 2=q2;generalize V 4=q4;generalize V 5=q5;generalize V 6=q6;generalize V 8=q8;generalize V 9=q9;go_wp2_with (first|(refine Yi rfl 150 (.tmp 5) _ rfl (k+1) 0 ef ?_ ?_ ?_ ?_ ?_ ?_;rfl;exact du.symm;exact db.1;exact db.2.1;exact db.2.2;rw[f8.out])|fail)
   go_roundg (gk-1)
   case measure=>have:=HI;omega
   case rel=>exact⟨i+1,oN HI,g4⟩
  .have gh:i=t:=oM;subst gh;obtain⟨E,J,v,G,H,-,-,h0⟩:=KM;clear KM;rw[Nat.sub_self,Nat.pow_zero]at h0;obtain⟨ga,oa,ca,rfl,-,qa,fg,V⟩:=id h0.la;obtain⟨Z,ob,F,rfl,-,qb,ek,X⟩:=id h0.lb;have V:=V 0 dC;have X:=X 0 dC;obtain⟨a0,cv⟩:=yH ((((aD C f).pst (chF N) ivF u i q i).a 0).val);obtain⟨b0,d4⟩:=yH ((((aD C f).pst (chF N) ivF u i q i).b 0).val);have V:wr.rangeAt ga (oa+4*0) (wn a0):=cv.out▸V;have X:wr.rangeAt Z (ob+4*0) (wn b0):=d4.out▸X;have fk:Hid (a0<N/\b0<N):=⟨cv.out▸Fin.isLt _,d4.out▸Fin.isLt _⟩
   have KP:=Hid.mk' h0;have KR:Hid (wr.rangeAt ga (oa+4*0) (wn a0)/\wr.rangeAt Z (ob+4*0) (wn b0)/\ga<wr.heap.size/\Z<wr.heap.size):=⟨V,X,fg,ek⟩
   have hz:k+4<=wr.heap.size:=h0.r3.1;have d8:=Hid.mk' hz;obtain⟨dS,ko,Y⟩:=XK.1 rSc;have na:ga≠k+3:=oN qa.2.1;have nb:Z≠k+3:=oN qb.2.1;have L:∀W,kZ wr W->W.rangeAt ga (oa+4*0) (wn a0)/\W.rangeAt Z (ob+4*0) (wn b0):=λW K=>⟨RG.range_below V K fg,RG.range_below X K ek⟩
   have cu:∀(o:Nat) (x:XG) (W:XF),W.rangeAt ga (oa+4*0) (wn a0)/\W.rangeAt Z (ob+4*0) (wn b0)->(W.setCells (k+3) o [x]).rangeAt ga (oa+4*0) (wn a0)/\(W.setCells (k+3) o [x]).rangeAt Z (ob+4*0) (wn b0):=λo x W h=>⟨Yr h.1 _ _ _ (Yk na),Yr h.2 _ _ _ (Yk nb)⟩
   have bd:kZ wr wr.drew:=(XX _ _).drew;clear h0 hz hi;go_wp2_with fail
   refine anyS.begin (λ_ W=>W.rangeAt ga (oa+4*0) (wn a0)/\W.rangeAt Z (ob+4*0) (wn b0)) kR ?_;have bS:Bef (λ_ W=>yBi W ga (oa+4*0) (wn a0)/\yBi W Z (ob+4*0) (wn b0)) 11 wr.drew:=⟨#[],by simp,L _ bd⟩
   refine anyS.val (i:=0) (d:=some 77) (x:=qZ ga oa 1 ca) rfl 11 (λ_ _ h=>h) bS (L _ bd) ?_;simp only[Yo,XJ,XM,XO];refine anyS.val (i:=1) (d:=some 78) (x:=oZ ga (oa+4*0)) rfl 11 (λ_ _ h=>h) bS (L _ bd) ?_ (hv:=hvI (mF dC) kR);simp only[Yo,XJ,XM,XO];refine anyS.row (i:=2) (d:=some 79) (cs:=wn a0) rfl 11 (λ_ _ h=>h) 44 78 ga (oa+4*0) dS rfl ko Y nSc (λW ⟨l,e,h⟩=>h.1) bS (L _ bd) ?_;simp only[Yo,XJ,XM,XO];refine anyS.val (i:=4) (d:=some 81) (x:=(qZ Z ob 1 F)) rfl 11 (λ_ _ h=>h) bS (L _ bd) ?_;simp only[Yo,XJ,XM,XO];refine anyS.val (i:=5) (d:=some 82) (x:=oZ Z (ob+4*0)) rfl 11 (λ_ _ h=>h) bS (L _ bd) ?_ (hv:=hvI (mF dC) kR);simp only[Yo,XJ,XM,XO];refine anyS.row (i:=6) (d:=some 83) (cs:=wn b0) rfl 11 (λ_ _ h=>h) 44 82 Z (ob+4*0) dS rfl ko Y nSc (λW ⟨l,e,h⟩=>h.2) bS (L _ bd) ?_;simp only[Yo,XJ,XM,XO];clear bS;refine anyS.cal (i:=3) (d:=some 80) rfl (eI HF.2.1 fk.1 wr.drew) (λxA W1 kj=>?_);obtain⟨D,rfl⟩:=kj.2.2;have bA:kZ wr W1:=bd.trans kj.1;refine⟨L _ bA,?_⟩;simp only[Yo,XJ,XM,XO];refine anyS.val (i:=8) (d:=some 85) (x:=oZ (k+3) 2) rfl 11 (λ_ _ h=>h) ⟨#[],by simp,L _ bA⟩ (L _ bA) ?_;simp only[Yo,XJ,XM,XO];have P1:=KP.grow bA;have lA:wr.heap.size<=D/\D<W1.heap.size:=by
    obtain⟨k1,c1,e1,-,-,q1,l1,-⟩:=kj.2.1;obtain rfl:D=k1:=X5.inj (congrArg Zm e1);exact⟨q1,l1⟩
   have ei:ElQ (k+4<=·) 32 W1 (r32 D) (bx a0):=kj.2.1.mono2 λg _ M=>XN d8 M
   have R:∀(W:XF) (o:Nat) (x:XG),Kq (k+4<=·) W (W.setCells (k+3) o [x]):=λW o x=>Kq.set λg M e=>oM
   have T:∀g,E.ownBlock=some g->g<wr.heap.size/\g≠k+3:=λg M=>⟨(KP.tL.lt M).2,oN ((KP.tL.lt M).1)⟩
   have S:∀g,J.ownBlock=some g->g<wr.heap.size/\g≠k+3:=λg M=>⟨(KP.tR.lt M).2,oN ((KP.tR.lt M).1)⟩
   have key:∀(W:XF),(∀g,g<wr.heap.size->g≠k+3->W.heap[g]? = wr.heap[g]?)->wr.heap.size<=W.heap.size->∀A,D<A->A<W.heap.size->DjF (k+4) W i E J (r32 D) (r32 A):=λW hk hs A h1 h2=>DjF.of KP.dj hs (λg M=>hk g (T g M).1 (T g M).2) (λg M=>hk g (S g M).1 (S g M).2) d8 lA.1 h1 h2
   have ep:∀ {W:XF},R3 W (k+3) E J->∃z,Row (W.setCells (k+3) 2 [r32 D]) (k+3) [E,J,r32 D,z]/\W.there (k+3) 2 1:=λh=>by
    obtain⟨-,rs,hl,hr⟩:=h;match rs,hl,hr with
    | [x,z],_,hr =>
     refine⟨z,lJ (x:=r32 D) (o:=2) hr (yBg rfl),λj hj=>?_⟩;have kn:j=0:=oM;subst kn;exact hr.2.2 2 (yBg rfl)
   obtain⟨PH,p1,pF⟩:∃PH:XF->Prop,(∀W W',kZ W1 W->W'=W.setCells (k+3) 2 [r32 D]->PH W'/\R3 W (k+3) E J)/\(∀W A,PH W->ElQ (k+4<=·) 32 (W.setCells (k+3) 3 [r32 A]) (r32 D) (bx a0)->ElQ (k+4<=·) 32 (W.setCells (k+3) 3 [r32 A]) (r32 A) (bx b0)->DjF (k+4) (W.setCells (k+3) 3 [r32 A]) i E J (r32 D) (r32 A)->Row (W.setCells (k+3) 3 [r32 A]) (k+2) [nZ,nZ,nZ,nZ]/\Row ((W.setCells (k+3) 3 [r32 A]).setCells (k+2) 0 [E,J,r32 D,r32 A]) (k+2) [E,J,r32 D,r32 A]/\PhR w r i Lb Rb ((aD C f).pst (chF N) ivF u i q i).s (bx a0) (bx b0) (.agg #[E,J,r32 D,r32 A]) ((W.setCells (k+3) 3 [r32 A]).setCells (k+2) 0 [E,J,r32 D,r32 A])):=⟨λW=>Ph w W r k i i 1 E J E J v (qZ ga oa 1 ca) (qZ Z ob 1 F) Lb Rb ((aD C f).pst (chF N) ivF u i q i).s (λj=>(((aD C f).pst (chF N) ivF u i q i).a j).val) (λj=>(((aD C f).pst (chF N) ivF u i q i).b j).val) G H U,λW W' K e=>by rw[e];exact⟨(P1.grow K).putA (o:=0) dC,(P1.grow K).r3⟩,λW A h e1 e2 e3=>(h.putA (o:=1) dC).fin e1 e2 e3⟩
   have lB:∀ {W W':XF}{A:Nat}{b:Bs},ElQ (W.heap.size<=·) 32 W' (r32 A) b->W.heap.size<=A/\A<W'.heap.size:=λh=>by
    obtain⟨k1,c1,e1,-,-,q1,l1,-⟩:=h;obtain rfl:=X5.inj (congrArg Zm e1);exact⟨q1,l1⟩
   have bf:k+4<=W1.heap.size:=XN d8 bA.size;refine anyS.cal (i:=7) (d:=some 84) rfl (eI HF.2.1 fk.2 W1) ?_;rintro v W' ⟨kz,ci,A,rfl⟩;have bw:=bA.trans (kz.mono bA.size);obtain⟨ph,bi⟩:=p1 W' _ kz rfl;obtain⟨z,hz,fx⟩:=ep bi;have l2:=lB ci;have e1:=(ei.keep (Kq.of_below kz)).keep (R W' 2 (r32 D));have e2:=(ci.mono2 (Q':=(k+4<=·)) λg _ M=>XN bf M).keep (R W' 2 (r32 D));have e3:=key (W'.setCells (k+3) 2 [r32 D]) (λg h1 h2=>(aE _ _ _ g h2).trans (bw.block g h1)) (by rw[setCells_size];exact bw.size) A (XI lA.2 l2.1) (by rw[setCells_size];exact l2.2);have rr:=cu 2 (r32 D) _ (L _ bw);refine⟨L _ bw,?_⟩;simp only[Yo,XJ,XM,XO];refine anyS.sto (i:=9) (d:=none) rfl 23 (.tmp 85) (.tmp 80) rfl (k+3) 2 (r32 D) rfl rfl fx iB1 rr ?_;simp only[Yo,XJ,XM,XO];generalize W'.setCells (k+3) 2 [r32 D]=W at ph hz e1 e2 e3 rr⊢;have KF:=pF W A ph (e1.keep (R _ _ _)) (e2.keep (R _ _ _)) (e3.keep (XH _) (by rw[setCells_size];exact XH _) (λg M=>aE _ _ _ g (T g M).2) (λg M=>aE _ _ _ g (S g M).2));have dh:Row (W.setCells (k+3) 3 [r32 A]) (k+3) [E,J,r32 D,r32 A]:=lJ (x:=r32 A) (o:=3) hz (yBg rfl);have e5:W.there (k+3) 3 1:=λj hj=>by
    have kn:j=0:=oM;subst kn;exact hz.2.2 3 (yBg rfl)
   refine anyS.nxt (i:=10) (d:=some 86) (x:=oZ (k+3) 3) rfl rr ?_;simp only[Yo,XJ,XM,XO];refine anyS.sto (i:=11) (d:=none) rfl 23 (.tmp 86) (.tmp 84) rfl (k+3) 3 (r32 A) rfl rfl e5 iB1 (cu _ _ _ rr) ?_;simp only[Yo,XJ,XM,XO];refine anyS.fin kR ?_ _;intro WZ dy;rw[<-dy]at KF dh;obtain⟨Wd,em⟩:=hE (WZ.setCells (k+2) 0 [E,J,r32 D,r32 A]);rw[em.out]at KF;have ON:Hid ((#[E,J,r32 D,r32 A]:Array XG).all (·.oneCell')=true):=by show _=_;simp[KP.tL.one.2,KP.tR.one.2,e1.one.2,e2.one.2]
   have KF:=mk2 KF dh;obtain⟨dI,c7,c3⟩:=XK.1 Nt;have dp:=mk2 c7 c3;obtain⟨vO,ej⟩:=hE (Yg #[E,J,r32 D,r32 A]);clear L cu bd KP P1 dy rr ph kz ci bw dh fx l2 bi e1 e2 e3 hz e5 pF p1 key ep ei R T S kj bf lA c7 c3 ko Y na nb qa qb;go_wp2_with (first|(refine YG rfl 64 (.tmp 9) rfl (k+3) 0 ?_ [E,J,r32 D,r32 A] dI ?_ ?_ ?_ ?_ ?_;rfl;exact KF.2.2.1;exact dp.1;exact dp.2;exact Ll;rw[show Yg [E,J,r32 D,r32 A].toArray=vO from ej.out])|(refine Yi rfl 64 (.tmp 8) _ rfl (k+2) 0 #[E,J,r32 D,r32 A] ?_ ?_ ?_ ?_ ?_ ?_;rfl;exact ej.symm;exact KF.1.1.2.2;exact Ll;exact ON;rw[show(#[E,J,r32 D,r32 A]:Array XG).toList=[E,J,r32 D,r32 A] from rfl,em.out])|fail)
   refine XR (aF 8 rfl KF.1.2.1 rfl Nt Ll) rfl ?_;refine⟨_,rfl,?_⟩;have:=KF.1.2.2;rw[<-cv.out,<-d4.out]at this;exact this
end
section
open SPA
variable {P:Nat}[NeZero P]{N:Nat}
def hvA(n:Nat):XG:=if n=1 then .tuple #[iZ 0,tZ] else if n=2 then .tuple #[iZ 1,tZ] else if n=4 then .tuple #[iZ 2,tZ] else if n=8 then .tuple #[iZ 3,tZ] else if n=16 then .tuple #[iZ 4,tZ] else if n=32 then .tuple #[iZ 5,tZ] else if n=64 then .tuple #[iZ 6,tZ] else .tuple #[iZ 0,fZ]
def SE(n:Nat)(d:n=1\/n=2\/n=4\/n=8\/n=16\/n=32\/n=64\/n=128)(w:XF):cZ 73 #[iZ n] w (rZ w λe w'=>e=hvA n):=by
 obtain⟨b,k⟩:∃b,b=n:=⟨_,rfl⟩
 rcases d with rfl|rfl|rfl|rfl|rfl|rfl|rfl|rfl
 all_goals
  go_enter func73,ntmps73;go_wp2;go_loopg [5] 7 (λm s5 W=>W=w/\((m=7/\s5=iZ 0)\/(m=6/\s5=iZ 1/\1<b)\/(m=5/\s5=iZ 2/\2<b)\/(m=4/\s5=iZ 3/\4<b)\/(m=3/\s5=iZ 4/\8<b)\/(m=2/\s5=iZ 5/\16<b)\/(m=1/\s5=iZ 6/\32<b)\/(m=0/\s5=iZ 7/\64<b)))
  case atStart=>exact⟨rfl,Yk ⟨rfl,rfl⟩⟩
  case round =>
   obtain⟨rfl,h⟩:=hrel;rcases h with⟨rfl,rfl⟩|⟨rfl,rfl,c⟩|⟨rfl,rfl,c⟩|⟨rfl,rfl,c⟩|⟨rfl,rfl,c⟩|⟨rfl,rfl,c⟩|⟨rfl,rfl,c⟩|⟨rfl,rfl,c⟩
   all_goals
    first
     | (exfalso;omega)
     | skip
   all_goals
    go_wp2;first
     | (go_ret2;exact⟨_,rfl,XX _ _,rfl⟩)
     | (go_roundg 6;(case measure=>omega);(case rel=>exact⟨rfl,by simp[k]⟩))
     | (go_roundg 5;(case measure=>omega);(case rel=>exact⟨rfl,by simp[k]⟩))
     | (go_roundg 4;(case measure=>omega);(case rel=>exact⟨rfl,by simp[k]⟩))
     | (go_roundg 3;(case measure=>omega);(case rel=>exact⟨rfl,by simp[k]⟩))
     | (go_roundg 2;(case measure=>omega);(case rel=>exact⟨rfl,by simp[k]⟩))
     | (go_roundg 1;(case measure=>omega);(case rel=>exact⟨rfl,by simp[k]⟩))
     | (go_roundg 0;(case measure=>omega);(case rel=>exact⟨rfl,by simp[k]⟩))
end
section
open SPA
variable {P:Nat}[NeZero P]{N:Nat}[NeZero N]
noncomputable def gPt (C:Fld P) (lb:ByteArray) (i:Nat):OnP P:=⟨.some (hpt P lb (gB i).toList),BV C⟩
noncomputable def lPt (C:Fld P) (lb:ByteArray) (x:List UInt8):OnP P:=⟨.some (hpt P lb x),BV C⟩
noncomputable def uPt (C:Fld P):OnP P:=lPt C ⟨#[105,110,110,101,114]⟩ []
omit [NeZero N] in
theorem PQ(C:Fld P)(k:1<N)(lb:ByteArray)(i:Nat):Tl N [(1,hpN P lb i)] (gPt C lb i):=Tl.one C k (gPt C lb i)
omit [NeZero N] in
theorem T0(C:Fld P)(k:1<N)(lb:ByteArray)(x:List UInt8):Tl N [(1,wr (.some (hpt P lb x):EC.Pt P))] (lPt C lb x):=Tl.one C k (lPt C lb x)
omit [NeZero N] in
theorem xC(C:Fld P)(k:1<N)(n:Nat):Gd N n 1 (gGT P) (gPt C ⟨#[108,101,102,116]⟩):=⟨λi _=>PQ C k _ i,λ_ _=>rfl⟩
omit [NeZero N] in
theorem oO(C:Fld P)(k:1<N)(n:Nat):Gd N n 1 (hGT P) (gPt C ⟨#[114,105,103,104,116]⟩):=⟨λi _=>PQ C k _ i,λ_ _=>rfl⟩
omit [NeZero N] in
theorem nP(C:Fld P)(k:1<N):Tl N (uGT P) (uPt C):=T0 C k _ _
omit [NeZero N] in
theorem MK(O:Ord N)(n cap:Nat)(p:n<=512)(q:Option Y4)(L:Nat->Bs)(a:Nat->Nat)(w:XF)(m:Args w q n L)(d:∀j,j<n->rq N (L j)=some (a j)):cZ 161 #[(.func (.func 11) #[] #[]),.slice q n cap] w (rZ w λe w'=>∃k,e=.tuple #[sZ k n n,tZ]/\SLq (w.heap.size<=·) w' (sZ k n n) n a):=by
 apply(PD O n cap p q L w m).mono;rintro e w' ⟨v,rfl,h⟩;rcases h with⟨⟨j,l,f⟩,-⟩|⟨-,k,r,b,hR,rfl⟩
 .rw[d j l]at f;cases f
 .refine⟨_,rfl,b.bel,k,rfl,k,0,n,rfl,XH _,b.le,b.lt,λj g t u i=>?_⟩;have o:=(XT.1 i).1;have c:=hR.row j t g o;rw[d j g]at c;have:=b.range (4*j+t) u (by rw[c];exact i);rw[show 0+(4*j+t)=0+4*j+t by omega]at this;exact this
def SB{t:Nat}(k:t<=6):hvA (2^t)=.tuple #[iZ t,tZ]:=by
 match t,k with
 | 0,_=>rfl
 | 1,_=>rfl
 | 2,_=>rfl
 | 3,_=>rfl
 | 4,_=>rfl
 | 5,_=>rfl
 | 6,_=>rfl
 | n+7,h=>omega
def RL{t:Nat}(k:t<=6):2^t=1\/2^t=2\/2^t=4\/2^t=8\/2^t=16\/2^t=32\/2^t=64\/2^t=128:=by
 match t,k with
 | 0,_=>decide
 | 1,_=>decide
 | 2,_=>decide
 | 3,_=>decide
 | 4,_=>decide
 | 5,_=>decide
 | 6,_=>decide
 | n+7,h=>omega
def anyS.sta{P:YO}{c:Array Yw}{Q:yAN->Act->XF->Prop}{S:Array Bool->XF->Prop}{i e:Nat}{o:Yw}{k:Array Bool}{a:Act}{w:XF}{d:Option ZC}(ho:c[i]? = some o)(j:Yj)(x y:yAp)(f:o.op=.store j x y)(b off:Nat)(us:Array XG)(p:us.all (·.oneCell')=true)(r:w.there b off us.size)(q:(P.info? j).map (·.size)=some us.size)
 (s:S (k.setIfInBounds i true) (w.setCells b off us.toList)) (h:anyS P c Q S e (k.setIfInBounds i true) (a.put d ZB) (w.setCells b off us.toList)) (hx:a.eval x=oZ b off:=by kernel_rfl) (n:a.eval y=.agg us:=by kernel_rfl)
 (g:Yq .any c k=[i]:=by kernel_rfl) (l:o.guard=none:=by rfl) (hd:o.dst=d:=by kernel_rfl):anyS P c Q S (e+1) k a w:=by
 subst hd;exact anyS.step ho g λK m=>by
  rw[yE3 (bK l)];have g:=yCk (P:=P) w b off j us r q p;unfold Y8 Ym;simp only[f,hx,n,yBk,yAP,X6,Zu,YE,g];exact m _ _ s h
def CG{T:Yj}{P:YO}{e:Func}{tmps:Array XG}{W:XF}{k:Nat}{vs:List XG}{x y:XG}(s t u:ZC)(f:e.results=#[.tmp s,.cell t T,.tmp u])(h:Row W k vs)(j:tmps[s]? = some x)(m:tmps[t]? = some (jZ k))(b:tmps[u]? = some y)(c:(P.underlying T).map (·.isRow)=some true)(l:(P.info? T).map (·.size)=some vs.length):(results e tmps).run P W=.ok (.tuple #[x,.agg vs.toArray,y]) W:=by
 obtain⟨d,c,hd⟩:=XK.1 c;have i:=yAH (P:=P) W k 0 T vs d h.2.1 c hd l;have n:tmps.getD t ZB=jZ k:=by rw[XU,m];rfl
 have g:tmps.getD s ZB=x:=by rw[XU,j];rfl
 have o:tmps.getD u ZB=y:=by rw[XU,b];rfl
 unfold results;rw[f];simp only[Array.mapM_eq_mapM_toList,List.mapM_cons,List.mapM_nil,n,g,o,asAddr];simp[X6,i]
def ElQ.off{Q:Nat->Prop}{m k:Nat}{W:XF}{x:XG}{b:Bs}{vs:List XG}(h:ElQ Q m W x b)(p:0<m)(i:Row W k (nZ :: vs)):ElQ (·≠k) m W x b:=by
 obtain⟨g,c,n,o,l,q,j,f⟩:=h;refine⟨g,c,n,o,l,?_,j,f⟩;rintro rfl;have d:=(f 0 oM).1;have e:=i.2.1 0 _ rfl;rw[show(0+0:Nat)=0 from rfl]at d e;rw[e]at d;cases d
def yO{w W:XF}{r o m B:Nat}(h:SP.Only r o m w W)(b:B<=w.heap.size)(c:B<=r):Below B w W:=⟨h.os,h.tape,h.output,h.size,λg k=>h.block g oM oM⟩
end
section
structure Iv where
 p:XF->Prop
 gr:∀W W',kZ W W'->p W->p W'
 b:Bool
abbrev Iv.bel(k:XF):Iv:=⟨λW=>kZ k W,λ_ _ b h=>h.trans (b.mono h.size),true⟩
abbrev Iv.only{r:Nat}{k:XF}(c:r<k.heap.size):Iv:=⟨λW=>SP.Only r 0 32 k W,λ_ _ b h=>h.trans (SP.Only.of_below b rfl (XI c h.size)),false⟩
section
variable {P:YO}{ops:Array Yw}{Q:yAN->Act->XF->Prop}{p r:Nat}{J:Iv}{W:XF}
def Sa(p r:Nat)(J:Iv)(l:Array Bool)(W:XF):Prop:=(J.b=true/\l.getD p false=true/\l.getD r false=true)\/J.p W
def Sa.back{i:Nat}(h:p≠i)(b:r≠i)(l:Array Bool)(W:XF)(k:Sa p r J (l.setIfInBounds i true) W):Sa p r J l W:=by
 rcases k with k|k
 .rw[yAI false (yA7 h),yAI false (yA7 b)]at k;exact Yk k
 .exact Yd k
def qw(k:Array Yw)(b:Bool)(p r i:Nat):Nat:=bif b then bif waits k p i then p else r else((YB k.size).find? λj=>waits k j i).getD 0
def Sa.bel{i:Nat}(h:Bef (Sa p r J) (qw ops J.b p r i) W):J.p W:=by
 obtain⟨l,k,⟨d,b⟩|b⟩:=h
 .exfalso;unfold qw at k;rw[d]at k;cases c:waits ops p i with
  | true=>rw[c]at k;exact yBl (k.symm.trans b.1)
  | false=>rw[c]at k;exact yBl (k.symm.trans b.2)
 .exact b
def Sa.bef{q:Nat}(h:J.p W):Bef (Sa p r J) q W:=⟨#[],by simp,Yd h⟩
def AW(P:YO)(c:Array Yw)(Q:yAN->Act->XF->Prop)(p r:Nat)(J:Iv)(b:Nat)(k:Array Bool)(a:Act)(w:XF):Prop:=J.p w->anyS P c Q (Sa p r J) b k a w
def AW.beg{J:Iv}{id:Nat}{a:Act}{w:XF}(p r:Nat)(k:J.p w.drew)(h:AW P ops Q p r J ops.size (XW ops.size false) a w.drew)(b:P.follows .mixedOrders=true:=by kernel_rfl):(Zg id ops true).wp P Q a w:=anyS.begin (Sa p r J) b (h k)
def AW.begin{id:Nat}{a:Act}{w:XF}(p r:Nat)(h:AW P ops Q p r (Iv.bel w) ops.size (XW ops.size false) a w.drew)(k:P.follows .mixedOrders=true:=by kernel_rfl):(Zg id ops true).wp P Q a w:=AW.beg p r (XX _ w).drew h k
def aw1(b:Array Yw)(p r q i:Nat)(k:Array Bool):Bool:=waits b q i && yAC b && !(k.getD q false || q == i) && yBy .any b k i && (Yq .any b k).contains i && !(p == i) && !(r == i)
def fw(k:Array Yw)(i:Nat):Nat:=((YB k.size).find? λj=>waits k j i).getD 0
variable {i fuel:Nat}{o:Yw}{listed:Array Bool}{a a':Act}{w w':XF}{d:Option ZC}{x v:XG}{t:ZC}{T:Yj}{b off:Nat}{cs:List XG}
def AW.take(i q:Nat)(ho:ops[i]? = some o)(hd:o.dst=d)(f:YieldsIf P ops (Bef (Sa p r J) q) o x a)(m:a.put d x=a')(b:aw1 ops p r q i listed=true)(u:∀c a w,Q (.panic c) (a.put o.dst x) w->Q (.panic c) a w)(h:AW P ops Q p r J fuel (listed.setIfInBounds i true) a' w):AW P ops Q p r J (fuel+1) listed a w:=λk=>by
 subst m hd;simp only[aw1,XZ,Bool.not_eq_true']at b;obtain⟨⟨⟨⟨⟨⟨l,s⟩,g⟩,t⟩,e⟩,n⟩,j⟩:=b;exact anyS.take (p:=q) ho (Sa.back (by simpa using n) (by simpa using j)) f (Sa.bef k) (Yd k) (h k) l s g t e u
def AW.va(i:Nat)(x:XG)(h:AW P ops Q p r J fuel (listed.setIfInBounds i true) a' w)(ho:ops[i]? = some o:=by(simp only[Yp,Yl,Yn])<;>rfl)(hd:o.dst=d:=by rfl)(k:o.guard=none:=by rfl)(hv:∀w,(Ym a.eval o).run P w=.ok (.value x) w:=by intro _;kernel_rfl)
 (e:a.put d x=a':=by(simp only[Yo,XJ,XM,XO])<;>rfl) (f:aw1 ops p r (fw ops i) i listed=true:=by kernel_rfl) (b:∀c a w,Q (.panic c) (a.put o.dst x) w->Q (.panic c) a w:=by exact λ_ _ _ h=>h):AW P ops Q p r J (fuel+1) listed a w:=
 AW.take i (fw ops i) ho hd (Yk ⟨bK k,λw _=>hv w⟩) e f b h
def AW.iv(i:Nat){I:Sem XG}(j:∀w,I.run P w=.ok x w)(h:AW P ops Q p r J fuel (listed.setIfInBounds i true) a' w)(ho:ops[i]? = some o:=by(simp only[Yp,Yl,Yn])<;>rfl)(hd:o.dst=d:=by rfl)(k:o.guard=none:=by rfl)(f:Ym a.eval o=I >>= λv=>pure (ZW v):=by kernel_rfl)
 (e:a.put d x=a':=by(simp only[Yo,XJ,XM,XO])<;>rfl) (g:aw1 ops p r (fw ops i) i listed=true:=by kernel_rfl) (b:∀c a w,Q (.panic c) (a.put o.dst x) w->Q (.panic c) a w:=by exact λ_ _ _ h=>h):AW P ops Q p r J (fuel+1) listed a w:=
 AW.take i (fw ops i) ho hd (Yk ⟨bK k,λw _=>by rw[f,X6,j w];rfl⟩) e g b h
def Tg{c:Array Yj}{s t k:ZC}{f:ZZ}{y:XG}(hf:∀args W,(callFunc f args).run P W=.ok (.enter f args) W)(ho:o.op=.call ⟨.value (.tmp s),#[.tmp t,.tmp k],c⟩)(b:a.eval (.tmp s)=.func (.func f) #[] #[])(hx:a.eval (.tmp t)=x)(d:a.eval (.tmp k)=y):(Ym a.eval o).run P w=.ok (.enter f #[x,y]) w:=by
 unfold Ym;rw[ho];have e:(#[yDX t,yDX k].map a.eval)=#[x,y]:=by simp[hx,d]
 simp only[resolve,b,Deferred.ofValue,X6,Zu,YE,invoke,e];exact hf _ w
def AW.mv(i:Nat)(h:AW P ops Q p r J fuel (listed.setIfInBounds i true) a' w)(ho:ops[i]? = some o:=by(simp only[Yp,Yl,Yn])<;>rfl)(hd:o.dst=d:=by rfl)(b:o.guard=none:=by rfl)(k:o.op=.move (.tmp t):=by rfl)(hx:a.eval (.tmp t)=x:=by(conv=>lhs;whnf)<;>rfl)
 (f:a.put d x=a':=by(simp only[Yo,XJ,XM,XO])<;>rfl) (g:aw1 ops p r (fw ops i) i listed=true:=by kernel_rfl) (e:∀c a w,Q (.panic c) (a.put o.dst x) w->Q (.panic c) a w:=by exact λ_ _ _ h=>h):AW P ops Q p r J (fuel+1) listed a w:=
 AW.take i (fw ops i) ho hd (Yk ⟨bK b,λw _=>by unfold Ym;rw[k];dsimp only;rw[hx];rfl⟩) f g e h
def AW.ce(i:Nat)(m:(P.underlying T).map (·.isRow)=some false)(n:∀W,J.p W->W.cell? ⟨b,off,none⟩=some x)(h:AW P ops Q p r J fuel (listed.setIfInBounds i true) a' w)(ho:ops[i]? = some o:=by(simp only[Yp,Yl,Yn])<;>rfl)(hd:o.dst=d:=by rfl)(f:o.guard=none:=by rfl)(e:o.op=.load T (.tmp t):=by rfl)(hx:a.eval (.tmp t)=oZ b off:=by rfl)
 (j:a.put d x=a':=by(simp only[Yo,XJ,XM,XO])<;>rfl) (l:aw1 ops p r (qw ops J.b p r i) i listed=true:=by kernel_rfl) (g:∀c a w,Q (.panic c) (a.put o.dst x) w->Q (.panic c) a w:=by exact λ_ _ _ h=>h):AW P ops Q p r J (fuel+1) listed a w:=
 AW.take i (qw ops J.b p r i) ho hd (Yk ⟨bK f,λw k=>by
  unfold Ym;rw[e];dsimp only;rw[hx,X6,eN (n w (Sa.bel k)) m];rfl⟩) j l g h
def AW.ro(i:Nat)(s:∀W,J.p W->W.rangeAt b off cs)(hv:Hid (.agg cs.toArray=x))(v:(P.underlying T).map (·.isRow)=some true)(m:(P.info? T).map (·.size)=some cs.length)(h:AW P ops Q p r J fuel (listed.setIfInBounds i true) a' w)(ho:ops[i]? = some o:=by(simp only[Yp,Yl,Yn])<;>rfl)(hd:o.dst=d:=by rfl)(f:o.guard=none:=by rfl)(k:o.op=.load T (.tmp t):=by rfl)(hx:a.eval (.tmp t)=oZ b off:=by rfl)
 (n:a.put d x=a':=by(simp only[Yo,XJ,XM,XO])<;>rfl) (g:aw1 ops p r (qw ops J.b p r i) i listed=true:=by kernel_rfl) (u:∀c a w,Q (.panic c) (a.put o.dst x) w->Q (.panic c) a w:=by exact λ_ _ _ h=>h):AW P ops Q p r J (fuel+1) listed a w:=by
 obtain rfl:=hv;obtain⟨e,l,q⟩:=XK.1 v;exact AW.take i (qw ops J.b p r i) ho hd (yieldsIf_load_mid (bK f) T (.tmp t) k b off hx cs e (λw j=>s w (Sa.bel j)) l q m) n g u h
def AW.ca(i:Nat){f:ZZ}{args:Array XG}{R:XG->XF->Prop}{F:XG->Act}(j:J.p w->ZI P f args w (Ret R))(hR:∀e w',R e w'->kZ w w')(h:∀e w',R e w'->AW P ops Q p r J fuel (listed.setIfInBounds i true) (F e) w')(ho:ops[i]? = some o:=by(simp only[Yp,Yl,Yn])<;>rfl)(hd:o.dst=d:=by rfl)(g:o.guard=none:=by rfl)(hx:(Ym a.eval o).run P w=.ok (.enter f args) w:=by kernel_rfl)(b:Yq .any ops listed=[i]:=by kernel_rfl)(hf:∀e,a.put d e=F e:=by intro _;(simp only[Yo,XJ,XM,XO])<;>rfl):AW P ops Q p r J (fuel+1) listed a w:=λc =>
 anyS.cal ho (j c) (λe w' b=>by
  have k:=J.gr w w' (hR e w' b) c;exact⟨Yd k,hf e ▸ h e w' b k⟩) b g hx hd
def AW.cw(i:Nat){f:ZZ}{args:Array XG}{R:XG->XF->Prop}{F:XG->Act}(g:J.p w->ZI P f args w (Ret R))(hR:∀e w',J.p w->R e w'->J.p w')(h:∀e w',R e w'->AW P ops Q p r J fuel (listed.setIfInBounds i true) (F e) w')(ho:ops[i]? = some o:=by(simp only[Yp,Yl,Yn])<;>rfl)(hd:o.dst=d:=by rfl)(c:o.guard=none:=by rfl)(hx:(Ym a.eval o).run P w=.ok (.enter f args) w:=by kernel_rfl)(k:Yq .any ops listed=[i]:=by kernel_rfl)(hf:∀e,a.put d e=F e:=by intro _;(simp only[Yo,XJ,XM,XO])<;>rfl):AW P ops Q p r J (fuel+1) listed a w:=λb =>
 anyS.cal ho (g b) (λe w' k=>⟨Yd (hR e w' b k),hf e ▸ h e w' k (hR e w' b k)⟩) k c hx hd
def AW.gi(i:Nat){f:ZZ}{args:Array XG}(j:J.p w->ZI P f args w (rZ w λe w'=>e=x))(h:∀w',kZ w w'->AW P ops Q p r J fuel (listed.setIfInBounds i true) a' w')(ho:ops[i]? = some o:=by(simp only[Yp,Yl,Yn])<;>rfl)(hd:o.dst=d:=by rfl)(k:o.guard=none:=by rfl)(hx:(Ym a.eval o).run P w=.ok (.enter f args) w:=by kernel_rfl)
 (b:a.put d x=a':=by(simp only[Yo,XJ,XM,XO])<;>rfl) (c:Yq .any ops listed=[i]:=by kernel_rfl):AW P ops Q p r J (fuel+1) listed a w:=AW.ca (F:=λe=>a.put d e) i j (λe w' h=>h.1) (λe w' hR=>by
 obtain⟨g,rfl⟩:=hR;subst b;exact h w' g) ho hd k hx c λ_=>rfl
def AW.ns(i:Nat){I:Sem XG}(hx:I.run P w=.ok x w')(b:kZ w w')(h:AW P ops Q p r J fuel (listed.setIfInBounds i true) a' w')(ho:ops[i]? = some o:=by(simp only[Yp,Yl,Yn])<;>rfl)(hd:o.dst=d:=by rfl)(c:o.guard=none:=by rfl)(g:Ym a.eval o=I >>= λv=>pure (ZW v):=by kernel_rfl)
 (f:a.put d x=a':=by(simp only[Yo,XJ,XM,XO])<;>rfl) (j:Yq .any ops listed=[i]:=by kernel_rfl):AW P ops Q p r J (fuel+1) listed a w:=λe=>by
 subst f;have k:=J.gr w w' b e;exact anyS.ins ho hx (Yd k) (h k) j c g hd
def AW.nx(i:Nat)(x:XG)(h:AW P ops Q p r J fuel (listed.setIfInBounds i true) a' w)(ho:ops[i]? = some o:=by(simp only[Yp,Yl,Yn])<;>rfl)(hd:o.dst=d:=by rfl)(b:o.guard=none:=by rfl)(hv:(Ym a.eval o).run P w=.ok (.value x) w:=by kernel_rfl)
 (c:a.put d x=a':=by(simp only[Yo,XJ,XM,XO])<;>rfl) (e:Yq .any ops listed=[i]:=by kernel_rfl):AW P ops Q p r J (fuel+1) listed a w:=λk=>by
 subst c;exact anyS.nxt ho (Yd k) (h k) hv e b hd
def AW.dn(h:J.p w->Q .normal a w)(b:Yq .any ops listed=[]:=by kernel_rfl):AW P ops Q p r J fuel listed a w:=λk=>anyS.done b (h k) _
def AW.fi{us:List XG}{k off:Nat}(hv:Hid (.agg us.toArray=v))(m:us.toArray.all (·.oneCell')=true)(g:(P.info? T).map (·.size)=some us.length)(h:J.p w->w.there k off us.length/\Q .normal a' (w.setCells k off us))(ho:ops[p]? = some o:=by(simp only[Yp,Yl,Yn])<;>rfl)(hd:o.dst=none:=by rfl)(d:o.guard=none:=by rfl){y:yAp}(c:o.op=.store T (.tmp t) y:=by rfl)(hx:a.eval (.tmp t)=oZ k off:=by rfl)(e:a.eval y=v:=by rfl)
 (i:a.put none ZB=a':=by(simp only[Yo])<;>rfl) (b:(Yq .any ops listed,Yq .any ops (listed.setIfInBounds p true),J.b,(listed.setIfInBounds p true).getD p false,(listed.setIfInBounds p true).getD r false)=([p],[],true,true,true):=by kernel_rfl):AW P ops Q p r J (fuel+1) listed a w:=λl=>by
 simp only[Zl.injEq]at b;obtain⟨f,j⟩:=h l;subst i;exact anyS.sta ho T (.tmp t) y c k off us.toArray m f g (Yk b.2.2) (anyS.done b.2.1 j _) hx (e.trans hv.symm) b.1 d hd
def AW.ss(i:Nat){us:List XG}{k off:Nat}(hv:Hid (.agg us.toArray=v))(s:us.toArray.all (·.oneCell')=true)(l:(P.info? T).map (·.size)=some us.length)(f:Hid (w.setCells k off us=w'))(h:J.p w->w.there k off us.length/\J.p w')(n:AW P ops Q p r J fuel (listed.setIfInBounds i true) a' w')(ho:ops[i]? = some o:=by(simp only[Yp,Yl,Yn])<;>rfl)(hd:o.dst=none:=by rfl)(d:o.guard=none:=by rfl){y:yAp}(b:o.op=.store T (.tmp t) y:=by rfl)(hx:a.eval (.tmp t)=oZ k off:=by rfl)(g:a.eval y=v:=by rfl)
 (m:a.put none ZB=a':=by(simp only[Yo])<;>rfl) (e:Yq .any ops listed=[i]:=by kernel_rfl):AW P ops Q p r J (fuel+1) listed a w:=λq=>by
 obtain⟨j,c⟩:=h q;obtain rfl:=f;subst m;exact anyS.sta ho T (.tmp t) y b k off us.toArray s j l (Yd c) (n c) hx (g.trans hv.symm) e d hd
def AW.f2{us us':List XG}{k d:Nat}{B:XG}{m:Yj}(hv:Hid (.agg us.toArray=v))(f:Hid (.agg us'.toArray=B))(V:us.toArray.all (·.oneCell')=true)(M:(P.info? T).map (·.size)=some us.length)(e:us'.toArray.all (·.oneCell')=true)(u:(P.info? m).map (·.size)=some us'.length)(h:J.p w->w.there k 0 us.length/\(w.setCells k 0 us).there d 0 us'.length/\Q .normal a' ((w.setCells k 0 us).setCells d 0 us'))(ho:ops[p]? = some o:=by(simp only[Yp,Yl,Yn])<;>rfl)(hd:o.dst=none:=by rfl)(C:o.guard=none:=by rfl){y:yAp}(g:o.op=.store T (.tmp t) y:=by rfl)(hx:a.eval (.tmp t)=jZ k:=by rfl)(G:a.eval y=v:=by rfl)
 (N:a.put none ZB=a':=by(simp only[Yo])<;>rfl){c:Yw}{z:yAp}{n:ZC}(l:ops[p+1]? = some c:=by(simp only[Yp,Yl,Yn])<;>rfl) (x:c.dst=none:=by rfl) (q:c.guard=none:=by rfl) (b:c.op=.store m (.tmp n) z:=by rfl) (i:a'.eval (.tmp n)=jZ d:=by rfl) (s:a'.eval z=B:=by rfl) (j:a'.put none ZB=a':=by rfl)
 (A:(Yq .any ops listed,Yq .any ops (listed.setIfInBounds p true),Yq .any ops ((listed.setIfInBounds p true).setIfInBounds (p+1) true),J.b,(listed.setIfInBounds p true).getD p false,(listed.setIfInBounds p true).getD r false,((listed.setIfInBounds p true).setIfInBounds (p+1) true).getD p false,((listed.setIfInBounds p true).setIfInBounds (p+1) true).getD r false)=([p],[p+1],[],true,true,true,true,true):=by kernel_rfl):AW P ops Q p r J (fuel+2) listed a w:=λU=>by
 simp only[Zl.injEq]at A;obtain⟨E,L,F,c,D,H,O,R⟩:=A;obtain⟨K,S,I⟩:=h U;subst N;exact anyS.sta ho T (.tmp t) y g k 0 us.toArray V K M (Yk ⟨c,D,H⟩) (anyS.sta l m (.tmp n) z b d 0 us'.toArray e S u (Yk ⟨c,O,R⟩) (anyS.done F (by rw[j];exact I) _) i (s.trans f.symm) L q x) hx (G.trans hv.symm) E C hd
end
end
section
variable {P:Nat}[NeZero P]{N:Nat}
def uBy:wZ 23:=wQ
def Xk{q:Option Y4}{n c k:Nat}{w:XF}:(YF 27 2 #[(0,.slice q n c),(1,sZ k 4 4)]).run prog w=.ok (sZ w.heap.size 2 2) (w.alloc (.cells #[.slice q n c,sZ k 4 4] 23)):=kR
def RQ{T:Yj}{w:XF}{u v:XG}{x y:List UInt8}(d:PartOk w u x)(e:PartOk w v y):PartsOk (w.alloc (.cells #[u,v] T)) (some (aZ w.heap.size)) [x,y]:=by
 have b:=aC (w:=w) (.cells #[u,v] T);refine Yd ⟨_,_,rfl,λj k=>?_⟩;have c:=(row_new w [u,v] T).2.1 j;match j,k with
 | 0,_=>exact⟨u,c u rfl,d.below b⟩
 | 1,_=>exact⟨v,c v rfl,e.below b⟩
def Tc(O:Ord N)(b:ByteArray)(y:b.size<=1000)(l:List UInt8)(q:Option Y4)(n c i o j:Nat)(H:i<4294967296)(w:XF)(z:o<w.heap.size)(B:j<w.heap.size)(c1:w.cell? ⟨o,0,none⟩=some (.string b))(c2:w.cell? ⟨j,0,none⟩=some (.slice q n c))(E:PartOk w (.slice q n c) l):
 cZ 181 #[iZ i,jZ o,jZ j] w (rZ w λe w'=>e=nv (chL N b.data.toList [l,(gB i).toList])):=by
 obtain⟨k,t⟩:=hE (w.heap.size);obtain⟨G,d⟩:=hE (lZ w (RG.z 4) 44);have f:=aM t d;have A:=λ(W:XF) (a:Option Y4) (h:PartsOk W a [l,(gB i).toList])=>Dw O b a 2 2 [l,(gB i).toList] W oM rfl dC h
 generalize chL N b.data.toList [l,(gB i).toList]=x at A⊢;have C:=mk1 A;obtain⟨K,s⟩:=hE (nv x);rw[s.out]at C;go_enter func181,ntmps181;go_wp2_with (first|(refine alR 4 t d ?_)|fail)
 refine AW.begin 6 6 ?_;refine AW.ce 0 u9s (λW g=>by rw[g.cell (p:=⟨o,0,none⟩) (XI z f.1.size),f.1.cell (p:=⟨o,0,none⟩) z];exact c1) ?_;refine AW.ce 1 uBy (λW g=>by rw[g.cell (p:=⟨j,0,none⟩) (XI B f.1.size),f.1.cell (p:=⟨j,0,none⟩) B];exact c2) ?_;refine AW.mv 2 ?_;refine AW.ca 3 (λ_=>yR i H _) (λe w' h=>h.1) ?_;rintro e I ⟨u,r,rfl,D,v⟩;refine AW.ns 4 (Xk) (aC _) ?_;refine AW.gi 5 (λg=>C _ _ (RQ (E.below (f.1.trans (((XX _ G).drew.trans u).mono f.1.size))) (EA v))) ?_;intro J F;refine AW.fi (us:=wn x) s aI i40 (λg=>?_);obtain⟨L,m⟩:=hE (J.setCells k 0 (wn x));have R:=tO t d g m;rw[m.out];refine⟨R.1,?_⟩;go_wp2_with fail
 refine XR (aF 4 rfl R.2.2 rfl u40 i40) rfl ?_;exact⟨_,rfl,R.2.1,rfl⟩
def Vn(O:Ord N)(k:ByteArray)(d:k.size<=1000)(l:List UInt8)(q:Option Y4)(n c m:Nat)(a:m<=64)(w:XF)(x:PartOk w (.slice q n c) l):
 cZ 127 #[.string k,iZ m,.slice q n c] w (rZ w λe w'=>SLq (w.heap.size<=·) w' e m (λi=>chL N k.data.toList [l,(gB i).toList])):=by
 obtain⟨z,j⟩:=hE ((w.alloc (.cells #[.string k] 9)).alloc (.cells #[.slice q n c] 23));have b1:=aC (w:=w) (.cells #[.string k] 9);have t:=aC (w:=(w.alloc (.cells #[.string k] 9))) (.cells #[.slice q n c] 23);have p:=(row_new w [.string k] 9).below t;have o:=row_new (w.alloc (.cells #[.string k] 9)) [.slice q n c] 23;have b:=b1.trans (t.mono b1.size);rw[XS]at o;simp only[j.out]at p o b;have HL:=mk1 (jL m oM 181 (cap:=#[jZ w.heap.size,jZ (w.heap.size+1)]) (λ_ _=>kR) (λi=>chL N k.data.toList [l,(gB i).toList]) z (λi W A f=>Tc O k d l q n c i _ _ oM W (XI p.1 f.size) (XI o.1 f.size) ((p.below f).2.1 0 _ rfl) ((o.below f).2.1 0 _ rfl) ((x.below b).below f)));have s:=mk1 b;go_enter func127,ntmps127;go_wp2_with fail
 rw[j.out];refine HL.mono ?_;rintro e B ⟨v,rfl,r,hG⟩;have y:=mk2 (s.trans (r.mono s.size)) (hG.mono λg u=>XN s.size u);go_wp2;go_ret;exact⟨_,rfl,y⟩
end
section
variable {N:Nat}
def uLi:yZ 145:=yQ
def iLi:gZ 145 2:=gQ
structure Ln(Q:Nat->Prop)(W:XF)(v:XG)(n:Nat)(a b:Nat->Nat):Prop where
 ex:∃x y,v=.agg #[x,y]/\SLq Q W x n a/\SLq Q W y n b
section
variable {Q Q':Nat->Prop}{W W':XF}{v:XG}{n:Nat}{a b:Nat->Nat}
def Ln.keep(h:Ln Q W v n a b)(k:Kq Q W W'):Ln Q W' v n a b:=by
 obtain⟨x,y,d,e,c⟩:=h.ex;exact⟨x,y,d,e.keep k,c.keep k⟩
def Ln.mono(h:Ln Q W v n a b)(k:∀g,Q g->Q' g):Ln Q' W v n a b:=by
 obtain⟨x,y,c,e,d⟩:=h.ex;exact⟨x,y,c,e.mono k,d.mono k⟩
end
def cB{Q:Nat->Prop}{W:XF}{x:XG}{n:Nat}{a:Nat->Nat}(h:SLq Q W x n a):x.oneCell'=true/\∃g o c,x=qZ g o n c:=by
 obtain⟨g,o,c,rfl,-⟩:=h;exact⟨rfl,_,_,_,rfl⟩
def UM(O:Ord N)(v:Nat)(hv:v<2^64)(m:Nat)(hm:m<=64)(C:List UInt8)(q:Option Y4)(n c:Nat)(w:XF)(hp:PartOk w (.slice q n c) C):
 cZ 75 #[uZ v,iZ m,.slice q n c] w (rZ w λe w'=>∃x y,e=.tuple #[x,y]/\Ln (w.heap.size<=·) w' x m (λi=>v/2^i%2) (λi=>chL N [115,108] [C,(gB i).toList])/\Ln (w.heap.size<=·) w' y m (λi=>sMi N (v/2^i%2) 1) (λi=>chL N [115,114] [C,(gB i).toList])):=by
 obtain⟨vf,d⟩:=hE (yCO (.func 124) #[] #[jZ w.heap.size]);obtain⟨k,E⟩:=hE (w.heap.size);obtain⟨wa,G⟩:=hE (w.alloc (.cells [uZ v].toArray 24));obtain⟨P,z⟩:=hE (wa.heap.size);obtain⟨wb,K⟩:=hE (wa.alloc (.cells [nZ,nZ].toArray 145));obtain⟨F,A⟩:=hE (wb.heap.size);obtain⟨wc,I⟩:=hE (wb.alloc (.cells [nZ,nZ].toArray 145));obtain⟨t,o⟩:=hE (wc.heap.size);obtain⟨wd,u⟩:=hE (wc.alloc (.cells [.nilFunc].toArray 224));obtain⟨s,Q⟩:=hE (wd.setCells t 0 [vf]);have Y:=aM E G;have Fb:=aM z K;have R:=aM A I;have Fe:=GB o u Q rfl;rw[E.out]at d;have bc:=Fb.1.trans (R.1.mono Fb.1.size);have be:=bc.trans (Fe.2.1.mono bc.size);have b:=mk6 (Y.1.trans (be.mono Y.1.size)) (Y.2.below be) (Fb.2.below (R.1.trans (Fe.2.1.mono R.1.size))) (R.2.below Fe.2.1) Fe.2.2 (show k<P/\P<F/\F<t from⟨z.out▸Y.2.1,A.out▸Fb.2.1,o.out▸R.2.1⟩);have h0:=mk1 (aM o u).2.2.2;have h4:=b.2.2.2.2.1.2.1 0 _ rfl;have H1:Hid (∀W,kZ s W->cZ 126 #[iZ m,vf] W (rZ W λe w'=>SLq (W.heap.size<=·) w' e m (λi=>v/2^i%2))):=λW r=>by
  rw[<-d.out];exact jL m oM 124 (λ_ _=>kR) _ W λi V j f=>Le v i k hv oM V (XI b.2.1.1 (XN r.size f.size)) (((b.2.1.below r).below f).2.1 0 _ rfl)
 have H2:Hid (∀W,kZ s W->cZ 126 #[iZ m,.func (.func 125) #[] #[jZ t]] W (rZ W λe w'=>SLq (W.heap.size<=·) w' e m (λi=>sMi N (v/2^i%2) 1))):=λW r =>
  jL m oM 125 (λ_ _=>kR) _ W λi V j f=>Sw O v i k t hv oM V (XI b.2.1.1 (XN r.size f.size)) (XI b.2.2.2.2.1.1 (XN r.size f.size)) (((b.2.1.below r).below f).2.1 0 _ rfl) (by rw[((b.2.2.2.2.1.below r).below f).2.1 0 _ rfl,d.out])
 have HC:Hid (∀(l:ByteArray) W,l.size<=1000->kZ s W->cZ 127 #[.string l,iZ m,.slice q n c] W (rZ W λe w'=>SLq (W.heap.size<=·) w' e m (λi=>chL N l.data.toList [C,(gB i).toList]))):=λl W hl r=>Vn O l hl C q n c m hm W ((hp.below b.1).below r)
 go_enter func75,ntmps75;go_wp2_with (first|(refine alR 3 E G ?_)|(refine alR 6 z K ?_)|(refine alR 7 A I ?_)|(refine alR 8 o u ?_)|(refine qN rfl (k:=224) rfl vf ?_ ?_ ?_ ?_ h0 kR ?_;rfl;exact d;(rw[<-d.out];rfl);(rw[<-d.out];rfl);rw[Q.out])|fail)
 apply(H1 s (XX _ _)).mono;rintro e w1 ⟨x1,rfl,f,S⟩;go_wp2_with fail
 apply(HC _ w1 dC f).mono;rintro e w2 ⟨x2,rfl,j,V⟩;have b2:=f.trans (j.mono f.size);obtain⟨-,g1,Z,c1,e1⟩:=cB S;obtain⟨-,g2,o2,c2,e2⟩:=cB V;subst e1 e2;go_wp2_with fail
 apply(H2 w2 b2).mono;rintro e w3 ⟨x3,rfl,p,J⟩;have b3:=b2.trans (p.mono b2.size);go_wp2_with fail
 apply(HC _ w3 dC b3).mono;rintro e X ⟨x4,rfl,D,M⟩;have b4:=b3.trans (D.mono b3.size);obtain⟨-,g3,o3,c3,e3⟩:=cB J;obtain⟨-,g4,o4,c4,e4⟩:=cB M;subst e3 e4;obtain⟨w5,H⟩:=hE (X.setCells P 0 [qZ g1 Z m c1,qZ g2 o2 m c2]);obtain⟨B,U⟩:=hE (w5.setCells F 0 [qZ g3 o3 m c3,qZ g4 o4 m c4]);obtain⟨h2,h6,h5⟩:=b.2.2.2.2.2;have h3:=b.2.2.2.2.1.1;have s1:=f.size;have s2:=j.size;have s3:=p.size;have R4:=mk2 (b.2.2.1.below b4) (b.2.2.2.1.below b4);have T:Hid (kZ w B/\Row B P [qZ g1 Z m c1,qZ g2 o2 m c2]/\Row B F [qZ g3 o3 m c3,qZ g4 o4 m c4]/\w5.there F 0 2/\Kq (t < ·) X B):=by
  rw[<-U.out,<-H.out];have L:Row (X.setCells P 0 [qZ g1 Z m c1,qZ g2 o2 m c2]) F _:=aP R4.2 oM;refine⟨RG.below_setCells (by rw[E.out];omega) _ _ _ (RG.below_setCells (by rw[E.out];omega) _ _ _ (b.1.trans (b4.mono b.1.size))),aP (R4.1.put rfl) oM,L.put rfl,L.2.2,?_⟩;exact⟨by rw[setCells_size,setCells_size];exact XH _,λg hg _=>by rw[aE _ _ _ g oM,aE _ _ _ g oM]⟩
 have hq:∀ {W:XF}{x:XG}{a:Nat->Nat},s.heap.size<=W.heap.size->SLq (W.heap.size<=·) X x m a->SLq (w.heap.size<=·) B x m a:=λhW h=>((h.mono (Q':=(t < ·)) λg hg=>oM).keep T.2.2.2.2).mono λg hg=>by rw[E.out];omega
 have L:=p.trans (D.mono p.size);have h1:=j.trans (L.mono j.size);have KR:Hid (Ln (w.heap.size<=·) B (.agg #[qZ g1 Z m c1,qZ g2 o2 m c2]) m (λi=>v/2^i%2) (λi=>chL N [115,108] [C,(gB i).toList])/\Ln (w.heap.size<=·) B (.agg #[qZ g3 o3 m c3,qZ g4 o4 m c4]) m (λi=>sMi N (v/2^i%2) 1) (λi=>chL N [115,114] [C,(gB i).toList])):=
  ⟨⟨_,_,rfl,hq (XH _) (S.keep (Kq.of_below h1)),hq s1 (V.keep (Kq.of_below L))⟩,⟨_,_,rfl,hq oM (J.keep (Kq.of_below D)),hq oM M⟩⟩
 go_wp2_with (first|(refine stR 6 H (Hid.mk' rfl) R4.1.2.2 iLi kR ?_)|(refine stR 7 U (Hid.mk' rfl) T.2.2.2.1 iLi kR ?_)|fail)
 refine XR (qX 6 7 rfl T.2.1 T.2.2.1 rfl rfl uLi iLi uLi iLi) rfl ?_;exact⟨_,rfl,T.1,_,_,rfl,KR⟩
def uF2:wZ 236:=wQ
def uSl:wZ 143:=wQ
def Fp{w c W:XF}{k:Nat}{x:XG}(b:kZ w c)(d:k<w.heap.size)(f:w.cell? ⟨k,0,none⟩=some x)(e:kZ c W):W.cell? ⟨k,0,none⟩=some x:=by
 rw[e.cell (p:=⟨k,0,none⟩) (XI d b.size),b.cell (p:=⟨k,0,none⟩) d];exact f
def row_of{w c W:XF}{k o:Nat}{cs:List XG}(b:kZ w c)(d:k<w.heap.size)(f:w.rangeAt k o cs)(e:kZ c W):W.rangeAt k o cs:=RG.range_below (RG.range_below f b d) e (XI d b.size)
def RR(f:ZZ)(hf:∀args W,(callFunc f args).run prog W=.ok (.enter f args) W)(x y z:Nat)(A:Gives f #[nv x,nv y] (nv z))(i p u q o v t c1 n a s c2:Nat)(I:i<t)(N:i<s)(w:XF)(lf:p<w.heap.size)(G:u<w.heap.size)(H:q<w.heap.size)(M:o<w.heap.size)(D:n<w.heap.size)(K:w.cell? ⟨p,0,none⟩=some (.func (.func f) #[] #[]))(L:w.cell? ⟨u,0,none⟩=some (qZ o v t c1))(E:w.cell? ⟨q,0,none⟩=some (qZ n a s c2))(C:w.rangeAt o (v+4*i) (wn x))(J:w.rangeAt n (a+4*i) (wn y)):
 cZ 189 #[iZ i,jZ p,jZ u,jZ q] w (rZ w λe w'=>e=nv z):=by
 obtain⟨k,r⟩:=hE (w.heap.size);obtain⟨S,c⟩:=hE (lZ w (RG.z 4) 44);have l:=aM r c;obtain⟨Q,m⟩:=hE (nv x);obtain⟨U,d⟩:=hE (nv y);obtain⟨P,j⟩:=hE (nv z);rw[m.out,d.out,j.out]at A;have B:=mk1 A;go_enter func189,ntmps189;go_wp2_with (first|(refine alR 5 r c ?_)|fail)
 refine AW.begin 10 10 ?_;refine AW.ce 0 uF2 (λW b=>Fp l.1 lf K b) ?_;refine AW.ce 1 uSl (λW b=>Fp l.1 G L b) ?_;refine AW.mv 2 ?_;refine AW.iv 3 (mF I) ?_;refine AW.ro 4 (λW b=>row_of l.1 M C b) m rSc nSc ?_;refine AW.ce 5 uSl (λW b=>Fp l.1 H E b) ?_;refine AW.mv 6 ?_;refine AW.iv 7 (mF N) ?_;refine AW.ro 8 (λW b=>row_of l.1 D J b) d rSc nSc ?_;refine AW.gi 9 (λ_=>B _) ?_ (hx:=Tg hf rfl rfl rfl rfl);intro O F;refine AW.fi (us:=wn z) j aI i40 (λb=>?_);obtain⟨T,g⟩:=hE (O.setCells k 0 (wn z));have R:=tO r c b g;rw[g.out];refine⟨R.1,?_⟩;go_wp2_with fail
 refine XR (aF 5 rfl R.2.2 rfl u40 i40) rfl ?_;exact⟨_,rfl,R.2.1,rfl⟩
def Pp{w f j k:XF}{n l m:Nat}{x y z:List XG}{T U V:Yj}(i:Hid (w.heap.size=n))(p:Hid (w.alloc (.cells x.toArray T)=f))(e:Hid (f.heap.size=l))(q:Hid (f.alloc (.cells y.toArray U)=j))(g:Hid (j.heap.size=m))(o:Hid (j.alloc (.cells z.toArray V)=k)):Hid (kZ w k/\Row k n x/\Row k l y/\Row k m z):=by
 have a:=(aM i p).out;have b:=(aM e q).out;have c:=(aM g o).out;have d:=b.1.trans (c.1.mono b.1.size);exact⟨a.1.trans (d.mono a.1.size),a.2.below d,b.2.below c.1,c.2⟩
def P0{Q:Nat->Prop}(f:ZZ)(hf:∀args W,(callFunc f args).run prog W=.ok (.enter f args) W)(F:Nat->Nat->Nat)(n:Nat)(Y:n<=64)(a b:Nat->Nat)(O:∀i,i<n->Gives f #[nv (a i),nv (b i)] (nv (F (a i) (b i))))(va E:XG)(w:XF)(R:SLq Q w va n a)(U:SLq Q w E n b):
 cZ 139 #[.func (.func f) #[] #[],va,E] w (rZ w λe w'=>SLq (w.heap.size<=·) w' e n (λi=>F (a i) (b i))):=by
 obtain⟨C,G,c1,rfl,-,-,N,L⟩:=R;obtain⟨A,I,c2,rfl,-,-,P,S⟩:=U;obtain⟨vf,k⟩:=hE (yCO (.func f) #[] #[]);obtain⟨t,p⟩:=hE (w.heap.size);obtain⟨r,q⟩:=hE (w.alloc (.cells [vf].toArray 236));obtain⟨z,d⟩:=hE (r.heap.size);obtain⟨H,j⟩:=hE (r.alloc (.cells [qZ C G n c1].toArray 143));obtain⟨D,o⟩:=hE (H.heap.size);obtain⟨V,l⟩:=hE (H.alloc (.cells [qZ A I n c2].toArray 143));have B:=Pp p q d j o l;have y:Hid ((Yu 236 vf).run prog w=.ok (jZ t) r):=q.out▸p.out▸k.out▸Hid.mk' kR;have M:=B.2.2.1.2.1 0 _ rfl;have HL:=mk1 (jL n oM 189 (cap:=#[jZ t,jZ z,jZ D]) (λ_ _=>kR) (λi=>F (a i) (b i)) V λi W m c=>by
  have bb:=B.1.trans (c.mono B.1.size);have s:=bb.size;exact RR f hf (a i) (b i) _ (O i m) i t z D C G n c1 A I n c2 m m W (B.2.1.below c).1 (B.2.2.1.below c).1 (B.2.2.2.below c).1 oM oM (by rw[(B.2.1.below c).2.1 0 _ rfl,k.out]) ((B.2.2.1.below c).2.1 0 _ rfl) ((B.2.2.2.below c).2.1 0 _ rfl) (RG.range_below (L i m) bb N) (RG.range_below (S i m) bb P))
 rw[k.out];go_enter func139,ntmps139;go_wp2_with (first|(refine aG (u:=vf) (v:=jZ t) (w':=r) rfl _ (.tmp 0) rfl ?_ ?_ ?_;rfl;exact y)|(refine alR 4 d j ?_)|(refine alR 5 o l ?_)|fail)
 refine HL.mono ?_;rintro e X ⟨v,rfl,x,T⟩;have K:=mk2 (B.1.trans (x.mono B.1.size)) (T.mono λg J=>XN B.1.size J);go_wp2;go_ret;exact⟨_,rfl,K⟩
def SLq.set{W:XF}{B k o n:Nat}{vs:List XG}{x:XG}{a:Nat->Nat}(h:SLq (B<=·) W x n a)(c:k<B):SLq (B<=·) (W.setCells k o vs) x n a:=h.keep (Kq.set λg b=>oM)
section
variable {Q:Nat->Prop}{w:XF}{n:Nat}{v u:XG}{a b c:Nat->Nat}
def GK{x y:XG}(hx:x.oneCell'=true)(m:y.oneCell'=true)(w:XF):∃k c e d,Hid (w.heap.size=k)/\Hid (w.alloc (.cells [x,y].toArray 145)=c)/\Hid (c.heap.size=e)/\Hid (c.alloc (.cells [nZ,nZ].toArray 145)=d)/\Hid (kZ w d/\Row d k [x,y]/\Row d e [nZ,nZ]/\k<e):=by
 obtain⟨k,l⟩:=hE (w.heap.size);obtain⟨c,i⟩:=hE (w.alloc (.cells [x,y].toArray 145));obtain⟨e,b⟩:=hE (c.heap.size);obtain⟨d,j⟩:=hE (c.alloc (.cells [nZ,nZ].toArray 145));have f:=(aM l i).out;have g:=(aM b j).out;exact⟨k,c,e,d,l,i,b,j,f.1.trans (g.1.mono f.1.size),f.2.below g.1,g.2,b.out▸f.2.1⟩
def P6(O:Ord N)(S:n<=64)(P:∀i,i<n->a i<N)(U:∀i,i<n->c i<N)(h:Ln Q w v n a b)(X:SLq Q w u n c):
 cZ 81 #[v,u] w (rZ w λe w'=>Ln (λg=>Q g\/w.heap.size<=g) w' e n (λi=>sPl N (a i) (c i)) b):=by
 obtain⟨x,y,rfl,hx,E⟩:=h.ex;obtain⟨M,g1,o1,c1,rfl⟩:=cB hx;obtain⟨T,f,o,c2,rfl⟩:=cB E;obtain⟨k,w1,z,w2,D,B,r,q,F⟩:=GK M T w;have L:=mk1 (λ(W:XF) (d:kZ w W)=>P0 (Q:=λ_=>True) 25 (λ_ _=>kR) (sPl N) n S a c (λi G=>mP O _ _ (P i G) (U i G)) _ _ W ((hx.keep (Kq.of_below d)).mono λ_ _=>trivial) ((X.keep (Kq.of_below d)).mono λ_ _=>trivial));go_enter func81,ntmps81;go_wp2_with (first|(refine alR 2 D B ?_)|(refine alR 4 r q ?_)|fail)
 refine AW.begin 7 7 ?_;refine AW.va 0 (jZ k) ?_;refine AW.ce 1 uSl (λW d=>(F.2.1.below d).2.1 0 _ rfl) ?_;refine AW.mv 2 ?_;refine AW.va 4 (oZ k 1) ?_;refine AW.ce 5 uSl (λW d=>(F.2.1.below d).2.1 1 _ rfl) ?_;refine AW.ca 3 (λd=>L _ (F.1.trans (d.mono F.1.size))) (λe w' h=>h.1) ?_;rintro e J ⟨V,H⟩;obtain⟨Z,j,l,m,rfl⟩:=cB H;refine AW.va 6 (.agg #[qZ j l n m,qZ f o n c2]) ?_;refine AW.fi (us:=[qZ j l n m,qZ f o n c2]) (Hid.mk' rfl) kR iLi (λd=>?_);have C:=F.2.2.1.below d;refine⟨C.2.2,?_⟩;obtain⟨t,p⟩:=hE (J.setCells z 0 [qZ j l n m,qZ f o n c2]);have R:Hid (kZ w t/\Row t z [qZ j l n m,qZ f o n c2]/\Ln (λg=>Q g\/w.heap.size<=g) t (.agg #[qZ j l n m,qZ f o n c2]) n (λi=>sPl N (a i) (c i)) b):=by
  have Y:=F.1.trans (d.mono F.1.size);have s:w.heap.size<=z:=D.out▸yAm F.2.2.2;have I:=RG.below_setCells s [qZ j l n m,qZ f o n c2] 0 J Y;rw[<-p.out];exact⟨I,C.put rfl,_,_,rfl,(H.set F.2.2.1.1).mono λg K=>Yd (XN F.1.size K),(E.keep (Kq.of_below I)).mono λ_ h=>Yk h⟩
 rw[p.out];go_wp2_with fail
 refine XR (aF 4 rfl R.2.1 rfl uLi iLi) rfl ?_;exact⟨_,rfl,R.1,R.2.2⟩
def UK(O:Ord N)(U:n<=64)(D:∀i,i<n->a i<N)(d:∀i,i<n->b i<N)(X:∀i,i<n->c i<N)(h:Ln Q w v n a b)(Y:SLq Q w u n c):
 cZ 82 #[v,u] w (rZ w λe w'=>Ln (w.heap.size<=·) w' e n (λi=>sTi N (a i) (c i)) (λi=>sTi N (b i) (c i))):=by
 obtain⟨x,y,rfl,hx,M⟩:=h.ex;obtain⟨T,g1,o1,c1,rfl⟩:=cB hx;obtain⟨V,g2,o2,c2,rfl⟩:=cB M;obtain⟨k,w1,H,w2,K,I,A,z,F⟩:=GK T V w;have L:=mk1 (λ(x:XG) (a:Nat->Nat) (D:∀i,i<n->a i<N) (hx:SLq Q w x n a) (W:XF) (d:kZ w W)=>P0 (Q:=λ_=>True) 26 (λ_ _=>kR) (sTi N) n U a c (λi P=>gW O _ _ (D i P) (X i P)) _ _ W ((hx.keep (Kq.of_below d)).mono λ_ _=>trivial) ((Y.keep (Kq.of_below d)).mono λ_ _=>trivial));go_enter func82,ntmps82;go_wp2_with (first|(refine alR 2 K I ?_)|(refine alR 4 A z ?_)|fail)
 refine AW.begin 9 9 ?_;refine AW.va 0 (jZ k) ?_;refine AW.ce 1 uSl (λW d=>(F.2.1.below d).2.1 0 _ rfl) ?_;refine AW.mv 2 ?_;refine AW.va 4 (oZ k 1) ?_;refine AW.ce 5 uSl (λW d=>(F.2.1.below d).2.1 1 _ rfl) ?_;refine AW.mv 6 ?_;refine AW.ca 3 (λd=>L _ a D hx _ (F.1.trans (d.mono F.1.size))) (λe w' h=>h.1) ?_;rintro e W3 ⟨s,S⟩;obtain⟨h5,f,o,p,rfl⟩:=cB S;refine AW.ca 7 (λE=>L _ b d M _ (F.1.trans (E.mono F.1.size))) (λe w' h=>h.1) ?_;rintro e Z ⟨B,q⟩;obtain⟨h6,m,l,r,rfl⟩:=cB q;refine AW.va 8 (.agg #[qZ f o n p,qZ m l n r]) ?_;refine AW.fi (us:=[qZ f o n p,qZ m l n r]) (Hid.mk' rfl) kR iLi (λd=>?_);have J:=F.2.2.1.below d;refine⟨J.2.2,?_⟩;obtain⟨G,j⟩:=hE (Z.setCells H 0 [qZ f o n p,qZ m l n r]);have R:Hid (kZ w G/\Row G H [qZ f o n p,qZ m l n r]/\Ln (w.heap.size<=·) G (.agg #[qZ f o n p,qZ m l n r]) n (λi=>sTi N (a i) (c i)) (λi=>sTi N (b i) (c i))):=by
  have b3:=F.1.trans (d.mono F.1.size);have C:w.heap.size<=H:=K.out▸yAm F.2.2.2;rw[<-j.out];exact⟨RG.below_setCells C _ _ _ b3,J.put rfl,_,_,rfl,((S.keep (Kq.of_below B)).set F.2.2.1.1).mono λg t=>XN F.1.size t,(q.set (XI F.2.2.1.1 s.size)).mono λg t=>XN F.1.size (XN s.size t)⟩
 rw[j.out];go_wp2_with fail
 refine XR (aF 4 rfl R.2.1 rfl uLi iLi) rfl ?_;exact⟨_,rfl,R.1,R.2.2⟩
end
end
section
variable {P:Nat}[NeZero P]{N:Nat}
def Sx(O:Ord N)(x y z:Nat)(hx:x<N)(K:y<N)(I:z<N)(i q E p C A c1 o D a c2:Nat)(L:i<A)(Q:i<a)(w:XF)(P:p<w.heap.size)(J:o<w.heap.size)(F:Row w q [qZ p C A c1,qZ o D a c2])(G:Row w E (wn z))(H:w.rangeAt p (C+4*i) (wn x))(M:w.rangeAt o (D+4*i) (wn y)):
 cZ 141 #[iZ i,jZ q,jZ E] w (rZ w λe w'=>e=nv (sPl N x (sTi N y z))):=by
 obtain⟨k,v⟩:=hE (w.heap.size);obtain⟨V,c⟩:=hE (lZ w (RG.z 4) 44);have j:=aM v c;have u:=gW O y z K I;have B:sTi N y z<N:=Zi _ O.pos;have t:=mP O x (sTi N y z) hx B;generalize sTi N y z=s at u t⊢;generalize sPl N x s=r at t⊢;obtain⟨U,l⟩:=hE (nv x);obtain⟨Z,d⟩:=hE (nv y);obtain⟨T,g⟩:=hE (nv z);obtain⟨vs,m⟩:=hE (nv s);obtain⟨vr,n⟩:=hE (nv r);rw[d.out,g.out,m.out]at u;rw[l.out,m.out,n.out]at t;go_enter func141,ntmps141;go_wp2_with (first|(refine alR 4 v c ?_)|fail)
 refine AW.begin 13 13 ?_;refine AW.va 0 (jZ q) ?_;refine AW.ce 1 uSl (λW b=>((F.below j.1).below b).2.1 0 _ rfl) ?_;refine AW.mv 2 ?_;refine AW.iv 3 (mF L) ?_;refine AW.ro 4 (λW b=>row_of j.1 P H b) l rSc nSc ?_;refine AW.va 5 (oZ q 1) ?_;refine AW.ce 6 uSl (λW b=>((F.below j.1).below b).2.1 1 _ rfl) ?_;refine AW.mv 7 ?_;refine AW.iv 8 (mF Q) ?_;refine AW.ro 9 (λW b=>row_of j.1 J M b) d rSc nSc ?_;refine AW.ro 10 (λW b=>((G.below j.1).below b).2.1) g rSc nSc ?_;refine AW.gi 11 (λ_=>u _) λY _=>?_
 refine AW.gi 12 (λ_=>t _) λS _=>?_
 refine AW.fi (us:=wn r) n aI i40 (λb=>?_);obtain⟨X,f⟩:=hE (S.setCells k 0 (wn r));have R:=tO v c b f;rw[f.out];refine⟨R.1,?_⟩;go_wp2_with fail
 refine XR (aF 4 rfl R.2.2 rfl u40 i40) rfl ?_;exact⟨_,rfl,R.2.1,rfl⟩
def UP(O:Ord N){Q:Nat->Prop}{n:Nat}(V:n<=64){a b:Nat->Nat}(R:∀i,i<n->a i<N)(S:∀i,i<n->b i<N){z:Nat}(H:z<N){v:XG}{w:XF}(h:Ln Q w v n a b):
 cZ 86 #[v,nv z] w (rZ w λe w'=>SLq (w.heap.size<=·) w' e n (λi=>sPl N (a i) (sTi N (b i) z))):=by
 obtain⟨x,y,rfl,hx,K⟩:=h.ex;obtain⟨r,B,c1,rfl,-,-,I,G⟩:=hx;obtain⟨p,C,c2,rfl,-,-,L,M⟩:=K;obtain⟨k,q⟩:=hE (w.heap.size);obtain⟨t,l⟩:=hE (w.alloc (.cells [qZ r B n c1,qZ p C n c2].toArray 145));obtain⟨u,j⟩:=hE (t.heap.size);obtain⟨T,d⟩:=hE (lZ t (wn z) 44);have f:=aM q l;have g:=aM j d;have F:=mk3 (f.1.trans (g.1.mono f.1.size)) (f.2.below g.1) g.2;have HL:=mk1 (jL n oM 141 (cap:=#[jZ k,jZ u]) (λ_ _=>kR) (λi=>sPl N (a i) (sTi N (b i) z)) T λi W c m=>by
  have bb:=F.1.trans (m.mono F.1.size);have s:=bb.size;exact Sx O (a i) (b i) z (R i c) (S i c) H i k u r B n c1 p C n c2 c c W oM oM (F.2.1.below m) (F.2.2.below m) (RG.range_below (G i c) bb I) (RG.range_below (M i c) bb L))
 have J:=F.2.1.2.1 0 _ rfl;go_enter func86,ntmps86;go_wp2_with (first|(refine alR 2 q l ?_)|(refine alR 3 j d ?_)|fail)
 refine HL.mono ?_;rintro e U ⟨v,rfl,o,P⟩;have E:=mk2 (F.1.trans (o.mono F.1.size)) (P.mono λg D=>XN F.1.size D);go_wp2;go_ret;exact⟨_,rfl,E⟩
def UL(O:Ord N){Q:Nat->Prop}{n:Nat}(hn:n<=64){a b c d:Nat->Nat}(A:∀i,i<n->a i<N/\b i<N/\c i<N/\d i<N){v u:XG}{w:XF}(h:Ln Q w v n a b)(h':Ln Q w u n c d):
 cZ 84 #[v,u] w (rZ w λe w'=>e=.tuple #[nv (sPl N (prS N a d n) (prS N b c n)),nv (prS N b d n)]):=by
 obtain⟨x,y,rfl,hx,U⟩:=h.ex;obtain⟨-,g1,o1,c1,rfl⟩:=cB hx;obtain⟨-,g2,o2,c2,rfl⟩:=cB U;obtain⟨x',y',rfl,K,o⟩:=h'.ex;obtain⟨-,g3,o3,c3,rfl⟩:=cB K;obtain⟨-,g4,o4,c4,rfl⟩:=cB o;obtain⟨k,hk⟩:=hE (w.heap.size);obtain⟨w1,r⟩:=hE (w.alloc (.cells [qZ g1 o1 n c1,qZ g2 o2 n c2].toArray 145));obtain⟨X,t⟩:=hE (w1.heap.size);obtain⟨w2,z⟩:=hE (w1.alloc (.cells [qZ g3 o3 n c3,qZ g4 o4 n c4].toArray 145));obtain⟨B,s⟩:=hE (w2.heap.size);obtain⟨w3,D⟩:=hE (lZ w2 (RG.z 4) 44);obtain⟨L,m⟩:=hE (w3.heap.size);obtain⟨w4,E⟩:=hE (lZ w3 (RG.z 4) 44);have f:=Pp hk r t z s D;have g:=aM m E;have F:=mk5 (f.1.trans (g.1.mono f.1.size)) (f.2.1.below g.1) (f.2.2.1.below g.1) (f.2.2.2.below g.1) g.2;have h0:w.heap.size<=B/\B<L:=⟨s.out▸XN (aM hk r).1.size (aM t z).1.size,m.out▸f.2.2.2.1⟩
 have Y:Hid (∀ {p q:Nat->Nat}{x y:XG},(∀i,i<n->p i<N/\q i<N)->SLq Q w x n p->SLq Q w y n q->∀W,kZ w4 W->cZ 87 #[x,y] W (rZ W λe w'=>e=nv (prS N p q n))):=λ{p q x y} hp h1 h2 W j=>by
  have b:=F.1.trans (j.mono F.1.size);exact Cc O (Q:=Q) n oM p q (λi l=>(hp i l).1) (λi l=>(hp i l).2) x y W (h1.keep (Kq.of_below b)) (h2.keep (Kq.of_below b))
 have V:=Y (λi l=>⟨(A i l).1,(A i l).2.2.2⟩) hx o;have C2:=Y (λi l=>⟨(A i l).2.1,(A i l).2.2.1⟩) U K;have Z:=Y (λi l=>⟨(A i l).2.1,(A i l).2.2.2⟩) U o;have I:=mP O _ _ (BH O.pos n) (BH O.pos n);generalize prS N a d n=p1 at V I⊢;generalize prS N b c n=p2 at C2 I⊢;generalize prS N b d n=T at Z⊢;generalize sPl N p1 p2=J at I⊢;obtain⟨v1,M⟩:=hE (nv p1);obtain⟨v2,S⟩:=hE (nv p2);obtain⟨v3,P⟩:=hE (nv T);obtain⟨v4,H⟩:=hE (nv J);rw[M.out]at V;rw[S.out]at C2;rw[P.out]at Z;rw[M.out,S.out,H.out]at I;go_enter func84,ntmps84;go_wp2_with (first|(refine alR 2 hk r ?_)|(refine alR 3 t z ?_)|(refine alR 4 s D ?_)|(refine alR 5 m E ?_)|fail)
 refine AW.begin 16 15 ?_;refine AW.va 0 (jZ k) ?_;refine AW.ce 1 uSl (λW j=>(F.2.1.below j).2.1 0 _ rfl) ?_;refine AW.va 2 (oZ X 1) ?_;refine AW.ce 3 uSl (λW j=>(F.2.2.1.below j).2.1 1 _ rfl) ?_;refine AW.va 5 (oZ k 1) ?_;refine AW.ce 6 uSl (λW j=>(F.2.1.below j).2.1 1 _ rfl) ?_;refine AW.va 7 (jZ X) ?_;refine AW.ce 8 uSl (λW j=>(F.2.2.1.below j).2.1 0 _ rfl) ?_;refine AW.va 11 (oZ k 1) ?_;refine AW.ce 12 uSl (λW j=>(F.2.1.below j).2.1 1 _ rfl) ?_;refine AW.va 13 (oZ X 1) ?_;refine AW.ce 14 uSl (λW j=>(F.2.2.1.below j).2.1 1 _ rfl) ?_;refine AW.gi 4 (λj=>V _ j) λW1 _=>?_
 refine AW.gi 9 (λj=>C2 _ j) λW2 _=>?_
 refine AW.gi 10 (λ_=>I _) λW3 _=>?_
 refine AW.gi 15 (λj=>Z _ j) λW4 _=>?_
 refine AW.f2 (us:=wn J) (us':=wn T) H P aI i40 aI i40 (λj=>?_);obtain⟨W5,C⟩:=hE (W4.setCells B 0 (wn J));obtain⟨W6,G⟩:=hE (W5.setCells L 0 (wn T));have R:Hid (W4.there B 0 4/\W5.there L 0 4/\Row W6 B (wn J)/\Row W6 L (wn T)/\kZ w W6):=by
  have r4:=F.2.2.2.1.below j;have r5:Row (W4.setCells B 0 (wn J)) L _:=aP (F.2.2.2.2.below j) oM;rw[<-G.out,<-C.out];exact⟨r4.2.2,r5.2.2,aP (r4.put rfl) oM,r5.put rfl,RG.below_setCells oM _ _ _ (RG.below_setCells oM _ _ _ (F.1.trans (j.mono F.1.size)))⟩
 rw[C.out,G.out];refine⟨R.1,R.2.1,?_⟩;go_wp2_with fail
 refine XR (qX 4 5 rfl R.2.2.1 R.2.2.2.1 rfl rfl u40 i40 u40 i40) rfl ?_;exact⟨_,rfl,R.2.2.2.2,rfl⟩
def RN(O:Ord N)(p x:Nat)(P:p<N)(hx:x<N)(i:Int)(c m:Nat)(H:m≠c)(w:XF)(A:Row w c (wn p))(K:Row w m (wn x)):
 cZ 140 #[iZ i,jZ c,jZ m] w (Ret λe w'=>Kz (·≠c) w w'/\(Row w' c (wn (sTi N p x))/\Row w' m (wn x))/\e=nv p):=by
 have F:=gW O p x P hx;generalize sTi N p x=q at F⊢;obtain⟨S,k⟩:=hE (nv p);obtain⟨T,u⟩:=hE (nv x);obtain⟨Y,a⟩:=hE (nv q);rw[k.out,u.out,a.out]at F;obtain⟨v,g⟩:=hE (w.heap.size);obtain⟨L,z⟩:=hE (lZ w (RG.z 4) 44);obtain⟨B,f⟩:=hE (L.heap.size);obtain⟨M,o⟩:=hE (lZ L (RG.z 4) 44);obtain⟨n,r⟩:=hE (M.setCells B 0 (wn p));have s:=aM g z;have D:=aM f o;have C:=s.1.trans (D.1.mono s.1.size);have U:=A.1;have W:=K.1;have X:=s.2.1;have Z:=g;have V:=f;have d:Hid (kZ w n/\Row n c (wn p)/\Row n m (wn x)/\Row n v (RG.z 4)/\Row n B (wn p)/\M.there B 0 4):=by
  rw[<-r.out];exact⟨RG.below_setCells oM _ _ _ C,aP (A.below C) oM,aP (K.below C) oM,aP (s.2.below D.1) oM,D.2.put rfl,D.2.2.2⟩
 have Q:=mk1 (A.below C);go_enter func140,ntmps140;go_wp2_with (first|(refine alR 4 g z ?_)|(refine ldR 1 (A.below s.1).2.1 k u40 i40 ?_)|(refine alR 5 f o ?_)|(refine stR 5 r k d.2.2.2.2.2 i40 aI ?_)|(refine ldR 1 d.2.1.2.1 k u40 i40 ?_)|(refine ldR 2 d.2.2.1.2.1 u u40 i40 ?_)|fail)
 apply(F n).mono;rintro e G ⟨R,rfl,b,rfl⟩;obtain⟨I,t⟩:=hE (G.setCells c 0 (wn q));obtain⟨E,y⟩:=hE (I.setCells v 0 (wn p));have l:=mk5 (d.1.trans (b.mono d.1.size)) (d.2.1.below b) (d.2.2.1.below b) (d.2.2.2.1.below b) (d.2.2.2.2.1.below b);have j:Hid (G.there c 0 4/\Row I B (wn p)/\I.there v 0 4/\Kz (·≠c) w E/\Row E c (wn q)/\Row E m (wn x)/\Row E v (wn p)):=by
  have J:Row (G.setCells c 0 (wn q)) v _:=aP l.2.2.2.1 oM;rw[<-y.out,<-t.out];exact⟨l.2.1.2.2,aP l.2.2.2.2 oM,J.2.2,((Kz.of l.1).set (Yd (by simp))).set (Yk oM),aP (l.2.1.put rfl) oM,aP (aP l.2.2.1 H) oM,J.put rfl⟩
 go_wp2_with (first|(refine stR 1 t a j.1 i40 aI ?_)|(refine ldR 5 j.2.1.2.1 k u40 i40 ?_)|(refine stR 4 y k j.2.2.1 i40 aI ?_)|fail)
 refine XR (aF 4 rfl j.2.2.2.2.2.2 rfl u40 i40) rfl ?_;exact⟨_,rfl,j.2.2.2.1,⟨j.2.2.2.2.1,j.2.2.2.2.2.1⟩,rfl⟩
def pwN(N x:Nat):Nat->Nat
 | 0=>1
 | i+1=>sTi N (pwN N x i) x
def yJ{x:Nat}(O:Ord N):∀i,pwN N x i<N
 | 0=>by show 1<N;have:=O.n2;omega
 | _+1=>Zi _ O.pos
def Gi[NeZero N](k:1<N)(x:Fin N):∀i,(pwF x i).val=pwN N x.val i
 | 0=>Ya k
 | i+1=>by
  show(pwF x i*x).val=_;rw[eW,Gi k x i];rfl
def Kz.bw{Z:Nat->Prop}{w d c:XF}(h:kZ w d)(k:Kz Z d c)(e:∀g,g<w.heap.size->Z g):kZ w c:=⟨k.os.trans h.os,k.tape.trans h.tape,k.output.trans h.output,XN h.size k.size,λg b=>(k.block g (XI b h.size) (e g b)).trans (h.block g b)⟩
def Gn(O:Ord N)(x:Nat)(hx:x<N)(n:Nat)(P:n<=512)(w:XF):
 cZ 83 #[nv x,iZ n] w (rZ w λe w'=>SLq (w.heap.size<=·) w' e n (pwN N x)/\∃g c,e=sZ g n c):=by
 obtain⟨C,s⟩:=hE (nv x);obtain⟨v1,m⟩:=hE (nv 1);have M:Hid (Gives 15 #[uZ 1] v1):=m.out▸Ky;obtain⟨f,k⟩:=hE (w.heap.size);obtain⟨A,t⟩:=hE (lZ w (wn x) 44);have a:Hid ((Yu 44 C).run prog w=.ok (jZ f) A):=s.out▸t.out▸k.out▸boxS;have B:=aM k t;rw[s.out];go_enter func83,ntmps83;go_wp2_with (first|(refine aG (u:=C) (v:=jZ f) (w':=A) rfl _ (.tmp 0) rfl ?_ ?_ ?_;rfl;exact a)|fail)
 apply(M A).mono;rintro e G ⟨S,rfl,j,rfl⟩;obtain⟨l,b⟩:=hE (G.heap.size);obtain⟨R,p⟩:=hE (lZ G (RG.z 4) 44);obtain⟨H,q⟩:=hE (R.setCells l 0 (wn 1));have y:=GB b p q rfl;have E:=B.2.below j;have r:=E.1;rw[b.out]at r;have D:=B.1.trans (j.mono B.1.size);have d:=mk4 (D.trans (y.2.1.mono D.size)) (E.below y.2.1) y.2.2 r;have s4:=d.2.2.1.1;have HL:=mk1 (AY n P 140 #[jZ l,jZ f] (λ_ _=>kR) (pwN N x) (·≠l) (λi W=>Row W l (wn (pwN N x i))/\Row W f (wn x)) H (λg z=>oM) (λW F=>⟨d.2.2.1.below F,d.2.1.below F⟩) (λi W K o vs T h=>⟨aP h.1 oM,aP h.2 oM⟩) λi W V _ h=>RN O _ x (yJ O i) hx _ l f oM W h.1 h.2);go_wp2_with (first|(refine alR 5 b p ?_)|(refine stR 5 q m y.1 i40 aI ?_)|fail)
 refine HL.mono ?_;rintro e X ⟨v,rfl,I,-,L,Q⟩;have U:=k;have J:=mk3 (Kz.bw d.1 I λg z=>oN d.2.2.2) (L.mono λg z=>XN d.1.size z) Q;go_wp2;go_ret;exact⟨_,rfl,J⟩
def PX{x n:Nat}{w:XF}(O:Ord N)(hx:x<N)(b:n<=512):
 cZ 83 #[nv x,iZ n] w (rZ w λe w'=>SLq (w.heap.size<=·) w' e n (pwN N x)):=
 (Gn O x hx n b w).mono λ_ _ ⟨v,h,k,c,_⟩=>⟨v,h,k,c⟩
def uLs:wZ 148:=wQ
def uSm:wZ 82:=wQ
def QS(O:Ord N)(l:LB)(u:TOk N l)(d:l.length<=512)(z:Nat)(A:z<N)(i q s b m o c1 j r n c2:Nat)(v0 v2 x:XG)(E:i<o)(I:i<n)(w:XF)(G:b<w.heap.size)(B:j<w.heap.size)(v:Row w q [v0,qZ b m o c1,v2])(y:Row w s [qZ j r n c2])(a:w.cell? ⟨b,m+1*i,none⟩=some x)(hx:Sm 0 w x l)(F:w.rangeAt j (r+4*i) (wn z)):
 cZ 148 #[iZ i,jZ q,jZ s] w (rZ w λe w'=>Sm w.heap.size w' e (l.map (tmT N z))):=by
 obtain⟨M,f⟩:=hE (nv z);have t:=mk1 (λ(W:XF) (k:kZ w W)=>eH O A 0 x l d u.szm u.lt W (hx.grow k));rw[f.out]at t;obtain⟨D,C⟩:x.oneCell'=true/\∃g c,x=sZ g l.length c:=by
  obtain⟨g,c,rfl,-⟩:=hx;exact⟨rfl,_,_,rfl⟩
 go_enter func148,ntmps148;go_wp2_with fail
 refine AW.begin 10 10 ?_;refine AW.va 0 (oZ q 1) ?_;refine AW.ce 1 uLs (λW k=>(v.below k).2.1 1 _ rfl) ?_;refine AW.mv 2 ?_;refine AW.iv 3 (atS b m c1 E) ?_;refine AW.ce 4 uSm (λW k=>by rw[k.cell (p:=⟨b,m+1*i,none⟩) G];exact a) ?_;refine AW.ce 5 uSl (λW k=>(y.below k).2.1 0 _ rfl) ?_;refine AW.mv 6 ?_;refine AW.iv 7 (mF I) ?_;refine AW.ro 8 (λW k=>RG.range_below F k B) f rSc nSc ?_;refine AW.ca 9 (λk=>t _ k) (λe w' h=>h.1) ?_;rintro e J ⟨L,H⟩;refine AW.nx 10 e ?_;refine AW.dn λk=>?_
 have K:=mk2 k (show Sm w.heap.size J e _ from H);go_wp2;go_ret;exact⟨_,rfl,K⟩
def Rh(O:Ord N)(z q y t:Nat)(T:z<N)(Z:q<N)(V:y<N)(ht:t<N)(i L H K M v D C c1 u G A c2:Nat)(X:i<C)(h2:i<A)(w:XF)(lg:v<w.heap.size)(U:u<w.heap.size)(P:Row w L (wn z))(Q:Row w H [qZ v D C c1])(R3:Row w K (wn q))(R4:Row w M [qZ u G A c2])(S:w.rangeAt v (D+4*i) (wn y))(Y:w.rangeAt u (G+4*i) (wn t)):
 cZ 138 #[iZ i,jZ L,jZ H,jZ K,jZ M] w (rZ w λe w'=>e=nv (sPl N (sTi N z y) (sTi N q t))):=by
 obtain⟨k,x⟩:=hE (w.heap.size);obtain⟨w1,d⟩:=hE (lZ w (RG.z 4) 44);have f:=aM x d;have E:=gW O z y T V;have B:=gW O q t Z ht;have I:sTi N z y<N:=Zi _ O.pos;have J:sTi N q t<N:=Zi _ O.pos;generalize sTi N z y=a at E I⊢;generalize sTi N q t=b at B J⊢;have F:=mP O a b I J;generalize sPl N a b=r at F⊢;obtain⟨vz,o⟩:=hE (nv z);obtain⟨vq,p⟩:=hE (nv q);obtain⟨vy,j⟩:=hE (nv y);obtain⟨vt,n⟩:=hE (nv t);obtain⟨va,g⟩:=hE (nv a);obtain⟨vb,l⟩:=hE (nv b);obtain⟨vr,s⟩:=hE (nv r);rw[o.out,j.out,g.out]at E;rw[p.out,n.out,l.out]at B;rw[g.out,l.out,s.out]at F;go_enter func138,ntmps138;go_wp2_with (first|(refine alR 6 x d ?_)|fail)
 refine AW.begin 13 13 ?_;refine AW.ro 0 (λW c=>((P.below f.1).below c).2.1) o rSc nSc ?_;refine AW.ce 1 uSl (λW c=>((Q.below f.1).below c).2.1 0 _ rfl) ?_;refine AW.mv 2 ?_;refine AW.iv 3 (mF X) ?_;refine AW.ro 4 (λW c=>row_of f.1 lg S c) j rSc nSc ?_;refine AW.ro 6 (λW c=>((R3.below f.1).below c).2.1) p rSc nSc ?_;refine AW.ce 7 uSl (λW c=>((R4.below f.1).below c).2.1 0 _ rfl) ?_;refine AW.mv 8 ?_;refine AW.iv 9 (mF h2) ?_;refine AW.ro 10 (λW c=>row_of f.1 U Y c) n rSc nSc ?_;refine AW.gi 5 (λ_=>E _) λW2 _=>?_
 refine AW.gi 11 (λ_=>B _) λW3 _=>?_
 refine AW.gi 12 (λ_=>F _) λW4 _=>?_
 refine AW.fi (us:=wn r) s aI i40 (λc=>?_);obtain⟨W5,m⟩:=hE (W4.setCells k 0 (wn r));have R:=tO x d c m;rw[m.out];refine⟨R.1,?_⟩;go_wp2_with fail
 refine XR (aF 6 rfl R.2.2 rfl u40 i40) rfl ?_;exact⟨_,rfl,R.2.1,rfl⟩
end
namespace RG
variable {P:YO}{ops:Array Yw}{Q:yAN->Act->XF->Prop}{w:XF}{a0:Act}{L:Array Bool}{F:Flow}{m:Nat}
def Fr(a k:Act)(d:Option ZC):Prop:=∃v,k.tmps=(a.put d v).tmps
def Nq{o:Yw}{a:Act}{K:Act->XF->Prop}:∀ {r:Result Next},o.upon P a K Q r->o.upon P a (λb w'=>K b w'/\Fr a b o.dst) Q r
 | .ok (.value v) _,h=>⟨h,v,rfl⟩
 | .ok .skip _,h=>⟨h,ZB,rfl⟩
 | .ok (.defer d) _,h=>⟨h,ZB,by cases o.dst<;>rfl⟩
 | .ok (.enter f args) _,h=>Calls.mono h λe w' k=>by
  cases e with
  | returned v=>exact⟨k,v,rfl⟩
  | panicked c=>exact k
  | outgrown=>exact k
 | .ok (.row row args) _,h=>Rows.mono h λv w' k=>⟨k,v,rfl⟩
 | .halt (.panic v) _,h=>h
 | .halt (.exit _) _,h=>h.elim
def Nj{i:Nat}{o:Yw}{a:Act}{K:Act->XF->Prop}(ho:ops[i]? = some o)(h:wpOp P ops Q i K a w):wpOp P ops Q i (λk w'=>K k w'/\Fr a k o.dst) a w:=by
 unfold wpOp at *;rw[ho]at h⊢;dsimp only at h⊢;split
 .rename_i hw
  rw[yE3 hw]at h;rcases h with h|h
  .exact Yk (Nq h)
  .exact Yd h
 .rename_i hw
  rw[yE4 hw]at h;exact⟨h,ZB,rfl⟩
def Jm{i:Nat}{o:Yw}{a:Act}{K:Act->XF->Prop}{v:XG}{e:XF}(ho:ops[i]? = some o)(b:o.guard=none)(d:(Ym a.eval o).run P w=.ok (.value v) e)(h:wpOp P ops Q i K a w):wpOp P ops Q i (λk w'=>K k w'/\k=a.put o.dst v) a w:=by
 unfold wpOp at *;rw[ho]at h⊢;dsimp only at h⊢;have c:Zd o (yielded ops a.tmps)=true:=by
  unfold Zd;rw[b]
 rw[yE3 c]at h⊢;rcases h with h|h
 .unfold Y8 at h⊢;rw[d]at h⊢;exact Yk ⟨h,rfl⟩
 .exact Yd h
def sH(k:Array Yw)(i:Nat):Bool:=match k[i]? with
 | some o=>match o.op with | .alloc _=>true|_=>false
 | none=>false
def Sep(k:Array Yw)(L:Array Bool)(a:Act):Prop:=∀i j di dj,on L i=true->on L j=true->i≠j->sH k i=true->sH k j=true->aV k i=some di->aV k j=some dj->a.tmps[di]?≠a.tmps[dj]?
def Als(P:YO)(F:Flow)(b:Array Yw)(n:Nat):Prop:=∀i o,i<n->b[i]? = some o->sH b i=true->o.guard=none/\F.kill i=[]/\(∀(a:Act) w,∃c,(Ym a.eval o).run P w=.ok (.value (jZ w.heap.size)) c)/\∀v w,F.R i v w->∃k,v=jZ k/\k<w.heap.size
def kN{a:Act}{d e:ZC}{v:XG}(h:d≠e):(a.put (some d) v).tmps[e]? = a.tmps[e]?:=by
 unfold Yo;dsimp only;rw[ZF,yE4 h]
def stepS{k:Nat}{o:Yw}{a:Act}(R:RegF P Q F ops a0 m)(W:Als P F ops m)(E:k<m)(G:∀i,on L i=true->i<m)(ho:ops[k]? = some o)(S:on L k=false)(D:∀e∈o.after,Y3 .any e=true->on L e.on=true)(h:InvF F ops a0 L a w)(X:Sep ops L a):
 wpOp P ops Q k (λI w'=>InvF F ops a0 (L.setIfInBounds k true) I w'/\Sep ops (L.setIfInBounds k true) I) a w:=by
 have U:=F6 R E G ho S D h;have N:=(X9.1 ho).1;have M:k<L.size:=by rw[h.size];exact N
 have C:=fJ ho;have c:∀i,on (L.setIfInBounds k true) i=true->i≠k->on L i=true:=λi g A=>by
  rw[eE M]at g;rcases yAc _ _ ▸ g with g|g
  .exact g
  .exact absurd (by simpa using g:k=i).symm A
 have d:∀i di r,i≠k->aV ops i=some di->o.dst=some r->r≠di:=λi di r A g hk e=>by
  subst e;exact A ((R.of ho).2 r hk |>.2 i g)
 cases B:sH ops k with
 | false =>
  refine yCj (λI w' hh=>⟨hh.1,λi j di dj g J f n u b l=>?_⟩) (Nj ho U);have s:i≠k:=by rintro rfl;rw[B]at n;cases n
  have t:j≠k:=by rintro rfl;rw[B]at u;cases u
  have p:=X i j di dj (c i g s) (c j J t) f n u b l;obtain⟨v,hv⟩:=hh.2;rw[hv];cases hd:o.dst with
  | none=>exact p
  | some r=>rw[kN (d i di r s b hd),kN (d j dj r t l hd)];exact p
 | true =>
  obtain⟨Y,-,H,-⟩:=W k o E ho B;obtain⟨w1,hr⟩:=H a w;obtain⟨V,O,K⟩:=h.all;have y:∀i di,i≠k->on L i=true->sH ops i=true->aV ops i=some di->a.tmps[di]?≠some (jZ w.heap.size):=λi di s g n b e=>by
   have T:i<ops.size:=by rw[<-h.size];exact AU g
   obtain⟨-,z,-,hb⟩:=W i _ (G i g) (Ye T) n;obtain⟨q,hq,Z⟩:=hb (V i) w (K i g λx hx=>by rw[z]at hx;cases hx);rw[O i di g b,hq]at e;injection e with e
   injection e with e
   injection e with e
   injection e with e
   omega
  refine yCj (λI w' hh=>⟨hh.1,λi j di dj g J f n u b l=>?_⟩) (Jm ho Y hr U);rw[hh.2];have z:∀r,o.dst=some r->(a.put o.dst (jZ w.heap.size)).tmps[r]? = some (jZ w.heap.size):=λr hd=>by
   rw[hd];unfold Yo;dsimp only;rw[ZF,yE3 rfl,yE3 (by rw[h.sz];exact((R.of ho).2 r hd).1)]
  by_cases s:i=k
  .subst s;have hd:o.dst=some di:=by rw[<-C];exact b
   rw[z di hd,hd,kN (d j dj di (yA7 f) l hd)];exact(y j dj (yA7 f) (c j J (yA7 f)) u l).symm
  .by_cases t:j=k
   .subst t;have hd:o.dst=some dj:=by rw[<-C];exact l
    rw[z dj hd,hd,kN (d i di dj f b hd)];exact y i di f (c i g f) n b
   .have p:=X i j di dj (c i g s) (c j J t) f n u b l;cases hd:o.dst with
    | none=>exact p
    | some r=>rw[kN (d i di r s b hd),kN (d j dj r t l hd)];exact p
structure Al1(P:YO)(G:Gw)(ops:Array Yw)(i:Nat):Prop where
 o:∃o,ops[i]? = some o/\o.guard=none/\(∀(a:Act) w,∃w1,(Ym a.eval o).run P w=.ok (.value (jZ w.heap.size)) w1)
 r:∀v w,G.R i v w->∃k,v=jZ k/\k<w.heap.size
def AlL(P:YO)(G:Gw)(k:Array Yw):List Nat->Prop
 | []=>True
 | i :: r=>Al1 P G k i/\AlL P G k r
def AlL.of{G:Gw}{i:Nat}:∀ {l:List Nat},AlL P G ops l->l.contains i=true->Al1 P G ops i
 | [],_,h=>by cases h
 | x :: r,hl,h=>by
  rw[List.contains_cons,yAc]at h;rcases h with h|h
  .rw[show i=x by simpa using h];exact hl.1
  .exact hl.2.of h
def FG{l:List Nat}{G:Gw}{n:Nat}(h:AlL P G ops l)(j:(YB n).all (λi=>!sH ops i || l.contains i)=true:=by kernel_rfl):Als P G.flow ops n:=λi o c ho d=>by
 have k:=List.all_eq_true.1 j i (List.mem_range.2 c);rw[d,Bool.not_true,Bool.false_or]at k;obtain⟨⟨f,g,e,b⟩,m⟩:=h.of k;obtain rfl:o=f:=X5.inj (ho.symm.trans g);exact⟨e,rfl,b,m⟩
def al1{G:Gw}{i:Nat}(cs:List XG)(T:Yj)(e:∀v w,G.R i v w->∃k,v=jZ k/\k<w.heap.size)(ho:(ops[i]?.map (·.guard))=some none:=by kernel_rfl)(c:∀o,ops[i]? = some o->∀W,(cN [] o,(Ym (evo (evl [])) o).run P W)=(true,.ok (.value (jZ W.heap.size)) (W.alloc (.cells cs.toArray T))):=by(intro _ h _;cases h;kernel_rfl)):Al1 P G ops i:=by
 refine⟨?_,e⟩;cases h:ops[i]? with
 | none=>rw[h]at ho;cases ho
 | some o =>
  rw[h]at ho;refine⟨o,rfl,X5.inj ho,λa w=>?_⟩;have b:=c o h w;simp only[Zl.injEq]at b;exact⟨_,by rw[jG (a:=a) (evl []) [] b.1 (λt d=>by cases d)];exact b.2⟩
def Gw.tail3{id:Nat}(G:Gw)(n:Nat)(B:Als P G.flow ops n)(q:(decide (n<ops.size) && nD ops n)=true)(y:P.follows .mixedOrders=true)(t:Cd ops a0.tmps.size=true)(h:jB P Q G.flow ops a0 0 (ops.toList.take n))(x:G.B w.drew)
 (v:∀(V:Nat->XG) (w':XF),(∀i,i<n->G.R i (V i) w')->G.B w'->(∀i j,i<n->j<n->i≠j->sH ops i=true->sH ops j=true->(aV ops i).isSome=true->(aV ops j).isSome=true->V i≠V j)->wpList P ops Q (ops.toList.drop n) (bY V (ops.toList.take n) 0 a0) w'):(Zg id ops true).wp P Q a0 w:=by
 rw[XZ,decide_eq_true_eq]at q;refine zG G.flow (Sep ops) q.1 q.2 y (Gw.reg t h) (λ_=>x) (λL h i j di dj d=>by rw[h]at d;cases d) (λk o L a w m s l E z D A=>stepS (Gw.reg t h) B m s l E z D A) λV w' m s l=>v V w' (λi d=>m i d rfl) (s 0 rfl) λi j d u g p r c b e=>?_
 obtain⟨L,a,C,f⟩:=l;obtain⟨di,c⟩:=YP.1 c;obtain⟨dj,b⟩:=YP.1 b;refine C i j di dj (f i d).1 (f j u).1 g p r c b ?_;rw[(f i d).2 di c,(f j u).2 dj b,e]
end RG
section
variable {N:Nat}
def SLq.from{B:Nat}{W W':XF}{x:XG}{n:Nat}{a:Nat->Nat}(h:B<=W.heap.size)(b:SLq (W.heap.size<=·) W' x n a):SLq (B<=·) W' x n a:=b.mono λg k=>XN h k
def pZ(B n:Nat)(a:Nat->Nat):S1:=⟨λv w=>SLq (B<=·) w v n a/\∃g c,v=sZ g n c,λ_ _ _ k h=>⟨h.1.keep (Kq.of_below k),h.2⟩⟩
def xZ{Q:Nat->Prop}{W:XF}{g k n c:Nat}{a:Nat->Nat}{u:XG}{r:List XG}(h:SLq Q W (sZ g n c) n a)(f:0<n)(R:Row W k (u :: r))(j:u≠uZ ((a 0%18446744073709551616:Nat):Int)):g≠k:=by
 rintro rfl;obtain⟨l,o,m,e,-,-,-,i⟩:=h;injection e with e
 injection e with e
 injection e with e1 e2
 subst e1 e2;have b:=i 0 f 0 _ rfl;have d:=R.2.1 0 u rfl;rw[d]at b;exact j (X5.inj b)
def qS{B g k n c:Nat}{W:XF}{a:Nat->Nat}{vs:List XG}(h:SLq (B<=·) W (sZ g n c) n a)(b:g≠k):SLq (B<=·) (W.setCells k 0 vs) (sZ g n c) n a:=by
 obtain⟨q,i,d,e,l,m,f,o⟩:=h;have e':=e;injection e with e
 injection e with e
 injection e with e1 e2
 subst e1;exact⟨g,i,d,e',l,m,by rw[setCells_size];exact f,λj p=>Yr (o j p) k 0 vs (Yk b)⟩
section
variable {P:YO}{ops:Array Yw}{rest:List Yw}{op:Yw}{a:Act}{w w':XF}{Q:yAN->Act->XF->Prop}{T:Yj}{y:yAp}{g o:Nat}{u:XG}
def ND(t:ZC)(c:Hid (w.setCells g o [u]=w'))(th:w.there g o 1)(f:(P.info? T).map (·.size)=some 1)(hv:u.cells=#[u])(j:u.oneCell'=true)(h:wpList P ops Q rest (a.put op.dst ZB) w')(k:op.guard=none:=by rfl)(ho:op.op=.store T (.tmp t) y:=by rfl)(hx:a.eval (.tmp t)=oZ g o:=by rfl)(i:a.eval y=u:=by rfl):wpList P ops Q (op :: rest) a w:=
 ZT k λK d=>by
  have b:=yCk (P:=P) w g o T #[u] th f (by simp[j]);have e:storeVar T ⟨g,o,none⟩ u=storeVar T ⟨g,o,none⟩ (.agg #[u]):=by
   unfold storeVar;rw[hv];rfl
  rw[show(#[u]:Array XG).toList=[u] from rfl,c.out]at b;unfold Y8 Ym;simp only[ho,hx,i,yBk,yAP,X6,Zu,YE,e,b];exact d _ _ h
def inR{I:Sem XG}{v:XG}(t:ZC)(d:I.run P w=.ok v w')(h:wpList P ops Q rest (a.put op.dst v) w')(hd:op.dst=some t:=by rfl)(k:op.guard=none:=by rfl)(b:Ym a.eval op=I >>= λv=>pure (ZW v):=by kernel_rfl):wpList P ops Q (op :: rest) a w:=
 ZT k λK c=>by
  unfold Y8;rw[b,X6,d];exact c _ _ h
end
def Vt{n:Nat}{w:XF}:(YF 143 1 #[(0,nv n)]).run prog w=.ok (sZ w.heap.size 1 1) (w.alloc (.cells (wn n).toArray 44)):=kR
def iSl:gZ 143 1:=gQ
def yM{B:Nat}{cs:List XG}(v:XG)(W:XF)(h:(RG.pN B cs).p v W):∃k,v=jZ k/\k<W.heap.size:=by
 obtain⟨k,b,-,c⟩:=h;exact⟨k,b,c.1⟩
def Uf(O:Ord N)(Z:2<N)(y z:Nat)(hy:y<N)(hz:z<N)(n:Nat)(hn:n<=512)(w:XF)(X:∀x g W,Row W g (wn x)->cZ 137 #[sZ g 1 1,iZ n] W (rZ W λe W'=>SLq (W.heap.size<=·) W' e n (λ_=>x))):
 cZ 80 #[nv y,nv z,iZ n] w (rZ w λe w'=>∃l r,e=.tuple #[l,r]/\SLq (w.heap.size<=·) w' l n (λ_=>sMi N 0 z)/\SLq (w.heap.size<=·) w' r n (λi=>sPl N (sTi N z (pwN N y i)) (sTi N (sTi N z z) (pwN N 2 i)))):=by
 obtain⟨vy,h5⟩:=hE (nv y);obtain⟨vz,E⟩:=hE (nv z);obtain⟨k3,hc⟩:=hE (w.heap.size);obtain⟨U,h6⟩:=hE (lZ w (wn y) 44);obtain⟨k4,h8⟩:=hE (U.heap.size);obtain⟨p,he⟩:=hE (lZ U (wn z) 44);have hl:Hid ((Yu 44 vy).run prog w=.ok (jZ k3) U):=h5.out▸h6.out▸hc.out▸boxS;have k1:Hid ((Yu 44 vz).run prog U=.ok (jZ k4) p):=E.out▸he.out▸h8.out▸boxS;have F1:=aM hc h6;have F2:=aM h8 he;have R3:=F1.2.below F2.1;have b2:=F1.1.trans (F2.1.mono F1.1.size);rw[h5.out,E.out];have K:=mk3 b2 R3 F2.2;go_enter func80,ntmps80;go_wp2_with (first|(refine aG (u:=vy) (v:=jZ k3) (w':=U) rfl _ (.tmp 0) rfl ?_ ?_ ?_;rfl;exact hl)|(refine aG (u:=vz) (v:=jZ k4) (w':=p) rfl _ (.tmp 1) rfl ?_ ?_ ?_;rfl;exact k1)|fail)
 obtain⟨b,hb⟩:=hE (p.heap.size);have a:∀ {W},kZ p W->b<=W.heap.size:=λh=>hb.out ▸ h.size
 refine(gwL [pE (nv y),pE (iZ n),pZ b n (pwN N y),pE (nv 2),pE (iZ n),pZ b n (pwN N 2),pE (nv z),pE (nv z),pE (nv (sTi N z z)),RG.pN b [nZ],RG.pN b [nZ],RG.pN b (RG.z 4)] (λW=>kZ p W) (λW W' hb h=>h.trans (hb.mono h.size))).tail3 12 (FG ⟨al1 [nZ] 143 yM,al1 [nZ] 143 yM,al1 (RG.z 4) 44 yM,yE5⟩) kR kR kR ⟨
  gLo 3 (λW c=>(K.2.1.below c).2.1) u40 i40,
  gO 2 (iZ n),
  eF 0 11 1 12 83 (λx y=>#[x,y]) (λx u W G J c=>by
   obtain rfl:x=nv y:=G;obtain rfl:u=iZ n:=J;exact(Gn O y hy n hn W).mono λe W' ⟨v,f,Z,k,d⟩=>⟨v,f,Z,k.from (a c),d⟩),
  Qj 15 #[uZ 2] (λW _=>rX 2 oM W),
  gO 2 (iZ n),
  eF 3 14 4 15 83 (λx y=>#[x,y]) (λx u W G J c=>by
   obtain rfl:x=nv 2:=G;obtain rfl:u=iZ n:=J;exact(Gn O 2 Z n hn W).mono λe W' ⟨v,f,Z,k,d⟩=>⟨v,f,Z,k.from (a c),d⟩),
  gLo 4 (λW c=>(K.2.2.below c).2.1) u40 i40,
  gLo 4 (λW c=>(K.2.2.below c).2.1) u40 i40,
  gC2 6 17 7 18 (λW=>gW O z z hz hz W),
  uG [nZ] 143 (λW W' h c=>⟨_,rfl,a c,h⟩),
  uG [nZ] 143 (λW W' h c=>⟨_,rfl,a c,h⟩),
  uG (RG.z 4) 44 (λW W' h c=>⟨_,rfl,a c,h⟩),yE5⟩ ⟨rfl,rfl,rfl,XH _,λ_ _=>rfl⟩ ?_
 intro V w3 hR c hD;obtain⟨S1,g1,c1,J⟩:=hR 2 dC;obtain⟨S2,g2,c2,e5⟩:=hR 5 dC;rw[J]at S1;rw[e5]at S2;have e8:=hR 8 dC;obtain⟨C,e9,l8,R8⟩:=hR 9 dC;obtain⟨B,L,l9,R9⟩:=hR 10 dC;obtain⟨k,P,kb,Q⟩:=hR 11 dC;have d1:=hD 9 10 dC dC dC kR kR kR kR;have d2:=hD 9 11 dC dC dC kR kR kR kR;have d3:=hD 10 11 dC dC dC kR kR kR kR;dsimp only[bY,YQ,Z4,Z5];simp only[Yo,XJ,XM,XO];rw[J,e5,e8,e9,L,P];rw[e9,L]at d1;rw[e9,P]at d2;rw[L,P]at d3;have n1:C≠B:=λe=>d1 (by rw[e])
 have n2:C≠k:=λe=>d2 (by rw[e])
 have n3:B≠k:=λe=>d3 (by rw[e])
 obtain⟨q,hq⟩:=hE (sTi N z z);obtain⟨k7,F⟩:=hE (nv q);rw[hq.out,F.out];obtain⟨H,A⟩:=hE (sZ g1 n c1);obtain⟨M,s⟩:=hE (sZ g2 n c2);have x1:0<n->(g1≠C/\g1≠B/\g1≠k)/\g2≠C/\g2≠B/\g2≠k:=λt=>⟨⟨xZ S1 t R8 (by simp),xZ S1 t R9 (by simp),xZ S1 t Q (by simp[pwN])⟩,xZ S2 t R8 (by simp),xZ S2 t R9 (by simp),xZ S2 t Q (by simp[pwN])⟩
 obtain⟨S,f⟩:=hE (w3.setCells C 0 [H]);obtain⟨T,j⟩:=hE (S.setCells B 0 [M]);obtain⟨R,hj⟩:=hE (T.setCells k 0 (wn q));have k6:=hb;have q8:Row S C [H]:=f.out▸R8.put rfl;have q9:Row S B [nZ]:=f.out▸R9.other (yA7 n1);have hp:Row S k (RG.z 4):=f.out▸Q.other (yA7 n2);have u8:Row T C [H]:=j.out▸q8.other n1;have u9:Row T B [M]:=j.out▸q9.put rfl;have u10:Row T k (RG.z 4):=j.out▸hp.other (yA7 n3);have HT:=mk3 R8.2.2 q9.2.2 u10.2.2;have HV:Hid ((H.cells=#[H]/\H.oneCell'=true)/\M.cells=#[M]/\M.oneCell'=true):=by rw[<-A.out,<-s.out];exact⟨⟨rfl,rfl⟩,rfl,rfl⟩
 have D:Hid (kZ p R/\Row R C [H]/\Row R B [M]/\Row R k (wn q)/\(0<n->SLq (b<=·) R H n (pwN N y)/\SLq (b<=·) R M n (pwN N 2))):=by
  have o:kZ p S:=f.out▸RG.below_setCells oM _ _ _ c;have d:kZ p T:=j.out▸RG.below_setCells oM _ _ _ o;rw[<-hj.out];refine⟨RG.below_setCells oM _ _ _ d,u8.other n2,u9.other n3,u10.put rfl,λt=>?_⟩;rw[<-j.out,<-f.out];obtain⟨⟨a1,a2,Y⟩,I,a5,a6⟩:=x1 t;rw[<-A.out,<-s.out];exact⟨qS (qS (qS S1 a1) a2) Y,qS (qS (qS S2 I) a5) a6⟩
 rw[A.out,s.out];refine ND (w:=w3) 8 f HT.1 iSl HV.1.1 HV.1.2 ?_;refine ND (w:=S) 9 j HT.2.1 iSl HV.2.1 HV.2.2 ?_;refine stR (w:=T) 10 hj F HT.2.2 i40 aI ?_;go_wp2_with (first|(refine ldR 4 (K.2.2.below D.1).2.1 E u40 i40 ?_)|fail)
 have HO:=mk1 (EG O hz R);rw[E.out]at HO;refine HO.mono ?_;rintro e w7 ⟨uu,rfl,Y,rfl⟩;obtain⟨m,hm⟩:=hE (sMi N 0 z);rw[hm.out];obtain⟨vo,hg⟩:=hE (nv m);obtain⟨h9,I⟩:=hE (w7.heap.size);obtain⟨w8,ha⟩:=hE (lZ w7 (wn m) 44);have hs:Hid ((YF 143 1 #[(0,vo)]).run prog w7=.ok (sZ h9 1 1) w8):=hg.out▸ha.out▸I.out▸Vt;have F8:=aM I ha;have b68:=mk1 (Y.trans (F8.1.mono Y.size));rw[hg.out];have HR:=mk1 (X m h9 w8 F8.2);go_wp2_with (first|(refine inR 22 hs ?_)|fail)
 refine HR.mono ?_;rintro e w9 ⟨lv,rfl,k2,k5⟩;have d:=b68.trans (k2.mono b68.size);have b9:=mk1 (K.1.trans ((D.1.trans (d.mono D.1.size)).mono K.1.size));have KZ:=mk6 ((K.2.2.below D.1).below d) (D.2.1.below d) (D.2.2.2.1.below d) (D.2.2.1.below d) (λ(t:0<n)=>Y0 ((D.2.2.2.2 t).1.keep (Kq.of_below d)) ((D.2.2.2.2 t).2.keep (Kq.of_below d))) b9;have lq:q<N:=hq.out▸Zi _ O.pos;have HL:=mk1 (jL n hn 138 (cap:=#[jZ k4,jZ C,jZ k,jZ B]) (λ_ _=>kR) (λi=>sPl N (sTi N z (pwN N y i)) (sTi N q (pwN N 2 i))) w9 λi W hi o=>by
  obtain⟨T1,T2⟩:=KZ.2.2.2.2.1 oM;rw[<-A.out]at T1;rw[<-s.out]at T2;have Ra:=(KZ.1.below o)
  have Rb:=(KZ.2.1.below o)
  have Rc:=(KZ.2.2.1.below o)
  have Rd:=(KZ.2.2.2.1.below o)
  rw[<-A.out]at Rb;rw[<-s.out]at Rd;obtain⟨hk,ht,hu,G,-,-,t1,f1⟩:=T1.keep (Kq.of_below o);obtain⟨hw,hr,k0,J,-,-,t2,f2⟩:=T2.keep (Kq.of_below o);rw[G]at Rb;rw[J]at Rd;exact Rh O z q (pwN N y i) (pwN N 2 i) hz lq (yJ O i) (yJ O i) i k4 C k B hk ht n hu hw hr n k0 hi hi W t1 t2 Ra Rb Rc Rd (f1 i hi) (f2 i hi))
 have hS:=mk1 (SLq.from (XN K.1.size (XN D.1.size b68.size)) k5);go_wp2_with fail
 refine HL.mono ?_;rintro e ka ⟨rv,rfl,G,h7⟩;have KE:=mk3 (b9.trans (G.mono b9.size)) (hS.keep (Kq.of_below G)) (SLq.from b9.size h7);go_wp2
 go_ret2
 rw[<-hm.out,<-hq.out]at KE;exact⟨_,rfl,KE.1,_,_,rfl,KE.2.1,KE.2.2⟩
end
section
variable {P:Nat}[NeZero P]{N:Nat}
def Em{w:XF}{u sT z k:Yj}{b o c l d g s n:Nat}{a:Y4}{cs:List XG}{P:YO}(C:P.underlying u=some (.slice k))(r:(P.info? k).map (·.size)=some s)(A:n=yAG d c)(B:cs.length=n*s)(e:∀j v,cs[j]? = some v->w.cell? (a.add j)=some v)(t:w.there b o cs.length)(x:∀v∈cs,v.oneCell'=true):
 (yAL #[u,sT] z #[qZ b o c l,.slice (some a) d g]).run P w=.ok (goInt n) (w.setCells b o cs):=by
 have f:=run_loadCells_list (P:=P) w a cs e;have m:=run_storeCells_cells (P:=P) b o cs 0 w (λj q=>by rw[yAi];exact(t j q).1) (λj q=>by rw[yAi];exact(t j q).2) x;rw[B]at f;cases p:P.info? k with
 | none=>simp[p]at r
 | some i =>
  have y:i.size=s:=by simpa[p]using r
  simp[yAL,run_underlying C,Builtin.lenOf,Builtin.firstCells,sizeOf,typeInfo,p,y,<-A,f,m]
def cw(x i:Nat):XG:=(wn x).getD (i%4) ZB
def S5{x i:Nat}:(cw x i).oneCell'=true:=by
 unfold cw;have:i%4=0\/i%4=1\/i%4=2\/i%4=3:=oM;rcases this with h|h|h|h<;>rw[h]<;>rfl
structure Rs(g m n x:Nat)(w:XF):Prop where
 lt:g<w.heap.size
 th:w.there g 0 (4*m)
 c:∀i,i<4*n->w.cell? ⟨g,i,none⟩=some (cw x i)
def Rs.copy{g m n k r sl sc dc x:Nat}{w:XF}(h:Rs g m n x w)(t:k=yAG sl (m-n))(z:n<=m)(e:∀i,i<4*k->w.cell? ⟨r,i,none⟩=some (cw x i)):
 ∃w',(∀l,(yAL #[143,143] l #[qZ g (n*4) (m-n) dc,sZ r sl sc]).run prog w=.ok (goInt k) w')/\Rs g m (n+k) x w'/\(∀B,B<=g->Below B w w'):=by
 have u:n+k<=m:=by have:yAG sl (m-n)<=m-n:=yCM _ _;omega
 obtain⟨cs,d⟩:∃cs,cs=(YB (4*k)).map (cw x):=⟨_,rfl⟩
 have q:cs.length=4*k:=by rw[d,X7,yAb]
 have c:∀j,j<4*k->cs[j]? = some (cw x j):=λj b=>by rw[d,YC,List.getElem?_range b];rfl
 have p:w.there g (n*4) cs.length:=λj b=>by
  have:=h.th (n*4+j) oM;rwa[XQ]at this
 refine⟨w.setCells g (n*4) cs,λl=>Em uS4 i40 t oM (λj v b=>?_) p (λv hv=>?_),⟨by rw[setCells_size];exact h.lt,Za h.th _ _ _,λi y=>?_⟩,λB s=>RG.below_setCells s _ _ _ (XX _ _)⟩
 .have f:j<4*k:=oN ((XT.1 b).1);rw[c j f]at b;rw[Addr.add_mid,XQ,e j f];exact b
 .rw[d]at hv;obtain⟨i,-,rfl⟩:=YD.1 hv;exact S5
 .by_cases f:i<4*n
  .rw[World.cell?_setCells_out g cs (n*4) w ⟨g,i,none⟩ (λ_ _=>Yk (by show i<n*4;omega))];exact h.c i f
  .have b:i-n*4<cs.length:=oM;have o:=World.cell?_setCells_in g cs (n*4) w (λj b=>(p j b).1) (i-n*4) b;rw[show n*4+(i-n*4)=i by omega]at o;rw[o,<-XV b,c _ oM];unfold cw;rw[show(i-n*4)%4=i%4 by omega]
def Sq(m:Nat)(c:m<=1000)(w:XF):cZ 208 #[uZ 1,uZ m] w λe w'=>e=.returned (.tuple #[uZ 0,uZ m])/\w'=w:=by
 have k:bits .and .u64 1 4294967295=1:=rfl;have a2:bits .and .u64 (m:Int) 4294967295=(m:Int):=by
  have h:=bits_and_u64_nat m 4294967295 oM oM;rw[show(4294967295:Nat)=2^32-1 from rfl,Nat.and_two_pow_sub_one_eq_mod,Ya oM]at h;exact h
 have a0:bits .and .u64 0 4294967295=0:=rfl;have b:(m:Int)/4294967296=0:=oM;have d:Yy.wrap (m:Int)=(m:Int):=by rw[ZX];omega
 go_enter func208,ntmps208;go_wp2
 go_ret2
 exact⟨rfl,rfl⟩
def So(m:Nat)(k:m<=1000)(w:XF):cZ 188 #[uZ 1,uZ m] w λe w'=>e=.returned (.tuple #[uZ 0,uZ m])/\w'=w:=by
 have h:=Sq m k w;go_enter func188,ntmps188;go_wp2_with fail
 refine h.mono ?_;rintro e w' ⟨rfl,rfl⟩;go_wp2
 go_ret2
 exact⟨rfl,rfl⟩
def Cx{t b:Yj}{v u c:XG}{P:YO}{k:Array Yw}{o:Yw}{a:Act}{w' w:XF}{K:Act->XF->Prop}{Q:yAN->Act->XF->Prop}{E:Prop}(e:o.guard=none)(d s:yAp)(ho:o.op=.call { callee:=.builtin .copy,args:=#[d,s],argTypes:=#[t,b] })(hd:a.eval d=v)(g:a.eval s=u)(f:(yAL #[t,b] o.type #[v,u]).run P w=.ok c w')(h:K (a.put o.dst c) w'):if Zd o (yielded k a.tmps)=true then Y8 P o a w K Q else E:=by
 have c:Zd o (yielded k a.tmps)=true:=by simp[Zd,e]
 rw[yE3 c];exact Lib.wp_copy_run w d s t b ho v u hd g f h
def J7(x r m:Nat)(P:m<=512)(w:XF)(hR:Row w r (wn x)):
 ZI prog 137 #[.slice (some ⟨r,0,none⟩) 1 1,.int .i64 m] w (Ret λe w'=>Below w.heap.size w w'/\SLq (w.heap.size<=·) w' e m (λ_=>x)):=by
 have T:=So m oM w;have Z:Yy.wrap (m:Int)=(m:Int):=by rw[ZX];omega
 obtain⟨C0,s,A⟩:=C7 uS4 iS4 m P;obtain⟨g,u⟩:=hE (w.heap.size);obtain⟨M,p⟩:=hE (w.alloc (.cells C0.toArray 44));have F:=aM u p;have z:Rs g m 0 x M:=⟨F.2.1,by have:=F.2.2.2;rwa[s]at this,λi G=>absurd G (yAh _)⟩
 have l:=hR.below F.1;have E:∀i,i<4->M.cell? ⟨r,i,none⟩=some (cw x i):=λi G=>by
  have L:i=0\/i=1\/i=2\/i=3:=oM;rcases L with rfl|rfl|rfl|rfl
  .exact l.2.1 0 _ rfl
  .exact l.2.1 1 _ rfl
  .exact l.2.1 2 _ rfl
  .exact l.2.1 3 _ rfl
 obtain⟨D,c,d,f⟩:=z.copy (k:=yAG 1 m) (r:=r) (sl:=1) (sc:=1) (dc:=m) (by rw[yBI]) (Zq _) (λi G=>E i (by have:yAG 1 m<=1:=yCS _ _;omega));rw[yBI,yDA]at c;rw[XQ]at d;have V:Hid (Below w.heap.size w D/\Rs g m (yAG 1 m) x D):=⟨F.1.trans (f _ (yBh u)),d⟩
 have H:yAG 1 m<=m:=yCM _ _;have I:0<m->0<yAG 1 m:=λh=>by show 0<min 1 m;omega
 have b:=c 3;have y:=A w;rw[p.out,u.out]at y;generalize yAG 1 m=R at *;unfold goInt at b;clear z l hR E f d c F A s p;go_enter func137,ntmps137;go_wp2_with fail
 refine T.mono ?_;rintro e w' ⟨rfl,rfl⟩;go_wp2_with (at_builtin;refine Lib.wpList_copy_run _ rfl _ _ 143 143 rfl _ _ rfl rfl b ?_)
 go_loopg [8] m (λgk s8 wr=>∃n:Nat,n<=m/\(0<m->0<n)/\m<=n+gk/\s8=.int .i64 n/\Hid (Below w'.heap.size w' wr/\Rs g m n x wr))
 case atStart=>exact⟨R,H,I,oM,rfl,V⟩
 case round =>
  obtain⟨n,B,S,U,rfl,o⟩:=hrel;by_cases J:n<m
  .have C:=oM;have Q:0<yAG n (m-n):=by show 0<min n (m-n);omega
   have K:n+yAG n (m-n)<=m:=by show n+min n (m-n)<=m;omega
   have N:yAG n (m-n)<=n:=yCS _ _;have q:Rs g m n x wr.drew:=⟨o.2.lt,o.2.th,o.2.c⟩
   obtain⟨D,c,d,f⟩:=q.copy (k:=yAG n (m-n)) (r:=g) (sl:=n) (sc:=m) (dc:=m-n) rfl B (λi G=>q.c i oM);have b:=c 3;have W:=Eh g 0 m m n B;have a:=Eg g 0 n J (XH _);rw[XQ]at a;have O:Hid (Below w'.heap.size w' D/\Rs g m (n+yAG n (m-n)) x D):=⟨o.1.drew.trans (f _ (yBh u)),d⟩
   generalize yAG n (m-n)=k at *;unfold goInt at b;clear c d f q o;go_wp2_with fail
   go_region_law (refine Cx rfl (.tmp 41) (.tmp 44) rfl (by simp[Act.eval,Yo]) (by simp[Act.eval,Yo]) b ?_)
   go_wp2;go_roundg (gk-1)
   case measure=>omega
   case rel=>exact⟨n+k,K,λ_=>oM,oM,congrArg (Y1 Yt) (show Yt.wrap ((n:Int)+(k:Int))=((n+k:Nat):Int) by rw[Zo];omega),O⟩
  .have C:=oM;obtain rfl:n=m:=oM;have a:Hid (Below w'.heap.size w' wr/\SLq (w'.heap.size<=·) wr (.slice (some ⟨g,0,none⟩) n n) n (λ_=>x)):=⟨o.1,g,0,n,rfl,XH _,yBh u,o.2.lt,λj K t v q=>by
    have L:t<4:=(XT.1 q).1;rw[XQ,o.2.c (4*j+t) oM];unfold cw;rw[show(4*j+t)%4=t by omega,List.getD_eq_getElem?_getD,q];rfl⟩
   go_wp2;go_ret;exact⟨_,rfl,a⟩
def Gf{y z:Nat}(O:Ord N)(d:2<N)(c:y<N)(b:z<N)(n:Nat)(k:n<=512)(w:XF):
 cZ 80 #[nv y,nv z,iZ n] w (rZ w λe w'=>∃l r,e=.tuple #[l,r]/\SLq (w.heap.size<=·) w' l n (λ_=>sMi N 0 z)/\SLq (w.heap.size<=·) w' r n (λi=>sPl N (sTi N z (pwN N y i)) (sTi N (sTi N z z) (pwN N 2 i)))):=
 Uf O d y z c b n k w λx g W hR=>J7 x g n k W hR
def qP(N y:Nat)(H:Nat->LB)(i:Nat):LB:=(H i).map (tmT N (pwN N (sIn N y) i))
def Jv(O:Ord N){Q:Nat->Prop}(n:Nat)(k3:0<n)(hn:n<=64)(G H:Nat->LB)(U:LB)(hH:∀i,i<n->TOk N (H i)/\(H i).length<=512)(hU:TOk N U)(ht:U.length<=512)(y z:Nat)(hy:y<N)(hz:z<N)(v:XG)(w:XF)(hQ:∀g,w.heap.size<=g->Q g)(h0:GRq Q w v n G H U):
 cZ 91 #[v,nv y,nv z] w (rZ w λe w'=>GRq Q w' e n G (qP N y H) (U.map (tmT N z))):=by
 obtain⟨vg,vh,vu,rfl,h3,h4,h5⟩:=h0.ex;obtain⟨D,K,E,eg⟩:∃g o c,vg=qZ g o n c:=by obtain⟨g,o,c,h,-⟩:=h3;exact⟨g,o,c,h⟩
 subst eg;obtain⟨P,T,ch,rfl,ke,kd,k9,k8⟩:=h4;obtain⟨C,t⟩:=hE (sIn N y);have hw:C<N:=t.out▸Zi _ O.pos;have HI:=mk1 (λW=>wS O y hy W);rw[t.out]at HI;obtain⟨vy,hc⟩:=hE (nv y);obtain⟨vz,A⟩:=hE (nv z);obtain⟨k,hk⟩:=hE (w.heap.size);obtain⟨w1,hj⟩:=hE (w.alloc (.cells [qZ D K n E,qZ P T n ch,vu].toArray 150));obtain⟨k4,hm⟩:=hE (w1.heap.size);obtain⟨w2,hq⟩:=hE (lZ w1 (wn y) 44);obtain⟨k5,h6⟩:=hE (w2.heap.size);obtain⟨w3,h7⟩:=hE (lZ w2 (wn z) 44);obtain⟨k6,S⟩:=hE (w3.heap.size);obtain⟨r,h8⟩:=hE (w3.alloc (.cells [nZ,nZ,nZ].toArray 150));have f:=Pp hk hj hm hq h6 h7;have g6:=aM S h8;have F:=mk5 (f.1.trans (g6.1.mono f.1.size)) (f.2.1.below g6.1) (f.2.2.1.below g6.1) (f.2.2.2.below g6.1) g6.2;have R:w.heap.size<=k6:=S.out▸f.1.size;obtain⟨v0,hl⟩:=hE (Yg #[qZ D K n E,qZ P T n ch,vu]);have B0:Hid ((Yu 150 v0).run prog w=.ok (jZ k) w1):=hl.out▸hj.out▸hk.out▸DF;have B1:Hid ((Yu 44 vy).run prog w1=.ok (jZ k4) w2):=hc.out▸hq.out▸hm.out▸boxS;have B2:Hid ((Yu 44 vz).run prog w2=.ok (jZ k5) w3):=A.out▸h7.out▸h6.out▸boxS;rw[hc.out,A.out,hl.out];have HT:=mk2 hH (λ(W:XF) (d:kZ w W)=>eH O hz 0 vu U ht hU.szm hU.lt W (h5.sm.grow d));rw[A.out]at HT;have L:=mk2 k8 k9;have HK:=mk3 h3 hQ t;go_enter func91,ntmps91;go_wp2_with (first|(refine aG (u:=v0) (v:=jZ k) (w':=w1) rfl _ (.tmp 0) rfl ?_ ?_ ?_;rfl;exact B0)|(refine aG (u:=vy) (v:=jZ k4) (w':=w2) rfl _ (.tmp 1) rfl ?_ ?_ ?_;rfl;exact B1)|(refine aG (u:=vz) (v:=jZ k5) (w':=w3) rfl _ (.tmp 2) rfl ?_ ?_ ?_;rfl;exact B2)|(refine alR 6 S h8 ?_)|fail)
 obtain⟨b,d⟩:=hE (r.heap.size);have he:∀ {W},kZ r W->b<=W.heap.size:=λh=>d.out ▸ h.size
 refine(gwL [pE (nv y),pE (nv C),pE (oZ k 1),pE (qZ P T n ch),pE (iZ n),pZ b n (pwN N C),RG.pN b [nZ]] (λW=>kZ r W) (λW W' d h=>h.trans (d.mono h.size))).tail2 7 kR kR kR ⟨
  gLo 4 (λW s=>(F.2.2.1.below s).2.1) u40 i40,
  oL 0 9 144 (λx=>#[x]) (λx W j s=>by
   obtain rfl:x=nv y:=j;exact HI W),
  gP 3 (jZ k) (oZ k 1),
  fC 2 11 k 1 (qZ P T n ch) uGL (λx W h=>h) (λW s=>(F.2.1.below s).2.1 1 _ rfl) (λ_=>rfl),
  sL 3 12 (qZ P T n ch) (iZ n) (λx W h=>h) (λ_=>rfl),
  eF 1 10 4 13 83 (λx y=>#[x,y]) (λx u W j B s=>by
   obtain rfl:x=nv C:=j;obtain rfl:u=iZ n:=B;exact(Gn O C hw n oM W).mono λe W' ⟨v,I,l,h3,h4⟩=>⟨v,I,l,h3.from (he s),h4⟩),
  uG [nZ] 143 (λW W' h s=>⟨_,rfl,he s,h⟩),yE5⟩ ⟨rfl,rfl,rfl,XH _,λ_ _=>rfl⟩ ?_
 intro V w5 hR s;obtain⟨S1,g1,c1,e5⟩:=hR 5 dC;rw[e5]at S1;obtain⟨k7,e6,l7,R7⟩:=hR 6 dC;dsimp only[bY,YQ,Z4,Z5];simp only[Yo,XJ,XM,XO];rw[e5,e6];have n7:=xZ S1 k3 R7 (by simp);obtain⟨l1,X⟩:=hE (sZ g1 n c1);obtain⟨w6,hs⟩:=hE (w5.setCells k7 0 [l1]);have I:Hid (kZ r w6/\Row w6 k7 [l1]/\SLq (b<=·) w6 l1 n (pwN N C)):=by
  rw[<-hs.out,<-X.out];exact⟨RG.below_setCells (d.out▸l7) _ _ _ s,R7.put rfl,qS S1 n7⟩
 have M:=mk2 R7.2.2 (show l1.cells=#[l1]/\l1.oneCell'=true by rw[<-X.out];exact⟨rfl,rfl⟩);rw[X.out];refine ND (w:=w5) 7 hs M.1 iSl M.2.1 M.2.2 ?_;have kc:=(F.2.1.below I.1).2.1 1 _ rfl;have ha:=F.1.trans (I.1.mono F.1.size);have HL:=mk1 (AZ n oM 148 #[jZ k,jZ k7] (λ_ _=>kR) (qP N y H) w6 λi W Z B=>by
  have bb:=ha.trans (B.mono ha.size);obtain⟨x,Y,J⟩:=L.1 i Z;have T1:=I.2.2.keep (Kq.of_below B);have Rb:=I.2.1.below B;obtain⟨l,k0,k1,j,-,-,t1,f1⟩:=T1;rw[j]at Rb;have hT:=QS O (H i) (HT.1 i Z).1 (HT.1 i Z).2 (pwN N C i) (yJ O i) i k k7 P T n ch l k0 n k1 _ vu x Z Z W (XI L.2 bb.size) t1 ((F.2.1.below I.1).below B) Rb (by rw[Nat.one_mul,bb.cell (p:=⟨P,T+i,none⟩) L.2];exact Y) (J.sm.grow bb) (f1 i Z);rw[<-t.out]at hT;exact hT)
 go_wp2_with fail
 refine HL.mono ?_;rintro e w7 ⟨vn,rfl,hu,h9⟩;have k2:=I.1.trans (hu.mono I.1.size);obtain⟨gn,on,cn,en⟩:∃g o c,vn=qZ g o n c:=by obtain⟨g,o,c,h,-⟩:=h9;exact⟨g,o,c,h⟩
 subst en;have J:=mk3 k2 (h9.mono (Q':=(r.heap.size<=·)) λg Y=>XN I.1.size Y) R;go_wp2_with fail
 refine AW.begin 8 8 ?_;refine AW.va 0 (jZ k) ?_;refine AW.ce 1 uGL (λW d=>((F.2.1.below J.1).below d).2.1 0 _ rfl) ?_;refine AW.mv 2 ?_;refine AW.va 3 (oZ k 2) ?_;refine AW.ce 4 Bt (λW d=>((F.2.1.below J.1).below d).2.1 2 _ rfl) ?_;refine AW.ro 5 (λW d=>((F.2.2.2.1.below J.1).below d).2.1) A u40 i40 ?_;have j:=mk1 (F.1.trans (J.1.mono F.1.size));refine AW.ca 6 (λd=>HT.2 _ (j.trans (d.mono j.size))) (λe w' h=>h.1) ?_;rintro e w8 ⟨kf,hp⟩;obtain⟨ge,me,ce,ee⟩:∃g m c,e=sZ g m c:=by obtain⟨g,c,h,-⟩:=hp;exact⟨g,_,c,h⟩
 subst ee;refine AW.nx 7 (.agg #[qZ D K n E,qZ gn on n cn,sZ ge me ce]) ?_;refine AW.fi (us:=[qZ D K n E,qZ gn on n cn,sZ ge me ce]) (Hid.mk' rfl) kR iGr (λd=>?_);obtain⟨w9,l⟩:=hE (w8.setCells k6 0 [qZ D K n E,qZ gn on n cn,sZ ge me ce]);have KE:Hid (w8.there k6 0 3/\Row w9 k6 [qZ D K n E,qZ gn on n cn,sZ ge me ce]/\kZ w w9/\GRq Q w9 (.agg #[qZ D K n E,qZ gn on n cn,sZ ge me ce]) n G (qP N y H) (U.map (tmT N z))):=by
  have kb:=J.1.trans (d.mono J.1.size);have r6:=F.2.2.2.2.below kb;have l6:=F.2.2.2.2.1;have kq:Kq (r.heap.size<=·) w8 w9:=by rw[<-l.out];exact Kq.set λg Y=>oM
  have ka:Kq Q w w9:=by
   have hr:kZ w (w8.setCells k6 0 [qZ D K n E,qZ gn on n cn,sZ ge me ce]):=RG.below_setCells R _ _ _ (j.trans (d.mono j.size));rw[l.out]at hr;exact Kq.of_below hr
  rw[<-l.out];refine⟨r6.2.2,r6.put rfl,RG.below_setCells R _ _ _ (j.trans (d.mono j.size)),?_⟩;rw[l.out];have q:∀g,r.heap.size<=g->Q g:=λg Y=>HK.2.1 g (XN F.1.size Y)
  exact⟨_,_,_,rfl,HK.1.keep ka,((J.2.1.keep (Kq.of_below d)).keep kq).mono q,((hp.q.mono λg Y=>XN J.1.size Y).keep kq).mono q⟩
 rw[l.out];refine⟨KE.1,?_⟩;go_wp2_with fail
 refine XR (aF 6 rfl KE.2.1 rfl uGr iGr) rfl ?_;exact⟨_,rfl,KE.2.2.1,KE.2.2.2⟩
end
section
variable {N:Nat}
section
variable {P:YO}{ops:Array Yw}{Q:yAN->Act->XF->Prop}{p r:Nat}{I:Iv}{fuel:Nat}{o:Yw}{listed:Array Bool}{a:Act}{w:XF}{d:Option ZC}
def AW.fc{f:ZZ}{args:Array XG}{R:XG->XF->Prop}(g:I.p w->ZI P f args w (Ret R))(h:∀e w',I.p w->R e w'->Q .normal (a.put d e) w')(ho:ops[p]? = some o:=by(simp only[Yp,Yl,Yn])<;>rfl)(hd:o.dst=d:=by rfl)(c:o.guard=none:=by rfl)(hx:(Ym a.eval o).run P w=.ok (.enter f args) w:=by kernel_rfl)(k:(Yq .any ops listed,Yq .any ops (listed.setIfInBounds p true),I.b,(listed.setIfInBounds p true).getD p false,(listed.setIfInBounds p true).getD r false)=([p],[],true,true,true):=by kernel_rfl):AW P ops Q p r I (fuel+1) listed a w:=λb=>by
 simp only[Zl.injEq]at k;exact anyS.cal ho (g b) (λe w' hR=>⟨Yk k.2.2,anyS.done k.2.1 (h e w' b hR) _⟩) k.1 c hx hd
end
def rnF{W:XF}{k o:Nat}{xs ys:List XG}(h:W.rangeAt k o (xs++ys)):W.rangeAt k o xs:=λj v b=>h j v (by rw[X1 (XT.1 b).1];exact b)
def rnB{W:XF}{k o m:Nat}{xs ys:List XG}(h:W.rangeAt k o (xs++ys))(c:o+xs.length=m):W.rangeAt k m ys:=λj v b=>by
 have:=h (xs.length+j) v (by rw[X4 oM,ZN];exact b);rw[<-ZL,c]at this;exact this
def rnC{W:XF}{k o m:Nat}{xs ys:List XG}(d:W.rangeAt k o xs)(e:W.rangeAt k m ys)(c:o+xs.length=m):W.rangeAt k o (xs++ys):=λj v b=>by
 by_cases h:j<xs.length
 .exact d j v (by rwa[X1 h]at b)
 .rw[X4 oM]at b;have:=e (j-xs.length) v b;rwa[<-c,ZL,Nat.add_sub_cancel' oM]at this
def Row.mid{W:XF}{k m:Nat}{xs ys zs us l l':List XG}(h:Row W k l)(e:l=xs++(ys++zs))(e':l'=xs++(us++zs))(f:us.length=ys.length)(g:xs.length=m):W.there k m us.length/\Row (W.setCells k m us) k l':=by
 subst e e' g;obtain⟨i,d,b⟩:=h;have c:W.there k xs.length us.length:=λj n=>by
  have:=b (xs.length+j) (by simp only[XP];omega);rwa[XQ]at this
 have z:=XQ xs.length;refine⟨c,by rw[setCells_size];exact i,rnC (Yr (rnF d) k _ us (Yd (Yk oM))) (rnC (World.rangeAt_setCells_same W k _ us c) (Yr (rnB (rnB d z) rfl) k _ us (Yd (Yd oM))) (by rw[f])) z,?_⟩;have:=Za b k xs.length us;simp only[XP,f]at this⊢;exact this
structure Rp where
 a:Bs
 s:Bs
 c:Bs
 d:Bs
 u:Nat
 m:Nat
 t:Nat
namespace Rp
def l(p:Rp):List XG:=aA p.a++(aA p.s++(aA p.c++(aA p.d++(wn p.u++(wn p.m++wn p.t)))))
structure Ok(p:Rp):Prop where
 a:p.a.size=33
 s:p.s.size=33
 c:p.c.size=33
 d:p.d.size=33
variable {p:Rp}{W:XF}{k:Nat}
def len(h:p.Ok):p.l.length=144:=by
 unfold l;simp only[XP,aB h.a,aB h.s,aB h.c,aB h.d];rfl
def one(p:Rp):p.l.toArray.all (·.oneCell')=true:=by
 unfold l;have h:∀b:Bs,(aA b).all (·.oneCell')=true:=λb=>by have:=bQ;rwa[yAR]at this
 have k:∀n,(wn n).all (·.oneCell')=true:=λn=>by have:=aI;rwa[yAR]at this
 rw[yAR];simp only[List.all_append,h,k,yDd]
def at7(h:p.Ok)(f:W.rangeAt k 0 p.l):W.rangeAt k 0 (aA p.a)/\W.rangeAt k 33 (aA p.s)/\W.rangeAt k 66 (aA p.c)/\W.rangeAt k 99 (aA p.d)/\W.rangeAt k 132 (wn p.u)/\W.rangeAt k 136 (wn p.m)/\W.rangeAt k 140 (wn p.t):=by
 have d:=rnB (m:=33) f (by rw[aB h.a]);have e:=rnB (m:=66) d (by rw[aB h.s]);have c:=rnB (m:=99) e (by rw[aB h.c]);have b:=rnB (m:=132) c (by rw[aB h.d]);have g:=rnB (m:=136) b rfl;have i:=rnB (m:=140) g rfl;exact⟨rnF f,rnF d,rnF e,rnF c,rnF b,rnF g,i⟩
def WB(h:p.Ok)(d:Row W k p.l){x:Bs}(hx:x.size=33):W.there k 0 (aA x).length/\Row (W.setCells k 0 (aA x)) k { p with a:=x }.l/\{ p with a:=x }.Ok:=by
 obtain⟨b,c⟩:=Row.mid (xs:=[]) (us:=aA x) (l':={ p with a:=x }.l) d rfl rfl (by rw[aB hx,aB h.a]) rfl;exact⟨b,c,hx,h.s,h.c,h.d⟩
def sets(h:p.Ok)(d:Row W k p.l){x:Bs}(hx:x.size=33):W.there k 33 (aA x).length/\Row (W.setCells k 33 (aA x)) k { p with s:=x }.l/\{ p with s:=x }.Ok:=by
 obtain⟨b,c⟩:=Row.mid (xs:=aA p.a) (us:=aA x) (l':={ p with s:=x }.l) d rfl rfl (by rw[aB hx,aB h.s]) (aB h.a);exact⟨b,c,h.a,hx,h.c,h.d⟩
def WA(h:p.Ok)(e:Row W k p.l){x:Bs}(hx:x.size=33):W.there k 66 (aA x).length/\Row (W.setCells k 66 (aA x)) k { p with c:=x }.l/\{ p with c:=x }.Ok:=by
 obtain⟨b,d⟩:=Row.mid (m:=66) (xs:=aA p.a++aA p.s) (ys:=aA p.c) (zs:=aA p.d++(wn p.u++(wn p.m++wn p.t))) (us:=aA x) (l':={ p with c:=x }.l) e (by unfold l;simp only[YU]) (by unfold l;simp only[YU]) (by rw[aB hx,aB h.c]) (by rw[XP,aB h.a,aB h.s]);exact⟨b,d,h.a,h.s,hx,h.d⟩
def Wz(h:p.Ok)(e:Row W k p.l){x:Bs}(hx:x.size=33):W.there k 99 (aA x).length/\Row (W.setCells k 99 (aA x)) k { p with d:=x }.l/\{ p with d:=x }.Ok:=by
 obtain⟨b,c⟩:=Row.mid (m:=99) (xs:=aA p.a++(aA p.s++aA p.c)) (ys:=aA p.d) (zs:=wn p.u++(wn p.m++wn p.t)) (us:=aA x) (l':={ p with d:=x }.l) e (by unfold l;simp only[YU]) (by unfold l;simp only[YU]) (by rw[aB hx,aB h.d]) (by simp only[XP,aB h.a,aB h.s,aB h.c]);exact⟨b,c,h.a,h.s,h.c,hx⟩
def Ww(h:p.Ok)(d:Row W k p.l)(x:Nat):W.there k 132 (wn x).length/\Row (W.setCells k 132 (wn x)) k { p with u:=x }.l/\{ p with u:=x }.Ok:=by
 obtain⟨b,c⟩:=Row.mid (m:=132) (xs:=aA p.a++(aA p.s++(aA p.c++aA p.d))) (ys:=wn p.u) (zs:=wn p.m++wn p.t) (us:=wn x) (l':={ p with u:=x }.l) d (by unfold l;simp only[YU]) (by unfold l;simp only[YU]) rfl (by simp only[XP,aB h.a,aB h.s,aB h.c,aB h.d]);exact⟨b,c,h.a,h.s,h.c,h.d⟩
def Wy(h:p.Ok)(d:Row W k p.l)(x:Nat):W.there k 136 (wn x).length/\Row (W.setCells k 136 (wn x)) k { p with m:=x }.l/\{ p with m:=x }.Ok:=by
 obtain⟨b,c⟩:=Row.mid (m:=136) (xs:=aA p.a++(aA p.s++(aA p.c++(aA p.d++wn p.u)))) (ys:=wn p.m) (zs:=wn p.t) (us:=wn x) (l':={ p with m:=x }.l) d (by unfold l;simp only[YU]) (by unfold l;simp only[YU]) rfl (by simp only[XP,aB h.a,aB h.s,aB h.c,aB h.d];rfl);exact⟨b,c,h.a,h.s,h.c,h.d⟩
def Wx(h:p.Ok)(d:Row W k p.l)(x:Nat):W.there k 140 (wn x).length/\Row (W.setCells k 140 (wn x)) k { p with t:=x }.l/\{ p with t:=x }.Ok:=by
 obtain⟨b,c⟩:=Row.mid (m:=140) (xs:=aA p.a++(aA p.s++(aA p.c++(aA p.d++(wn p.u++wn p.m))))) (ys:=wn p.t) (zs:=[]) (us:=wn x) (l':={ p with t:=x }.l) d (by unfold l;simp only[YU,yAt]) (by unfold l;simp only[YU,yAt]) rfl (by simp only[XP,aB h.a,aB h.s,aB h.c,aB h.d];rfl);exact⟨b,c,h.a,h.s,h.c,h.d⟩
end Rp
def uRd:yZ 153:=yQ
def iRd:gZ 153 144:=gQ
def My{p:Rp}(h:p.Ok)(w:XF):(Yu 153 (.agg p.l.toArray)).run prog w=.ok (jZ w.heap.size) (w.alloc (.cells p.l.toArray 153)):=by
 unfold Rp.l;rw[dF h.a,dF h.s,dF h.c,dF h.d];kernel_rfl
def Rm{r g f:Nat}{L:Bs}{k:ByteArray}{d:Option Y4}{b:List UInt8}{w:XF}(c:k.size<=1048576)(i:hZ w r 0 L)(o:L.size=32)(j:PartOk w (.slice d g f) b):
 cZ 134 #[jZ r,.string k,.slice d g f] w (Ret λe w'=>e=.tuple #[]/\SP.Only r 0 32 w w'/\hZ w' r 0 (wJ L k.data.toList b)):=
 (Cm r L k d g f b w c (Q9 i) o j).mono λ_ _ ⟨m,n,l⟩=>⟨_,m,rfl,n,Q6 l⟩
def bgL(V:Bs)(n:Nat)(A S:Bs):Bs:=kH [102,105,114,115,116] [115,101,99,111,110,100] (wJ (wJ (newL [114,97,110,103,101]) [99,111,109,109,105,116] V.toList) [98,105,116,115] [bH n 1]) A S
structure BgI(w W:XF)(k r:Nat)(p:Rp)(V:Bs)(y z:Nat)(L:Bs):Prop where
 bl:kZ w W
 r3:Row W k p.l
 r4:Row W (k+1) (aA V)
 r6:Row W (k+2) [jZ r]
 r7:Row W (k+3) (wn y)
 r8:Row W (k+4) (wn z)
 rk:w.heap.size=k/\k+5<=r
 lg:hZ W r 0 L
 ls:L.size=32
section
variable {w W W':XF}{k r:Nat}{p:Rp}{V:Bs}{y z:Nat}{L L':Bs}
def BgI.lt(h:BgI w W k r p V y z L):r<W.heap.size:=Holds.lt h.lg (by rw[h.ls];decide)
def BgI.grow(h:BgI w W k r p V y z L)(b:kZ W W'):BgI w W' k r p V y z L:=
 ⟨h.bl.trans (b.mono h.bl.size),h.r3.below b,h.r4.below b,h.r6.below b,h.r7.below b,h.r8.below b,h.rk,Holds.below h.lg b h.lt,h.ls⟩
def BgI.say(h:BgI w W k r p V y z L)(b:SP.Only r 0 32 W W')(c:hZ W' r 0 L')(d:L'.size=32):BgI w W' k r p V y z L':=by
 have e:=h.rk.2;have f:=h.rk.1;exact⟨h.bl.trans (yO b h.bl.size oM),h.r3.only b oM,h.r4.only b oM,h.r6.only b oM,h.r7.only b oM,h.r8.only b oM,h.rk,c,d⟩
def BgI.put(h:BgI w W k r p V y z L)(c b:Nat)(j:Nat)(us:List XG)(g:j<5)(d:Row (W.setCells (k+j) 0 us) (k+2) [jZ r])(e:Row (W.setCells (k+j) 0 us) (k+3) (wn c))(f:Row (W.setCells (k+j) 0 us) (k+4) (wn b))(m:2<=j):BgI w (W.setCells (k+j) 0 us) k r p V c b L:=by
 have i:=h.rk.2;have l:=h.rk.1;exact⟨RG.below_setCells oM _ _ _ h.bl,aP h.r3 oM,aP h.r4 oM,d,e,f,h.rk,eR h.lg oM,h.ls⟩
def BgI.p6(h:BgI w W k r p V y z L)(e:Hid (W.setCells (k+2) 0 [jZ r]=W')):BgI w W' k r p V y z L:=by
 rw[<-e.out];exact h.put y z 2 _ oM (h.r6.put rfl) (aP h.r7 oM) (aP h.r8 oM) oM
def BgI.p7(h:BgI w W k r p V y z L){b:Nat}(e:Hid (W.setCells (k+3) 0 (wn b)=W')):BgI w W' k r p V b z L:=by
 rw[<-e.out];exact h.put b z 3 _ oM (aP h.r6 oM) (h.r7.put rfl) (aP h.r8 oM) oM
def BgI.p8(h:BgI w W k r p V y z L){b:Nat}(e:Hid (W.setCells (k+4) 0 (wn b)=W')):BgI w W' k r p V y b L:=by
 rw[<-e.out];exact h.put y b 4 _ oM (aP h.r6 oM) (aP h.r7 oM) (h.r8.put rfl) oM
end
def CJ{T m c:Yj}{P:YO}{w:Func}{tmps:Array XG}{W:XF}{k q f:Nat}{vs us n:List XG}(t x i:ZC)(y:w.results=#[.cell t T,.cell x m,.cell i c])(h:Row W k vs)(E:Row W q us)(p:Row W f n)(C:tmps[t]? = some (jZ k))(r:tmps[x]? = some (jZ q))(l:tmps[i]? = some (jZ f))(v:(P.underlying T).map (·.isRow)=some true)(B:(P.info? T).map (·.size)=some vs.length)(e:(P.underlying m).map (·.isRow)=some true)(u:(P.info? m).map (·.size)=some us.length)(b:(P.underlying c).map (·.isRow)=some true)(j:(P.info? c).map (·.size)=some n.length):(results w tmps).run P W=.ok (.tuple #[.agg vs.toArray,.agg us.toArray,.agg n.toArray]) W:=by
 obtain⟨d,v,hd⟩:=XK.1 v;obtain⟨z,e,o⟩:=XK.1 e;obtain⟨s,b,g⟩:=XK.1 b;have A:=yAH (P:=P) W k 0 T vs d h.2.1 v hd B;have D:=yAH (P:=P) W q 0 m us z E.2.1 e o u;have a:=yAH (P:=P) W f 0 c n s p.2.1 b g j;unfold results;simp[y,C,r,l,A,D,a,asAddr]
def Qv(O:Ord N)(p:Rp)(hp:p.Ok)(V:Bs)(hV:V.size=33)(n:Nat)(hn:n<256)(w:XF):
 cZ 79 #[.agg p.l.toArray,pvl V,iZ n] w (rZ w λe w'=>∃r,e=.tuple #[lgV r,nv (chS N (bgL V n p.a p.s)),nv (chS N (aX (bgL V n p.a p.s)))]/\w.heap.size<=r/\hZ w' r 0 (aX (aX (bgL V n p.a p.s)))):=by
 obtain⟨L0,J⟩:=hE (newL [114,97,110,103,101]);obtain⟨L1,E⟩:=hE (wJ L0 [99,111,109,109,105,116] V.toList);obtain⟨R,g⟩:=hE (wJ L1 [98,105,116,115] [bH n 1]);have e3:bgL V n p.a p.s=kH [102,105,114,115,116] [115,101,99,111,110,100] R p.a p.s:=by unfold bgL;rw[J.out,E.out,g.out]
 have s0:L0.size=32:=J.out▸AX;have s1:L1.size=32:=E.out▸lI;have s2:R.size=32:=g.out▸lI;obtain⟨L3,h1⟩:=hE (kH [102,105,114,115,116] [115,101,99,111,110,100] R p.a p.s);obtain⟨K,H⟩:=hE (aX L3);obtain⟨L5,D⟩:=hE (aX K);have s4:K.size=32:=H.out▸bD;have s5:L5.size=32:=D.out▸bD;obtain⟨y,hy⟩:=hE (chS N L3);obtain⟨z,hz⟩:=hE (chS N K);rw[e3,h1.out,H.out,D.out,hy.out,hz.out];have HA:Hid (∀(r:Nat) (W:XF),hZ W r 0 R->cZ 135 #[lgV r,.string ⟨#[102,105,114,115,116]⟩,pvl p.a,.string ⟨#[115,101,99,111,110,100]⟩,pvl p.s] W (Ret λe w'=>SP.Only r 0 32 W w'/\hZ w' r 0 K/\e=nv y)):=λr W h=>by
  rw[<-hy.out,<-H.out,<-h1.out];exact uM O r R p.a p.s ⟨#[102,105,114,115,116]⟩ ⟨#[115,101,99,111,110,100]⟩ dC dC hp.a hp.s W h s2
 have HC:Hid (∀(r:Nat) (W:XF),hZ W r 0 K->cZ 136 #[lgV r] W (Ret λe w'=>SP.Only r 0 32 W w'/\hZ w' r 0 L5/\e=nv z)):=λr W h=>by
  rw[<-hz.out,<-D.out];exact zS O r K W h s4
 have HN:Hid (∀W:XF,cZ 133 #[.string ⟨#[114,97,110,103,101]⟩] W (rZ W λe w'=>∃r,e=lgV r/\W.heap.size<=r/\r<w'.heap.size/\hZ w' r 0 L0)):=λW=>by
  rw[<-J.out];exact ID ⟨#[114,97,110,103,101]⟩ W dC
 obtain⟨k,hk⟩:=hE (w.heap.size);obtain⟨M,G⟩:=hE (lZ w p.l 153);obtain⟨w2,I⟩:=hE (lZ M (aA V) 51);obtain⟨w3,a⟩:=hE (w2.alloc (.cells [.pointer none].toArray 159));obtain⟨w4,A⟩:=hE (lZ w3 (RG.z 4) 44);obtain⟨w5,B⟩:=hE (lZ w4 (RG.z 4) 44);have z1:Hid (M.heap.size=k+1):=by rw[<-G.out,XS,hk.out];rfl
 have z2:Hid (w2.heap.size=k+2):=by rw[<-I.out,XS,z1.out];rfl
 have z3:Hid (w3.heap.size=k+3):=by rw[<-a.out,XS,z2.out];rfl
 have z4:Hid (w4.heap.size=k+4):=by rw[<-A.out,XS,z3.out];rfl
 have z5:Hid (w5.heap.size=k+5):=by rw[<-B.out,XS,z4.out];rfl
 have f1:=aM hk G;have f2:=aM z1 I;have f3:=aM z2 a;have f4:=aM z3 A;have f5:=aM z4 B;have h8:=f4.1.trans (f5.1.mono f4.1.size);have h2:=f3.1.trans (h8.mono f3.1.size);have h0:=f2.1.trans (h2.mono f2.1.size);have F:=mk6 (f1.1.trans (h0.mono f1.1.size)) (f1.2.below h0) (f2.2.below h2) (f3.2.below h8) (f4.2.below f5.1) f5.2;obtain⟨vp,S⟩:=hE (Yg p.l.toArray);obtain⟨vV,h6⟩:=hE (pvl V);have B1:Hid ((Yu 153 vp).run prog w=.ok (jZ k) M):=S.out▸G.out▸hk.out▸My hp w;have B2:Hid ((Yu 51 vV).run prog M=.ok (jZ (k+1)) w2):=h6.out▸I.out▸z1.out▸tB hV M;rw[S.out,h6.out];have HP:=mk2 hp hV;go_enter func79,ntmps79;go_wp2_with (first|(refine aG (u:=vp) (v:=jZ k) (w':=M) rfl _ (.tmp 0) rfl ?_ ?_ ?_;rfl;exact B1)|(refine aG (u:=vV) (v:=jZ (k+1)) (w':=w2) rfl _ (.tmp 1) rfl ?_ ?_ ?_;rfl;exact B2)|(refine alR 6 z2 a ?_)|(refine alR 7 z3 A ?_)|(refine alR 8 z4 B ?_)|fail)
 apply(HN w5).mono;rintro e w6 ⟨uu,rfl,b,r,rfl,Y,hm,d⟩;obtain⟨w7,X⟩:=hE (w6.setCells (k+2) 0 [jZ r]);have hg:=mk1 (F.2.2.2.1.below b).2.2;have K7:Hid (BgI w w7 k r p V 0 0 L0):=by
  rw[z5.out]at Y;rw[<-X.out];have c:=hk;exact⟨RG.below_setCells oM _ _ _ (F.1.trans (b.mono F.1.size)),aP (F.2.1.below b) oM,aP (F.2.2.1.below b) oM,(F.2.2.2.1.below b).put rfl,aP (F.2.2.2.2.1.below b) oM,aP (F.2.2.2.2.2.below b) oM,⟨hk,Y⟩,eR d oM,s0⟩
 unfold lgV;go_wp2_with (first|(refine stR 6 X (Hid.mk' rfl) hg iLg kR ?_)|fail)
 refine AW.begin 4 4 ?_;refine AW.va 0 (jZ (k+2)) ?_;refine AW.va 1 (jZ (k+2)) ?_;refine AW.ce 2 uLp (λW t=>(K7.grow t).r6.2.1 0 _ rfl) ?_;refine AW.va 3 (sZ (k+1) 33 33) ?_;refine AW.fc (λt=>Rm dC (K7.grow t).lg s0 (yD HP.2 (K7.grow t).r4)) ?_;rintro e w8 t ⟨rfl,o,d⟩;rw[show(⟨#[99,111,109,109,105,116]⟩:ByteArray).data.toList=[99,111,109,109,105,116] from rfl,E.out]at d;have K8:=mk1 ((K7.grow t).say o d s1);have c6:=K8.r6.2.1 0 _ rfl;have hl:∀W:XF,(convert 3 5 (iZ n)).run prog W=.ok (.int .u8 (SP.ub (bH n 1))) W:=λW=>by
  have c:=sF n;rw[<-c];rfl
 have HL:=mk1 (rfl:bH n 1=bH n 1);generalize bH n 1=s at g hl;obtain⟨Q,C⟩:=hE (w8.alloc (.cells #[.int .u8 (SP.ub s)] 5));obtain⟨k9,U⟩:=hE (w8.heap.size);have h4:Hid ((YF 23 1 #[(0,.int .u8 (SP.ub s))]).run prog w8=.ok (sZ k9 1 1) Q):=by rw[<-C.out,<-U.out];show _=_;kernel_rfl
 have f9:Hid (kZ w8 Q/\Row Q k9 [.int .u8 (SP.ub s)]):=by rw[<-C.out,<-U.out];exact⟨aC _,row_new w8 [.int .u8 (SP.ub s)] 5⟩
 have K9:=mk2 (K8.grow f9.1) (show PartOk Q (sZ k9 1 1) [s] from⟨_,k9,0,1,#[s],rfl,rfl,XH _,(by show 1<=1099511627776;decide),Yd ⟨rfl,λj hj=>by
  obtain rfl:j=0:=by simp at hj;omega
  exact⟨f9.2.2.1 0 _ rfl,(f9.2.2.2 0 Nat.one_pos).2⟩⟩⟩)
 go_wp2_with (first|(refine inR 20 h4 ?_)|fail)
 apply(Rm dC K9.1.lg s1 K9.2).mono;rintro e ha ⟨uu,rfl,rfl,o,d⟩;rw[show(⟨#[98,105,116,115]⟩:ByteArray).data.toList=[98,105,116,115] from rfl,g.out]at d;have KA:=mk1 (K9.1.say o d s2);clear K9 o d K8 f9 h4 C c6;obtain⟨vl,c⟩:=hE (lgV r);obtain⟨vA,hvA⟩:=hE (pvl p.a);obtain⟨vS,h7⟩:=hE (pvl p.s);have iA:gZ 51 (aA p.a).length:=by rw[aB HP.1.a];exact iCP
 have iS:gZ 51 (aA p.s).length:=by rw[aB HP.1.s];exact iCP
 have H7:=Rp.at7 HP.1 KA.r3.2.1;have x:=mk1 (HA r ha KA.lg);rw[c.out,hvA.out,h7.out]at x;go_wp2_with (first|(refine ldR 6 KA.r6.2.1 c uLg iLg ?_)|(refine ldR 23 H7.1 hvA uCP iA ?_)|(refine ldR 25 H7.2.1 h7 uCP iS ?_)|fail)
 refine x.mono ?_;clear x H7;rintro e hc ⟨uu,rfl,o,d,rfl⟩;have KB:=mk1 (KA.say o d s4);obtain⟨T,m⟩:=hE (hc.setCells (k+3) 0 (wn y));obtain⟨vy,f⟩:=hE (nv y);rw[f.out];go_wp2_with (first|(refine stR 7 m f KB.r7.2.2 i40 aI ?_)|fail)
 have KC:=mk1 (KB.p7 m);refine AW.beg 6 6 ⟨_,_,KC.grow ⟨rfl,rfl,rfl,XH _,λ_ _=>rfl⟩⟩ ?_;refine AW.ro 0 (λW ⟨_,_,h⟩=>h.r6.2.1) c uLg iLg ?_;refine AW.ro 1 (λW ⟨_,_,h⟩=>h.r7.2.1) f u40 i40 ?_;refine AW.ro 2 (λW ⟨_,_,h⟩=>h.r6.2.1) c uLg iLg ?_;have KD:=mk1 (KC.grow (W':=T.drew) ⟨rfl,rfl,rfl,XH _,λ_ _=>rfl⟩);have h5:=mk1 (HC r T.drew KD.lg);rw[c.out]at h5;refine AW.cw 3 (λ_=>h5) (λe w' _ h=>⟨_,_,KD.say h.1 h.2.1 s5⟩) ?_;rintro e hi ⟨o,d,rfl⟩;have KE:=mk1 (KD.say o d s5);obtain⟨he,q⟩:=hE (hi.setCells (k+2) 0 [jZ r]);obtain⟨h9,l⟩:=hE (he.setCells (k+3) 0 (wn y));obtain⟨hq,i⟩:=hE (h9.setCells (k+4) 0 (wn z));have KF:=mk1 (KE.p6 q);have KG:=mk1 (KF.p7 l);have P:=mk1 (KG.p8 i);obtain⟨vz,Z⟩:=hE (nv z);rw[Z.out];refine AW.ss 4 c kR iLg q (λ_=>⟨KE.r6.2.2,_,_,KF⟩) ?_;refine AW.ss 5 f aI i40 l (λ_=>⟨KF.r7.2.2,_,_,KG⟩) ?_;refine AW.fi (us:=wn z) Z aI i40 (λ_=>⟨KG.r8.2.2,?_⟩);rw[i.out];go_wp2_with fail
 refine XR (CJ 6 7 8 rfl P.r6 P.r7 P.r8 rfl rfl rfl uLg iLg u40 i40 u40 i40) rfl ?_;exact⟨_,rfl,P.bl,r,rfl,oN P.rk,P.lg⟩
structure MdI(w W:XF)(k r:Nat)(p:Rp)(y:Nat)(L:Bs):Prop where
 on:SP.Only r 0 32 w W
 r2:Row W k p.l
 r3:Row W (k+1) [jZ r]
 r4:Row W (k+2) (wn y)
 rk:w.heap.size=k/\r<k
 lg:hZ W r 0 L
 ls:L.size=32
section
variable {w W W':XF}{k r:Nat}{p:Rp}{y:Nat}{L L':Bs}
def MdI.lt(h:MdI w W k r p y L):r<W.heap.size:=Holds.lt h.lg (by rw[h.ls];decide)
def MdI.grow(h:MdI w W k r p y L)(b:kZ W W'):MdI w W' k r p y L:=
 ⟨h.on.trans (SP.Only.of_below b rfl h.lt),h.r2.below b,h.r3.below b,h.r4.below b,h.rk,Holds.below h.lg b h.lt,h.ls⟩
def MdI.say(h:MdI w W k r p y L)(b:SP.Only r 0 32 W W')(c:hZ W' r 0 L')(d:L'.size=32):MdI w W' k r p y L':=by
 have:=h.rk;exact⟨h.on.trans b,h.r2.only b oM,h.r3.only b oM,h.r4.only b oM,h.rk,c,d⟩
def MdI.put(h:MdI w W k r p y L){b:Nat}(e:Hid (W.setCells (k+2) 0 (wn b)=W')):MdI w W' k r p b L:=by
 have:=h.rk;rw[<-e.out];exact⟨jQ h.on h.rk.1 h.rk.2 oM,aP h.r2 oM,aP h.r3 oM,h.r4.put rfl,h.rk,eR h.lg oM,h.ls⟩
def Lc(t:p.Ok)(o:hZ w r 0 L)(q:L.size=32):∃k c f s,Hid (w.heap.size=k)/\Hid (f.heap.size=k+2)/\Hid (f.alloc (.cells (RG.z 4).toArray 44)=s)/\Hid ((Yu 153 (.agg p.l.toArray)).run prog w=.ok (jZ k) c)/\Hid ((Yu 159 (lgV r)).run prog c=.ok (jZ (k+1)) f)/\Hid (MdI w s k r p 0 L):=by
 have j:=Holds.lt o (by rw[q];decide);have i:=aM (T:=153) (Hid.mk' (rfl:w.heap.size=_)) (Hid.mk' (rfl:w.alloc (.cells p.l.toArray 153)=_));have g:(w.alloc (.cells p.l.toArray 153)).heap.size=w.heap.size+1:=XS _ _;have l:=Po (r:=r) (w:=(w.alloc (.cells p.l.toArray 153)));generalize n:w.alloc (.cells p.l.toArray 153)=c at i g l;have f2:=aM (T:=159) (z:=[jZ r]) (Hid.mk' g) (Hid.mk' rfl);have m:(c.alloc (.cells [jZ r].toArray 159)).heap.size=w.heap.size+2:=by rw[XS,g]
 rw[g]at l;have d:(Yu 159 (lgV r)).run prog c=.ok (jZ (w.heap.size+1)) (c.alloc (.cells [jZ r].toArray 159)):=l;generalize c.alloc (.cells [jZ r].toArray 159)=f at f2 m d;have f3:=aM (T:=44) (z:=RG.z 4) (Hid.mk' m) (Hid.mk' rfl);refine⟨_,c,f,_,rfl,m,rfl,?_,d,?_⟩
 .rw[<-n];exact My t w
 have e:=f2.1.trans (f3.1.mono f2.1.size);have b:=i.1.trans (e.mono i.1.size);exact⟨SP.Only.of_below b rfl j,i.2.below e,f2.2.below f3.1,f3.2,⟨rfl,j⟩,Holds.below o b j,q⟩
end
def mdL(L C D:Bs):Bs:=kH [116,104,105,114,100] [102,111,117,114,116,104] L C D
def P5(O:Ord N)(p:Rp)(d:p.Ok)(r:Nat)(L:Bs)(w:XF)(G:hZ w r 0 L)(A:L.size=32):
 cZ 85 #[.agg p.l.toArray,lgV r] w (Ret λe w'=>SP.Only r 0 32 w w'/\hZ w' r 0 (aX (mdL L p.c p.d))/\e=nv (chS N (mdL L p.c p.d))):=by
 obtain⟨t,i⟩:=hE (mdL L p.c p.d);obtain⟨a,c⟩:=hE (aX t);obtain⟨x,hx⟩:=hE (chS N t);have s2:a.size=32:=c.out▸bD;rw[i.out,c.out,hx.out];have H:Hid (∀(W:XF),hZ W r 0 L->cZ 135 #[lgV r,.string ⟨#[116,104,105,114,100]⟩,pvl p.c,.string ⟨#[102,111,117,114,116,104]⟩,pvl p.d] W (Ret λe w'=>SP.Only r 0 32 W w'/\hZ w' r 0 a/\e=nv x)):=λW h=>by
  rw[<-hx.out,<-c.out,<-i.out];exact uM O r L p.c p.d ⟨#[116,104,105,114,100]⟩ ⟨#[102,111,117,114,116,104]⟩ dC dC d.c d.d W h A
 obtain⟨k,F,P,R,T,M,q,B,y,n⟩:=Lc d G A;obtain⟨E,j⟩:=hE (Yg p.l.toArray);obtain⟨vl,b⟩:=hE (lgV r);obtain⟨V,f⟩:=hE (pvl p.c);obtain⟨X,g⟩:=hE (pvl p.d);rw[j.out]at B;have C:=mk1 (H R n.lg);rw[b.out]at y;rw[b.out,f.out,g.out]at C;rw[j.out,b.out];have Q:gZ 51 (aA p.c).length:=by rw[aB d.c];exact iCP
 have J:gZ 51 (aA p.d).length:=by rw[aB d.d];exact iCP
 have z:=mk1 (Rp.at7 d n.r2.2.1);go_enter func85,ntmps85;go_wp2_with (first|(refine aG (u:=E) (v:=jZ k) (w':=F) rfl _ (.tmp 0) rfl ?_ ?_ ?_;rfl;exact B)|(refine aG (u:=vl) (v:=jZ (k+1)) (w':=P) rfl _ (.tmp 1) rfl ?_ ?_ ?_;rfl;exact y)|(refine alR 4 M q ?_)|(refine ldR 3 n.r3.2.1 b uLg iLg ?_)|(refine ldR 6 z.2.2.1 f uCP Q ?_)|(refine ldR 8 z.2.2.2.1 g uCP J ?_)|fail)
 refine C.mono ?_;rintro e D ⟨S,rfl,K,I,rfl⟩;have s:=mk1 (n.say K I s2);obtain⟨Y,l⟩:=hE (D.setCells (k+2) 0 (wn x));have o:=mk1 (s.put l);obtain⟨U,m⟩:=hE (nv x);rw[m.out];go_wp2_with (first|(refine stR 4 l m s.r4.2.2 i40 aI ?_)|fail)
 refine XR (aF 4 rfl o.r4 rfl u40 i40) rfl ?_;exact⟨_,rfl,o.on,o.lg,rfl⟩
def Vq{L:Nat->Bs}:iH L 3=(L 0).toList++((L 1).toList++(L 2).toList):=by simp[iH,yA2]
def IA{B n:Nat}{w:XF}{v:XG}{x:List UInt8}(h:w.ownsRow B 5 1 v n (x.map encB))(f:0<n)(r:n<=1000000):∃q c,v=.slice q n c/\PartOk w v x:=by
 have e:x.length=n:=by have:=h.1;rw[X7,yAe]at this;exact this
 rcases id h with⟨-,⟨rfl,f⟩|⟨g,cap,cur,rfl,o,d,m,s,l,p⟩⟩
 .omega
 .have hx:x.toArray.size=n:=by rw[YJ];exact e
  refine⟨_,_,rfl,some (aZ g),g,0,cap,x.toArray,by rw[hx],rfl,oM,oM,Yd ⟨rfl,λj i=>?_⟩⟩;have k:=oM;have b:=h.cells (g:=g) rfl j (encB x[j]) (by rw[YC,XV k];rfl);rw[gU]at b;refine⟨by rw[b,getElem!_pos _ j i];simp;rfl,?_⟩;simp[Zt,d]
def Xr{g b k:Nat}{w:XF}:(YF 27 3 #[(0,r32 g),(1,r32 b),(2,r32 k)]).run prog w=.ok (sZ w.heap.size 3 3) (w.alloc (.cells #[r32 g,r32 b,r32 k] 23)):=kR
def enB(u m t:Nat):List UInt8:=(bx u).toList++((bx m).toList++(bx t).toList)
def enL(L:Bs)(u m t:Nat):Bs:=wJ L [115,117,109,115] (enB u m t)
def ElQ.el{Q:Nat->Prop}{m:Nat}{W:XF}{x:XG}{b:Bs}(h:ElQ Q m W x b):El m W x b:=by
 obtain⟨k,c,d,g,e,-,i,f⟩:=h;exact⟨k,c,d,g,e,i,f⟩
def Ql(O:Ord N)(p:Rp)(hp:p.Ok)(hu:p.u<N)(hm:p.m<N)(ht:p.t<N)(r:Nat)(L:Bs)(w:XF)(hL:hZ w r 0 L)(hl:L.size=32):
 cZ 88 #[.agg p.l.toArray,lgV r] w (Ret λe w'=>SP.Only r 0 32 w w'/\hZ w' r 0 (aX (enL L p.u p.m p.t))/\e=nv (chS N (enL L p.u p.m p.t))):=by
 obtain⟨K,f⟩:=hE (enL L p.u p.m p.t);obtain⟨L2,l⟩:=hE (aX K);obtain⟨x,hx⟩:=hE (chS N K);have s1:K.size=32:=f.out▸lI;have s2:L2.size=32:=l.out▸bD;have HC:Hid (∀(W:XF),hZ W r 0 K->cZ 136 #[lgV r] W (Ret λe w'=>SP.Only r 0 32 W w'/\hZ w' r 0 L2/\e=nv x)):=λW h=>by
  rw[<-hx.out,<-l.out];exact zS O r K W h s1
 rw[f.out,l.out,hx.out];unfold enL enB at f;have i:=λ(a:Nat) (ha:a<N) (W:XF)=>eI O ha W
 have b1:=λW=>i p.u hu W
 have b2:=λW=>i p.m hm W
 have b3:=λW=>i p.t ht W
 have sz:∀a:Nat,(bx a).size=32:=cU;have d:=mk3 (sz p.u) (sz p.m) (sz p.t);have Q:=mk3 b1 b2 b3;clear b1 b2 b3 i hu hm ht sz l hx;generalize bx p.u=o at *;generalize bx p.m=n at *;generalize bx p.t=m at *;obtain⟨vu,B⟩:=hE (nv p.u);obtain⟨vm,z⟩:=hE (nv p.m);obtain⟨vt,G⟩:=hE (nv p.t);rw[B.out,z.out,G.out]at Q;obtain⟨k,w1,w2,T,hk,z2,X,B1,B2,g⟩:=Lc hp hL hl;obtain⟨vp,A⟩:=hE (Yg p.l.toArray);obtain⟨vl,c⟩:=hE (lgV r);rw[A.out]at B1;rw[c.out]at B2;rw[A.out,c.out];clear hL;have HP:=mk1 hp;go_enter func88,ntmps88;go_wp2_with (first|(refine aG (u:=vp) (v:=jZ k) (w':=w1) rfl _ (.tmp 0) rfl ?_ ?_ ?_;rfl;exact B1)|(refine aG (u:=vl) (v:=jZ (k+1)) (w':=w2) rfl _ (.tmp 1) rfl ?_ ?_ ?_;rfl;exact B2)|(refine alR 4 z2 X ?_)|fail)
 have n3:Hid (k+1≠r):=by have:=g.rk;show _≠_;omega
 have n2:Hid (k≠r):=by have:=g.rk;show _≠_;omega
 refine AW.beg 14 14 (SP.Only.of_below (⟨rfl,rfl,rfl,XH _,λ_ _=>rfl⟩:kZ T T.drew) rfl g.lt) ?_;refine AW.va 0 (jZ (k+1)) ?_;refine AW.va 1 (jZ (k+1)) ?_;refine AW.ce 2 uLp (λW b=>(g.r3.only b n3).2.1 0 _ rfl) ?_;refine AW.va 3 (oZ k 132) ?_;refine AW.ro 4 (λW b=>(Rp.at7 HP (g.r2.only b n2).2.1).2.2.2.2.1) B u40 i40 ?_;refine AW.va 6 (oZ k 136) ?_;refine AW.ro 7 (λW b=>(Rp.at7 HP (g.r2.only b n2).2.1).2.2.2.2.2.1) z u40 i40 ?_;refine AW.va 9 (oZ k 140) ?_;refine AW.ro 10 (λW b=>(Rp.at7 HP (g.r2.only b n2).2.1).2.2.2.2.2.2) G u40 i40 ?_;refine AW.ca 5 (λ_=>Q.1 _) (λe w' h=>h.1) ?_;rintro e w4 ⟨t,Y,M,rfl⟩;refine AW.ca 8 (λ_=>Q.2.1 _) (λe w' h=>h.1) ?_;rintro e w5 ⟨E,Z,J,rfl⟩;refine AW.ca 11 (λ_=>Q.2.2 _) (λe w' h=>h.1) ?_;rintro e I ⟨D,h0,C,rfl⟩;have F:=aC (w:=I) (.cells #[r32 M,r32 J,r32 C] 23);have S:=row_new I [r32 M,r32 J,r32 C] 23;have s:=E.trans (D.mono E.size);have E1:=(Y.keep (Kq.of_below s)).keep (Kq.of_below F);have E2:=(Z.keep (Kq.of_below D)).keep (Kq.of_below F);have E3:=h0.keep (Kq.of_below F);refine AW.ns 12 Xr F ?_;have q:=mk1 (Dt I.heap.size 3 3 (λj=>if j=0 then o else if j=1 then n else m) dC (λj hj=>by
  match j,hj with
  | 0,_=>show o.size<=10000;rw[d.1];decide
  | 1,_=>show n.size<=10000;rw[d.2.1];decide
  | 2,_=>show m.size<=10000;rw[d.2.2];decide) (I.alloc (.cells #[r32 M,r32 J,r32 C] 23)) S.1 λj hj=>by
  match j,hj with
  | 0,_=>exact⟨r32 M,S.2.1 0 _ rfl,by show El o.size _ _ o;rw[d.1];exact E1.el⟩
  | 1,_=>exact⟨r32 J,S.2.1 1 _ rfl,by show El n.size _ _ n;rw[d.2.1];exact E2.el⟩
  | 2,_=>exact⟨r32 C,S.2.1 2 _ rfl,by show El m.size _ _ m;rw[d.2.2];exact E3.el⟩)
 have U:(iH (λj=>if j=0 then o else if j=1 then n else m) 3)=o.toList++(n.toList++m.toList):=Vq;rw[U]at q;have h1:(o.toList++(n.toList++m.toList)).length=96:=by simp only[XP,X0,d.1,d.2.1,d.2.2]
 generalize o.toList++(n.toList++m.toList)=xx at *;rw[h1]at q;have P:=mk1 (((XX _ T).drew.trans (t.trans (s.mono t.size))).trans (F.mono (XN t.size s.size)));refine AW.ca 13 (λ_=>q) (λe w' h=>h.1) ?_;rintro e w8 ⟨h3,h4⟩;obtain⟨qa,qc,rfl,h2⟩:=IA h4 dC dC;have K8:=mk1 (g.grow (P.trans (h3.mono P.size)));refine AW.cw 14 (λ_=>Rm dC K8.lg hl h2) (λe w' hI h=>hI.trans h.2.1) ?_;rintro e w9 ⟨rfl,b,R⟩;rw[show(⟨#[115,117,109,115]⟩:ByteArray).data.toList=[115,117,109,115] from rfl,f.out]at R;have K9:=mk1 (K8.say b R s1);refine AW.dn λ_=>?_
 have HD:=mk1 (HC w9 K9.lg);rw[c.out]at HD;go_wp2_with (first|(refine ldR 3 K9.r3.2.1 c uLg iLg ?_)|fail)
 refine HD.mono ?_;rintro e wA ⟨uu,rfl,b,R,rfl⟩;have KA:=mk1 (K9.say b R s2);obtain⟨wB,y⟩:=hE (wA.setCells (k+2) 0 (wn x));have V:=mk1 (KA.put y);obtain⟨vx,H⟩:=hE (nv x);rw[H.out];go_wp2_with (first|(refine stR 4 y H KA.r4.2.2 i40 aI ?_)|fail)
 refine XR (aF 4 rfl V.r4 rfl u40 i40) rfl ?_;exact⟨_,rfl,V.on,V.lg,rfl⟩
end
section
variable {P:Nat}[NeZero P]{N:Nat}
def uAr:yZ 66:=yQ
def iAr:gZ 66 11:=gQ
def VE{a b c d:XG}{w:XF}:(Yu 64 (.agg #[a,b,c,d])).run prog w=.ok (jZ w.heap.size) (w.alloc (.cells #[a,b,c,d] 64)):=kR
def z11:List XG:=YR 11 nZ
structure RgT(Q:Nat->Prop)(W:XF)(p:Rp)(a b c d e f g:Nat):Prop where
 a:ElQ Q 33 W (r33 a) p.a
 b:ElQ Q 33 W (r33 b) p.s
 c:ElQ Q 33 W (r33 c) p.c
 d:ElQ Q 33 W (r33 d) p.d
 e:ElQ Q 32 W (r32 e) (bx p.u)
 f:ElQ Q 32 W (r32 f) (bx p.m)
 g:ElQ Q 32 W (r32 g) (bx p.t)
def RgT.keep{Q:Nat->Prop}{W W':XF}{p:Rp}{a b c d e f g:Nat}(h:RgT Q W p a b c d e f g)(k:Kq Q W W'):RgT Q W' p a b c d e f g:=⟨h.a.keep k,h.b.keep k,h.c.keep k,h.d.keep k,h.e.keep k,h.f.keep k,h.g.keep k⟩
def RgT.mono2{Q Q':Nat->Prop}{W:XF}{p:Rp}{a b c d e f g:Nat}(h:RgT Q W p a b c d e f g)(k:∀g,g<W.heap.size->Q g->Q' g):RgT Q' W p a b c d e f g:=⟨h.a.mono2 k,h.b.mono2 k,h.c.mono2 k,h.d.mono2 k,h.e.mono2 k,h.f.mono2 k,h.g.mono2 k⟩
def QU(O:Ord N)(p:Rp)(P:p.Ok)(hu:p.u<N)(hm:p.m<N)(ht:p.t<N)(n r l s:XG)(h1:n.oneCell'=true/\r.oneCell'=true/\l.oneCell'=true/\s.oneCell'=true)(w:XF):
 cZ 89 #[.agg p.l.toArray,.agg #[n,r,l,s]] w (rZ w λe w'=>∃a b c d u m t,e=.agg #[r33 a,r33 b,r33 c,r33 d,r32 u,r32 m,r32 t,n,r,l,s]/\RgT (w.heap.size<=·) w' p a b c d u m t):=by
 have x:=mk7 (λW=>eJ P.a) (λW=>eJ P.s) (λW=>eJ P.c) (λW=>eJ P.d) (λW=>eI O hu W) (λW=>eI O hm W) (λW=>eI O ht W);obtain⟨va,h5⟩:=hE (pvl p.a);obtain⟨vs,h4⟩:=hE (pvl p.s);obtain⟨vc,h7⟩:=hE (pvl p.c);obtain⟨vd,h8⟩:=hE (pvl p.d);obtain⟨vu,h3⟩:=hE (nv p.u);obtain⟨vm,Z⟩:=hE (nv p.m);obtain⟨vt,h6⟩:=hE (nv p.t);rw[h5.out,h4.out,h7.out,h8.out,h3.out,Z.out,h6.out]at x;have iP:∀ {b:Bs},b.size=33->gZ 51 (aA b).length:=λh=>by rw[aB h];exact iCP
 obtain⟨k,hk⟩:=hE (w.heap.size);obtain⟨U,A⟩:=hE (lZ w p.l 153);obtain⟨k3,E⟩:=hE (U.heap.size);obtain⟨w2,G⟩:=hE (U.alloc (.cells [n,r,l,s].toArray 64));obtain⟨k4,B⟩:=hE (w2.heap.size);obtain⟨J,h0⟩:=hE (lZ w2 z11 66);have F:=Pp hk A E G B h0;have ha:w.heap.size<=k4/\k4<J.heap.size:=⟨B.out▸XN (aM hk A).1.size (aM E G).1.size,F.2.2.2.1⟩
 have i:=mk2 ha h1;obtain⟨vp,h2⟩:=hE (Yg p.l.toArray);obtain⟨vi,o⟩:=hE (Yg #[n,r,l,s]);have B1:Hid ((Yu 153 vp).run prog w=.ok (jZ k) U):=h2.out▸A.out▸hk.out▸My P w;have B2:Hid ((Yu 64 vi).run prog U=.ok (jZ k3) w2):=o.out▸G.out▸E.out▸VE;have HP:=mk1 P;rw[h2.out,o.out];go_enter func89,ntmps89;go_wp2_with (first|(refine aG (u:=vp) (v:=jZ k) (w':=U) rfl _ (.tmp 0) rfl ?_ ?_ ?_;rfl;exact B1)|(refine aG (u:=vi) (v:=jZ k3) (w':=w2) rfl _ (.tmp 1) rfl ?_ ?_ ?_;rfl;exact B2)|(refine alR 4 B h0 ?_)|fail)
 have z:∀W,kZ J W->_:=λW f=>Rp.at7 HP (F.2.1.below f).2.1
 refine AW.begin 23 23 ?_;refine AW.va 0 (jZ k) ?_;refine AW.ro 1 (λW f=>(z W f).1) h5 uCP (iP HP.a) ?_;refine AW.va 3 (oZ k 33) ?_;refine AW.ro 4 (λW f=>(z W f).2.1) h4 uCP (iP HP.s) ?_;refine AW.va 6 (oZ k 66) ?_;refine AW.ro 7 (λW f=>(z W f).2.2.1) h7 uCP (iP HP.c) ?_;refine AW.va 9 (oZ k 99) ?_;refine AW.ro 10 (λW f=>(z W f).2.2.2.1) h8 uCP (iP HP.d) ?_;refine AW.va 12 (oZ k 132) ?_;refine AW.ro 13 (λW f=>(z W f).2.2.2.2.1) h3 u40 i40 ?_;refine AW.va 15 (oZ k 136) ?_;refine AW.ro 16 (λW f=>(z W f).2.2.2.2.2.1) Z u40 i40 ?_;refine AW.va 18 (oZ k 140) ?_;refine AW.ro 19 (λW f=>(z W f).2.2.2.2.2.2) h6 u40 i40 ?_;refine AW.ro 21 (λW f=>(F.2.2.1.below f).2.1) o Nt Ll ?_;refine AW.ca 2 (λ_=>x.1 _) (λe w' h=>h.1) ?_;rintro e w4 ⟨hc,E1,Y,rfl⟩;refine AW.ca 5 (λ_=>x.2.1 _) (λe w' h=>h.1) ?_;rintro e w5 ⟨D,E2,V,rfl⟩;refine AW.ca 8 (λ_=>x.2.2.1 _) (λe w' h=>h.1) ?_;rintro e w6 ⟨C,E3,R,rfl⟩;refine AW.ca 11 (λ_=>x.2.2.2.1 _) (λe w' h=>h.1) ?_;rintro e w7 ⟨y,E4,L,rfl⟩;refine AW.ca 14 (λ_=>x.2.2.2.2.1 _) (λe w' h=>h.1) ?_;rintro e w8 ⟨H,E5,Q,rfl⟩;refine AW.ca 17 (λ_=>x.2.2.2.2.2.1 _) (λe w' h=>h.1) ?_;rintro e w9 ⟨I,E6,S,rfl⟩;refine AW.ca 20 (λ_=>x.2.2.2.2.2.2 _) (λe w' h=>h.1) ?_;rintro e X ⟨h9,E7,M,rfl⟩;rw[<-o.out];refine AW.nx 22 (.agg #[r33 Y,r33 V,r33 R,r33 L,r32 Q,r32 S,r32 M,n,r,l,s]) ?_;have b9:=h9;have b8:=I.trans (b9.mono I.size);have b7:=H.trans (b8.mono H.size);have b6:=y.trans (b7.mono y.size);have b5:=C.trans (b6.mono C.size);have b4:=D.trans (b5.mono D.size);have s3:=hc.size;have q:∀ {W:XF}{m:Nat}{v:XG}{b:Bs},J.heap.size<=W.heap.size->ElQ (W.heap.size<=·) m X v b->ElQ (J.heap.size<=·) m X v b:=λhW h=>h.mono2 λg _ K=>XN hW K
 have t5:=XN s3 D.size;have t6:=XN t5 C.size;have t7:=XN t6 y.size;have t8:=XN t7 H.size;have t9:=XN t8 I.size;have T:Hid (RgT (J.heap.size<=·) X p Y V R L Q S M):=⟨(E1.keep (Kq.of_below b4)).mono2 λg _ K=>K,q s3 (E2.keep (Kq.of_below b5)),q t5 (E3.keep (Kq.of_below b6)),q t6 (E4.keep (Kq.of_below b7)),q t7 (E5.keep (Kq.of_below b8)),q t8 (E6.keep (Kq.of_below b9)),q t9 E7⟩
 refine AW.fi (us:=[r33 Y,r33 V,r33 R,r33 L,r32 Q,r32 S,r32 M,n,r,l,s]) (Hid.mk' rfl) (by simp only[yAR,List.all_cons,List.all_nil,i.2.1,i.2.2.1,i.2.2.2.1,i.2.2.2.2,show ∀g,(r33 g).oneCell'=true from λ_=>rfl,show ∀g,(r32 g).oneCell'=true from λ_=>rfl,yDd]) iAr (λf=>?_);obtain⟨wB,j⟩:=hE (X.setCells k4 0 [r33 Y,r33 V,r33 R,r33 L,r32 Q,r32 S,r32 M,n,r,l,s]);have r4:=F.2.2.2.below f;have KE:Hid (X.there k4 0 11/\Row wB k4 [r33 Y,r33 V,r33 R,r33 L,r32 Q,r32 S,r32 M,n,r,l,s]/\kZ w wB/\RgT (w.heap.size<=·) wB p Y V R L Q S M):=by
  have kq:Kq (J.heap.size<=·) X wB:=by rw[<-j.out];exact Kq.set λg K=>oN i.1
  refine⟨r4.2.2,j.out▸r4.put rfl,j.out▸RG.below_setCells i.1.1 _ _ _ (F.1.trans (f.mono F.1.size)),(T.keep kq).mono2 λg _ K=>XN F.1.size K⟩
 rw[j.out];refine⟨KE.1,?_⟩;go_wp2_with fail
 refine XR (aF 4 rfl KE.2.1 rfl uAr iAr) rfl ?_;exact⟨_,rfl,KE.2.2.1,_,_,_,_,_,_,_,rfl,KE.2.2.2⟩
end
section
variable {N:Nat}
structure Pq where
 p:(Nat->Prop)->XF->Prop
 kp:∀Q W W',Kq Q W W'->p Q W->p Q W'
 mo:∀Q Q' W,(∀g,g<W.heap.size->Q g->Q' g)->p Q W->p Q' W
abbrev pqS(v:XG)(n:Nat)(a:Nat->Nat):Pq:=⟨λQ W=>SLq Q W v n a,λ_ _ _ k h=>h.keep k,λ_ _ _ m h=>h.mono2 m⟩
abbrev pqG(v:XG)(n:Nat)(G H:Nat->LB)(U:LB):Pq:=⟨λQ W=>GRq Q W v n G H U,λ_ _ _ k h=>h.keep k,λ_ _ _ m h=>h.mono2 m⟩
abbrev pqM(v:XG)(l:LB):Pq:=⟨λQ W=>SmQ Q W v l,λ_ _ _ k h=>h.keep k,λ_ _ _ m h=>h.mono2 m⟩
def Nk(rs:List (Nat × List XG))(g:Nat):Prop:=g ∉ rs.map (·.1)
structure Mp(w W:XF)(rs:List (Nat × List XG))(S:List Pq):Prop where
 bl:kZ w W
 rw:∀x∈rs,w.heap.size<=x.1/\Row W x.1 x.2
 nd:(rs.map (·.1)).Nodup
 ob:∀s∈S,s.p (Nk rs) W
namespace Mp
variable {w W W':XF}{rs rs':List (Nat × List XG)}{S S':List Pq}{k r i:Nat}{c c':List XG}{L L':Bs}
def start(w:XF):Mp w w [] []:=⟨XX _ _,λ_ h=>(Yf h).elim,yEe,λ_ h=>(Yf h).elim⟩
def grow(h:Mp w W rs S)(k:kZ W W'):Mp w W' rs S:=⟨h.bl.trans (k.mono h.bl.size),λx hx=>⟨(h.rw x hx).1,(h.rw x hx).2.below k⟩,h.nd,λs b=>s.kp _ _ _ (Kq.of_below k) (h.ob s b)⟩
def drew(h:Mp w W rs S):Mp w W.drew rs S:=h.grow ⟨rfl,rfl,rfl,XH _,λ_ _=>rfl⟩
def lt(h:Mp w W rs S){g:Nat}(k:g∈rs.map (·.1)):w.heap.size<=g/\g<W.heap.size:=by
 obtain⟨x,hx,rfl⟩:=YD.1 k;exact⟨(h.rw x hx).1,(h.rw x hx).2.1⟩
def nk(h:Mp w W rs S)(g:Nat)(k:W.heap.size<=g):Nk rs g:=λe=>oN ((h.lt e).2)
def at_(h:Mp w W rs S)(i:Nat)(b:rs[i]? = some (k,c):=by rfl):Row W k c:=(h.rw _ (YZ b)).2
def key(b:rs[i]? = some (k,c)):k∈rs.map (·.1):=YD.2 ⟨_,YZ b,rfl⟩
def get(h:Mp w W rs S)(j:Nat){s:Pq}(k:S[j]? = some s:=by rfl):s.p (Nk rs) W:=h.ob _ (YZ k)
def has(h:Mp w W rs S)(s:Pq)(k:s.p (Nk rs) W)(e:S++[s]=S':=by(simp only[ZS,Z1])<;>rfl):Mp w W rs S':=e ▸ ⟨h.bl,h.rw,h.nd,λx hx=>by
 rcases Zh.1 hx with hx|hx
 .exact h.ob x hx
 .rw[Ze.1 hx];exact k⟩
def gets(h:Mp w W rs S)(c:kZ W W')(s:Pq)(b:s.p (W.heap.size<=·) W')(e:S++[s]=S':=by(simp only[ZS,Z1])<;>rfl):Mp w W' rs S':=(h.grow c).has s (s.mo _ _ _ (λg _ k=>h.nk g k) b) e
def q(_:Mp w W rs S):∃Q,Hid (Nk rs=Q):=⟨_,rfl⟩
def wL{Q:Nat->Prop}(h:Mp w W rs S)(b:Hid (Nk rs=Q))(j:Nat){s:Pq}(k:S[j]? = some s:=by rfl):s.p Q W:=b.out▸h.get j k
def nkq{Q:Nat->Prop}(h:Mp w W rs S)(b:Hid (Nk rs=Q))(g:Nat)(k:W.heap.size<=g):Q g:=b.out▸h.nk g k
def OM{Q:Nat->Prop}(h:Mp w W rs S)(b:Hid (Nk rs=Q))(s:Pq)(k:s.p Q W)(e:S++[s]=S':=by(simp only[ZS,Z1])<;>rfl):Mp w W rs S':=h.has s (b.out▸k) e
def ne{Q:Nat->Prop}(_:Mp w W rs S)(f:Hid (Nk rs=Q))(i:Nat)(d:rs[i]? = some (k,c):=by rfl)(g:Nat)(b:Q g):g≠k:=λe=>by
 rw[<-f.out]at b;exact b (by rw[e];exact YD.2 ⟨_,YZ d,rfl⟩)
def add(h:Mp w W rs S)(i:kZ W W')(n:Row W' k c)(m:W.heap.size<=k)(e:rs++[(k,c)]=rs':=by(simp only[ZS,Z1])<;>rfl):Mp w W' rs' S:=by
 subst e;have f:=h.grow i;refine⟨f.bl,λx hx=>?_,?_,λs j=>?_⟩
 .rcases Zh.1 hx with hx|hx
  .exact f.rw x hx
  .rw[Ze.1 hx];exact⟨XN h.bl.size m,n⟩
 .rw[Y5,yBO];refine⟨h.nd,by simp,λa l b d e=>?_⟩;have o:=(h.lt l).2;simp at d;omega
 .refine s.kp _ _ _ (Kq.of_below i) (s.mo _ _ _ (λg l d e=>?_) (h.ob s j));rw[Y5,Zh]at e;rcases e with e|e
  .exact d e
  .simp at e;omega
def adds(h:Mp w W rs S)(l:kZ W W')(ns:List (Nat × List XG))(d:(ns.map (·.1)).Nodup)(k:∀x∈ns,W.heap.size<=x.1/\Row W' x.1 x.2)(e:rs++ns=rs':=by(simp only[ZS,Z1])<;>rfl):Mp w W' rs' S:=by
 subst e;have j:=h.grow l;have i:∀g,g∈ns.map (·.1)->W.heap.size<=g:=λg f=>by
  obtain⟨x,hx,rfl⟩:=YD.1 f;exact(k x hx).1
 refine⟨j.bl,λx hx=>?_,?_,λs m=>?_⟩
 .rcases Zh.1 hx with hx|hx
  .exact j.rw x hx
  .exact⟨XN h.bl.size (k x hx).1,(k x hx).2⟩
 .rw[Y5,yBO];refine⟨h.nd,d,λa n b c e=>?_⟩;have o:=(h.lt n).2;have p:=i b c;omega
 .refine s.kp _ _ _ (Kq.of_below l) (s.mo _ _ _ (λg f d e=>?_) (h.ob s m));rw[Y5,Zh]at e;rcases e with e|e
  .exact d e
  .have:=i g e;omega
def new{T:Yj}(h:Mp w W rs S)(b:Hid (W.heap.size=k))(d:Hid (W.alloc (.cells c.toArray T)=W'))(e:rs++[(k,c)]=rs':=by(simp only[ZS,Z1])<;>rfl):Mp w W' rs' S:=by
 have f:=aM b d;exact h.add f.1 f.2 (yBh b) e
def keys(b:rs[i]? = some (k,c)):(rs.set i (k,c')).map (·.1)=rs.map (·.1):=by
 rw[List.map_set];refine List.ext_getElem? λj=>?_
 rw[List.getElem?_set];have d:=(XT.1 b).1;split
 .rename_i e
  subst e;rw[yE3 (by simpa using d),YC,b];rfl
 .rfl
def UB(b:rs[i]? = some (k,c)):Nk (rs.set i (k,c'))=Nk rs:=funext λg=>by unfold Nk;rw[keys b]
def turn(h:Mp w W rs S)(d:rs[i]? = some (k,c))(B:kZ w W')(u:W.heap.size<=W'.heap.size)(ho:∀g,g≠k->g<W.heap.size->W'.heap[g]? = W.heap[g]?)(A:Row W' k c'):Mp w W' (rs.set i (k,c')) S:=by
 refine⟨B,λx hx=>?_,by rw[keys d];exact h.nd,λs l=>?_⟩
 .have a:=hx;obtain⟨j,p,e⟩:=List.mem_iff_getElem.1 hx;rw[List.length_set]at p;rw[List.getElem_set]at e;by_cases b:i=j
  .rw[yE3 b]at e;rw[<-e];exact⟨(h.lt (key d)).1,A⟩
  .rw[yE4 b]at e;have z:=List.getElem_mem p;have hh:=h.rw _ z;rw[<-e];have m:rs[j].1≠k:=λe'=>by
    have o:=(XT.1 d)
    obtain⟨q,f⟩:=o;have r:=List.pairwise_iff_getElem.1 h.nd;have v:(rs.map (·.1))[i]'(by simpa using q)=k:=by rw[yAj,f]
    have t:(rs.map (·.1))[j]'(by simpa using p)=k:=by rw[yAj];exact e'
    rcases Zx i j with n|y
    .exact r i j _ _ n (v.trans t.symm)
    .exact r j i _ _ oM (t.trans v.symm)
   exact⟨hh.1,aS hh.2 u (ho _ m hh.2.1)⟩
 .rw[UB d];exact s.kp _ _ _ ⟨u,λg b o=>ho g (λe=>b (by rw[e];exact key d)) o⟩ (h.ob s l)
def upd{o:Nat}{us:List XG}(h:Mp w W rs S)(i:Nat)(b:Hid (W.setCells k o us=W'))(f:Row (W.setCells k o us) k c')(d:rs[i]? = some (k,c):=by rfl)(e:rs.set i (k,c')=rs':=by(simp only[XM,XO])<;>rfl):Mp w W' rs' S:=by
 subst e;rw[b.out]at f;refine h.turn d ?_ ?_ (λg j _=>?_) f
 .rw[<-b.out];exact RG.below_setCells (h.lt (key d)).1 _ _ _ h.bl
 .rw[<-b.out,setCells_size];exact XH _
 .rw[<-b.out];exact aE us o W g j
def put(h:Mp w W rs S)(i:Nat)(d:Hid (W.setCells k 0 c'=W'))(b:rs[i]? = some (k,c):=by rfl)(f:c'.length=c.length:=by rfl)(e:rs.set i (k,c')=rs':=by(simp only[XM,XO])<;>rfl):Mp w W' rs' S:=h.upd i d ((h.at_ i b).put f) b e
def th(h:Mp w W rs S)(i:Nat)(b:rs[i]? = some (k,c):=by rfl)(d:c'.length=c.length:=by rfl):W.there k 0 c'.length:=by rw[d];exact(h.at_ i b).2.2
def say(h:Mp w W rs S)(i:Nat)(k:SP.Only r 0 32 W W')(d:hZ W' r 0 L')(b:rs[i]? = some (r,aA L):=by rfl)(e:rs.set i (r,aA L')=rs':=by(simp only[XM,XO])<;>rfl):Mp w W' rs' S:=by
 subst e;have c:=h.lt (key b);refine h.turn b (h.bl.trans (yO k h.bl.size c.1)) k.size (λg f j=>k.block g j f) (qV d (XI c.2 k.size))
def log(h:Mp w W rs S)(i:Nat)(k:rs[i]? = some (r,aA L):=by rfl):hZ W r 0 L:=row_holds (h.at_ i k)
def wk(h:Mp w W rs S)(i:Nat)(b:rs[i]? = some (k,c):=by rfl):∃c,Mp w W (rs.set i (k,c)) S:=⟨c,by
 obtain⟨e,d⟩:=XT.1 b;rw[<-d,List.set_getElem_self];exact h⟩
end Mp
abbrev Iv.mx(w:XF)(rs:List (Nat × List XG))(S:List Pq)(i k:Nat)(b:Bool):Iv:=⟨λW=>∃c,Mp w W (rs.set i (k,c)) S,λ_ _ d ⟨c,h⟩=>⟨c,h.grow d⟩,b⟩
abbrev Iv.mp(w:XF)(rs:List (Nat × List XG))(S:List Pq)(b:Bool):Iv:=⟨λW=>Mp w W rs S,λ_ _ k h=>h.grow k,b⟩
end
namespace SPA
variable {N:Nat}[NeZero N]{M:Type}
namespace Md
variable (D:Md N M)
def cancel(a b c:M):D.ad a b=D.ad a c↔b=c:=by
 constructor
 .intro h;have k:D.ad (D.ac (-1) a) (D.ad a b)=D.ad (D.ac (-1) a) (D.ad a c):=by rw[h]
  rw[<-D.assoc,<-D.assoc,D.comm _ a,D.BO,D.zadd,D.zadd]at k;exact k
 .rintro rfl;rfl
def JU(Y W T:Nat->(Fin N))(z:(Fin N))(k:Nat->M)(n:Nat)(h:∀i,i<n->Y i*W i=1):
 D.dt (λi=>z*Y i+z*z*T i) (λi=>D.ac (W i) (k i)) n=D.dt (λi=>z+z*z*(T i*W i)) k n:=
 D.zH n λi b=>by
  have c:=h i b;rw[D.acAc,show(z*Y i+z*z*T i)*W i=z+z*z*(T i*W i) by
   grind]
def Ij(H G:M)(t d tau:(Fin N))(A B E:M):D.cm H G (t-d) tau=D.ad (D.ad A B) E↔D.cm H G t tau=D.ad (D.ad A (D.ac d H)) (D.ad B E):=by
 rw[<-D.cancel (D.ac d H)];have k:D.ad (D.ac d H) (D.cm H G (t-d) tau)=D.cm H G t tau:=by
  unfold cm;rw[<-D.assoc,<-D.adAc,show d+(t-d)=t by grind]
 have b:D.ad (D.ac d H) (D.ad (D.ad A B) E)=D.ad (D.ad A (D.ac d H)) (D.ad B E):=by ac_rfl
 rw[k,b]
def Ir(A X G:M)(mu x t w:(Fin N))(L K U:M):
 D.ad (D.ad (D.ad (D.ad A (D.ac x X)) (D.ac (-1) (D.ac mu G))) (D.ad L K)) (D.ac t (D.ac w U))=D.ad (D.ad (D.ad (D.ad A (D.ac x X)) (D.ac (-mu) G)) (D.ad L K)) (D.ac (t*w) U):=by
 rw[D.acAc,D.acAc,show(-1:(Fin N))*mu = -mu by grind]
end Md
end SPA
section
open SPA
variable {N:Nat}[NeZero N]{M:Type}
structure Rv(N:Nat) where
 v:Nat
 n:Nat
 s:Nat->Fin N
 q:Nat->Fin N
 al:Fin N
 rho:Fin N
 t1:Fin N
 t2:Fin N
 k:Fin N
 y:Fin N
 z:Fin N
 x:Fin N
 w:Fin N
namespace Rv
variable (R:Rv N)
def l(i:Nat):Fin N:=btF N R.v i
def m(i:Nat):Fin N:=btF N R.v i-1
def a0(i:Nat):Fin N:=R.l i+-R.z
def sh(i:Nat):Fin N:=R.z*pwF R.y i+R.z*R.z*pwF (ofF N 2) i
def b0(i:Nat):Fin N:=R.m i*pwF R.y i+R.sh i
def b1(i:Nat):Fin N:=R.q i*pwF R.y i
def a(i:Nat):Fin N:=R.a0 i+R.s i*R.x
def b(i:Nat):Fin N:=R.b0 i+R.b1 i*R.x
def c1:Fin N:=Md.pr R.a0 R.b1 R.n+Md.pr R.s R.b0 R.n
def c2:Fin N:=Md.pr R.s R.b1 R.n
def t:Fin N:=Md.pr R.a R.b R.n
def tau:Fin N:=R.t1*R.x+R.t2*R.x*R.x+R.z*R.z*R.k
def mu:Fin N:=R.al+R.rho*R.x
def d:Fin N:=(R.z-R.z*R.z)*Md.pr (λ_=>1) (pwF R.y) R.n-R.z*R.z*R.z*ofF N (2^R.n-1)
variable (D:Md N M) (G H U:M) (g k:Nat->M)
def pA:M:=D.ad (D.ac R.al G) (D.ad (D.dt R.l g R.n) (D.dt R.m k R.n))
def pS:M:=D.ad (D.ac R.rho G) (D.ad (D.dt R.s g R.n) (D.dt R.q k R.n))
def pV:M:=D.cm H G (ofF N R.v) R.k
def p1:M:=D.cm H G R.c1 R.t1
def p2:M:=D.cm H G R.c2 R.t2
def hh(i:Nat):M:=D.ac (pwF (ivF R.y) i) (k i)
def rg:Md.Rg (Fin N):=rgF R.v R.s R.q R.y (ivF R.y) R.z R.x
def Vg:R.rg.a0=R.a0:=funext λi=>by
 show R.l i-R.z=R.l i+-R.z;grind
def Vf:R.rg.b0=R.b0:=funext λi=>by
 show pwF R.y i*(R.m i+R.z)+R.z*R.z*pwF (ofF N 2) i=R.m i*pwF R.y i+(R.z*pwF R.y i+R.z*R.z*pwF (ofF N 2) i);grind
def SY:R.rg.b1=R.b1:=funext λi=>by
 show pwF R.y i*R.q i=R.q i*pwF R.y i;grind
def e_a:R.rg.a=R.a:=funext λi=>by
 show R.rg.a0 i+_=_;rw[Vg];rfl
def e_b:R.rg.b=R.b:=funext λi=>by
 show R.rg.b0 i+R.rg.b1 i*_=_;rw[Vf,SY];rfl
def Kg(b:Nat->Fin N):∀n,Md.pr (λ_=>1) b n=(SPA.own N).sm b n
 | 0=>rfl
 | n+1=>by
  show Md.pr (λ_=>1) b n+1*b n=(SPA.own N).sm b n+b n;rw[Kg b n];grind
def e_d:R.rg.d R.n=R.d:=by
 unfold d;rw[Kg];exact Uk
def sums(e:IsP N)(d:R.y.val≠0)(hv:R.v<2^R.n):D.cm H G (R.t-R.d) R.tau=D.ad (D.ad (D.ac (R.z*R.z) (R.pV D G H)) (D.ac R.x (R.p1 D G H))) (D.ac (R.x*R.x) (R.p2 D G H)):=by
 rw[D.Ij];have h:=D.Eb R.rg R.n (J6 (uF e d)) H G R.k R.t1 R.t2;have ev:R.rg.v R.n=ofF N R.v:=Uj hv;have c:R.rg.t1 R.n=R.c1:=by
  show Md.pr R.rg.a0 R.rg.b1 R.n+Md.pr R.s R.rg.b0 R.n=_;rw[Vg,SY,Vf];rfl
 have b:R.rg.t2 R.n=R.c2:=by
  show Md.pr R.s R.rg.b1 R.n=_;rw[SY];rfl
 rw[ev,c,b,e_d,e_a,e_b]at h;have k:R.t1*R.x+R.t2*(R.x*R.x)+R.z*R.z*R.k=R.tau:=by
  show _=R.t1*R.x+R.t2*R.x*R.x+R.z*R.z*R.k;grind
 rw[show R.rg.x=R.x from rfl,show R.rg.z=R.z from rfl,k]at h;exact h
def point(c:IsP N)(b:R.y.val≠0):
 D.ad (D.ad (D.ad (D.ad (R.pA D G g k) (D.ac R.x (R.pS D G g k))) (D.ac (-1) (D.ac R.mu G))) (D.ad (D.dt (λ_=>-R.z) g R.n) (D.dt R.sh (R.hh D k) R.n))) (D.ac R.t (D.ac R.w U))=D.hd R.a R.b g (R.hh D k) (D.ac R.w U) R.n:=by
 rw[D.Ir];have h:=D.CU R.rg R.n (J6 (uF c b)) G g k U R.al R.rho R.w;have d:=D.JU (pwF R.y) (pwF (ivF R.y)) (pwF (ofF N 2)) R.z k R.n λi _=>Ev (uF c b) i
 rw[e_a,e_b]at h;rw[show D.dt R.sh (R.hh D k) R.n=_ from d];exact h
end Rv
end
section
open Go.Shelf
section
variable {P:YO}{ops:Array Yw}{rest:List Yw}{op:Yw}{a:Act}{w w':XF}{v:XG}{Q:yAN->Act->XF->Prop}
def wpList_build(b:op.guard=none)(c:Yj)(n:Nat)(k:Array (Nat × yAp))(_:op.op=.buildSlice c n k)(e:(Ym a.eval op).run P w=.ok (.value v) w')(h:wpList P ops Q rest (a.put op.dst v) w'):wpList P ops Q (op :: rest) a w:=
 ZT b λK d=>by
  unfold Y8;rw[e];exact d _ _ h
end
variable {P:Nat}[NeZero P]
def jN:ByteArray:=⟨#[118,97,108,117,101]⟩
noncomputable def cmt (P:Nat) [NeZero P] (n m:Nat):EC.Pt P:=tot (λj=>if j=0 then .some (hpt P jN []) else gG P) 2 (λj=>if j=0 then(n:Int) else(m:Int))
def DY(P:Nat)[NeZero P](N:Nat)(w:XF)(k b:Bs)(e:XG)(w':XF):Prop:=match rq N k,rq N b with
 | some n,some m=>Je w (wr (cmt P n m)) e w'
 | _,_=>MW 3 e
def Nu{w:XF}{v b:XG}{d k:Bs}(T:Yj)(h:Arg w v d)(f:Arg w b k):xK (w.alloc (.cells #[v,b] T)) (some (aZ w.heap.size)) 2 (λj=>if j=0 then d else k):=λ_ =>
 ⟨w.heap.size,rfl,by rw[XS];omega,λj g=>by
  have e:=(Made.alloc w [v,b] T).range;have c:j=0\/j=1:=oM;rcases c with rfl|rfl
  .exact⟨v,e 0 _ rfl,h.below (aC _)⟩
  .exact⟨b,e 1 _ rfl,f.below (aC _)⟩⟩
def KT{w:XF}:PartOk w nZ []:=⟨none,0,0,0,#[],rfl,rfl,XH _,dC,Yk rfl⟩
def AQ{q:Fin P × Fin P}:Pair q.1 q.2 (.some q:EC.Pt P):=⟨rfl,rfl⟩
def Tb(C : Fld P){n m : Nat}(hn : n < top)(hm : m < top){ns : Nat -> Nat}{xs ys : Nat -> Fin P}(h0 : ns 0 = n)(h1 : ns 1 = m)(hx0 : xs 0 = (hpt P jN []).1)(hy0 : ys 0 = (hpt P jN []).2)(hx1 : xs 1 = gX P)(hy1 : ys 1 = gY P):
    uP (ptP (jA ns xs ys 2 257)).1 (ptP (jA ns xs ys 2 257)).2 = wr (cmt P n m) := by
  have hJ := Cv C (N := 2) (ns := ns) (xs := xs) (ys := ys) (p := λj => if j = 0 then(.some (hpt P jN []) : EC.Pt P) else gG P)
    (fun j hj => by have : j = 0 ∨ j = 1 := oM
                    rcases this with rfl | rfl
                    · rw [h0]; exact hn
                    · rw [h1]; exact hm)
    (fun j hj => by have : j = 0 ∨ j = 1 := oM
                    rcases this with rfl | rfl
                    · rw [hx0, hy0]; exact AQ
                    · rw [hx1, hy1]; exact AQ)
    (fun j hj => by have : j = 0 ∨ j = 1 := oM
                    rcases this with rfl | rfl
                    · exact BV C
                    · exact Dm C)
  have e1 := xH C (hJ.pair C) hJ.2;have e2 : tot (λj => if j = 0 then(.some (hpt P jN []) : EC.Pt P) else gG P) 2 (λj => (ns j : Int)) = cmt P n m := eM 2 λj hj => by
    have : j = 0 \/ j = 1 := oM;rcases this with rfl | rfl
    · rw [h0]; rfl
    · rw [h1]; rfl
  rw [e2]at e1;exact e1
def Na{N:Nat}(C:Fld P)(hG:Gap 4624529908474429119 4994812053365940164 1 N)(W:N<=top)(v0 v1:XG)(t A:Bs)(w:XF)(h0:Arg w v0 t)(h1:Arg w v1 A):
 cZ 34 #[v0,v1] w (rZ w λe w'=>DY P N w t A e w'):=by
 have hA:=Nu 23 h0 h1;obtain⟨p0,n0,c0,rfl,-,-⟩:=h0;obtain⟨p1,n1,c1,rfl,-,-⟩:=h1;have X:=QB hG 2 2 dC _ _ _ hA;go_enter func34,ntmps34;go_wp2_with fail
 refine X.mono ?_;rintro e o ⟨v,rfl,J,⟨k,ha,h8,rfl,a⟩|⟨⟨j,Q,b⟩,rfl⟩⟩
 .obtain⟨n,hn,h7⟩:=a 0 dC;obtain⟨m,hm,h9⟩:=a 1 dC;have Y:=mk1 ((aC _).trans (J.mono (by rw[XS];omega)));have M:=mk3 h8 h7 h9;have G:Hid (rq N t=some n/\rq N A=some m):=⟨hn,hm⟩
  go_wp2_with fail
  apply(yL).mono;rintro e w2 ⟨v,rfl,rfl,rfl⟩;have V:=A3 C jN dC (KT);obtain⟨q,hq⟩:=hE (hpt P jN []);rw[hq.out]at V;obtain⟨x,y⟩:=q;obtain⟨gx,U⟩:=hE (gX P);obtain⟨p,R⟩:=hE (gY P);have D:=Fz C;rw[U.out,R.out]at D;obtain⟨v4,K⟩:=hE (pv x y);obtain⟨v5,H⟩:=hE (pv gx p);replace V:cZ 67 #[.func (.func 117) #[] #[jZ o.heap.size,jZ (o.heap.size+1)]] ((o.alloc (.cells #[.string jN] 9)).alloc (.cells #[nZ] 23)) (rZ o λe w'=>e=v4):=K.out▸V;rw[H.out]at D;go_wp2_with fail
  refine V.mono ?_;rintro e w3 ⟨v,rfl,r,rfl⟩;have S:=mk1 (Y.trans (r.mono Y.size));have f:=mk3 (XI M.1 r.size) (RG.range_below M.2.1 r M.1) (RG.range_below M.2.2 r M.1);go_wp2_with fail
  apply(D _).mono;rintro e B ⟨v,rfl,u,rfl⟩;have T:=mk1 (S.trans (u.mono S.size));have d:=mk3 (XI f.1 u.size) (RG.range_below f.2.1 u f.1) (RG.range_below f.2.2 u f.1);obtain⟨l,I⟩:=hE (B.alloc (.cells ((ws x++ws y)++(ws gx++ws p)).toArray 131));go_wp2_with (refine wpList_build (v:=sZ B.heap.size 2 2) (w':=l) rfl 138 2 _ rfl ?_ ?_;rw[<-I.out,<-K.out,<-H.out];kernel_rfl;refine Hid ?_)
  have F:Hid (kZ w l/\k<l.heap.size/\B.heap.size<l.heap.size/\(∀i,i<2->l.rangeAt k (4*i) (wn (if i=0 then n else m)))/\∀i,i<2->l.rangeAt B.heap.size (8*i) (ws (if i=0 then x else gx)++ws (if i=0 then y else p))):=by
   have c:=Made.alloc B ((ws x++ws y)++(ws gx++ws p)) 131;have O:=I;rw[O]at c;refine⟨T.trans (c.bel.mono T.size),XI d.1 c.bel.size,c.lt,λi L=>?_,λi L=>?_⟩
   .have:i=0\/i=1:=oM;rcases this with rfl|rfl
    .exact RG.range_below d.2.1 c.bel d.1
    .exact RG.range_below d.2.2 c.bel d.1
   .have:i=0\/i=1:=oM;rcases this with rfl|rfl
    .intro j v Q;have E:=(XT.1 Q).1;have:=c.range j v (by rw[X1 (show j<(ws x++ws y).length from E)];exact Q);exact this
    .intro j v Q;have:=c.range (8+j) v (by rw[X4 (show(ws x++ws y).length<=8+j from Nat.le_add_right 8 j),show 8+j-(ws x++ws y).length=j from ZN 8 j];exact Q);rw[XQ]at this;exact this
  show wpList _ _ _ _ _ _;have X:cZ 66 #[sZ k 2 2,sZ B.heap.size 2 2] l (rZ l λe w'=>e=pv (ptP (jA (λi=>if i=0 then n else m) (λi=>if i=0 then x else gx) (λi=>if i=0 then y else p) 2 257)).1 (ptP (jA (λi=>if i=0 then n else m) (λi=>if i=0 then x else gx) (λi=>if i=0 then y else p) 2 257)).2):=by
   apply(JD C 2 dC (λi=>if i=0 then n else m) (λi=>if i=0 then x else gx) (λi=>if i=0 then y else p) (λi L=>?_) k B.heap.size l F.2.1 F.2.2.1 F.2.2.2.1 F.2.2.2.2).mono
   .have:i=0\/i=1:=oM;rcases this with rfl|rfl
    .exact yC W G.1
    .exact yC W G.2
   .rintro e w' ⟨v,rfl,c,s,rfl,rfl⟩;exact⟨_,rfl,c,rfl⟩
  have hW:=Tb C (n:=n) (m:=m) (yC W G.1) (yC W G.2) (ns:=λi=>if i=0 then n else m) (xs:=λi=>if i=0 then x else gx) (ys:=λi=>if i=0 then y else p) rfl rfl (by rw[hq.out];rfl) (by rw[hq.out];rfl) (by rw[U.out];rfl) (by rw[R.out];rfl);generalize ptP (jA (λi=>if i=0 then n else m) (λi=>if i=0 then x else gx) (λi=>if i=0 then y else p) 2 257)=z at X hW;have L:∀w,cZ 70 #[pv z.1 z.2] w (rZ w λe w'=>nI w (uP z.1 z.2) e w'):=xG C;rw[hW]at L;go_wp2_with fail
  refine X.mono ?_;rintro e w6 ⟨v,rfl,h6,rfl⟩;have E:=mk1 (F.1.trans (h6.mono F.1.size));go_wp2_with fail
  apply(L _).mono;rintro e w7 ⟨v,rfl,Z,g,c,rfl,h2,h5,O,h4⟩;have h3:=mk1 (E.trans (Z.mono E.size));have HO:Hid (DY P N w t A (.tuple #[sZ g 33 c,iZ 0]) w7):=by
   show DY P N w t A (.tuple #[sZ g 33 c,iZ 0]) w7;unfold DY;rw[G.out.1,G.out.2];exact⟨g,c,rfl,h2,XN E.size h5,O,h4⟩
  go_wp2
  go_ret2
  exact⟨_,rfl,h3,HO⟩
 .have Y:=mk1 ((aC _).trans (J.mono (by rw[XS];omega)));have HO:Hid (DY P N w t A (.tuple #[nZ,iZ 3]) o):=by
   show DY P N w t A (.tuple #[nZ,iZ 3]) o;unfold DY;have:j=0\/j=1:=oM;rcases this with rfl|rfl
   .have b:rq N t=none:=b;rw[b];rfl
   .have b:rq N A=none:=b;rw[b];cases rq N t<;>rfl
  go_wp2
  go_ret2
  exact⟨_,rfl,Y,HO⟩
end
section
variable {P:Nat}[NeZero P]{N:Nat}
def kW(O:Ord N){n:Nat}(k:n<N):rq N (bx n)=some n:=by
 have hv:=Fv (XI k O.le);unfold rq;rw[hv,yE3 ⟨cU n,k⟩]
def Ez(W:XF)(v:XG)(T:Bs):Prop:=∃g c,v=sZ g 33 c/\33<=c/\g<W.heap.size/\hZ W g 0 T
def Ez.grow{W W':XF}{v:XG}{T:Bs}(h:Ez W v T)(k:kZ W W'):Ez W' v T:=by
 obtain⟨g,c,e,f,b,d⟩:=h;exact⟨g,c,e,f,XI b k.size,Holds.below d k b⟩
def Et(W:XF)(v:XG)(T:Bs):Prop:=∃u,v=.tuple #[u,iZ 0]/\Ez W u T
section
variable (w:XF) (k2 k3 k4 a b:Nat) (T:Bs)
def RC1:Nat->XG->XF->Prop
 | 0,v,_=>v=nv a
 | 1,v,W=>El 32 W v (bx a)
 | 2,v,_=>v=nv b
 | 3,v,W=>El 32 W v (bx b)
 | 4,v,W=>Et W v T
 | 5,v,W=>Et W v T
 | 6,v,W=>Ez W v T
 | 7,v,_=>v=iZ 0
 | 8,v,W=>Ez W v T
 | 9,v,_=>v=iZ 0
 | _,_,_=>True
def GC1:Gw:=⟨RC1 a b T,λW=>Kp w W [(k4,z33),(k3,wn b),(k2,wn a)],λi v W W' k h=>by
 match i,h with
 | 0,h=>exact h
 | 1,h=>exact El.below h k (XH _)
 | 2,h=>exact h
 | 3,h=>exact El.below h k (XH _)
 | 4,h=>obtain⟨u,c,d⟩:=h;exact⟨u,c,d.grow k⟩
 | 5,h=>obtain⟨u,c,d⟩:=h;exact⟨u,c,d.grow k⟩
 | 6,h=>exact Ez.grow h k
 | 7,h=>exact h
 | 8,h=>exact Ez.grow h k
 | 9,h=>exact h
 | _+10,_=>trivial,λW W' k h=>h.grow k⟩
end
def mE(C:Fld P)(O:Ord N){a b:Nat}(M:a<N)(U:b<N):Gives 14 #[nv a,nv b] (pvl (wr (cmt P a b))):=by
 intro w;obtain⟨T,J⟩:=hE (wr (cmt P a b));have K:T.size=33:=J.out▸aL _;have z:=mk3 O M U;have HC:Hid (∀(v0 v1:XG) (W:XF),El 32 W v0 (bx a)->El 32 W v1 (bx b)->cZ 34 #[v0,v1] W (rZ W λe w'=>Et w' e T)):=λv0 v1 W X h1=>by
  apply(Na (N:=N) C O.gap O.le v0 v1 (bx a) (bx b) W X.arg h1.arg).mono;rintro e W' ⟨u,rfl,k,hR⟩;unfold DY at hR;rw[kW O M,kW O U]at hR;obtain⟨g,c,rfl,r,s,p,f⟩:=hR;rw[J.out]at f;exact⟨_,rfl,k,_,rfl,g,c,rfl,r,p,f⟩
 rw[J.out];obtain⟨va,q⟩:=hE (nv a);obtain⟨vb,o⟩:=hE (nv b);have R:=boxS (n:=a) (w:=w);obtain⟨i,l⟩:=hE (lZ w (wn a) 44);have G:=boxS (n:=b) (w:=i);obtain⟨j,m⟩:=hE (lZ i (wn b) 44);obtain⟨n,f⟩:=hE (lZ j z33 51);rw[q.out,l.out]at R;rw[o.out,m.out]at G;rw[q.out,o.out];have B:i.heap.size=w.heap.size+1:=by rw[<-l.out,XS]
 have S:j.heap.size=w.heap.size+2:=by rw[<-m.out,XS,B]
 rw[B]at G;have t:Hid (Kp w n [(w.heap.size+2,z33),(w.heap.size+1,wn b),(w.heap.size,wn a)]):=by
  have r:Row i w.heap.size (wn a):=l.out▸row_new w _ _;have s:Row j (w.heap.size+1) (wn b):=by rw[<-m.out,<-B];exact row_new i _ _
  have p:Row n (w.heap.size+2) z33:=by rw[<-f.out,<-S];exact row_new j _ _
  have b1:kZ w i:=l.out▸aC _;have y:kZ i j:=m.out▸aC _;have k:kZ j n:=f.out▸aC _;refine⟨(b1.trans (y.mono oM)).trans (k.mono oM),λx hx=>?_⟩;simp only[Zc,Yf,or_false]at hx;rcases hx with rfl|rfl|rfl
  .exact p
  .exact s.below k
  .exact(r.below y).below k
 have Y:=Hid.mk' R;have BB:=Hid.mk' G;have E2:=Hid.mk' S;go_enter func14,ntmps14;go_wp2_with (first|(refine aG (u:=va) (v:=jZ w.heap.size) (w':=i) rfl 44 (.tmp 0) rfl ?_ ?_ ?_;rfl;exact Y)|(refine aG (u:=vb) (v:=jZ (w.heap.size+1)) (w':=j) rfl 44 (.tmp 1) rfl ?_ ?_ ?_;rfl;exact BB)|(refine bF (v:=jZ (w.heap.size+2)) (w:=j) (w':=n) rfl (.alloc 51) rfl ?_ ?_;(rw[<-f.out,<-E2.out];kernel_rfl))|fail)
 refine(GC1 w w.heap.size (w.heap.size+1) (w.heap.size+2) a b T).draws kR kR ⟨
  jF 2 rfl u40 λx W k=>⟨w.heap.size,0,wn a,k.o 2 kR,(k.b.at 2 rfl).2.1,i40,rfl⟩,
  gC λx W k=>⟨[(8,nv a)],10,#[nv a],⟨k.n 0 8 kR kR,yE5⟩,kR,by
   apply(nV z.1 z.2.1 W).mono;rintro e W' ⟨u,rfl,r,p,rfl⟩;exact⟨_,rfl,p.bel,El.of_made p (cU a)⟩⟩,
  jF 3 rfl u40 λx W k=>⟨w.heap.size+1,0,wn b,k.o 3 kR,(k.b.at 1 rfl).2.1,i40,rfl⟩,
  gC λx W k=>⟨[(10,nv b)],10,#[nv b],⟨k.n 2 10 kR kR,yE5⟩,kR,by
   apply(nV z.1 z.2.2 W).mono;rintro e W' ⟨u,rfl,r,p,rfl⟩;exact⟨_,rfl,p.bel,El.of_made p (cU b)⟩⟩,
  gC λx W k=>⟨[(9,x.eval (.tmp 9)),(11,x.eval (.tmp 11))],34,#[x.eval (.tmp 9),x.eval (.tmp 11)],⟨rfl,rfl,yE5⟩,kR,HC _ _ W (k.n 1 9 kR kR) (k.n 3 11 kR kR)⟩,
  bL λx W k=>⟨[(12,x.eval (.tmp 12))],x.eval (.tmp 12),W,⟨rfl,yE5⟩,kR,XX _ _,k.n 4 12 kR kR⟩,
  bL λx W k=>by
   obtain⟨u,p,r⟩:=show Et W (x.eval (.tmp 7)) T from k.n 5 7 kR kR
   exact⟨[(7,.tuple #[u,iZ 0])],u,W,⟨p,yE5⟩,kR,XX _ _,r⟩,
  bL λx W k=>by
   obtain⟨u,p,r⟩:=show Et W (x.eval (.tmp 7)) T from k.n 5 7 kR kR
   exact⟨[(7,.tuple #[u,iZ 0])],iZ 0,W,⟨p,yE5⟩,kR,XX _ _,rfl⟩,
  bL λx W k=>⟨[(13,x.eval (.tmp 13))],x.eval (.tmp 13),W,⟨rfl,yE5⟩,kR,XX _ _,k.n 6 13 kR kR⟩,
  bL λx W k=>⟨[(14,iZ 0)],iZ 0,W,⟨k.n 7 14 kR kR,yE5⟩,kR,XX _ _,rfl⟩,yE5⟩ t.drew ?_
 intro V I H A;obtain⟨g,cg,E,-,Z,k4⟩:=show Ez I (V 8) T from H 8 (Nat.lt_of_succ_le (Nat.le_of_ble_eq_true kR))
 have p:=A;have y:=mk3 (p.at 0 rfl) p.bl (qV k4 Z);dsimp only[bY,YQ];rw[E];have L:=Hw g cg;obtain⟨n,f⟩:=hE (I.setCells (w.heap.size+2) 0 (aA T));have k:=aB K;have t:Hid (Row n (w.heap.size+2) (aA T)/\kZ w n):=by rw[<-f.out];exact⟨y.1.put (by rw[k];rfl),RG.below_setCells oM _ _ _ y.2.1⟩
 obtain⟨vt,r⟩:=hE (Yg (aA T).toArray);obtain⟨d,F,D⟩:=XK.1 uCP;have Q:=mk2 F D;have s:Hid (gZ 51 (aA T).length/\I.there (w.heap.size+2) 0 (aA T).toArray.size/\gZ 51 (aA T).toArray.size):=by
  have e:(aA T).toArray.size=33:=by rw[YJ];exact k
  refine⟨by rw[k];exact dA,by rw[e];exact y.1.2.2,by rw[e];exact dA⟩
 go_wp2_with (first|(refine YG rfl 51 _ rfl g 0 ?_ (aA T) d ?_ ?_ ?_ ?_ ?_;rfl;exact y.2.2.2.1;exact Q.1;exact Q.2;exact s.1;rw[r.out])|(refine Yi rfl 51 _ _ rfl (w.heap.size+2) 0 (aA T).toArray ?_ ?_ ?_ ?_ ?_ ?_;rfl;exact r.symm;exact s.2.1;exact s.2.2;exact bQ;rw[show(aA T).toArray.toList=aA T from rfl,f.out])|fail)
 refine XR (aF 4 rfl t.1 rfl uCP s.1) rfl ?_;exact⟨_,rfl,t.2,rfl⟩
end
section
open Go.Shelf
attribute [local go_sem] yBY
def chv(b k c i:Nat):XG:=qZ b (k+c*i) c c
def LD{row:Option Nat}{w w':XF}(h:kZ w w'):w.grownBy w' row:=⟨h.os,h.tape,h.output,h.size,λk b _=>h.block k b⟩
def sl3{k b n cap x y:Nat}{w:XF}(e:x<y)(g:y<=cap):(ZH 23 (qZ k b n cap) (some (iZ x)) (some (iZ y)) (some (iZ y))).run prog w=.ok (qZ k (b+x) (y-x) (y-x)) w:=by
 have d:¬y=x:=oM;have c:(x:Int)<=y:=oM;have i:(y:Int)<=cap:=oM;have f:x<=y:=oM;go_simp
def O3(k b c m n cap o d:Nat)(w:XF)(hc:0<c)(I:n=c*m)(C:n<=cap)(G:n<=1073741824)(F:w.cell? ⟨o,0,none⟩=some (qZ k b n cap))(B:w.cell? ⟨d,0,none⟩=some (iZ c))(O:o<w.heap.size)(E:d<w.heap.size)(Q:Nat):
 SeqStopsK yCP Q prog 158 #[jZ o,jZ d] (λi:Nat=>#[chv k b c i]) (Below w.heap.size) (λxs=>xs=YB m) (λ_=>True) m w:=by
 intro l J X W M U T S R;have D:Hid (n=c*m):=I;clear I;refine callsIn_of_wp func158 rfl trivial ?_ rfl;simp only[ntmps158,YJ,YA,ZD,YQ,yDi,yB1,yB0,yCv,yCb,Z1,ZS]
 gi_wp2
 gi_loopw [4] (λp wr=>∃i:Nat,i<=m/\p=iZ ((c*i:Nat):Int)/\J (YB i) wr/\kZ w wr/\W.heap.size<=wr.heap.size) (λp wr=>n-(intOf p).toNat)
 case atStart =>
  exact⟨0,Zq _,by rw[Nat.mul_zero];rfl,R,M,XH _⟩
 case round =>
  obtain⟨i,Z,rfl,r,y,z⟩:=hrel;have c1:wr.cell? ⟨o,0,none⟩=some (qZ k b n cap):=(Yb (y.block o O)).trans F;have c2:wr.cell? ⟨d,0,none⟩=some (iZ c):=(Yb (y.block d E)).trans B;by_cases L:i=m
  .subst L;have f:¬((c*i:Nat):Int)<(n:Int):=by rw[D.out];omega
   gi_wp2
   go_end0
   exact⟨⟨_,rfl⟩,.inl r⟩
  .obtain⟨x,hx⟩:=yH (c*i);have N:x+c<=n:=by
    have:=yAf c (show i+1<=m by omega);rw[yBa,hx.out,<-D.out]at this;omega
   have A:(x:Int)<(n:Int):=oM;rw[hx.out]
   gi_wp2_with fail
   refine wpIn_wide.2 ?_;have g:(ZH 23 (qZ k b n cap) (some (iZ x)) none none).run prog wr.drew=.ok (qZ k (b+x) (n-x) (cap-x)) wr.drew:=by
    have F:¬(x:Int)<0:=oM;have B:(x:Int)<=n:=oM;have f:(n:Int)<=cap:=oM;have j:¬cap=x:=oM;go_simp
   have j:wr.drew.cell? ⟨o,0,none⟩=some (qZ k b n cap):=c1;have q:wr.drew.cell? ⟨d,0,none⟩=some (iZ c):=c2;go_region
   rename_i K ha
   refine ha _ _ ?_;clear ha g j q A;obtain⟨V,tmps,u,H,a,hR⟩:=S (YB i) i wr.drew (U _ wr _ none r (LD ((XX _ wr).drew)) (λ_ e=>by cases e)) (by rw[yAb];omega);have j:wr.drew.cell? ⟨o,0,none⟩=some (qZ k b n cap):=c1;have q:wr.drew.cell? ⟨d,0,none⟩=some (iZ c):=c2;have g:∀w:XF,(ZH 23 (qZ k b n cap) (some (iZ x)) (some (iZ ((x+c:Nat):Int))) (some (iZ ((x+c:Nat):Int)))).run prog w=.ok (qZ k (b+x) c c) w:=λw=>by
    have:=sl3 oM oM;rwa[show x+c-x=c by omega]at this
   unfold chv at a;rw[hx.out]at a
   gi_wp2_with fail
   clear a;refine⟨λh=>(by cases h),hR.mono ?_⟩;clear hR g j q c1;have t:kZ w wr.drew:=y.drew;rintro e P (⟨rfl,v,f⟩|⟨rfl,s⟩)
   .have Y:P.cell? ⟨d,0,none⟩=some (iZ c):=(Yb ((t.trans f).block d E)).trans B
    gi_wp2_with fail
    refine⟨⟨i+1,oM,?_,?_,t.trans f,XN z f.size⟩,?_⟩
    .rw[yBa,hx.out,yAe];rfl
    .rw[yA2];exact v
    .simp[intOf];omega
   .gi_wp2_with fail
    refine XR (results_none rfl _ _ _) rfl ?_;exact⟨⟨_,rfl⟩,.inr ⟨_,trivial,s⟩⟩
end
section
open Go.Shelf
attribute [local go_sem] yBY
def CX{k n:Nat}{T:Yj}{v:XG}{xs:List XG}:Own (λ(_:Unit) W=>W.ownsRow k T 1 v n xs):=λs A B row c d e=>by
 refine c.kept d ?_;rcases c.2 with⟨rfl,_⟩|⟨g,cap,cur,rfl,_,b,_⟩
 .exact .inl rfl
 .refine .inr λe'=>?_
  obtain⟨o,ho,f⟩:=e g (by simpa[Zm]using e'.symm);rw[b]at ho;cases ho;cases f
def kX{W:XF}{b:Nat}{T U:Yj}{v:XG}{n k:Nat}{xs:List XG}(h:W.ownsRow b T 1 v n xs){o:Obj}(d:W.heap[k]? = some o)(e:∀cs,o≠.cells cs T (0,0)):v.ownBlock=none\/v.ownBlock≠some k:=by
 rcases h.2 with⟨rfl,_⟩|⟨g,cap,cur,rfl,_,c,_⟩
 .exact .inl rfl
 .refine .inr λe'=>?_
  have:g=k:=by simpa[Zm]using e'
  subst this;rw[c]at d;cases d;exact e cur rfl
def Lf{W W':XF}{b:Nat}{T:Yj}{v:XG}{n:Nat}{xs:List XG}(h:W.ownsRow b T 1 v n xs)(f:W.grownBy W' v.ownBlock):KeepsOthers W W':=by
 refine⟨f.size,λk o c ho=>?_⟩;rw[f.block k (X9.1 c).1 ?_]
 .exact c
 .rcases h.2 with⟨rfl,_⟩|⟨g,cap,cur,rfl,_,d,_⟩
  .simp[Zm]
  .intro e;have:k=g:=by simpa[Zm]using e
   subst this;rw[d]at c;cases c;cases ho
def Box(T U:Yj)(k Bs:Nat)(xs:List XG)(W:XF):Prop:=∃v,W.heap[Bs]? = some (.cells #[v] U (0,0))/\W.ownsRow k T 1 v xs.length xs/\(v=nZ↔xs=[])
def Pm{T U:Yj}{k Bs:Nat}{xs:List XG}:Own (λ(_:Unit) W=>Box T U k Bs xs W):=λs A B row i c d=>by
 obtain⟨v,b,j,g⟩:=i;refine⟨v,?_,CX () A B row j c d,g⟩;rw[c.block Bs (X9.1 b).1 ?_]
 .exact b
 .intro e;obtain⟨o,ho,f⟩:=d Bs e.symm;rw[b]at ho;cases ho;cases f
def Pk{W:XF}{B:Nat}{v:XG}{t:Yj}(b:XG)(h:W.heap[B]? = some (.cells #[v] t (0,0))):(W.setCell (aZ B) b).heap[B]? = some (.cells #[b] t (0,0)):=by
 obtain⟨k,c⟩:=X9.1 h;show(W.heap.modify B _)[B]? = _;rw[Ye (by rw[Array.size_modify];exact k),Array.getElem_modify_self,c];rfl
def I6(W:XF)(b:Nat)(v:XG):W.grownBy (W.setCell (aZ b) v) (some b):=
 ⟨rfl,rfl,rfl,(yCs W _ v).size,λk _ c=>Below.heap_setCell _ _ _ k (λe=>c (by rw[e]))⟩
def iBy:(prog.info? 23).map (λi=>(i.zero,i.size,i.bytes))=some (some nZ,1,24):=kR
def uBB:prog.underlying 27=some (.slice 23):=kR
def DL(g:Nat->Y4)(c:Nat)(gf:Nat)(eg:∀args w,(callFunc gf args).run prog w=.ok (.enter gf args) w)(lb:Array XG)(N:Nat)(hN:N<=1048576)(w:XF)
 (M:∀n,SeqStopsK yCP n prog gf lb (λi:Nat=>#[.slice (some (g i)) c c]) (Below w.heap.size) (λxs=>xs=YB N) (λ_=>True) N w) :
 cZ 157 #[nZ,.func (.func gf) #[] lb] w (rZ w λe w'=>w'.ownsRow w.heap.size 23 1 e N ((YB N).map (λi=>yA0 (some (g i)) c c))/\(e=nZ↔N=0)):=by
 obtain⟨i0,hi,R,Z,h6⟩:=info_parts iBy;refine(callsIn_wide (n:=5)).1 ?_;refine callsIn_of_wp_marks func157 rfl trivial ?_ rfl;simp only[ntmps157,YJ,YA,ZD,YQ,yDi,yB1,yB0,yCv,yCb,Z1,ZS]
 gi_wp2
 obtain⟨P,q⟩:∃P,P=w.alloc (.cells #[nZ] 27):=⟨_,rfl⟩
 have ha:P.heap.size=w.heap.size+1:=by rw[q,XS]
 have S:P.heap[w.heap.size]? = some (.cells #[nZ] 27 (0,0)):=by rw[q];exact World.alloc_heap_new w _
 have G:kZ w P:=by rw[q];exact(XX _ w).alloc (XH _) _
 rw[<-q];clear q;refine wpIn_rangeFunc_ownH (α:=Nat) rfl dC (gf:=gf) (lb:=lb) rfl trivial eg (M 4) belowK_t (belowK_b oM) G (λ_=>rfl)
  (λb W=>Box 23 27 w.heap.size w.heap.size (b.map (λi=>yA0 (some (g i)) c c)) W/\kZ w W)
  (λc b W=>False)
  (OwnFrom.and (Own.from (show Own (λ(b:List Nat) W=>Box 23 27 w.heap.size w.heap.size (b.map (λi=>yA0 (some (g i)) c c)) W) from λs A B row d f L=>Pm () A B row d f L) _) (ownFrom_below (XH _) oM))
  (λc=>λs A B row d f L=>d.elim)
  ⟨⟨_,S,⟨rfl,.inl ⟨rfl,rfl⟩⟩,by simp⟩,G⟩
  (λx T W=>T = { tmps:=#[nZ,.func (.func gf) #[] lb,jZ w.heap.size,ZB,nZ,.slice (some (g x)) c c,.func (.func gf) #[] lb,.slice (some (g x)) c c,ZB,ZB,ZB,ZB,ZB],defers:=[] })
  (λx T=>λs A B row d f L=>d) ?assign ?body ?done ?stop
 case assign =>
  intro l b x W K d J
  gi_wp2
  exact J _ _ (KeepsFrom.refl _ _) (XX _ _) d rfl
 case body =>
  rintro l b x T W hl ⟨r,L⟩ ⟨⟨v,hv,j,A⟩,I⟩ rfl he;have hc:W.cell? ⟨w.heap.size,0,none⟩=some v:=by simp[YY,hv]
  have h4:W.frozen? ⟨w.heap.size,0,none⟩=false:=by simp[Zt,hv]
  have C:w.heap.size<W.heap.size:=(X9.1 hv).1;have p:(b.map (λi=>yA0 (some (g i)) c c)).length=b.length:=X7 _;have f:(W.alloc (.cells #[.slice (some (g x)) c c] 23)).ownsRow w.heap.size 23 1 v (b.map (λi=>yA0 (some (g i)) c c)).length (b.map (λi=>yA0 (some (g i)) c c)):=j.alloc _;have F:(W.alloc (.cells #[.slice (some (g x)) c c] 23)).heap[w.heap.size]? = some (.cells #[v] 27 (0,0)):=(Below.heap_alloc _ _ _ C).trans hv;have h5:=kX (U:=0) f F (λcs e=>by cases e)
  gi_wp2_with (gi_at_builtin;refine Hid ?_)
  show wpListIn _ _ _ _ _ _ _ _
  (refine wpListIn_append_own _ rfl _ _ 27 rfl w.heap.size 23 i0 nZ 1 24 uBB hi R Z h6 rfl dC v _ _ rfl f (aZ W.heap.size) 1 1 [.slice (some (g x)) c c] rfl rfl (cell_one_new _ _ _) (λu hu=>by rw[Ze.1 hu];rfl) (by rw[p];exact XN (show b.length+1<=1048577 by omega) dC) (by rw[p];omega) (by simp;omega) ?_;intro v' a m y Y)
  have V:(some w.heap.size:Option Nat)≠v.ownBlock:=by
   rcases h5 with e|e
   .rw[e];simp
   .exact λe'=>e e'.symm
  have z:a.heap[w.heap.size]? = some (.cells #[v] 27 (0,0)):=(y.block _ (by rw[XS];omega) V).trans F;have h9:a.cell? ⟨w.heap.size,0,none⟩=some v:=by simp[YY,z]
  have hb:a.frozen? ⟨w.heap.size,0,none⟩=false:=by simp[Zt,z]
  have X:KeepsOthers W a:=(yEg W _).trans (Lf f y);have K:Below w.heap.size W a:=((XX _ W).alloc (yAm C) _).grown y (by rw[XS];omega) (λk e=>(f.lt k e).1);obtain⟨t,d,o,rfl,Q,h8,L⟩:∃t d o,v'=sZ t ((b.map (λi=>yA0 (some (g i)) c c)).length+1) d/\w.heap.size<=t/\a.heap[t]? = some (.cells o 23 (0,0))/\True:=by
   rcases m.2 with⟨_,H⟩|⟨t,d,o,h1,E,O,_⟩
   .exact absurd H oM
   .exact⟨t,d,o,h1,E,O,yE5⟩
  clear y hc h4 hv F j f
  gi_wp2
  have H:=I6 a w.heap.size (sZ t (b.length+1) d);have h7:=Pk (sZ t (b.length+1) d) z;rw[p]at m;have E:=m.kept H (kX (U:=0) m z (λcs e=>by cases e));have O:Below w.heap.size W (a.setCell (aZ w.heap.size) (sZ t (b.length+1) d)):=K.grown H (XN I.size K.size) (λk e=>by cases e;exact XH _);refine⟨(X.trans (yCs a _ _)).from _,O,⟨_,h7,?_,?_⟩,I.trans O⟩
  .rw[Y5,XP,p];exact E
  .simp
 case done =>
  rintro D ys W m rfl ⟨⟨v,hv,j,A⟩,I⟩ J;have hc:W.cell? ⟨w.heap.size,0,none⟩=some v:=by simp[YY,hv]
  gi_wp2
  refine⟨by simp,.inl ⟨_,_,rfl,run_takeDeferred J,?_⟩⟩;have d:=grownBy_putObj' W D (.deferred none);rw[X7,yAb]at j;refine⟨_,results_tmp rfl _ _ _,v,rfl,I.grown d I.size (λk e=>by cases e;omega),j.kept d (kX (U:=0) j J (λcs e=>by cases e)),?_⟩;rw[A];simp
 case stop =>
  rintro D c b W m d f J;exact f.elim
def IV{g:Nat->Y4}{c gf N:Nat}{lb:Array XG}{w:XF}(b:∀args w,(callFunc gf args).run prog w=.ok (.enter gf args) w)(f:N<=1048576)(k:∀n,SeqStopsK yCP n prog gf lb (λi:Nat=>#[.slice (some (g i)) c c]) (Below w.heap.size) (λxs=>xs=YB N) (λ_=>True) N w):
 cZ 104 #[.func (.func gf) #[] lb] w (rZ w λe w'=>w'.ownsRow w.heap.size 23 1 e N ((YB N).map (λi=>yA0 (some (g i)) c c))/\(e=nZ↔N=0)):=by
 go_enter func104,ntmps104;go_wp2_with fail
 apply(DL g c gf b lb N f w k).mono;rintro e m ⟨v,rfl,l,d,j⟩;go_wp2_with fail
 go_ret;exact⟨_,rfl,l,d,j⟩
def Mi{c m n cap:Nat}(f g:Nat)(w:XF)(q:0<c)(o:n=c*m)(r:m<=1024)(b:n<=cap)(d:n<=1073741824)(k:Nat)(j:k+1<w.heap.size)(l:w.cell? ⟨k,0,none⟩=some (qZ f g n cap))(p:w.cell? ⟨k+1,0,none⟩=some (iZ c)):
 cZ 104 #[.func (.func 158) #[] #[jZ k,jZ (k+1)]] w (rZ w λe w'=>w'.ownsRow w.heap.size 23 1 e m ((YB m).map (chv f g c))/\(e=nZ↔m=0)):=
 IV (enters_of func158 kR rfl) oM (O3 f g c m n cap k (k+1) w q o b d l p oM j)
def Mj{c:Nat}(k b n cap:Nat)(f:0<c)(w:XF):cZ 105 #[qZ k b n cap,iZ c] w (Ret λe w'=>e=.func (.func 158) #[] #[jZ w.heap.size,jZ (w.heap.size+1)]/\w'=(w.alloc (.cells #[qZ k b n cap] 23)).alloc (.cells #[iZ c] 3)):=by
 have d:¬(c:Int)<1:=oM;go_enter func105,ntmps105;go_wp2;go_ret;exact⟨_,rfl,rfl,rfl⟩
end
section
variable {P:Nat}[NeZero P]{N:Nat}
def zz(n:Nat):List XG:=(YR n (Y1 .u8 0))
def o33:Bs:=XW 33 0
def OC:(.agg z33.toArray:XG)=pvl o33:=by
 unfold pvl z33 o33 aA;rw[Array.toList_replicate,List.map_replicate];rfl
def Sm.mono{B k:Nat}{W:XF}{v:XG}{l:LB}(h:Sm B W v l)(d:k<=B):Sm k W v l:=by
 obtain⟨g,c,f,i,e,b⟩:=h;exact⟨g,c,f,i,XN d e,b⟩
section
variable (w:XF) (k6 k8 n:Nat) (Y A T:Bs)
def Rb:Nat->XG->XF->Prop
 | 0,v,_=>v=pvl Y
 | 1,v,W=>Sm w.heap.size W v [(1,Y)]
 | 2,v,_=>v=pvl A
 | 3,v,_=>v=nv n
 | 4,v,W=>Sm w.heap.size W v [(n,A)]
 | 5,v,W=>Sm w.heap.size W v [(1,Y),(n,A)]
 | 6,v,_=>v=pvl T
 | 7,v,W=>El 33 W v T
 | 8,v,W=>El 33 W v T
 | 9,v,_=>v=iZ 0
 | _,_,_=>True
def Gb:Gw:=⟨Rb w n Y A T,λW=>Kp w W [(k8,wn n),(k6,aA Y)],λi v W W' k h=>by
 match i,h with
 | 0,h=>exact h
 | 1,h=>exact Sm.grow h k
 | 2,h=>exact h
 | 3,h=>exact h
 | 4,h=>exact Sm.grow h k
 | 5,h=>exact Sm.grow h k
 | 6,h=>exact h
 | 7,h=>exact El.below h k (XH _)
 | 8,h=>exact El.below h k (XH _)
 | 9,h=>exact h
 | _+10,_=>trivial,λW W' k h=>h.grow k⟩
end
def xX(O:Ord N)(B:Nat)(s t:XG)(l m:LB)(p:0<l.length)(Q:l.length<=500)(K:m.length<=500)(A:∀x∈l,x.2.size=33)(g:∀x∈m,x.2.size=33)(n:∀x∈m,x.1<N)(w:XF)(J:B<=w.heap.size)(F:Sm B w s l)(H:Sm B w t m):
 cZ 197 #[s,t] w (rZ w λe w'=>Sm w.heap.size w' e (l++m.map (tmT N (sMi N 0 1)))):=by
 have a:1<N:=by have:2<=N:=XN O.n2 (Nat.mod_le _ _);omega
 have k:=Hid.mk' (EG O a);have d:sMi N 0 1<N:=Zi _ O.pos;generalize sMi N 0 1=o at k d⊢;have E:Hid (∀W,kZ w W->cZ 149 #[t,nv o] W (rZ W λe w'=>Sm W.heap.size w' e (m.map (tmT N o)))):=λW C=>by
  have b:∀x∈m.map (·.2),x.size=33:=λx hx=>by obtain⟨y,c,rfl⟩:=YD.1 hx;exact g y c
  exact eH O d B t m oM b n W (H.grow C)
 have S:Hid (∀W v,kZ w W->Sm w.heap.size W v (m.map (tmT N o))->cZ 31 #[s,v] W (rZ W λe w'=>Sm W.heap.size w' e (l++m.map (tmT N o)))):=λW v C hv=>by
  refine tN B s v l (m.map (tmT N o)) p Q (by rw[X7];exact K) A (λx hx=>?_) W (F.grow C) (hv.mono J);obtain⟨y,c,rfl⟩:=YD.1 hx;exact g y c
 obtain⟨Y,cs,L,-⟩:=id F;obtain⟨gt,Z,R,-⟩:=id H;subst L;subst R;obtain⟨v1,c⟩:=hE (nv 1);obtain⟨vo,f⟩:=hE (nv o);rw[c.out,f.out]at k;rw[f.out]at E;have I:=Hid.mk' (Ky);rw[c.out]at I;go_enter func197,ntmps197;go_wp2_with fail
 apply(I w).mono;rintro e M ⟨T,rfl,i,rfl⟩;go_wp2_with fail
 apply(k M).mono;rintro e U ⟨T,rfl,q,rfl⟩;have j:=mk1 (i.trans (q.mono i.size));go_wp2_with fail
 apply(E U j).mono;rintro e V ⟨P,rfl,D,r⟩;have b:=mk2 (j.trans (D.mono j.size)) (r.mono j.size);go_wp2_with fail
 apply(S V P b.1 b.2).mono;rintro e X ⟨v4,rfl,u,z⟩;have G:=mk2 (b.1.trans (u.mono b.1.size)) (z.mono b.1.size);go_wp2;go_ret;exact⟨_,rfl,G.1,G.2⟩
def encV(v:XG):XG:=v
structure ListAt(w:XF)(g cap:Nat)(vs:List XG)(cur:Array XG):Prop where
 lt:g<w.heap.size
 size:cur.size=cap
 fits:vs.length<=cap
 holds:Holds encV w g 0 cur
 front:∀j,j<vs.length->cur[j]! = vs[j]!
omit [NeZero P] in
theorem Ni:(wr (none:EC.Pt P))=o33:=by
 show Ji=o33;decide +kernel
def ML(q:Option Y4)(c:Nat)(w:XF):cZ 56 #[.func (.func 57) #[] #[],.slice q 0 c] w (rZ w λe w'=>∃K,e=.tuple #[sZ K 0 0,tZ]):=by
 obtain⟨C0,f,d⟩:=UH 0 dC;have k:(Instr.makeSlice 83 (iZ 0) (iZ 0)).run prog w=.ok (sZ w.heap.size 0 0) (w.alloc (.cells C0.toArray 51)):=d w;obtain⟨g,b⟩:=yH (w.alloc (.cells C0.toArray 51));rw[b.out]at k;have j:Hid (kZ w g):=b.out▸aC _;clear d f b;go_enter func56,ntmps56;go_wp2;clear k;go_loopg [16] 0 (λm s16 W=>s16=iZ 0/\Hid (kZ w W))
 case atStart=>exact⟨rfl,j⟩
 case round =>
  obtain⟨rfl,i⟩:=hrel;go_wp2
  go_ret2
  exact⟨_,rfl,i,_,rfl⟩
end
section
open SPA
variable {P:Nat}[NeZero P]{N:Nat}[NeZero N]
def VU(g j:Nat):(⟨g,0,none⟩:Y4).add j=⟨g,j,none⟩:=by
 simp[Addr.add];exact λh=>h.symm
def jK{W:XF}{k n g c:Nat}{e:Yj}{xs:List XG}(h:W.ownsRow k e 1 (sZ g n c) n xs){j:Nat}{u:XG}(b:xs[j]? = some u):W.cell? ⟨g,j,none⟩=some u:=by
 have:=h.cells (g:=g) rfl j u b;rw[VU]at this;exact this
def mW{W:XF}{k n:Nat}{e:Yj}{v:XG}{xs:List XG}(h:W.ownsRow k e 1 v n xs)(d:0<n):∃g c,v=sZ g n c:=by
 rcases h with⟨-,⟨-,b⟩|⟨g,cap,cur,rfl,-⟩⟩
 .omega
 .exact⟨g,cap,rfl⟩
def PtL(Q:Nat->Prop)(W:XF)(K t:Nat)(B:Nat->Bs):Prop:=∀j,j<t->Q K/\K<W.heap.size/\W.rangeAt K (33*j) (aA (B j))
def PtL.keep{Q:Nat->Prop}{W W':XF}{K t:Nat}{B:Nat->Bs}(h:PtL Q W K t B)(k:Kq Q W W'):PtL Q W' K t B:=λj d=>by
 obtain⟨b,c,e⟩:=h j d;refine⟨b,XI c k.size,λi u f=>?_⟩;rw[Yb (a:=⟨K,33*j+i,none⟩) (k.block K b c)];exact e i u f
def PtL.mono2{Q Q':Nat->Prop}{W:XF}{K t:Nat}{B:Nat->Bs}(h:PtL Q W K t B)(c:∀g,g<W.heap.size->Q g->Q' g):PtL Q' W K t B:=λj b=>by
 obtain⟨e,k,d⟩:=h j b;exact⟨c K k e,k,d⟩
def TlL.below{Q:Nat->Prop}{k t:Nat}{W W':XF}{v:XG}{B:Nat->Bs}(h:TlL Q k t W v B)(b:kZ W W'):TlL Q k t W' v B:=h.keep (Kq.of_below b) λg c=>b.block g (h.lt c).2
def TlV(t:Nat)(W:XF)(v:XG)(B:Nat->Bs):Prop:=∃q c,v=.slice q t c/\(0<t->∃g,q=some (aZ g)/\g<W.heap.size/\∀j,j<t->∃x,W.cell? ⟨g,j,none⟩=some x/\Arg33 W x (B j))
def TlV.below{t:Nat}{W W':XF}{v:XG}{B:Nat->Bs}(h:TlV t W v B)(k:kZ W W'):TlV t W' v B:=by
 obtain⟨q,c,rfl,h⟩:=h;refine⟨q,c,rfl,λi=>?_⟩;obtain⟨g,rfl,b,e⟩:=h i;refine⟨g,rfl,XI b k.size,λj l=>?_⟩;obtain⟨x,d,f⟩:=e j l;exact⟨x,by rw[k.cell (p:=⟨g,j,none⟩) b];exact d,f.below k⟩
def MJ(C:Fld P){t:Nat}{W:XF}{v:XG}{B:Nat->Bs}(r:t<=512)(h:TlV t W v B)(m:∀j,j<t->∃p,rd P (B j)=some p):cZ 56 #[.func (.func 57) #[] #[],v] W (rZ W λe w'=>∃K,e=.tuple #[sZ K t t,tZ]/\PtL (W.heap.size<=·) w' K t B):=by
 rcases Nat.eq_zero_or_pos t with b|b
 .obtain⟨q,c,rfl,-⟩:=h;subst b;apply(ML q c W).mono;rintro e w' ⟨v,rfl,d,K,rfl⟩;exact⟨_,rfl,d,K,rfl,λj k=>absurd k (yAh _)⟩
 .obtain⟨q,c,rfl,o⟩:=h;obtain⟨g,rfl,u,n⟩:=o b;apply(FH C t c r u n).mono
  .rintro e w' ⟨v,rfl,d,h⟩;rcases h with⟨-,K,rfl,w,i,s⟩|⟨⟨j,k,f⟩,-⟩
   .exact⟨_,rfl,d,K,rfl,λj k=>⟨w,i,s j k⟩⟩
   .obtain⟨p,l⟩:=m j k;rw[l]at f;cases f
def ElQ.argS{Q:Nat->Prop}{W:XF}{x:XG}{b:Bs}(h:ElQ Q 32 W x b):Arg W x b:=by
 obtain⟨k,c,rfl,f,d,-,g,e⟩:=h;exact⟨_,32,c,rfl,d,λ_=>⟨k,0,rfl,f,g,e⟩⟩
def two{α:Type}(x y:α)(j:Nat):α:=if j=0 then x else y
def Xm{k d n c b e:Nat}{w:XF}:(YF 27 2 #[(0,sZ k n c),(1,sZ d b e)]).run prog w=.ok (sZ w.heap.size 2 2) (w.alloc (.cells #[sZ k n c,sZ d b e] 23)):=kR
def Xl{Q Q':Nat->Prop}{w W:XF}{x y:XG}{b g:Bs}(h:ElQ Q 32 W x b)(d:ElQ Q' 32 W y g):(YF 27 2 #[(0,x),(1,y)]).run prog w=.ok (sZ w.heap.size 2 2) (w.alloc (.cells #[x,y] 23)):=by
 obtain⟨k,c,rfl,-⟩:=h;obtain⟨e,f,rfl,-⟩:=d;exact Xm
def MH{Q Q':Nat->Prop}{W:XF}{x y:XG}{b c:Bs}(h:ElQ Q 32 W x b)(d:ElQ Q' 32 W y c):Args (W.alloc (.cells #[x,y] 23)) (some (aZ W.heap.size)) 2 (two b c):=λ_=>by
 have bb:=aC (w:=W) (.cells #[x,y] 23);have k:=row_new W [x,y] 23;refine⟨_,rfl,k.1,λj e=>?_⟩;match j,e with
 | 0,_=>exact⟨x,k.2.1 0 _ rfl,h.argS.below bb⟩
 | 1,_=>exact⟨y,k.2.1 1 _ rfl,d.argS.below bb⟩
 | j+2,h=>omega
def VC{a b c d:XG}{w:XF}:(Yu 64 (.agg #[a,b,c,d])).run prog w=.ok (jZ w.heap.size) (w.alloc (.cells #[a,b,c,d] 64)):=kR
def uIr:yZ 252:=yQ
def iIr:gZ 252 10:=gQ
def inL(c k t a b:Nat):List XG:=sZ c t t :: sZ k t t :: (wn a++wn b)
def inZ:List XG:=[nZ,nZ,uZ 0,uZ 0,uZ 0,uZ 0,uZ 0,uZ 0,uZ 0,uZ 0]
def GN{c k t a b:Nat}:(inL c k t a b).toArray.all (·.oneCell')=true:=kR
omit [NeZero N] in
theorem N8(C:Fld P)(O:Ord N){t:Nat}(ht:t<=6){Lb Rb:Nat->Bs}{A B:Bs}{a b:Nat}{vL vR z E:XG}(w:XF)(hL:TlV t w vL Lb)(hR:TlV t w vR Rb)(hA:ElQ (λ_=>True) 32 w z A)(hB:ElQ (λ_=>True) 32 w E B)(hl:∀j,j<t->∃p,rd P (Lb j)=some p)(hr:∀j,j<t->∃p,rd P (Rb j)=some p)(ha:rq N A=some a)(hb:rq N B=some b):
 cZ 160 #[.agg #[vL,vR,z,E],iZ t] w (rZ w λe w'=>∃q r,e=.tuple #[.agg (inL q r t a b).toArray,tZ]/\PtL (w.heap.size<=·) w' q t Lb/\PtL (w.heap.size<=·) w' r t Rb):=by
 obtain⟨k,hk⟩:=yH w.heap.size;obtain⟨K,X⟩:=yH (w.alloc (.cells #[vL,vR,z,E] 64));obtain⟨R,h5⟩:=yH (K.alloc (.cells inZ.toArray 252));obtain⟨vI,hvI⟩:=yH (Yg #[vL,vR,z,E]);have B1:Hid ((Yu 64 vI).run prog w=.ok (jZ k) K):=hvI.out▸X.out▸hk.out▸VC;obtain⟨q1,x1,rfl,-⟩:=id hL;obtain⟨q2,x2,rfl,-⟩:=id hR;have z1:K.heap.size=k+1:=by rw[<-X.out,XS,hk.out]
 have k0:=Hid.mk' z1;have b1:kZ w K:=X.out▸aC _;have b2:kZ K R:=h5.out▸aC _;have r1:Row K k [.slice q1 t x1,.slice q2 t x2,z,E]:=X.out▸hk.out▸row_new w _ _;have r2:Row R (k+1) inZ:=by rw[<-h5.out,<-z1];exact row_new K _ _
 have h9:=b1.trans (b2.mono b1.size);have hi:=Hid.mk' (λ(W:XF) (S:kZ w W)=>MJ C (v:=.slice q1 t x1) oM (hL.below S) hl);have he:=Hid.mk' (λ(W:XF) (S:kZ w W)=>MJ C (v:=.slice q2 t x2) oM (hR.below S) hr);have Q:=Hid.mk' (Y0 (λ(W:XF) (S:kZ w W)=>hA.keep (Kq.of_below S)) (λ(W:XF) (S:kZ w W)=>hB.keep (Kq.of_below S)));have hu:=Hid.mk' (λ(W:XF) (S:kZ w W)=>MK O 2 2 dC (some (aZ W.heap.size)) (two A B) (two a b) (W.alloc (.cells #[z,E] 23)) (MH (Q.1 W S) (Q.2 W S)) (λj hj=>by
  match j,hj with
  | 0,_=>exact ha
  | 1,_=>exact hb
  | j+2,h=>omega))
 have K2:Hid (Row R (k+1) inZ/\kZ w R/\Row R k [.slice q1 t x1,.slice q2 t x2,z,E]):=⟨r2,h9,r1.below b2⟩
 have c0:R.cell? ⟨k,0,none⟩=some (.slice q1 t x1):=(r1.below b2).2.1 0 _ rfl;have c1:R.cell? ⟨k,1,none⟩=some (.slice q2 t x2):=(r1.below b2).2.1 1 _ rfl;rw[hvI.out];clear b1 b2 r1 r2 h9 z1 hL hR hA hB hvI hl hr ha hb;go_enter func160,ntmps160;go_wp2_with (first|(refine aG (u:=vI) (v:=jZ k) (w':=K) rfl 64 (.tmp 0) rfl ?_ ?_ ?_;rfl;exact B1)|(refine fR (v:=jZ (k+1)) (w':=R) rfl 252 4 rfl rfl ?_ ?_;(rw[<-h5.out,<-k0.out];kernel_rfl))|fail)
 apply(hi R K2.2.1).mono;rintro e w3 ⟨uu,rfl,Z,q,rfl,hq⟩;have b3:=K2.2.1.trans (Z.mono K2.2.1.size);have Y:Hid (Row w3 (k+1) inZ/\kZ w w3/\Row w3 k [.slice q1 t x1,.slice q2 t x2,z,E]/\PtL (k+1 < ·) w3 q t Lb):=⟨K2.1.below Z,b3,K2.2.2.below Z,hq.mono2 λg _ T=>XI K2.1.1 T⟩
 have hw:w3.cell? ⟨k,1,none⟩=some (.slice q2 t x2):=Y.2.2.1.2.1 1 _ rfl;clear Z hq b3 K2 c0 c1 hi;go_wp2_with fail
 apply(he w3 Y.2.1).mono;rintro e s ⟨uu,rfl,M,r,rfl,hm⟩;have b4:=Y.2.1.trans (M.mono Y.2.1.size);have H:Hid (Row s (k+1) inZ/\kZ w s/\Row s k [.slice q1 t x1,.slice q2 t x2,z,E]/\PtL (k+1 < ·) s q t Lb/\PtL (k+1 < ·) s r t Rb):=⟨Y.1.below M,b4,Y.2.2.1.below M,Y.2.2.2.keep (Kq.of_below M),hm.mono2 λg _ T=>XI Y.1.1 T⟩
 have hz:s.cell? ⟨k,2,none⟩=some z:=H.2.2.1.2.1 2 _ rfl;have hy:s.cell? ⟨k,3,none⟩=some E:=H.2.2.1.2.1 3 _ rfl;obtain⟨w5,U⟩:=yH (s.alloc (.cells #[z,E] 23));obtain⟨k5,h8⟩:=yH s.heap.size;have HS:Hid ((YF 27 2 #[(0,z),(1,E)]).run prog s=.ok (sZ k5 2 2) w5):=U.out▸h8.out▸Xl (Q.1 s H.2.1) (Q.2 s H.2.1);have h7:=hu s H.2.1;rw[U.out,h8.out]at h7;have hn:=Hid.mk' h7;have F:kZ s w5:=U.out▸aC _;have b5:=H.2.1.trans (F.mono H.2.1.size);have K5:Hid (Row w5 (k+1) inZ/\kZ w w5/\PtL (k+1 < ·) w5 q t Lb/\PtL (k+1 < ·) w5 r t Rb):=⟨H.1.below F,b5,H.2.2.2.1.keep (Kq.of_below F),H.2.2.2.2.keep (Kq.of_below F)⟩
 clear M hm b4 Y hw he h7 F b5 hu Q;go_wp2_with (first|(refine jM (v:=sZ k5 2 2) (w':=w5) rfl 27 2 _ rfl #[(0,z),(1,E)] ?_ ?_ ?_;kernel_rfl;exact HS)|fail)
 refine hn.mono ?_;rintro e m ⟨uu,rfl,J,f,rfl,hc⟩;have K6:Hid (Row m (k+1) inZ/\kZ w m/\PtL (k+1 < ·) m q t Lb/\PtL (k+1 < ·) m r t Rb/\SLq (k+1 < ·) m (sZ f 2 2) 2 (two a b)):=⟨K5.1.below J,K5.2.1.trans (J.mono K5.2.1.size),K5.2.2.1.keep (Kq.of_below J),K5.2.2.2.keep (Kq.of_below J),hc.mono λg T=>XI K5.1.1 T⟩
 have hE:m.rangeAt f 0 (wn a)/\m.rangeAt f 4 (wn b)/\k+1≠f:=by
  obtain⟨g,o,c,e,-,D,-,y⟩:=K6.2.2.2.2;injection e with e1
  injection e1 with e1
  injection e1 with e2 e3
  subst e2 e3;exact⟨y 0 dC,y 1 dC,Nat.ne_of_lt D⟩
 have G:=Hid.mk' hE;clear J hc K5 H hn HS hz hy U hE;go_wp2_with fail
 obtain⟨dS,L,I⟩:=XK.1 rSc;have D:m.drew.rangeAt f 0 (wn a)/\m.drew.rangeAt f 4 (wn b):=⟨G.1,G.2.1⟩
 refine anyS.begin (λ_ W=>W.rangeAt f 0 (wn a)/\W.rangeAt f 4 (wn b)) kR ?_;have V:∀(p:Nat),Bef (λ_ W=>yBi W f 0 (wn a)/\yBi W f 4 (wn b)) p m.drew:=λp=>⟨#[],by simp,D⟩
 refine anyS.val (i:=0) (d:=some 57) (x:=sZ q t t) rfl 9 (λ_ _ h=>h) (V 9) D ?_;simp only[Yo,XJ,XM,XO];refine anyS.val (i:=1) (d:=some 58) (x:=sZ r t t) rfl 9 (λ_ _ h=>h) (V 9) D ?_;simp only[Yo,XJ,XM,XO];refine anyS.val (i:=2) (d:=some 59) (x:=sZ f 2 2) rfl 9 (λ_ _ h=>h) (V 9) D ?_;simp only[Yo,XJ,XM,XO];refine anyS.val (i:=3) (d:=some 60) (x:=jZ f) rfl 9 (λ_ _ h=>h) (V 9) D ?_;simp only[Yo,XJ,XM,XO];refine anyS.row (i:=4) (d:=some 61) (cs:=wn a) rfl 9 (λ_ _ h=>h) 44 60 f 0 dS rfl L I nSc (λW ⟨l,e,h⟩=>h.1) (V 9) D ?_;simp only[Yo,XJ,XM,XO];refine anyS.val (i:=5) (d:=some 62) (x:=sZ f 2 2) rfl 9 (λ_ _ h=>h) (V 9) D ?_;simp only[Yo,XJ,XM,XO];refine anyS.val (i:=6) (d:=some 63) (x:=oZ f 4) rfl 9 (λ_ _ h=>h) (V 9) D ?_;simp only[Yo,XJ,XM,XO];refine anyS.row (i:=7) (d:=some 64) (cs:=wn b) rfl 9 (λ_ _ h=>h) 44 63 f 4 dS rfl L I nSc (λW ⟨l,e,h⟩=>h.2) (V 9) D ?_;simp only[Yo,XJ,XM,XO];clear V;refine anyS.nxt (i:=8) (d:=some 65) (x:=.agg (inL q r t a b).toArray) rfl D ?_;simp only[Yo,XJ,XM,XO];have hs:m.drew.there (k+1) 0 10:=K6.1.2.2;have y:∀g,g≠k+1->(m.drew.setCells (k+1) 0 (inL q r t a b)).heap[g]? = m.drew.heap[g]?:=λg h=>aE _ 0 m.drew g h
 have S7:(m.drew.setCells (k+1) 0 (inL q r t a b)).rangeAt f 0 (wn a)/\(m.drew.setCells (k+1) 0 (inL q r t a b)).rangeAt f 4 (wn b):=⟨λj u hj=>by rw[Yb (a:=⟨f,0+j,none⟩) (y f (yA7 G.2.2))];exact D.1 j u hj,λj u hj=>by rw[Yb (a:=⟨f,4+j,none⟩) (y f (yA7 G.2.2))];exact D.2 j u hj⟩
 have r6:Row m.drew (k+1) inZ:=K6.1;have r7:Row (m.drew.setCells (k+1) 0 (inL q r t a b)) (k+1) (inL q r t a b):=r6.put rfl;have b7:kZ w (m.drew.setCells (k+1) 0 (inL q r t a b)):=RG.below_setCells (hk.out▸Nat.le_succ _) _ _ _ K6.2.1.drew;have h3:Kq (k+1 < ·) m (m.drew.setCells (k+1) 0 (inL q r t a b)):=⟨by rw[setCells_size];exact XH _,λg T _=>y g (Nat.ne_of_gt T)⟩
 have h1:=(K6.2.2.1.keep h3).mono2 (Q':=(w.heap.size<=·)) λg _ T=>by rw[hk.out];omega
 have h6:=(K6.2.2.2.1.keep h3).mono2 (Q':=(w.heap.size<=·)) λg _ T=>by rw[hk.out];omega
 refine anyS.sta (i:=9) (d:=none) rfl 252 (.tmp 4) (.tmp 65) rfl (k+1) 0 (inL q r t a b).toArray GN hs iIr S7 ?_;simp only[Yo,XJ,XM,XO];refine anyS.nxt (i:=10) (d:=some 5) (x:=tZ) rfl S7 ?_;simp only[Yo,XJ,XM,XO];refine anyS.fin kR ?_ _;intro WZ hp;have h0:WZ=m.drew.setCells (k+1) 0 (inL q r t a b):=hp;rw[<-h0]at r7 b7 h1 h6;have KZ:=Hid.mk' (Y0 r7 (Y0 b7 (Y0 h1 h6)));clear r6 r7 b7 h3 h1 h6 S7 D y hs hp h0 K6 G L I;go_wp2_with fail
 refine XR (results_ct 4 5 252 rfl KZ.1 rfl rfl uIr iIr) rfl ?_;exact⟨_,rfl,KZ.2.1,q,r,rfl,KZ.2.2.1,KZ.2.2.2⟩
end
section
open SPA
section
variable {P:YO}{ops:Array Yw}{Q:yAN->Act->XF->Prop}{S:Array Bool->XF->Prop}
def WH(a:Act){d e:ZC}(h:d≠e)(v u:XG):(a.put (some d) v).put (some e) u=(a.put (some e) u).put (some d) v:=by
 unfold Yo;dsimp only;rw[yBF _ _ h]
def anyS.calal{i j c:Nat}{n l:Yw}{di dj:ZC}{f:ZZ}{args:Array XG}{obj:Obj}{k:Array Bool}{a:Act}{w:XF}{J L:XG->XF->Prop}{F:XG->Nat->XF->Prop}(u:ops[i]? = some n)(p:ops[j]? = some l)
 (U:ZI P f args w (Ret J)) (y:ZI P f args (w.alloc obj) (Ret L)) (H:S (k.setIfInBounds j true) (w.alloc obj))
 (R:∀v W',J v W'->S (k.setIfInBounds i true) W'/\S ((k.setIfInBounds i true).setIfInBounds j true) (W'.alloc obj)/\F v W'.heap.size (W'.alloc obj)) (T:∀v W',L v W'->S ((k.setIfInBounds i true).setIfInBounds j true) W'/\F v w.heap.size W')
 (s:∀(b:Act) (W:XF),(Ym b.eval l).run P W=.ok (.value (jZ W.heap.size)) (W.alloc obj))
 (h:∀v b W',F v b W'->anyS P ops Q S c ((k.setIfInBounds i true).setIfInBounds j true) ((a.put (some di) v).put (some dj) (jZ b)) W')
 (hx:∀W,(Ym a.eval n).run P W=.ok (.enter f args) W:=by intro _;kernel_rfl) (C:∀(b:Nat) (W:XF),(Ym (a.put (some dj) (jZ b)).eval n).run P W=.ok (.enter f args) W:=by intro _ _;kernel_rfl)
 (D:i≠j:=by decide) (G:di≠dj:=by decide) (M:Yq .any ops k=[i,j]:=by kernel_rfl) (d:Yq .any ops (k.setIfInBounds i true)=[j]:=by kernel_rfl) (x:Yq .any ops (k.setIfInBounds j true)=[i]:=by kernel_rfl)
 (r:n.guard=none:=by rfl) (t:l.guard=none:=by rfl) (o:n.dst=some di:=by kernel_rfl) (m:l.dst=some dj:=by kernel_rfl):anyS P ops Q S (c+2) k a w:=by
 refine⟨λO=>(by rw[M]at O;cases O),λq N=>?_⟩;rw[M]at N;have z:q=i\/q=j:=by simpa using N
 rcases z with rfl|rfl
 .refine wpOp_step u λK B=>?_
  rw[yE3 (bK r)];unfold Y8;rw[hx,ZU];refine U.mono ?_;rintro e W' ⟨v,rfl,hR⟩;obtain⟨s1,s2,E⟩:=R v W' hR;refine B _ _ ⟨s1,?_⟩;rw[o];refine anyS.step p d λI g=>?_
  rw[yE3 (bK t)];unfold Y8;rw[s];show I (Yo _ l.dst _) _;rw[m];exact g _ _ s2 (h v _ _ E)
 .refine wpOp_step p λK B=>?_
  rw[yE3 (bK t)];unfold Y8;rw[s];show K (a.put l.dst _) _;rw[m];refine B _ _ ⟨H,?_⟩;refine anyS.step u x λI g=>?_
  rw[yE3 (bK r)];unfold Y8;rw[C,ZU];refine y.mono ?_;rintro e W' ⟨v,rfl,hR⟩;obtain⟨s2,E⟩:=T v W' hR;have d:=h v _ _ E;rw[yBF _ _ D]at s2 d;rw[WH a G]at d;rw[o];exact g _ _ s2 d
end
variable {P:Nat}[NeZero P]{N:Nat}[NeZero N]
def Jq{t i m:Nat}{L T:Nat->OnP P}{s:Bs}{c:Fin N}(C:Fld P)(k:∀r:EC.Pt P,On r->mul N r=none)(f:IsP N)(v:Md.Vs Bs (OnP P))(j:m=2^(t-(i+1)))(g:chF N ((aD C k).vst (chF N) ivF t L T v i).s (L i) (T i)=(s,c)):
 (aD C k).vst (chF N) ivF t L T v (i+1)=⟨s,(aD C k).ad ((aD C k).ad ((aD C k).vst (chF N) ivF t L T v i).p ((aD C k).ac (c*c) (L i))) ((aD C k).ac (ivF (c*c)) (T i)),(aD C k).fP (ivF c) c m ((aD C k).vst (chF N) ivF t L T v i).g,(aD C k).fP c (ivF c) m ((aD C k).vst (chF N) ivF t L T v i).h⟩:=by
 have b:=Te f ((aD C k).vst (chF N) ivF t L T v i).s (L i) (T i);rw[g]at b;have d:c.val≠0:=λe=>b (by
  have:c=0:=Fin.ext (e.trans (yBf N).symm);show(c*c).val=0;rw[this];show(0%N*(0%N))%N=0;rw[yBf,yDA,yBf])
 rw[Md.JG,UR f d b,j];show(aD C k).FQ (chF N) ivF (2^(t-(i+1))) (L i) (T i) ((aD C k).vst (chF N) ivF t L T v i)=_;unfold Md.FQ;rw[g]
end
end Go.Proofs.YtlofhpkoaljmeaaGreat
