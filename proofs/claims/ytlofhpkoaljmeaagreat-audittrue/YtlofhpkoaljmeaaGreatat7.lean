import Derived.Deep.Upon
import Derived.Test.YtlofhpkoaljmeaaGreatat6
set_option linter.unusedVariables false
set_option linter.defProp false
set_option linter.constructorNameAsVariable false
set_option linter.unusedSimpArgs false
set_option maxRecDepth 1000000
set_option maxHeartbeats 4000000
namespace Go.Proofs.YtlofhpkoaljmeaaGreat
open EC NT RG SP
open _root_.And renaming intro->YV
open _root_.Array renaming any_eq_true'->yAv,getD_eq_getD_getElem?->XQ,getElem?_eq_getElem->X8,getElem?_eq_some_iff->X5,getElem?_push_size->ZU,size->Zm,size_append->Yl,toList_inj->yDL
open _root_.Bool renaming and_eq_true->XV,and_true->yC9,false_or->yCU,not_eq_true'->yDK,not_true->yEk,or_eq_true->Z2
open _root_.Go renaming Addr->Y0,Calls->YN,FuncId->ZQ,Oper->Yp,Program->YJ,Tmp->Zw,TypeId->Yd,Value->XB,World->XA,bodyPost_ret->XN,execOp->Yh,undef->Zs,wpList_load_mid->YI,wpList_store_mid->Yk,wp_block->YX,wp_cond_false->Yb,wp_cond_true->Yy,wp_exit->yAC,wp_ret->Za,wp_seq->XG,wp_skip->YU
open _root_.Go.Act renaming put->Ym
open _root_.Go.Builtin renaming append_->YG
open _root_.Go.ByteArray renaming toList_eq->yCT
open _root_.Go.Code renaming region->Zd
open _root_.Go.Instr renaming box->Ys,buildSlice->Yw,indexAt->Yv,sliceAt->Zy
open _root_.Go.IntKind renaming i64->Ya,u32->yCS,u64->Yt,wrap_i64->YD,wrap_u64->ZO
open _root_.Go.Lib renaming wpList_append_run->yAj
open _root_.Go.Oper renaming upon_enter->ZM,wp->Y3
open _root_.Go.Region renaming binds->Zb,noSelect->yAO,ready->Yu,wanted->Zc
open _root_.Go.RowKit.Below renaming refl->XR
open _root_.Go.Sem renaming run_bind->X1
open _root_.Go.Value renaming agg->X9,int->YW,ownBlock->Zh
open _root_.Go.World renaming cell?->YZ,cell?_of_block->X4,cell?_setCell_other->Yc,cell?_setCell_same->ZI,frozen?->Zk,heap_setCells_other->yCH,size_alloc->XP,size_setCell->yAS
open _root_.List renaming cons_append->ZX,all_cons->yCN,all_eq_true->Yq,all_nil->yC6,all_toArray->yAJ,append_assoc->YP,drop->yAd,eq_replicate_iff->yDc,getElem?_append_left->XY,getElem?_append_right->XW,getElem?_cons_succ->Yg,getElem?_cons_zero->Yi,getElem?_eq_getElem->XO,getElem?_eq_none->ZK,getElem?_eq_some_iff->XM,getElem?_map->YB,getElem?_range->yBo,getElem?_toArray->Yj,getElem_map->yAc,length_append->XK,length_cons->Yx,length_map->XZ,length_nil->Zz,map_append->Y1,map_cons->Z7,map_nil->yCp,mem_append->Y9,mem_cons->Y6,mem_map->YC,mem_of_getElem?->YO,mem_range->Y4,mem_replicate->yB3,mem_singleton->Zj,nil_append->Z1,not_mem_nil->Yf,range->YA,replicate->YM,setIfInBounds_toArray->XF,set_cons_succ->XJ,set_cons_zero->XL,sum_append->yDW,sum_cons->yEh,take->yAb,take_add_one->yCm,take_append_drop->yBL
open _root_.Nat renaming add_assoc->ZB,add_sub_cancel_left->ZE,le_of_ble_eq_true->YL,le_refl->XD,le_trans->XH,lt_of_lt_of_le->XC,lt_of_succ_le->Z6,lt_or_ge->Zp,mod_eq_of_lt->X6,mod_lt->Y8,mul_comm->YK,mul_one->Z5,one_mul->ZV,pow_le_pow_right->Y5,pow_pos->yAz,reduceAdd->YT,sub_self->yBi,zero_add->XI,zero_le->Zl
open _root_.Option renaming isSome_iff_exists->YQ,map->yEl,map_eq_some_iff->XE,map_some->yAq,some->XX
open _root_.Or renaming inl->Ye,inr->X7
open _root_.Prod renaming mk->Ze
open Go.Proofs.Tryz
open Go.RowKit Go.Sort Go.Deep
variable {P:Nat}[NeZero P]{N:Nat}
section
open SPA
noncomputable def gPG (C:Fld P):OnP P:=⟨gG P,CZ C⟩
noncomputable def hPV (C:Fld P):OnP P:=lPt C iN []
def OL(n m:Nat):cmt P n m=EC.add (mul n (.some (hpt P iN []))) (mul m (gG P)):=by
 unfold cmt;generalize (.some (hpt P iN []):EC.Pt P)=H;show EC.add (EC.add none (dZ ((n:Nat):Int) H)) (dZ ((m:Nat):Int) (gG P))=_;rw[jS];rfl
section
variable [NeZero N]
def zC(C:Fld P)(k:∀r:EC.Pt P,On r->mul N r=none)(a b:Fin N):wr (cmt P a.val b.val)=wP ((aC C k).cm (hPV C) (gPG C) a b):=by
 rw[OL];rfl
structure RvL(C:Fld P)(hord:∀r:EC.Pt P,On r->mul N r=none)(R:Rv N)(V A S C1 C2 L3 L6 L8:Bs):Prop where
 eV:V=wP (R.pV (aC C hord) (gPG C) (hPV C))
 eA:A=wP (R.pA (aC C hord) (gPG C) (gPt C ⟨#[108,101,102,116]⟩) (gPt C ⟨#[114,105,103,104,116]⟩))
 eS:S=wP (R.pS (aC C hord) (gPG C) (gPt C ⟨#[108,101,102,116]⟩) (gPt C ⟨#[114,105,103,104,116]⟩))
 e1:C1=wP (R.p1 (aC C hord) (gPG C) (hPV C))
 e2:C2=wP (R.p2 (aC C hord) (gPG C) (hPV C))
 l3:L3=bgL V R.n A S
 y:R.y=kV N L3
 z:R.z=kV N (aW L3)
 l6:L6=mdL (aW (aW L3)) C1 C2
 x:R.x=kV N L6
 l8:L8=enL (aW L6) R.tau.val R.mu.val R.t.val
 w:R.w=kV N L8
structure RvS(R:Rv N)(sd:List UInt8):Prop where
 s:∀i,(R.s i).val=chL N [115,108] [sd,(fV i).toList]
 q:∀i,(R.q i).val=chL N [115,114] [sd,(fV i).toList]
 al:R.al.val=chL N [97,108,112,104,97] [sd]
 rho:R.rho.val=chL N [114,104,111] [sd]
 t1:R.t1.val=chL N [116,97,117,49] [sd]
 t2:R.t2.val=chL N [116,97,117,50] [sd]
end
def Xf{q:Option Y0}{n c:Nat}{w:XA}:(Yw 27 1 #[(0,.slice q n c)]).run prog w=.ok (sZ w.heap.size 1 1) (w.alloc (.cells #[.slice q n c] 23)):=kR
def BP(O:Ord N)(d:ByteArray)(i:d.size<=1000)(g:List UInt8)(q:Option Y0)(n c:Nat)(w:XA)(l:PartOk w (.slice q n c) g){x:Nat}(hx:x=chL N d.data.toList [g]):
 ∃k f,Hid ((Yw 27 1 #[(0,.slice q n c)]).run prog w=.ok (sZ k 1 1) f)/\Hid (kZ w f)/\Hid (cZ 74 #[.string d,sZ k 1 1] f (rZ f λe w'=>e=nv x)):=by
 have b:=aD (w:=w) (.cells #[.slice q n c] 23);refine⟨_,_,Xf (q:=q) (n:=n) (c:=c) (w:=w),b,?_⟩;rw[hx];refine Dc O d _ 1 1 [g] _ oM rfl dC (X7 ⟨_,_,rfl,λj f=>?_⟩);obtain rfl:j=0:=by simp at f;omega
 exact⟨_,(row_new w [.slice q n c] 23).2.1 0 _ rfl,l.below b⟩
def rp0:Rp:=⟨o33,o33,o33,o33,0,0,0⟩
def JL:rp0.Ok:=⟨rfl,rfl,rfl,rfl⟩
end
namespace RG
variable {P:YJ}{ops:Array Yp}{Q:Exit->Act->XA->Prop}{w:XA}{a0:Act}{L:Array Bool}{F:Flow}{m:Nat}
def VE:∀(k:Nat) (L:Array Bool) (a:Act) (w:XA),wpAny P .any ops Q k L a w->anyS P ops Q (λ_ _=>True) k L a w
 | 0,_,_,_,h=>h
 | k+1,_,_,_,h=>⟨h.1,λi d=>wpOp_mono (λb w' c=>⟨trivial,VE k _ b w' c⟩) (h.2 i d)⟩
def zI(k:Array Yp)(n:Nat)(late:List Nat):Bool:=(YA n).all (λj=>late.contains j || nQ k 5 n j) && (YA k.size).all (λi=>decide (i<=n) || depOn k i (i-1))
def zH{n i:Nat}{late:List Nat}(h:zI ops n late=true)(c:n<i)(b:i<ops.size):depOn ops i (i-1)=true:=by
 unfold zI at h;rw[XV]at h;have k:=Yq.1 h.2 i (Y4.2 b);rw[Z2,decide_eq_true_eq]at k;rcases k with k|k
 .omega
 .exact k
def lz(m n:Nat)(late:List Nat):Array Bool:=((YA m).map λi=>decide (i<n) && !late.contains i).toArray
structure LateP(P:YJ)(F:Flow)(ops:Array Yp)(n:Nat)(late:List Nat)(j:Nat):Prop where
 lt:j<n
 o:∃o,ops[j]? = some o/\o.guard=none/\rU ops j=false/\(∀i oi,ops[i]? = some oi->i≠j->(i∈late\/n<=i)->(∀e∈oi.after,Zb .any e=true->e.on≠j)->o.apart ops oi=true)/\(∃p op,n<=p/\ops[p]? = some op/\∃e∈op.after,Zb .any e=true/\e.on=j)/\(∀e∈o.after,Zb .any e=true->e.on<n/\e.on ∉ late)/\∃j' t,cO o j'=true/\aU ops j'=some t/\F.kill j'=[]/\∀v w,F.R j' v w->∃u,F.R j u w/\F.E j w w/\∀(a:Act) (W:XA),a.eval (.tmp t)=v->(Yh a.eval o).run P W=.ok (.value u) W
def Ix{late:List Nat}{n id:Nat}(F:Flow)(kb:∀j∈late,LateP P F ops n late j)(hQ:∀c (a:Act) t v w,Q (.panic c) (a.put (some t) v) w->Q (.panic c) a w)(hs:yAO ops=true)(hn:n<ops.size)(hc:zI ops n late=true)(hm:P.follows .mixedOrders=true)(R:RegF P Q F ops a0 n)(hA:Als P F ops n)(hB:∀b,F.B b w.drew)(hp:∀(V:Nat->XB) (w':XA),(∀i,i<n->F.kill i=[]->F.R i (V i) w')->(∀b,F.killB b=[]->F.B b w')->(∀i j,i<n->j<n->i≠j->rU ops i=true->rU ops j=true->(aU ops i).isSome=true->(aU ops j).isSome=true->V i≠V j)->wpList P ops Q (ops.toList.drop n) (bW V (ops.toList.take n) 0 a0) w'):(Zd id ops true).wp P Q a0 w:=by
 have kc:∀(i:Nat) (o:Yp),ops[i]? = some o->∀e∈o.after,Zb .any e=true->e.on<i:=λi o ho=>(R.of ho).1
 have key:∀(m:Nat) (L:Array Bool) (a:Act) (w:XA),unl L=m->(∀j,n<=j->on L j=false)->InvF F ops a0 L a w->Sep ops L a->wpAny P .any ops Q m L a w:=by
  intro m;induction m with
  | zero =>
   intro L a w hu k y hS;have:=kW hu (by rw[y.size];omega);rw[k n (XD _)]at this;cases this
  | succ m ih =>
   intro L a w hu k y hS;by_cases g:∀j,j<n->j ∉ late->on L j=true
   .by_cases h5:∃j,j∈late/\on L j=false
    .obtain⟨j,s,H⟩:=h5;obtain⟨k2,o,ho,hg,h9,ka,⟨p,op,k4,ke,k9⟩,hw,j',t,A,k1,k6,h6⟩:=kb j s;have K:∀x∈F.kill j',on L x=false:=λx hx=>by rw[k6]at hx;cases hx
     obtain⟨V,B,T⟩:=y.all;have f:∀e∈o.after,Zb .any e=true->on L e.on=true:=λe he Z=>g _ (hw e he Z).1 (hw e he Z).2
     obtain⟨e,he,X⟩:=yAv.1 A;simp only[XV,beq_iff_eq]at X;have r:on L j'=true:=by rw[<-X.2];exact f e he X.1
     obtain⟨u,k3,k0,k7⟩:=h6 (V j') w (T j' r K);have k5:=BI (B j' t r k1);have U:=(X5.1 ho).1;have hz:L.getD j true=false:=by
      unfold on at H;rw[XQ,X8 (by rw[y.size];exact U)]at H⊢;exact H
     have h0:∀i,on L i=true->i<n:=λi q=>by
      rcases Zp i n with h|h
      .exact h
      .rw[k i h]at q;cases q
     have I:=y.nx R k2 h0 ho H f k0 k3;have O:∀i,on (L.setIfInBounds j true) i=true->i≠j->on L i=true:=λi q C=>by
      rw[dX (by rw[y.size];exact U)]at q;rcases Z2 _ _ ▸ q with q|q
      .exact q
      .exact absurd (by simpa using q:j=i).symm C
     have kd:Sep ops (L.setIfInBounds j true) (a.put o.dst u):=λi i2 di dj q kf Y E D z M=>by
      have h7:i≠j:=by rintro rfl;rw[h9]at E;cases E
      have hq:i2≠j:=by rintro rfl;rw[h9]at D;cases D
      have G:=hS i i2 di dj (O i q h7) (O i2 kf hq) Y E D z M;have J:∀i di N,i≠j->aU ops i=some di->o.dst=some N->N≠di:=λi di N C q hk e=>by
       subst e;exact C ((R.of ho).2 N hk |>.2 i q)
      cases hd:o.dst with
      | none=>exact G
      | some N=>rw[kK (J i di N h7 z hd),kK (J i2 dj N hq M hd)];exact G
     have h8:=ih (L.setIfInBounds j true) (a.put o.dst u) w (oN (mE hz)) (λi q=>by
      rw[dX (by rw[y.size];exact U),k i q];simp only[yCU,beq_eq_false_iff_ne];omega) I kd
     refine anyS.any _ _ _ _ (anyS.first (S:=λ_ _=>True) (p:=p) ho ke k9 oM (λ_ _ _=>trivial) (Region.noSelect_spec hs) (λc a w h=>by
      cases hd:o.dst with
      | none=>rw[hd]at h;exact h
      | some t=>rw[hd]at h;exact hQ c a t u w h) m L a w ?_ (λi oi G C ht k8=>ka i oi G C (by
      rcases Zp i n with h|h
      .by_cases hy:i∈late
       .exact Ye hy
       .have N:=g i h hy;have J:=(X5.1 G).1;unfold on at N;rw[XQ,X8 (by rw[y.size];exact J)]at N ht;exact Bool.noConfusion (N.symm.trans ht)
      .exact X7 h) k8) (mem_ready.2 ⟨hz,o,ho,?_⟩) (Ye ⟨bI hg,λW _=>k7 a W k5⟩) ⟨#[],by simp,yEZ⟩ trivial (VE m _ _ _ h8))
     .have:=k p k4;unfold on at this;exact this
     .intro e he Z;exact f e he Z
    have r:∀j,j<n->on L j=true:=λj s=>by
     by_cases H:j∈late
     .cases h:on L j with
      | true=>rfl
      | false=>exact absurd ⟨j,H,h⟩ h5
     .exact g j s H
    have C:∀j,on L j=true↔j<n:=λj=>⟨λs=>(by
     rcases Zp j n with h|h
     .exact h
     .rw[k j h]at s;cases s),r j⟩
    obtain⟨V,B,T⟩:=y.all;have X:=y.act R oM C B;have K:∀l:List Nat,l=[]->∀x∈l,on L x=false:=λl U x hx=>by rw[U]at hx;cases hx
    have M:=hp V w (λj s hk=>T j (r j s) (K _ hk)) (λb Z=>y.base b (K _ Z)) (λi j q s Y E D z A e=>by
     obtain⟨di,z⟩:=YQ.1 z;obtain⟨dj,A⟩:=YQ.1 A;refine hS i j di dj (r i q) (r j s) Y E D z A ?_;rw[B i di (r i q) z,B j dj (r j s) A,e])
    rw[<-X]at M;exact Aj (λi O N=>zH hc O N) kc _ L a w n (XD _) oM y.size C hu M
   .refine⟨λB=>?_,λi q=>?_⟩
    .exact absurd (λj s _=>y.full R B j oM) g
    .obtain⟨O,o,ho,f⟩:=mem_ready.1 q;have J:=(X5.1 ho).1;have G:on L i=false:=by
      unfold on;rw[XQ]at O⊢;cases hh:L[i]? with
      | none=>rfl
      | some b=>rw[hh]at O;exact O
     have z:i<n:=by
      rcases Zp i n with h|h
      .exact h
      .exfalso;rcases Zp n i with N|N
       .have:=gU ho f (zH hc N J);rw[k (i-1) oM]at this;cases this
       .obtain rfl:i=n:=oM;refine g λj s H=>?_
        unfold zI at hc;rw[XV]at hc;have r:=Yq.1 hc.1 j (Y4.2 s);rw[Z2]at r;replace r:=r.resolve_left (by simpa using H);unfold nQ at r;rw[Z2]at r;rcases r with r|r
        .exact gU ho f r
        .obtain⟨x,hx,A⟩:=List.any_eq_true.1 r;rw[XV]at A;exact xQ y 4 x j (oN (Y4.1 hx)) (gU ho f A.1) A.2
     refine wpOp_mono (λr w' I=>ih _ r w' (oN (mE O)) (λj s=>?_) I.1 I.2) (stepS R hA z (λj s=>?_) ho G f y hS)
     .rw[dX (by rw[y.size];exact J),k j s];simp only[yCU,beq_eq_false_iff_ne];omega
     .rcases Zp j n with h|h
      .exact h
      .rw[k j h]at s;cases s
 have k:∀i,on (Array.replicate ops.size false) i=false:=λi=>by
  unfold on;rw[XQ,Array.getElem?_replicate];by_cases h:i<ops.size
  .rw[yEX h];rfl
  .rw[yEY h];rfl
 refine wp_region_any hm (key _ _ a0 _ ?_ (λj _=>k j) ⟨Array.size_replicate,(λi o _ h=>by rw[k]at h;cases h),rfl,rfl,λ_ _=>rfl,⟨λ_=>Zs,λi d h=>(by rw[k]at h;cases h),λi h=>(by rw[k]at h;cases h)⟩,λb _=>hB b⟩ (λi j di dj q=>by rw[k]at q;cases q));unfold unl;rw[Array.toList_replicate,List.countP_replicate];simp
def late1{G:Gw}{n:Nat}{late:List Nat}{j:Nat}(p m:Nat)(t:Zw)(g:∀v w,G.R m v w->∃u,G.R j u w/\∀o,ops[j]? = some o->∀W,(cJ [t] o,(Yh (evo λ_=>v) o).run P W)=(true,.ok (.value u) W))
 (z:(decide (j<n) && decide (n<=p) && waits ops p j && Region.free .any ops (lz ops.size n late) j && !rU ops j && (match ops[j]? with|some o=>o.guard.isNone && o.after.all (λe=>!Zb .any e || (decide (e.on<n) && !late.contains e.on)) && cO o m|none=>false))=true:=by kernel_rfl) (hd:aU ops m=some t:=by kernel_rfl):LateP P G.flow ops n late j:=by
 simp only[XV,decide_eq_true_eq,yDK]at z;obtain⟨⟨⟨⟨⟨D,H⟩,l⟩,B⟩,J⟩,d⟩:=z;cases ho:ops[j]? with
 | none=>rw[ho]at d;cases d
 | some o =>
  rw[ho]at d;simp only[XV]at d;obtain⟨⟨I,A⟩,F⟩:=d;have C:o.guard=none:=by simpa using I
  refine⟨D,o,ho,C,J,λi E c x k y=>Region.free_spec ho B i E c x ?_ y,?_,λe b f=>?_,m,t,F,hd,rfl,λv w hv=>?_⟩
  .have q:=(X5.1 c).1;unfold lz;rw[XQ,Yj,YB,yBo q,yAq,Option.getD_some];rcases k with k|k
   .rw[List.contains_iff_mem.2 k,yEk,Bool.and_false]
   .rw[decide_eq_false oM,Bool.false_and]
  .unfold waits at l;cases q:ops[p]? with
   | none=>rw[q]at l;cases l
   | some op =>
    rw[q]at l;obtain⟨e,b,f⟩:=yAv.1 l;simp only[XV,beq_iff_eq]at f;exact⟨p,op,H,q,e,b,f.1,f.2⟩
  .have:=Array.all_eq_true'.1 A e b;rw[f,yEk,yCU,XV,decide_eq_true_eq,yDK]at this;exact⟨this.1,by simpa using this.2⟩
  .obtain⟨u,s,q⟩:=g v w hv;refine⟨u,s,XR _ _,λa W b=>?_⟩;have h:=q o ho W;rw[Ze.injEq]at h;rw[jE (a:=a) (λ_=>v) [t] h.1 (λK r=>by rw[Zj.1 r];exact b)];exact h.2
def Gw.late{id:Nat}(G:Gw)(n:Nat)(l:List Nat)(b:∀j∈l,LateP P G.flow ops n l j)(g:Als P G.flow ops n)(k:(decide (n<ops.size) && zI ops n l && yAO ops)=true)(f:P.follows .mixedOrders=true)(q:BO ops a0.tmps.size=true)(h:iY P Q G.flow ops a0 0 (ops.toList.take n))(d:G.B w.drew)
 (s:∀(V:Nat->XB) (w':XA),(∀i,i<n->G.R i (V i) w')->G.B w'->(∀i j,i<n->j<n->i≠j->rU ops i=true->rU ops j=true->(aU ops i).isSome=true->(aU ops j).isSome=true->V i≠V j)->wpList P ops Q (ops.toList.drop n) (bW V (ops.toList.take n) 0 a0) w') (o:∀c (a:Act) t v w,Q (.panic c) (a.put (some t) v) w->Q (.panic c) a w:=by exact λ_ _ _ _ _ h=>h):(Zd id ops true).wp P Q a0 w:=by
 rw[XV,XV,decide_eq_true_eq]at k;exact Ix G.flow b o k.2 k.1.1 k.1.2 f (Gw.reg q h) g (λ_=>d) λV w' m p r=>s V w' (λi e=>m i e rfl) (p 0 rfl) r
end RG
section
open SPA
variable {P:Nat}[NeZero P]{N:Nat}[NeZero N]
omit [NeZero N] in
theorem SLq.fin{Q:Nat->Prop}{W:XA}{v:XB}{n:Nat}{a:Nat->Nat}(b:Nat->Fin N)(h:SLq Q W v n a)(e:∀i,i<n->a i=(b i).val):SLq Q W v n (λi=>(b i).val):=h.congr e
omit [NeZero N] in
theorem Ln.fin{Q:Nat->Prop}{W:XA}{v:XB}{n:Nat}{a b:Nat->Nat}(c d:Nat->Fin N)(h:Ln Q W v n a b)(e:∀i,i<n->a i=(c i).val)(e':∀i,i<n->b i=(d i).val):Ln Q W v n (λi=>(c i).val) (λi=>(d i).val):=by
 obtain⟨x,y,f,g,k⟩:=h.ex;exact⟨x,y,f,g.congr e,k.congr e'⟩
def Mf(k:1<N)(v i:Nat):v/2^i%2=(btF N v i).val:=by
 exact(X6 (XC (Y8 _ dC) k)).symm
def S4{v i:Nat}(k:1<N):sMi N (v/2^i%2) 1=(btF N v i-1).val:=by
 rw[Ku,<-Mf k,show(1:Fin N).val=1 from X6 k]
def UP{n:Nat}{a:Fin N}{l m:Nat->Fin N}{Gb X:Bs}(C:Fld P)(O:Ord N)(b:∀r:EC.Pt P,On r->mul N r=none)(o:IsP N)(g:0<n)(D:n<=64)(hG:wr (gG P)=Gb)(w:X=wP ((aC C b).ad ((aC C b).ac a (gPG C)) ((aC C b).ad ((aC C b).dt l (gPt C ⟨#[108,101,102,116]⟩) n) ((aC C b).dt m (gPt C ⟨#[114,105,103,104,116]⟩) n)))):
 ∃d lb,(∀W:XA,cZ 32 #[pvl Gb,nv a.val] W (rZ W λe w'=>Sm W.heap.size w' e d)) /\
  (∀(Q:Nat->Prop) (W:XA) (v va c:XB),GRq Q W v n (gGT P) (hGT P) (uGT P)->SLq Q W va n (λi=>(l i).val)->SLq Q W c n (λi=>(m i).val)->cZ 78 #[v,va,c] W (rZ W λe w'=>Sm W.heap.size w' e lb)) /\
  (∀(W:XA) (s z:XB),Sm 0 W s d->Sm 0 W z lb->cZ 31 #[s,z] W (rZ W λe w'=>Sm W.heap.size w' e (d++lb))) /\
  (∀(W:XA) (v:XB),Sm 0 W v (d++lb)->cZ 33 #[v] W (rZ W λe w'=>e=pvl X)):=by
 have q:=wL C o.1 n;have j:=oD C o.1 n;have f:=tW g (by decide:0<1) oM q j (nI C o.1) Nat.one_pos (by show 1<=16;decide);have t:Gb.size=33:=by rw[<-hG];exact aL _
 have t0:Tl N [(a.val,Gb)] ((aC C b).ac a (gPG C)):=by rw[<-hG];exact Tl.pt C b a (gPG C)
 have t1:=(q.cmb C b l).1.app C b (j.cmb C b m).1;have y:(dE N (λi=>(l i).val) (gGT P) n++dE N (λi=>(m i).val) (hGT P) n).length=n+n:=by rw[XK,(q.cmb C b l).2,(j.cmb C b m).2,ZV]
 have t2:=t0.app C b t1;refine⟨_,_,λW=>?_,λ_ W v va c d p B=>yL O n 1 (gGT P) (hGT P) (uGT P) f _ _ (λi _=>(l i).isLt) (λi _=>(m i).isLt) v va c W d p B,λW s z d p=>bY 0 s z _ _ (by simp) (by simp) oM t0.ok.sz t1.ok.sz W (X7 d) (X7 p),λW v hv=>?_⟩
 .apply(lH Gb t a.val W).mono;rintro e W' ⟨u,rfl,x,k,rfl,f,hR⟩;exact⟨_,rfl,x,Sm.one hR f rfl⟩
 .rw[w];exact t2.point C O b (by simp) (by rw[XK,y];simp;omega) hv
def mM(k:1<N)(x:Fin N)(i:Nat):pwN N x.val i=(pwF x i).val:=(FT k x i).symm
def QT{R:Rv N}{i:Nat}(k:IsP N)(b:2<N):sPl N (sTi N R.z.val (pwN N R.y.val i)) (sTi N (sTi N R.z.val R.z.val) (pwN N 2 i))=(R.sh i).val:=by
 show _=(R.z*pwF R.y i+R.z*R.z*pwF (ofF N 2) i).val;rw[jP,eR,eR,eR,<-mM k.1,<-mM k.1,show(ofF N 2).val=2 from X6 b]
def pLn(Q:Nat->Prop)(n:Nat)(a b:Nat->Nat):S1:=⟨λv w=>Ln Q w v n a b,λ_ _ _ k h=>h.keep (Kq.of_below k)⟩
omit [NeZero N] in
theorem yP(O:Ord N)(a b:Fin N)(W:XA):cZ 26 #[nv a.val,nv b.val] W (rZ W λe w'=>e=nv (a*b).val):=by
 rw[eR];exact gJ O a.val b.val a.isLt b.isLt W
omit [NeZero N] in
theorem SB(O:Ord N)(a b:Fin N)(W:XA):cZ 25 #[nv a.val,nv b.val] W (rZ W λe w'=>e=nv (a+b).val):=by
 rw[jP];exact mJ O a.val b.val a.isLt b.isLt W
def nG(O:Ord N)(k:IsP N){y:Fin N}{L:Bs}(h:y=kV N L):chS N L=y.val:=by
 rw[h];exact GU k.1 (oS O)
def Un(b:Nat)(d i:XB)(L:Bs):S1:=⟨λv w=>∃r,v=.tuple #[lgV r,d,i]/\b<=r/\r<w.heap.size/\hZ w r 0 L,λ_ _ _ c ⟨r,f,g,k,e⟩=>⟨r,f,g,XC k c.size,Holds.below e c k⟩⟩
def Ul(b:Nat)(L:Bs):S1:=⟨λv w=>∃r,v=lgV r/\b<=r/\r<w.heap.size/\hZ w r 0 L,λ_ _ _ c ⟨r,e,f,k,d⟩=>⟨r,e,f,XC k c.size,Holds.below d c k⟩⟩
def Ew{W:XA}{r k:Nat}{L:Bs}{u:XB}{cs:List XB}(h:hZ W r 0 L)(d:0<L.size)(f:Row W k (u :: cs))(g:∀b:UInt8,encB b≠u):r≠k:=by
 rintro rfl;have c:=(h 0 d).1;have e:=f.2.1 0 u rfl;rw[e]at c;exact g _ (XX.inj c).symm
structure RgA(B0 t:Nat)(p:Rp)(Lb Rb:Nat->Bs)(Ab Bb:Bs)(e:XB)(W:XA):Prop where
 ex:∃a b c d u m s vL vR vA vB,e=.agg #[r33 a,r33 b,r33 c,r33 d,r32 u,r32 m,r32 s,vL,vR,vA,vB]/\RgT (λ_=>True) W p a b c d u m s/\TlL (λ_=>True) B0 t W vL Lb/\TlL (λ_=>True) B0 t W vR Rb/\ElQ (λ_=>True) 32 W vA Ab/\ElQ (λ_=>True) 32 W vB Bb
omit [NeZero N] [NeZero P] in
theorem RgA.set{i t k:Nat}{p:Rp}{r Rb:Nat->Bs}{n q:Bs}{e:XB}{W:XA}{us vs:List XB}(h:RgA i t p r Rb n q e W)(A:Row W k (nZ :: vs))(O:k<i):RgA i t p r Rb n q e (W.setCells k 0 us):=by
 obtain⟨a,b,c,d,u,m,s,I,F,w,C,y,f,E,hR,H,z⟩:=h.ex;have kq:Kq (·≠k) W (W.setCells k 0 us):=Kq.set λg l=>l
 have el:∀ {m:Nat}{x:XB}{b:Bs},0<m->ElQ (λ_=>True) m W x b->ElQ (λ_=>True) m (W.setCells k 0 us) x b:=λG hx=>((hx.off G A).keep kq).mono2 λ_ _ _=>trivial
 have o:∀ {v:XB}{B:Nat->Bs},TlL (λ_=>True) i t W v B->TlL (λ_=>True) i t (W.setCells k 0 us) v B:=λhx=>by
  obtain⟨xs,J,L⟩:=hx.ex;refine⟨xs,bE J λg l=>aE us 0 W g (oN ((hx.lt l).1)),λj M=>?_⟩;obtain⟨x,D,K⟩:=L j M;exact⟨x,D,el dC K⟩
 exact⟨a,b,c,d,u,m,s,I,F,w,C,y,⟨el dC f.a,el dC f.b,el dC f.c,el dC f.d,el dC f.e,el dC f.f,el dC f.g⟩,o E,o hR,el dC H,el dC z⟩
def OC{R:Rv N}{n:Nat}(C:Fld P)(k:∀r:EC.Pt P,On r->mul N r=none)(c:IsP N):Gd N n 1 (qH N R.y.val (hGT P)) (R.hh (aC C k) (gPt C ⟨#[114,105,103,104,116]⟩)):=by
 have g:=oD C c.1 n;refine⟨λi b=>?_,λi b=>by unfold qH;rw[XZ];exact g.len i b⟩;have h:=(g.tl i b).tm C k (pwF (ivF R.y) i);rw[<-mM c.1]at h;exact h
def NX(C:Fld P)(O:Ord N)(k:∀r:EC.Pt P,On r->mul N r=none)(T:IsP N)(t:Nat)(ht:t<=6)(R:Rv N)(hn:R.n=2^t)(hv:R.v<18446744073709551616)(hN:18446744073709551616<=N)(sd:List UInt8)(sq:Option Y0)(sn sc:Nat)(V A S C1 C2 L3 L6 L8:Bs)(Y:RvL C k R V A S C1 C2 L3 L6 L8)(hS:RvS R sd)(q:Md.Ps Bs (Fin N) (OnP P))(j2:q.s=aW L8)(mb:q.a=R.a)(og:q.b=R.b)(mn:q.g=gPt C ⟨#[108,101,102,116]⟩)(na:q.h=R.hh (aC C k) (gPt C ⟨#[114,105,103,104,116]⟩))(u:OnP P)(hu:u=(aC C k).ac R.w (uPt C))(Lb Rb:Nat->Bs)(mm:∀j,Lb j=wP ((aC C k).pLi (chF N) ivF u t q j))(n7:∀j,Rb j=wP ((aC C k).pTi (chF N) ivF u t q j))(Ab Bb:Bs)(ny:Ab=bx (((aC C k).pst (chF N) ivF u t q t).a 0).val)(nc:Bb=bx (((aC C k).pst (chF N) ivF u t q t).b 0).val)(pz:Rp)(U:Hid (⟨A,S,C1,C2,R.tau.val,R.mu.val,R.t.val⟩=pz))(w:XA)(hp:PartOk w (.slice sq sn sc) sd):
 YN prog 42 #[uZ (R.v:Int),nv R.k.val,iZ (R.n:Int),.slice sq sn sc] w (rZ w λe w'=>∃f,w.heap.size<=f/\RgA f t pz Lb Rb Ab Bb e w'):=by
 obtain⟨vr,ha⟩:=hE (nv R.k.val);obtain⟨va,hk⟩:=hE (nv R.al.val);obtain⟨vh,hq⟩:=hE (nv R.rho.val);obtain⟨v1,hs⟩:=hE (nv R.t1.val);obtain⟨v2,h8⟩:=hE (nv R.t2.val);obtain⟨k5,lh⟩:=hE (w.heap.size);obtain⟨w1,ly⟩:=hE (w.alloc (.cells (wn R.k.val).toArray 44));obtain⟨k8,js⟩:=hE (w1.heap.size);obtain⟨w2,jv⟩:=hE (w1.alloc (.cells z11.toArray 66));have K2:=mk1 (((Mp.start w).new lh ly).new js jv);have B1:Hid ((Ys 44 vr).run prog w=.ok (jZ k5) w1):=by rw[<-ha.out,<-ly.out,<-lh.out];exact boxS _ (w:=w)
 have n:R.n<=64:=by rw[hn];exact XH (Y5 dC ht) dC
 have b2:Hid (∀W,kZ w W->PartOk W (.slice sq sn sc) sd):=λW hb=>hp.below hb
 obtain⟨g3,w3,j7,lq,gy⟩:=BP O ⟨#[97,108,112,104,97]⟩ dC sd sq sn sc w2 (b2 w2 K2.bl) hS.al;rw[hk.out]at gy;rw[ha.out];go_enter func42,ntmps42;refine PW.bg [] ?_;refine PW.ns B1.out ?_;refine PW.al js jv ?_;refine PW.dn ?_;refine PW.bg [] ?_;refine PW.ns j7.out ?_;refine PW.gi gy.out λw4 m9=>?_
 have K4:=mk1 ((K2.grow lq.out).grow m9);obtain⟨g5,w5,ji,jo,gv⟩:=BP O ⟨#[114,104,111]⟩ dC sd sq sn sc w4 (b2 w4 K4.bl) hS.rho;rw[hq.out]at gv;clear gy m9 lq j7 K2;refine PW.go [] ?_;refine PW.ns ji.out ?_;refine PW.gi gv.out λw6 ll=>?_
 have K6:=mk1 ((K4.grow jo.out).grow ll);clear gv jo ll ji K4;refine hG (w6.heap.size) λk9 jp=>?_
 refine hG (w6.alloc (.cells (RG.z 4).toArray 44)) λw7 jy=>?_
 refine hG w7.heap.size λoc dh=>?_
 refine hG (w7.alloc (.cells (RG.z 4).toArray 44)) λw8 ir=>?_
 refine hG (w8.setCells k9 0 (wn R.al.val)) λw9 m0=>?_
 refine hG (w9.setCells oc 0 (wn R.rho.val)) λje f8=>?_
 have K8:=mk1 ((K6.new jp jy).new dh ir);have K9:=mk1 (K8.put 2 m0);have g0:=mk1 (K9.put 3 f8);refine PW.al jp jy ?_;refine PW.al dh ir ?_;refine PW.st m0 hk (K8.th 2) i40 aI ?_;refine PW.st f8 hq (K9.th 3) i40 aI ?_;clear K6 K8 K9;refine PW.dn ?_;obtain⟨pf,pd,eg,da,kj⟩:=BP O ⟨#[116,97,117,49]⟩ dC sd sq sn sc je (b2 je g0.bl) hS.t1;rw[hs.out]at kj;refine PW.bg [] ?_;refine PW.ns eg.out ?_;refine PW.gi kj.out λjt ep=>?_
 have gk:=mk1 ((g0.grow da.out).grow ep);obtain⟨pg,ot,d8,dq,k3⟩:=BP O ⟨#[116,97,117,50]⟩ dC sd sq sn sc jt (b2 jt gk.bl) hS.t2;rw[h8.out]at k3;clear kj da ep eg g0;refine PW.go [] ?_;refine PW.ns d8.out ?_;refine PW.gi k3.out λiu d6=>?_
 have j8:=mk1 ((gk.grow dq.out).grow d6);clear k3 dq d6 d8 gk;refine hG (iu.heap.size) λo9 cv=>?_
 refine hG (iu.alloc (.cells (RG.z 4).toArray 44)) λj6 cf=>?_
 refine hG j6.heap.size λmd d4=>?_
 refine hG (j6.alloc (.cells (RG.z 4).toArray 44)) λn4 ey=>?_
 refine hG (n4.setCells o9 0 (wn R.t1.val)) λnf es=>?_
 refine hG (nf.setCells md 0 (wn R.t2.val)) λiw fd=>?_
 have g2:=mk1 ((j8.new cv cf).new d4 ey);have fh:=mk1 (g2.put 4 es);have h9:=mk1 (fh.put 5 fd);refine PW.al cv cf ?_;refine PW.al d4 ey ?_;refine PW.st es hs (g2.th 4) i40 aI ?_;refine PW.st fd h8 (fh.th 5) i40 aI ?_;clear j8 g2 fh;refine PW.dn ?_;have jc:=mk1 (UC O R.v hv R.n n sd sq sn sc iw (b2 iw h9.bl));refine PW.bg [] ?_;refine PW.ca jc.out ?_;rintro e l7 ⟨cz,xl,yl,rfl,l4,m6⟩;clear jc;obtain⟨oi,nj,rfl,gh,gw⟩:=(l4.fin R.l R.s (λi _=>Mf T.1 R.v i) (λi _=>(hS.s i).symm)).ex;obtain⟨oh,my,rfl,ik,i9⟩:=(m6.fin R.m R.q (λi _=>S4 T.1 (v:=R.v) (i:=i)) (λi _=>(hS.q i).symm)).ex;clear l4 m6;have m7:=mk1 ((((h9.gets cz (pqS oi R.n λi=>(R.l i).val) gh).has (pqS nj R.n λi=>(R.s i).val) (gw.mono λg hg=>h9.nk g hg)).has (pqS oh R.n λi=>(R.m i).val) (ik.mono λg hg=>h9.nk g hg)).has (pqS my R.n λi=>(R.q i).val) (i9.mono λg hg=>h9.nk g hg));obtain⟨k4,kk,kl,M⟩:=(bZ gh).2;obtain⟨ko,kz,ki,B⟩:=(bZ gw).2;obtain⟨kb,k2,k6,e3⟩:=(bZ ik).2;obtain⟨kp,hz,kn,e4⟩:=(bZ i9).2;subst M B e3 e4;clear gh gw ik i9 cz h9;refine PW.go [.agg #[.slice (some ⟨k4,kk,none⟩) R.n kl,.slice (some ⟨ko,kz,none⟩) R.n ki],.agg #[.slice (some ⟨kb,k2,none⟩) R.n k6,.slice (some ⟨kp,hz,none⟩) R.n kn]] ?_;refine hG (l7.heap.size) λb8 em=>?_
 refine hG (l7.alloc (.cells [.slice none 0 0,.slice none 0 0].toArray 145)) λj3 eu=>?_
 refine hG j3.heap.size λbp er=>?_
 refine hG (j3.alloc (.cells [.slice none 0 0,.slice none 0 0].toArray 145)) λo6 ef=>?_
 refine hG (o6.setCells b8 0 [.slice (some ⟨k4,kk,none⟩) R.n kl,.slice (some ⟨ko,kz,none⟩) R.n ki]) λnq f0=>?_
 refine hG (nq.setCells bp 0 [.slice (some ⟨kb,k2,none⟩) R.n k6,.slice (some ⟨kp,hz,none⟩) R.n kn]) λmq et=>?_
 have i8:=mk1 ((m7.new em eu).new er ef);have gr:=mk1 (i8.put 6 f0);have le:=mk1 (gr.put 7 et);refine PW.al em eu ?_;refine PW.al er ef ?_;refine PW.st f0 (Hid.mk' rfl) (i8.th 6) iLi kR ?_;refine PW.st et (Hid.mk' rfl) (gr.th 7) iLi kR ?_;clear m7 i8 gr;refine PW.dn ?_;have HG:=mk1 (yO (P:=P) C R.n oM mq);refine PW.bg [] ?_;refine PW.ca HG.out ?_;rintro e ni ⟨ea,hG⟩;clear HG;obtain⟨q1,q2,q3,rfl,jj,jg,m5⟩:=hG.ex;obtain⟨ga,oa,ca,M⟩:∃g o c,q1=.slice (some ⟨g,o,none⟩) R.n c:=by obtain⟨g,o,c,h,-⟩:=jj;exact⟨g,o,c,h⟩
 obtain⟨gb,ob,cb,B⟩:∃g o c,q2=.slice (some ⟨g,o,none⟩) R.n c:=by obtain⟨g,o,c,h,-⟩:=jg;exact⟨g,o,c,h⟩
 obtain⟨gc,mc,cc,e3⟩:∃g m c,q3=sZ g m c:=by obtain⟨g,c,h,-⟩:=m5;exact⟨g,_,c,h⟩
 subst M B e3;have ju:=mk1 (le.gets ea (pqG _ R.n (gGT P) (hGT P) (uGT P)) hG);clear hG jj jg m5 ea le;have k7:=mk1 (P7 (P:=P) C ni);refine hG (wr (gG P)) λGb bm=>?_
 have gp:Gb.size=33:=by rw[<-bm.out];exact aL _
 refine hG (pvl Gb) λvG hm=>?_
 rw[bm.out,hm.out]at k7;refine PW.gi k7.out λj4 d5=>?_
 have l5:=mk1 (ju.grow d5);clear k7 ju d5;refine hG (j4.heap.size) λmj db=>?_
 refine hG (j4.alloc (.cells [.slice none 0 0,.slice none 0 0,.slice none 0 0].toArray 150)) λln d0=>?_
 refine hG ln.heap.size λn9 c9=>?_
 refine hG (ln.alloc (.cells z33.toArray 51)) λmf fb=>?_
 refine hG (mf.setCells mj 0 [.slice (some ⟨ga,oa,none⟩) R.n ca,.slice (some ⟨gb,ob,none⟩) R.n cb,sZ gc mc cc]) λmo ed=>?_
 refine hG (mo.setCells n9 0 (aA Gb)) λjm fe=>?_
 have g6:=mk1 ((l5.new db d0).new c9 fb);have g4:=mk1 (g6.put 8 ed);have lG:(aA Gb).length=z33.length:=aB gp;have lv:=mk1 (g4.put 9 fe rfl lG);refine PW.al db d0 ?_;refine PW.al c9 fb ?_;refine PW.st ed (Hid.mk' rfl) (g6.th 8) iGr kR ?_;refine PW.st fe hm (g4.th 9 rfl lG) (by rw[aB gp];exact iCP) bN ?_;clear l5 g6 g4;refine PW.dn ?_;refine hG (jm.heap.size) λl f4=>?_
 refine hG (jm.alloc (.cells rp0.l.toArray 153)) λpe ec=>?_
 have gg:=mk1 (lv.new f4 ec);clear lv;refine PW.bg [] ?_;refine PW.al f4 ec ?_;refine PW.dn ?_;have g9:0<R.n:=by rw[hn];exact yAz dC
 have sA:A.size=33:=by rw[Y.eA];exact aL _
 have sS:S.size=33:=by rw[Y.eS];exact aL _
 have iG:(prog.info? 51).map (·.size)=some (aA Gb).length:=by rw[aB gp];exact iCP
 obtain⟨la,lb,cT,cL,cP,cX⟩:=UP C O k T (n:=R.n) g9 n (a:=R.al) (l:=R.l) (m:=R.m) (Gb:=Gb) (X:=A) bm.out Y.eA;have HX:=mk4 cT cL cP cX;clear cT cL cP cX;rw[hk.out,hm.out]at HX;refine hG (pvl A) λvA hvA=>?_
 rw[hvA.out]at HX;refine XG ?_;refine AW.beg 12 12 (J:=(Iv.mp w _ _ true)) gg.out.drew ?_;refine AW.ro 0 (λW h=>(h.at_ 9).2.1) hm uCP iG ?_;refine AW.ro 1 (λW h=>(h.at_ 2).2.1) hk u40 i40 ?_;refine AW.ro 3 (cs:=[.slice (some ⟨ga,oa,none⟩) R.n ca,.slice (some ⟨gb,ob,none⟩) R.n cb,sZ gc mc cc]) (λW h=>(h.at_ 8).2.1) (Hid.mk' rfl) uGr iGr ?_;refine AW.va 4 (jZ b8) ?_;refine AW.ce 5 uSl (λW h=>(h.at_ 6).2.1 0 _ rfl) ?_;refine AW.va 6 (jZ bp) ?_;refine AW.ce 7 uSl (λW h=>(h.at_ 7).2.1 0 _ rfl) ?_;refine AW.ca 2 (λ_=>HX.1 _) (λe w' h=>h.1) ?_;rintro e p9 ⟨du,cj⟩;refine AW.ca 8 (λh=>HX.2.1 _ _ _ _ _ (h.get 4) (h.get 0) (h.get 2)) (λe w' h=>h.1) ?_;rintro B pj ⟨kt,df⟩;refine AW.ca 9 (λh=>HX.2.2.1 _ _ _ ((cj.q.keep (Kq.of_below kt)).sm) df.q.sm) (λe w' h=>h.1) ?_;rintro e3 pc ⟨eo,dk⟩;refine AW.gi 10 (λh=>HX.2.2.2 _ _ dk.q.sm) λma dd=>?_
 have i5:=mk1 ((((gg.drew.grow du).grow kt).grow eo).grow dd);clear du kt eo dd cj df dk gg HX;refine AW.nx 11 (jZ l) ?_;refine hG (ma.setCells l 0 (aA A)) λph kd=>?_
 have bi:=mk1 (Rp.Ws JL (i5.at_ 10) sA);refine hG ({ rp0 with a:=A }:Rp) λp1 i3=>?_
 rw[i3.out]at bi;have i2:=mk1 (i5.upd 10 kd bi.2.1);refine AW.fi (us:=aA A) hvA (bN (a:=A)) (by rw[aB sA];exact iCP) (λ_=>⟨bi.1,?_⟩);rw[kd.out];clear i5 kd;obtain⟨la,lb,cT,cL,cP,cX⟩:=UP C O k T (n:=R.n) g9 n (a:=R.rho) (l:=R.s) (m:=R.q) (Gb:=Gb) (X:=S) bm.out Y.eS;have HX:=mk4 cT cL cP cX;clear cT cL cP cX;rw[hq.out,hm.out]at HX;refine hG (pvl S) λvS jf=>?_
 rw[jf.out]at HX;refine XG ?_;refine AW.beg 12 12 (J:=(Iv.mp w _ _ true)) i2.out.drew ?_;refine AW.ro 0 (λW h=>(h.at_ 9).2.1) hm uCP iG ?_;refine AW.ro 1 (λW h=>(h.at_ 3).2.1) hq u40 i40 ?_;refine AW.ro 3 (cs:=[.slice (some ⟨ga,oa,none⟩) R.n ca,.slice (some ⟨gb,ob,none⟩) R.n cb,sZ gc mc cc]) (λW h=>(h.at_ 8).2.1) (Hid.mk' rfl) uGr iGr ?_;refine AW.va 4 (oZ b8 1) ?_;refine AW.ce 5 uSl (λW h=>(h.at_ 6).2.1 1 _ rfl) ?_;refine AW.va 6 (oZ bp 1) ?_;refine AW.ce 7 uSl (λW h=>(h.at_ 7).2.1 1 _ rfl) ?_;refine AW.ca 2 (λ_=>HX.1 _) (λe w' h=>h.1) ?_;rintro e pa ⟨cd,e7⟩;refine AW.ca 8 (λh=>HX.2.1 _ _ _ _ _ (h.get 4) (h.get 1) (h.get 3)) (λe w' h=>h.1) ?_;rintro B os ⟨hy,dy⟩;refine AW.ca 9 (λh=>HX.2.2.1 _ _ _ ((e7.q.keep (Kq.of_below hy)).sm) dy.q.sm) (λe w' h=>h.1) ?_;rintro e3 pi ⟨f9,f5⟩;refine AW.gi 10 (λh=>HX.2.2.2 _ _ f5.q.sm) λmg f7=>?_
 have gu:=mk1 ((((i2.drew.grow cd).grow hy).grow f9).grow f7);clear cd hy f9 f7 e7 dy f5 i2 HX;refine AW.nx 11 (oZ l 33) ?_;refine hG (mg.setCells l 33 (aA S)) λk1 ky=>?_
 have hr:=mk1 (Rp.sets bi.2.2 (gu.at_ 10) sS);refine hG ({ p1 with s:=S }:Rp) λp2 fj=>?_
 rw[fj.out]at hr;have bn:=mk1 (gu.upd 10 ky hr.2.1);refine AW.fi (us:=aA S) jf (bN (a:=S)) (by rw[aB sS];exact iCP) (λ_=>⟨hr.1,?_⟩);rw[ky.out];clear gu ky;refine hG (aW (aW L3)) λL5 gs=>?_
 have s5:L5.size=32:=by rw[<-gs.out];exact aY
 have sV:V.size=33:=by rw[Y.eV];exact aL _
 refine hG (X9 p2.l.toArray) λvp lg=>?_
 refine hG (pvl V) λvV ip=>?_
 refine hG (nv R.v) λvn li=>?_
 refine hG (nv R.y.val) λvy L=>?_
 refine hG (nv R.z.val) λvz h0=>?_
 have de:Hid (∀W,YN prog 79 #[vp,vV,iZ (R.n:Int)] W (rZ W λe w'=>∃r,e=.tuple #[lgV r,vy,vz]/\W.heap.size<=r/\Holds encB w' r 0 L5)):=λW=>by
  have h:=Qk O p2 hr.2.2 V sV R.n oM W;rw[show bgL V R.n p2.a p2.s=L3 by rw[<-fj.out,<-i3.out];exact Y.l3.symm,nG O T Y.y,nG O T Y.z,gs.out,lg.out,ip.out,L.out,h0.out]at h;exact h
 have cq:Hid (∀W,YN prog 14 #[vn,vr] W (rZ W λe w'=>e=vV)):=λW=>by
  have h:=lW C O (a:=R.v) (b:=R.k.val) oM R.k.isLt W;have e:(ofF N R.v).val=R.v:=X6 oM;have B:=zC C k (ofF N R.v) R.k;rw[e]at B;rw[B,show wP ((aC C k).cm (hPV C) (gPG C) (ofF N R.v) R.k)=V from Y.eV.symm,li.out,ha.out,ip.out]at h;exact h
 have j9:Hid (∀W,YN prog 15 #[uZ (R.v:Int)] W (rZ W λe w'=>e=vn)):=λW=>by
  rw[<-li.out];exact rQ R.v hv W
 refine hG k1.heap.size λb hb=>?_
 have ks:∀ {W},kZ k1 W->b<=W.heap.size:=λh=>hb.out ▸ h.size
 refine XG ?_;refine(gwL [pE vp,pE (uZ (R.v:Int)),pE vn,pE vr,pE vV,pE (iZ (R.n:Int)),Un b vy vz L5,Un b vy vz L5,Ul b L5,pE vy,pE vz,RG.pN b [.pointer none],RG.pN b (RG.z 4),RG.pN b (RG.z 4)] (λW=>kZ k1 W) (λW W' hb h=>h.trans (hb.mono h.size))).late 14 [9,10] (λj hj=>by
  rcases Y6.1 hj with rfl|hj
  .exact late1 15 7 75 λv W ⟨r,e,_⟩=>⟨vy,rfl,λo ho W'=>by
    cases ho
    rw[e];kernel_rfl⟩
  .obtain rfl:=Zj.1 hj;exact late1 16 7 75 λv W ⟨r,e,_⟩=>⟨vz,rfl,λo ho W'=>by
    cases ho
    rw[e];kernel_rfl⟩) (Fj (l:=[11,12,13]) ⟨al1 [.pointer none] 159 xZ,al1 (RG.z 4) 44 xZ,al1 (RG.z 4) 44 xZ,yEZ⟩) kR kR kR ⟨
  gLo (cs:=p2.l) 17 (λW f=>((bn.grow f).at_ 10).2.1) uRd (by rw[Rp.len hr.2.2];exact iRd) (hR:=λ_=>lg.out),
  gO 0 (uZ (R.v:Int)),
  oC 1 77 15 (λx=>#[x]) (λx W M f=>by
   obtain rfl:x=uZ (R.v:Int):=M;exact j9 W),
  gLo (cs:=wn R.k.val) 5 (λW f=>((bn.grow f).at_ 0).2.1) u40 i40 (hR:=λ_=>ha.out),
  dY 2 78 3 79 14 (λx y=>#[x,y]) (λx u W M B f=>by
   obtain rfl:x=vn:=M;obtain rfl:u=vr:=B;exact cq W),
  gO 2 (iZ (R.n:Int)),
  nD 0 76 4 80 5 81 79 (λx y z=>#[x,y,z]) (λx u z W M B e3 f=>by
   obtain rfl:x=vp:=M;obtain rfl:u=vV:=B;obtain rfl:z=iZ (R.n:Int):=e3;refine(de W).mono ?_;rintro e W' ⟨H,rfl,E,r,J,p,D⟩;exact⟨_,rfl,E,r,J,XH (ks f) p,Holds.lt D (by rw[s5];decide),D⟩),
  EH 6 82 id (λx W h=>h),
  bJ λa W hp=>by
   obtain⟨r,e,E,J,p⟩:=hp.n 7 75 kR kR;exact⟨[(75,.tuple #[lgV r,vy,vz])],lgV r,W,⟨e,yEZ⟩,kR,XR _ _,r,rfl,E,J,p⟩,
  bJ λa W hp=>by
   obtain⟨r,e,E,J,p⟩:=hp.n 7 75 kR kR;exact⟨[(75,.tuple #[lgV r,vy,vz])],vy,W,⟨e,yEZ⟩,kR,XR _ _,rfl⟩,
  bJ λa W hp=>by
   obtain⟨r,e,E,J,p⟩:=hp.n 7 75 kR kR;exact⟨[(75,.tuple #[lgV r,vy,vz])],vz,W,⟨e,yEZ⟩,kR,XR _ _,rfl⟩,
  tQ [.pointer none] 159 (λW W' h f=>⟨_,rfl,ks f,h⟩),
  tQ (RG.z 4) 44 (λW W' h f=>⟨_,rfl,ks f,h⟩),
  tQ (RG.z 4) 44 (λW W' h f=>⟨_,rfl,ks f,h⟩),yEZ⟩ ⟨rfl,rfl,rfl,XD _,λ_ _=>rfl⟩ ?_
 intro X ol hR f hD;obtain⟨r,e8,lr,jq,Hr⟩:=hR 8 dC;have e9:X 9=vy:=hR 9 dC;have l2:X 10=vz:=hR 10 dC;obtain⟨k0,bq,fq,ih⟩:=hR 11 dC;obtain⟨kc,bs,fp,gj⟩:=hR 12 dC;obtain⟨kg,bo,fx,il⟩:=hR 13 dC;have d1:=hD 11 12 dC dC dC kR kR kR kR;have d2:=hD 11 13 dC dC dC kR kR kR kR;have d3:=hD 12 13 dC dC dC kR kR kR kR;rw[bq,bs]at d1;rw[bq,bo]at d2;rw[bs,bo]at d3;have n1:k0≠kc:=λe=>d1 (by rw[e])
 have n2:k0≠kg:=λe=>d2 (by rw[e])
 have n3:kc≠kg:=λe=>d3 (by rw[e])
 have m1:r≠k0:=Ew Hr (by rw[s5];decide) ih (λb e=>by cases e);have m2:r≠kc:=Ew Hr (by rw[s5];decide) gj (λb e=>by cases e);have m3:r≠kg:=Ew Hr (by rw[s5];decide) il (λb e=>by cases e);rw[<-hb.out]at lr fq fp fx;have fg:=mk1 (bn.adds f [(k0,[.pointer none]),(kc,RG.z 4),(kg,RG.z 4),(r,aA L5)] (by simp;omega) (λx hx=>by
  simp only[Y6,Yf,or_false]at hx;rcases hx with rfl|rfl|rfl|rfl
  .exact⟨fq,ih⟩
  .exact⟨fp,gj⟩
  .exact⟨fx,il⟩
  .exact⟨lr,qN Hr jq⟩))
 dsimp only[bW,YT,yAb,yAd];simp only[Ym,XF,XJ,XL];rw[e8,e9,l2,bq,bs,bo];clear hR hD d1 d2 d3 n1 n2 n3 m1 m2 m3 fq fp fx lr jq Hr ih gj il f e8 e9 l2 bq bs bo bn de cq j9;refine hG (ol.setCells k0 0 [jZ r]) λnp ei=>?_
 refine hG (np.setCells kc 0 (wn R.y.val)) λnm dm=>?_
 refine hG (nm.setCells kg 0 (wn R.z.val)) λo0 fa=>?_
 have ig:=mk1 (fg.put 11 ei);have gz:=mk1 (ig.put 12 dm);have kh:=mk1 (gz.put 13 fa);refine PW.st ei (Hid.mk' rfl) (fg.th 11) iLg kR ?_;refine PW.st dm L (ig.th 12) i40 aI ?_;refine PW.st fa h0 (gz.th 13) i40 aI ?_;clear fg ig gz ks hb;refine PW.dn ?_;have J:2<N:=oM;have fk:=mk1 (FN O J (y:=R.y.val) (z:=R.z.val) R.y.isLt R.z.isLt R.n oM o0);rw[L.out,h0.out]at fk;refine PW.bg [] ?_;refine PW.ro (kh.at_ 12).2.1 L u40 i40 ?_;refine PW.ro (kh.at_ 13).2.1 h0 u40 i40 ?_;refine PW.go [] ?_;refine PW.ca fk.out ?_;rintro e l9 ⟨dw,ls,rs,rfl,bu,be⟩;clear fk;replace bu:=bu.fin (λ_=>-R.z) (λi _=>(Es R.z).symm);replace be:=be.fin R.sh (λi _=>QT T J (R:=R) (i:=i));have D:=mk1 ((kh.gets dw (pqS ls R.n λ_=>(-R.z).val) bu).has (pqS rs R.n λi=>(R.sh i).val) (be.mono λg hg=>kh.nk g hg));clear bu be dw kh;refine PW.en [ls,rs,ls,rs] ?_;obtain⟨Q,F⟩:=D.out.q;refine XG ?_;refine(gwL [pE (.agg #[.slice (some ⟨k4,kk,none⟩) R.n kl,.slice (some ⟨ko,kz,none⟩) R.n ki]),pE ls,pLn Q R.n (λi=>(R.a0 i).val) (λi=>(R.s i).val),pE (.agg #[.slice (some ⟨kb,k2,none⟩) R.n k6,.slice (some ⟨kp,hz,none⟩) R.n kn]),pE vy,pE (iZ (R.n:Int)),RG.pS Q R.n (pwN N R.y.val),pLn Q R.n (λi=>sTi N (R.m i).val (pwN N R.y.val i)) (λi=>sTi N (R.q i).val (pwN N R.y.val i)),pE rs,pLn Q R.n (λi=>(R.b0 i).val) (λi=>(R.b1 i).val)] (λW=>kZ l9 W) (λW W' hb h=>h.trans (hb.mono h.size))).tail2 10 kR kR kR ⟨
  gLo (cs:=[.slice (some ⟨k4,kk,none⟩) R.n kl,.slice (some ⟨ko,kz,none⟩) R.n ki]) 13 (λW f=>((D.grow f).at_ 6).2.1) uLi iLi,
  gO 21 ls,
  dY 0 93 1 94 81 (λx y=>#[x,y]) (λx u W M B f=>by
   obtain rfl:x=.agg #[.slice (some ⟨k4,kk,none⟩) R.n kl,.slice (some ⟨ko,kz,none⟩) R.n ki]:=M;obtain rfl:u=ls:=B;have K:=D.grow f;refine(PO O n (λi _=>(R.l i).isLt) (λi _=>(-R.z).isLt) (⟨_,_,rfl,K.vU F 0,K.vU F 1⟩:Ln Q W _ R.n _ _) (K.vU F 5)).mono ?_;rintro e W' ⟨H,rfl,E,J⟩;exact⟨_,rfl,E,(J.mono λg hg=>hg.elim id (K.nkq F g)).fin R.a0 R.s (λi _=>(jP (R.l i) (-R.z)).symm) (λ_ _=>rfl)⟩),
  gLo (cs:=[.slice (some ⟨kb,k2,none⟩) R.n k6,.slice (some ⟨kp,hz,none⟩) R.n kn]) 14 (λW f=>((D.grow f).at_ 7).2.1) uLi iLi,
  gLo (cs:=wn R.y.val) 19 (λW f=>((D.grow f).at_ 12).2.1) u40 i40 (hR:=λ_=>L.out),
  gO 2 (iZ (R.n:Int)),
  dY 4 97 5 98 83 (λx y=>#[x,y]) (λx u W M B f=>by
   obtain rfl:x=vy:=M;obtain rfl:u=iZ (R.n:Int):=B;rw[<-L.out];exact(PC O (x:=R.y.val) R.y.isLt (n:=R.n) oM (w:=W)).mono λe W' ⟨v,E,J,p⟩=>⟨v,E,J,p.mono λg hg=>(D.grow f).nkq F g hg⟩),
  dY 3 96 6 99 82 (λx y=>#[x,y]) (λx u W M B f=>by
   obtain rfl:x=.agg #[.slice (some ⟨kb,k2,none⟩) R.n k6,.slice (some ⟨kp,hz,none⟩) R.n kn]:=M;have K:=D.grow f;refine(UA O n (λi _=>(R.m i).isLt) (λi _=>(R.q i).isLt) (λi _=>xW O i) (⟨_,_,rfl,K.vU F 2,K.vU F 3⟩:Ln Q W _ R.n _ _) B).mono ?_;rintro e W' ⟨H,rfl,E,J⟩;exact⟨_,rfl,E,J.mono λg hg=>K.nkq F g hg⟩),
  gO 22 rs,
  dY 7 100 8 101 81 (λx y=>#[x,y]) (λx u W M B f=>by
   obtain rfl:u=rs:=B;have K:=D.grow f;refine(PO O n (λi _=>Y8 _ O.pos) (λi _=>(R.sh i).isLt) M (K.vU F 6)).mono ?_;rintro e W' ⟨H,rfl,E,J⟩;refine⟨_,rfl,E,(J.mono λg hg=>hg.elim id (K.nkq F g)).fin R.b0 R.b1 (λi _=>?_) (λi _=>?_)⟩
   .show _=(R.m i*pwF R.y i+R.sh i).val;rw[jP,eR,<-mM T.1];rfl
   .show _=(R.q i*pwF R.y i).val;rw[eR,<-mM T.1]),yEZ⟩ ⟨rfl,rfl,rfl,XD _,λ_ _=>rfl⟩ ?_
 intro X o4 hR f;obtain⟨mt,nl,B,G,I⟩:=(hR 2 dC).ex;obtain⟨oo,oe,e9,fz,ic⟩:=(hR 9 dC).ex;have ib:=mk1 (((((D.grow f).Oz F (pqS mt R.n λi=>(R.a0 i).val) G).Oz F (pqS nl R.n λi=>(R.s i).val) I).Oz F (pqS oo R.n λi=>(R.b0 i).val) fz).Oz F (pqS oe R.n λi=>(R.b1 i).val) ic);obtain⟨c3,bl,b5,e3⟩:=(bZ G).2;obtain⟨c6,c8,c5,e4⟩:=(bZ I).2;obtain⟨bj,bf,bd,e5⟩:=(bZ fz).2;obtain⟨br,bz,b6,e6⟩:=(bZ ic).2;subst e3 e4 e5 e6;dsimp only[bW,YT,yAb,yAd];simp only[Ym,XF,XJ,XL];rw[B,e9];clear hR f G I fz ic B e9 D F;refine hG (o4.setCells b8 0 [.slice (some ⟨c3,bl,none⟩) R.n b5,.slice (some ⟨c6,c8,none⟩) R.n c5]) λn5 eh=>?_
 refine hG (n5.setCells bp 0 [.slice (some ⟨bj,bf,none⟩) R.n bd,.slice (some ⟨br,bz,none⟩) R.n b6]) λkv ds=>?_
 have g7:=mk1 (ib.put 6 eh);have K:=mk1 (g7.put 7 ds);refine PW.st eh (Hid.mk' rfl) (ib.th 6) iLi kR ?_;refine PW.st ds (Hid.mk' rfl) (g7.th 7) iLi kR ?_;clear ib g7;refine PW.dn ?_;refine hG (nv R.c1.val) λi1 h6=>?_
 refine hG (nv R.c2.val) λgq h5=>?_
 have jr:Hid (YN prog 84 #[.agg #[.slice (some ⟨c3,bl,none⟩) R.n b5,.slice (some ⟨c6,c8,none⟩) R.n c5],.agg #[.slice (some ⟨bj,bf,none⟩) R.n bd,.slice (some ⟨br,bz,none⟩) R.n b6]] kv (rZ kv λe w'=>e=.tuple #[i1,gq])):=by
  have h:=UB O n (λi _=>⟨(R.a0 i).isLt,(R.s i).isLt,(R.b0 i).isLt,(R.b1 i).isLt⟩) (⟨_,_,rfl,K.get 7,K.get 8⟩:Ln _ kv _ R.n _ _) (⟨_,_,rfl,K.get 9,K.get 10⟩:Ln _ kv _ R.n _ _);rw[kM,kM,kM,<-jP,show Md.pr R.a0 R.b1 R.n+Md.pr R.s R.b0 R.n=R.c1 from rfl,show Md.pr R.s R.b1 R.n=R.c2 from rfl,h6.out,h5.out]at h;exact h
 refine PW.bg [] ?_;refine PW.ro (cs:=[.slice (some ⟨c3,bl,none⟩) R.n b5,.slice (some ⟨c6,c8,none⟩) R.n c5]) (K.at_ 6).2.1 (Hid.mk' rfl) uLi iLi ?_;refine PW.ro (cs:=[.slice (some ⟨bj,bf,none⟩) R.n bd,.slice (some ⟨br,bz,none⟩) R.n b6]) (K.at_ 7).2.1 (Hid.mk' rfl) uLi iLi ?_;refine PW.gi jr.out λlx dx=>?_
 have jl:=mk1 (K.grow dx);clear jr dx K;refine PW.go [i1,gq] ?_;refine hG (lx.heap.size) λoj cx=>?_
 refine hG (lx.alloc (.cells (RG.z 4).toArray 44)) λlj eb=>?_
 refine hG lj.heap.size λnh e0=>?_
 refine hG (lj.alloc (.cells (RG.z 4).toArray 44)) λo8 co=>?_
 refine hG (o8.setCells oj 0 (wn R.c1.val)) λom ek=>?_
 refine hG (om.setCells nh 0 (wn R.c2.val)) λoz dp=>?_
 have i0:=mk1 ((jl.new cx eb).new e0 co);have gm:=mk1 (i0.put 15 ek);have g8:=mk1 (gm.put 16 dp);refine PW.al cx eb ?_;refine PW.al e0 co ?_;refine PW.st ek h6 (i0.th 15) i40 aI ?_;refine PW.st dp h5 (gm.th 16) i40 aI ?_;clear jl i0 gm;refine PW.dn ?_;have sC:C1.size=33:=by rw[Y.e1];exact aL _
 have sD:C2.size=33:=by rw[Y.e2];exact aL _
 refine hG (pvl C1) λvC lo=>?_
 refine hG (pvl C2) λvD lc=>?_
 have lw:Hid (∀W,YN prog 14 #[i1,v1] W (rZ W λe w'=>e=vC)):=λW=>by
  have h:=lW C O R.c1.isLt R.t1.isLt W;rw[zC C k R.c1 R.t1,show wP ((aC C k).cm (hPV C) (gPG C) R.c1 R.t1)=C1 from Y.e1.symm,h6.out,hs.out,lo.out]at h;exact h
 have jd:Hid (∀W,YN prog 14 #[gq,v2] W (rZ W λe w'=>e=vD)):=λW=>by
  have h:=lW C O R.c2.isLt R.t2.isLt W;rw[zC C k R.c2 R.t2,show wP ((aC C k).cm (hPV C) (gPG C) R.c2 R.t2)=C2 from Y.e2.symm,h5.out,h8.out,lc.out]at h;exact h
 refine XG ?_;refine AW.beg 9 9 (J:=(Iv.mx w _ _ 10 l false)) (g8.out.drew.wk 10) ?_;refine AW.ro 0 (λW ⟨_,h⟩=>(h.at_ 15).2.1) h6 u40 i40 ?_;refine AW.ro 1 (λW ⟨_,h⟩=>(h.at_ 4).2.1) hs u40 i40 ?_;refine AW.ro 3 (λW ⟨_,h⟩=>(h.at_ 16).2.1) h5 u40 i40 ?_;refine AW.ro 4 (λW ⟨_,h⟩=>(h.at_ 5).2.1) h8 u40 i40 ?_;refine AW.gi 2 (λ_=>lw _) λov cp=>?_
 refine AW.va 6 (oZ l 66) ?_;refine AW.gi 5 (λ_=>jd _) λml d7=>?_
 have g1:=mk1 ((g8.drew.grow cp).grow d7);clear cp d7 g8 lw jd;refine hG (ml.setCells l 66 (aA C1)) λms d9=>?_
 refine hG (ms.setCells l 99 (aA C2)) λft f6=>?_
 have kx:=mk1 (Rp.Wr hr.2.2 (g1.at_ 10) sC);refine hG ({ p2 with c:=C1 }:Rp) λp3 ij=>?_
 rw[ij.out]at kx;have ba:=mk1 (g1.upd 10 d9 kx.2.1);have Z:=mk1 (Rp.Wq kx.2.2 (ba.at_ 10) sD);refine hG ({ p3 with d:=C2 }:Rp) λp4 fn=>?_
 rw[fn.out]at Z;have hl:=mk1 (ba.upd 10 f6 Z.2.1);refine AW.ss 7 lo (bN (a:=C1)) (by rw[aB sC];exact iCP) d9 (λ_=>⟨kx.1,ba.out.wk 10⟩) ?_;refine AW.nx 8 (oZ l 99) ?_;refine AW.ss 9 lc (bN (a:=C2)) (by rw[aB sD];exact iCP) f6 (λ_=>⟨Z.1,hl.out.wk 10⟩) ?_;refine AW.dn λ_=>?_
 clear g1 ba kx;refine hG (aW L6) λL7 fm=>?_
 have s7:L7.size=32:=by rw[<-fm.out];exact aY
 refine hG (nv R.x.val) λvx p=>?_
 refine hG (X9 p4.l.toArray) λvq jw=>?_
 refine hG (lgV r) λvl hw=>?_
 have j1:Hid (YN prog 85 #[vq,vl] ft (Ret λe w'=>SP.Only r 0 32 ft w'/\Holds encB w' r 0 L7/\e=vx)):=by
  have h:=PN O p4 Z.2.2 r L5 ft (hl.log 14) s5;rw[<-gs.out,show mdL (aW (aW L3)) p4.c p4.d=L6 by rw[<-fn.out,<-ij.out];exact Y.l6.symm,nG O T Y.x,fm.out,jw.out,hw.out,p.out]at h;exact h
 refine PW.bg [] ?_;refine PW.ro (cs:=p4.l) (hl.at_ 10).2.1 jw uRd (by rw[Rp.len Z.2.2];exact iRd) ?_;refine PW.ro (hl.at_ 11).2.1 hw uLg iLg ?_;refine PW.ca j1.out ?_;rintro e jh ⟨hO,hH,he⟩;obtain rfl:=he.symm;have ja:=mk1 (hl.say 14 hO hH);clear j1 hO hH hl;refine hG (jh.heap.size) λo5 ci=>?_
 refine hG (jh.alloc (.cells (RG.z 4).toArray 44)) λmw ct=>?_
 refine hG (mw.setCells o5 0 (wn R.x.val)) λow cy=>?_
 have ii:=mk1 (ja.new ci ct);have ia:=mk1 (ii.put 17 cy);refine PW.al ci ct ?_;refine PW.st cy p (ii.th 17) i40 aI ?_;clear ja ii;refine PW.dn ?_;have i7:Hid (∀(a b c:Nat->Fin N) (v:XB) (Q:Nat->Prop) (W:XA),(∀i,c i=a i+b i*R.x)->Ln Q W v R.n (λi=>(a i).val) (λi=>(b i).val)->YN prog 86 #[v,vx] W (rZ W λe w'=>SLq (W.heap.size<=·) w' e R.n (λi=>(c i).val))):=λa b c v Q W hc h=>by
  have h:=UF O n (λi _=>(a i).isLt) (λi _=>(b i).isLt) R.x.isLt h;rw[p.out]at h;refine h.mono ?_;rintro e w' ⟨H,rfl,E,J⟩;exact⟨_,rfl,E,J.fin c λi _=>by rw[hc,jP,eR]⟩
 refine XG ?_;refine AW.beg 7 7 (J:=(Iv.mp w _ _ false)) ia.out.drew ?_;refine AW.ro 0 (cs:=[.slice (some ⟨c3,bl,none⟩) R.n b5,.slice (some ⟨c6,c8,none⟩) R.n c5]) (λW h=>(h.at_ 6).2.1) (Hid.mk' rfl) uLi iLi ?_;refine AW.ro 1 (λW h=>(h.at_ 17).2.1) p u40 i40 ?_;refine AW.ro 3 (cs:=[.slice (some ⟨bj,bf,none⟩) R.n bd,.slice (some ⟨br,bz,none⟩) R.n b6]) (λW h=>(h.at_ 7).2.1) (Hid.mk' rfl) uLi iLi ?_;refine AW.ro 4 (λW h=>(h.at_ 17).2.1) p u40 i40 ?_;refine AW.ca 2 (λh=>i7 R.a0 R.s R.a _ _ _ (λ_=>rfl) (⟨_,_,rfl,h.get 7,h.get 8⟩:Ln _ _ _ R.n _ _)) (λe w' h=>h.1) ?_;rintro av ou ⟨ej,iq⟩;refine AW.ca 5 (λh=>i7 R.b0 R.b1 R.b _ _ _ (λ_=>rfl) (⟨_,_,rfl,h.get 9,h.get 10⟩:Ln _ _ _ R.n _ _)) (λe w' h=>h.1) ?_;rintro bv c4 ⟨dl,iz⟩;have l1:=mk1 (ia.drew.gets ej (pqS av R.n λi=>(R.a i).val) iq);have c0:=mk1 (l1.gets dl (pqS bv R.n λi=>(R.b i).val) iz);clear i7 ej dl iq iz ia l1;refine AW.nx 6 av ?_;refine AW.nx 7 bv ?_;refine AW.dn λ_=>?_
 refine hG (nv R.t.val) λvt j0=>?_
 have l0:Hid (YN prog 87 #[av,bv] c4 (rZ c4 λe w'=>e=vt)):=by
  have h:=BN O R.n oM (λi=>(R.a i).val) (λi=>(R.b i).val) (λi _=>(R.a i).isLt) (λi _=>(R.b i).isLt) av bv c4 (c0.get 11) (c0.get 12);rw[kM,show Md.pr R.a R.b R.n=R.t from rfl,j0.out]at h;exact h
 refine PW.bg [] ?_;refine PW.gi l0.out λo3 ff=>?_
 have fy:=mk1 (c0.grow ff);clear l0 ff c0;refine PW.go [oZ l 140] ?_;refine hG (o3.setCells l 140 (wn R.t.val)) λox ew=>?_
 have kf:=mk1 (Rp.We Z.2.2 (fy.at_ 10) R.t.val);refine hG ({ p4 with t:=R.t.val }:Rp) λp5 im=>?_
 rw[im.out]at kf;have gt:=mk1 (fy.upd 10 ew kf.2.1);refine PW.st ew j0 kf.1 i40 aI ?_;clear fy Z;refine PW.dn ?_;refine hG (nv (R.t1*R.x).val) λu1 ng=>?_
 refine hG (nv (R.t2*R.x).val) λu2 o1=>?_
 refine hG (nv (R.t2*R.x*R.x).val) λu3 n6=>?_
 refine hG (nv (R.t1*R.x+R.t2*R.x*R.x).val) λu4 o7=>?_
 refine hG (nv (R.z*R.z).val) λu5 mr=>?_
 refine hG (nv (R.z*R.z*R.k).val) λu6 o2=>?_
 refine hG (nv R.tau.val) λu7 jz=>?_
 have HT:=mk7 (λW=>yP O R.t1 R.x W) (λW=>yP O R.t2 R.x W) (λW=>yP O (R.t2*R.x) R.x W) (λW=>SB O (R.t1*R.x) (R.t2*R.x*R.x) W) (λW=>yP O R.z R.z W) (λW=>yP O (R.z*R.z) R.k W) (λW=>SB O (R.t1*R.x+R.t2*R.x*R.x) (R.z*R.z*R.k) W);rw[show R.t1*R.x+R.t2*R.x*R.x+R.z*R.z*R.k=R.tau from rfl,ng.out,o1.out,n6.out,o7.out,mr.out,o2.out,jz.out,hs.out,h8.out,p.out,h0.out,ha.out]at HT;refine XG ?_;refine AW.beg 16 16 (J:=(Iv.mp w _ _ true)) gt.out.drew ?_;refine AW.ro 0 (λW h=>(h.at_ 4).2.1) hs u40 i40 ?_;refine AW.ro 1 (λW h=>(h.at_ 17).2.1) p u40 i40 ?_;refine AW.ro 3 (λW h=>(h.at_ 5).2.1) h8 u40 i40 ?_;refine AW.ro 4 (λW h=>(h.at_ 17).2.1) p u40 i40 ?_;refine AW.ro 6 (λW h=>(h.at_ 17).2.1) p u40 i40 ?_;refine AW.ro 9 (λW h=>(h.at_ 13).2.1) h0 u40 i40 ?_;refine AW.ro 10 (λW h=>(h.at_ 13).2.1) h0 u40 i40 ?_;refine AW.ro 12 (λW h=>(h.at_ 0).2.1) ha u40 i40 ?_;refine AW.gi 2 (λ_=>HT.1 _) λx1 G=>?_
 refine AW.gi 5 (λ_=>HT.2.1 _) λx2 I=>?_
 refine AW.gi 7 (λ_=>HT.2.2.1 _) λx3 m8=>?_
 refine AW.gi 8 (λ_=>HT.2.2.2.1 _) λx4 lm=>?_
 refine AW.gi 11 (λ_=>HT.2.2.2.2.1 _) λx5 jb=>?_
 refine AW.gi 13 (λ_=>HT.2.2.2.2.2.1 _) λx6 l3=>?_
 refine AW.gi 14 (λ_=>HT.2.2.2.2.2.2 _) λoq jk=>?_
 have fu:=mk1 (((((((gt.drew.grow G).grow I).grow m8).grow lm).grow jb).grow l3).grow jk);clear G I m8 lm jb l3 jk gt HT;refine AW.nx 15 (oZ l 132) ?_;refine hG (oq.setCells l 132 (wn R.tau.val)) λoy ku=>?_
 have kw:=mk1 (Rp.V9 kf.2.2 (fu.at_ 10) R.tau.val);refine hG ({ p5 with u:=R.tau.val }:Rp) λp6 ix=>?_
 rw[ix.out]at kw;have ge:=mk1 (fu.upd 10 ku kw.2.1);refine AW.fi (us:=wn R.tau.val) jz aI i40 (λ_=>⟨kw.1,?_⟩);rw[ku.out];clear fu kf ku;refine hG (nv (R.rho*R.x).val) λu8 n8=>?_
 refine hG (nv R.mu.val) λu9 l6=>?_
 have HT:=mk2 (λW=>yP O R.rho R.x W) (λW=>SB O R.al (R.rho*R.x) W);rw[show R.al+R.rho*R.x=R.mu from rfl,n8.out,l6.out,hk.out,hq.out,p.out]at HT;refine XG ?_;refine AW.beg 6 6 (J:=(Iv.mp w _ _ true)) ge.out.drew ?_;refine AW.ro 0 (λW h=>(h.at_ 2).2.1) hk u40 i40 ?_;refine AW.ro 1 (λW h=>(h.at_ 3).2.1) hq u40 i40 ?_;refine AW.ro 2 (λW h=>(h.at_ 17).2.1) p u40 i40 ?_;refine AW.gi 3 (λ_=>HT.1 _) λx1 G=>?_
 refine AW.gi 4 (λ_=>HT.2 _) λnu I=>?_
 have fs:=mk1 ((ge.drew.grow G).grow I);clear G I ge HT;refine AW.nx 5 (oZ l 136) ?_;refine hG (nu.setCells l 136 (wn R.mu.val)) λi6 b3=>?_
 have kr:=mk1 (Rp.Wp kw.2.2 (fs.at_ 10) R.mu.val);have ez:Hid (({ p6 with m:=R.mu.val }:Rp)=pz):=by
  rw[<-U.out,<-ix.out,<-im.out,<-fn.out,<-ij.out,<-fj.out,<-i3.out];rfl
 rw[ez.out]at kr;have ka:=mk1 (fs.upd 10 b3 kr.2.1);have bk:pz.Ok:=kr.2.2;refine AW.fi (us:=wn R.mu.val) l6 aI i40 (λ_=>⟨kr.1,?_⟩);rw[b3.out];clear fs kw kr b3;refine hG (X9 pz.l.toArray) λme h7=>?_
 refine hG (aW L8) λL9 bh=>?_
 have s9:L9.size=32:=by rw[<-bh.out];exact aY
 refine hG (nv R.w.val) λvw b7=>?_
 have j5:Hid (YN prog 88 #[me,vl] i6 (Ret λe w'=>SP.Only r 0 32 i6 w'/\Holds encB w' r 0 L9/\e=vw)):=by
  have h:=P8 O pz bk (by rw[<-U.out];exact R.tau.isLt) (by rw[<-U.out];exact R.mu.isLt) (by rw[<-U.out];exact R.t.isLt) r L7 i6 (ka.log 14) s7;rw[<-fm.out,show enL (aW L6) pz.u pz.m pz.t=L8 by rw[<-U.out];exact Y.l8.symm,nG O T Y.w,bh.out,h7.out,hw.out,b7.out]at h;exact h
 refine PW.bg [] ?_;refine PW.ro (cs:=pz.l) (ka.at_ 10).2.1 h7 uRd (by rw[Rp.len bk];exact iRd) ?_;refine PW.ro (ka.at_ 11).2.1 hw uLg iLg ?_;refine PW.ca j5.out ?_;rintro e lu ⟨hO,hH,he⟩;obtain rfl:=he.symm;have iy:=mk1 (ka.say 14 hO hH);clear j5 hO hH he ka;refine hG (lu.heap.size) λnb cu=>?_
 refine hG (lu.alloc (.cells (RG.z 4).toArray 44)) λnn cg=>?_
 refine hG (nn.setCells nb 0 (wn R.w.val)) λn0 dz=>?_
 have ie:=mk1 (iy.new cu cg);have mh:=mk1 (ie.put 18 dz);refine PW.al cu cg ?_;refine PW.st dz b7 (ie.th 18) i40 aI ?_;clear iy ie;refine PW.dn ?_;have Kd:=mk1 mh.out.drew;have i4:=mk1 (Jh O R.n g9 n (gGT P) (hGT P) (uGT P) (λi hi=>⟨((oD C T.1 R.n).tl i hi).ok,by show 1<=512;decide⟩) (nI C T.1).ok (by show 1<=512;decide) R.y.val R.w.val R.y.isLt R.w.isLt _ n0.drew Kd.nk (Kd.get 4));rw[L.out,b7.out]at i4;refine XG ?_;refine AW.beg 10 10 (J:=(Iv.mx w _ _ 14 r true)) (Kd.out.wk 14) ?_;refine AW.ro 0 (cs:=pz.l) (λW ⟨_,h⟩=>(h.at_ 10).2.1) h7 uRd (by rw[Rp.len bk];exact iRd) ?_;refine AW.ro 1 (λW ⟨_,h⟩=>(h.at_ 11).2.1) hw uLg iLg ?_;refine AW.ro 2 (cs:=[.slice (some ⟨ga,oa,none⟩) R.n ca,.slice (some ⟨gb,ob,none⟩) R.n cb,sZ gc mc cc]) (λW ⟨_,h⟩=>(h.at_ 8).2.1) (Hid.mk' rfl) uGr iGr ?_;refine AW.ro 3 (λW ⟨_,h⟩=>(h.at_ 12).2.1) L u40 i40 ?_;refine AW.ro 4 (λW ⟨_,h⟩=>(h.at_ 18).2.1) b7 u40 i40 ?_;refine AW.mv 6 ?_;refine AW.mv 7 ?_;refine AW.ca 5 (λ_=>i4.out) (λe w' h=>h.1) ?_;rintro tv c7 ⟨cn,ke⟩;have H:=mk1 (Kd.grow cn);refine hG (((aC C k).pst (chF N) ivF u t q t).s) λLx mz=>?_
 have m4:Hid (YN prog 90 #[vl,tv,av,bv] c7 (Ret (PhR c7 r t Lb Rb Lx Ab Bb))):=by
  obtain⟨Q,F⟩:=H.out.q;have E:∀g,Q g->g≠r:=H.ne F 14;rw[F.out]at ke;have h:=NY C O k T t ht q u (gGT P) (qH N R.y.val (hGT P)) ((uGT P).map (tmT N R.w.val)) (by rw[mn];exact wL C T.1 _) (by rw[na];exact OC C k T (R:=R)) (by rw[hu];exact(nI C T.1).tm C k R.w) (by show 0<1;decide) (by show 1<=16;decide) Lb Rb mm n7 r tv av bv c7 (by rw[j2,bh.out];exact H.log 14) (by rw[j2,bh.out];exact s9) (by rw[<-hn];exact ke.mono E) (by rw[<-hn,mb];exact SLq.mono (H.vU F 11) E) (by rw[<-hn,og];exact SLq.mono (H.vU F 12) E);rw[mz.out,<-ny,<-nc,hw.out]at h;exact h
 clear i4 cn ke Kd;refine AW.cw 8 (λ_=>m4.out) (λe w' _ h=>⟨_,H.say 14 h.on h.lg rfl rfl⟩) ?_;rintro e nz b4;obtain⟨vL,vR,vA,vB,rfl,tL,tR,eA,eB⟩:=b4.ex;have io:=mk1 (H.say 14 b4.on b4.lg);have l8:=(H.at_ 1).1;clear m4 b4;have gn:=mk1 (QI O pz bk (by rw[<-U.out];exact R.tau.isLt) (by rw[<-U.out];exact R.mu.isLt) (by rw[<-U.out];exact R.t.isLt) vL vR vA vB ⟨tL.one.2,tR.one.2,eA.one.2,eB.one.2⟩ nz);rw[h7.out]at gn;refine AW.ca 9 (λ_=>gn.out) (λe w' h=>h.1) ?_;rintro e jx ⟨E,ra,rb,rc,b9,re,rf,bc,rfl,hT⟩;have fl:=mk1 (io.grow E);have bt:vA.oneCell'=true/\vB.oneCell'=true/\vL.oneCell'=true/\vR.oneCell'=true:=⟨eA.one.2,eB.one.2,tL.one.2,tR.one.2⟩
 have RA:Hid (RgA c7.heap.size t pz Lb Rb Ab Bb (.agg #[r33 ra,r33 rb,r33 rc,r33 b9,r32 re,r32 rf,r32 bc,vL,vR,vA,vB]) jx):=⟨_,_,_,_,_,_,_,_,_,_,_,rfl,hT.mono2 λ_ _ _=>trivial,tL.below E,tR.below E,(eA.keep (Kq.of_below E)).mono2 λ_ _ _=>trivial,(eB.keep (Kq.of_below E)).mono2 λ_ _ _=>trivial⟩
 clear hT tL tR eA eB E gn io;refine hG (jx.setCells k8 0 [r33 ra,r33 rb,r33 rc,r33 b9,r32 re,r32 rf,r32 bc,vL,vR,vA,vB]) λpb km=>?_
 have jn:=mk1 (fl.put 1 km);have RB:=mk1 (RA.set (us:=[r33 ra,r33 rb,r33 rc,r33 b9,r32 re,r32 rf,r32 bc,vL,vR,vA,vB]) (fl.at_ 1) l8);rw[km.out]at RB;refine AW.fi (us:=[r33 ra,r33 rb,r33 rc,r33 b9,r32 re,r32 rf,r32 bc,vL,vR,vA,vB]) (Hid.mk' rfl) (by simp only[yAJ,yCN,yC6,bt.1,bt.2.1,bt.2.2.1,bt.2.2.2,show ∀g,(r33 g).oneCell'=true from λ_=>rfl,show ∀g,(r32 g).oneCell'=true from λ_=>rfl,yC9]) iAr (λ_=>⟨fl.th 1,?_⟩);rw[km.out];have KE:=mk2 jn.bl (YV H.bl.size RB.out);have K8:=jn.at_ 1;refine Za ?_;refine XN (aF 8 (T:=66) rfl K8 rfl uAr iAr) rfl ?_;exact⟨_,rfl,KE.1,_,KE.2.1,KE.2.2⟩
def Wd(n t:Nat):Prop:=n=2^t/\3<=t/\t<=6
def Wd.hv{n t:Nat}(h:Wd n t)(W:XA):cZ 73 #[iZ n] W (rZ W λe w'=>e=.tuple #[iZ t,tZ]):=by
 obtain⟨rfl,-,k⟩:=h;rw[<-So k];exact Ss (2^t) (Ro k) W
def Wd.eight{n t:Nat}(h:Wd n t):8<=n:=by
 obtain⟨rfl,k,-⟩:=h;exact Y5 (n:=2) dC k
def PU{n t:Nat}(h:Wd n t)(w:XA):cZ 40 #[iZ n] w (rZ w λe w'=>e=tZ):=by
 have H:=mk1 (h.hv w);have d:(8:Int)<=(n:Int):=oN h.eight;clear h;go_enter func40,ntmps40;go_wp2_with fail
 refine H.mono ?_;rintro e c ⟨f,rfl,b,rfl⟩;have k:=mk1 b;go_wp2;go_ret;exact⟨_,rfl,k,rfl⟩
def GF{n t:Nat}(h:Wd n t)(w:XA):cZ 41 #[iZ n] w (rZ w λe w'=>e=uZ ((2^n-1:Nat):Int)):=by
 obtain⟨rfl,b,c⟩:=h;have k:t=3\/t=4\/t=5\/t=6:=oM;rcases k with rfl|rfl|rfl|rfl
 all_goals
  go_enter func41,ntmps41;go_wp2;go_ret;exact⟨_,rfl,XR _ _,rfl⟩
end
section
open SPA
def opC(k a b:Nat):List XB:=[iZ k,uZ a,uZ b]
def PV{n:Nat}(b:1<=n)(k:n<=3):Gives 35 #[iZ n] tZ:=λw=>by
 have e3:(n:Int)<=3:=by omega
 go_enter func35,ntmps35;go_wp2;go_ret;exact⟨_,rfl,XR _ _,rfl⟩
def uOp:yZ 26:=yQ
def iOp:gZ 26 3:=gQ
def Ad:wZ 24:=wQ
def G5(k a b:Nat)(w:XA):(Ys 26 (.agg (opC k a b).toArray)).run prog w=.ok (jZ w.heap.size) (w.alloc (.cells (opC k a b).toArray 26)):=kR
def VI(k a b:Nat):Gives 36 #[.agg (opC k a b).toArray] (uZ a):=λw=>by
 refine hG w.heap.size λf c=>?_
 refine hG (w.alloc (.cells (opC k a b).toArray 26)) λg d=>?_
 have e:=mk1 ((Mp.start w).new c d);have B:=G5 k a b w;rw[c.out,d.out]at B;go_enter func36,ntmps36;refine PW.bg [] ?_;refine PW.ns B ?_;refine PW.en [uZ 0] ?_;refine PW.bg [oZ f 1] ?_;refine PW.ce ((e.at_ 0).2.1 1 _ rfl) Ad ?_;refine PW.en [uZ a] ?_;go_wp2;go_ret;exact⟨_,rfl,e.bl,rfl⟩
def VH(k a b:Nat):Gives 38 #[.agg (opC k a b).toArray] (uZ b):=λw=>by
 refine hG w.heap.size λf c=>?_
 refine hG (w.alloc (.cells (opC k a b).toArray 26)) λg d=>?_
 have e:=mk1 ((Mp.start w).new c d);have B:=G5 k a b w;rw[c.out,d.out]at B;go_enter func38,ntmps38;refine PW.bg [] ?_;refine PW.ns B ?_;refine PW.en [uZ 0] ?_;refine PW.bg [oZ f 2] ?_;refine PW.ce ((e.at_ 0).2.1 2 _ rfl) Ad ?_;refine PW.en [uZ b] ?_;go_wp2;go_ret;exact⟨_,rfl,e.bl,rfl⟩
def sdW(N:Nat):Nat->Nat
 | 0=>sMi N 0 1
 | _=>1
def sdL:Nat->ByteArray
 | 0=>⟨#[105,110]⟩
 | _=>⟨#[111,117,116]⟩
def sdP:Nat->ByteArray
 | 0=>⟨#[112,114,111,111,102,32,105,110]⟩
 | _=>⟨#[112,114,111,111,102,32,111,117,116]⟩
def sdA:Nat->ZQ
 | 0=>36
 | _=>38
def sdC(N i:Nat):List XB:=[.string (sdL i),.string (sdP i),.func (.func (sdA i)) #[] #[]]++wn (sdW N i)
def sdH(m:Nat):List XB:=[.string (sdL 0),.string (sdP 0),.func (.func (sdA 0)) #[] #[]]++wn m
def Vm(m:Nat)(w:XA):(Yw 57 2 #[(0,.agg (sdH m).toArray),(1,.agg (sdC N 1).toArray)]).run prog w=.ok (sZ w.heap.size 2 2) (w.alloc (.cells ((sdH m)++sdC N 1).toArray 61)):=kR
def v9(O:Ord N)(w:XA):cZ 17 #[] w (rZ w λe w'=>∃g,e=sZ g 2 2/\w.heap.size<=g/\Row w' g (sdC N 0++sdC N 1)):=by
 have f:1<N:=oN O.n2;have H:=mk3 (rQ 1 (by omega)) (Em O f) True.intro;obtain⟨m,n⟩:=hE (sMi N 0 1);have q:sdC N 0=sdH m:=by rw[<-n.out];rfl
 rw[q];rw[n.out]at H;go_enter func17,ntmps17;refine PW.rg [nZ] ?_;refine PW.bg [] ?_;refine PW.gi (H.1 w) λp k=>?_
 refine PW.gi (H.2.1 p) λr c=>?_
 refine PW.go [.agg (sdH m).toArray] ?_;refine PW.gi (H.1 r) λd j=>?_
 refine PW.go [.agg (sdC N 1).toArray] ?_;have i:=mk1 ((k.trans (c.mono k.size)).trans (j.mono (XH k.size c.size)));refine hG d.heap.size λg l=>?_
 refine hG (d.alloc (.cells ((sdH m)++sdC N 1).toArray 61)) λs b=>?_
 have B:=Vm (N:=N) m d;rw[l.out,b.out]at B;have o:=mk1 ((Mp.start d).new l b);refine PW.ns B ?_;refine PW.en [sZ g 2 2] ?_;go_wp2;go_ret;exact⟨_,rfl,i.trans (o.bl.mono i.size),g,rfl,l.out▸i.size,o.at_ 0⟩
end
def kSc(N:Nat)(T:Bs):Nat:=lJ (mK N (kX T.toList 64))
def KJ{T:Bs}(O:Ord N):kSc N T<N:=J9 O (oS O)
def DZ(O:Ord N)(n:Nat)(T:Bs)(w:XA)(r:T.size=32)(t:hZ w n 0 T):
 cZ 72 #[sZ n 32 32] w (rZ w λe w'=>e=nv (kSc N T)):=by
 obtain⟨c,k⟩:=yH (w.alloc (.cells #[uZ 0,uZ 0,uZ 0,uZ 0] 44));have g:Hid (Row c w.heap.size [uZ 0,uZ 0,uZ 0,uZ 0]/\kZ w c/\hZ c n 0 T):=by rw[<-k.out];exact⟨row_new w _ _,aD _,Holds.below t (aD _) (Holds.lt t oM)⟩
 clear t;have j:=oS O (k:=(kX T.toList 64));have f:=Gc O j;have l:=Ck O n T c r g.2.2;have A:Hid (kSc N T=lJ (mK N (kX T.toList 64))):=rfl;generalize mK N (kX T.toList 64)=m at f l A j;rw[A.out];generalize lJ m=x at f⊢;obtain⟨B,z⟩:=yH (nv m);rw[z.out]at f l;go_enter func72,ntmps72;go_wp2_with fail
 rw[k.out];clear k;refine l.mono ?_;rintro e q ⟨v,rfl,u,rfl⟩;have p:Hid (Row q w.heap.size [uZ 0,uZ 0,uZ 0,uZ 0]/\kZ w q):=⟨g.1.below u,g.2.1.trans (u.mono g.2.1.size)⟩
 clear u g l;go_wp2_with fail
 apply(f q).mono;rintro e s ⟨v,rfl,b,rfl⟩;have y:Hid (Row s w.heap.size [uZ 0,uZ 0,uZ 0,uZ 0]/\kZ w s):=⟨p.1.below b,p.2.trans (b.mono p.2.size)⟩
 clear b p f;obtain⟨o,i⟩:=yH (s.setCells w.heap.size 0 (wn x));have a:Hid (Row o w.heap.size (wn x)/\kZ w o):=by rw[<-i.out];exact⟨y.1.put rfl,RG.below_setCells (XD _) _ _ _ y.2⟩
 obtain⟨C,d⟩:=yH (nv x);rw[d.out];go_wp2_with (refine Yk rfl 44 _ _ rfl w.heap.size 0 (wn x).toArray ?_ ?_ ?_ ?_ ?_ ?_;rfl;exact d.symm;exact y.1.2.2;exact i40;exact aI;rw[show(wn x).toArray.toList=wn x from rfl,i.out])
 refine XN (aF 2 rfl a.1 rfl u40 i40) rfl ?_;exact⟨_,rfl,a.2,rfl⟩
def AA{w:XA}{q:Option Y0}{n c:Nat}{b:Bs}(h:PartOk w (.slice q n c) b.toList):(convert 23 9 (.slice q n c)).run prog w=.ok (.string ⟨b⟩) w:=by
 obtain⟨a,f,i,cap,k,l,m,p,-,d⟩:=h;cases l
 obtain rfl:=Array.ext' m;rcases d with d|⟨rfl,e⟩
 .have g:k=#[]:=Array.eq_empty_of_size_eq_zero d;subst g;cases q with
  | none=>exact run_convert_bytes_nil (P:=prog) (w:=w) 23 5 slice22 int5 0 c 9 str9
  | some a=>exact run_convert_bytes_back (P:=prog) w 23 9 5 a c [] slice22 int5 str9 (λj o=>by cases o)
 .exact SP.conv_str prog 23 9 5 slice22 int5 str9 w f i k.size c k e rfl
def Xm(a b:Bs):((⟨a⟩:ByteArray).toList == (⟨b⟩:ByteArray).toList)=decide (a=b):=by
 by_cases h:a=b
 .subst h;simp
 .rw[decide_eq_false h];have:¬((⟨a⟩:ByteArray).toList=(⟨b⟩:ByteArray).toList):=λe=>by
   rw[yCT,yCT]at e;exact h (yDL.1 e)
  simpa using this
def OH{q g:Option Y0}{n c f i:Nat}{b d:Bs}{w:XA}(hv:PartOk w (.slice q n c) b.toList)(k:PartOk w (.slice g f i) d.toList):cZ 12 #[.slice q n c,.slice g f i] w λe w'=>e=.returned (.bool (decide (b=d)))/\w'=w:=by
 have l:=AA hv;have m:=AA k;have j:=Xm b d;clear hv k;go_enter func12,ntmps12;go_wp2;go_ret;exact⟨by first|rfl|simp[j],rfl⟩
def EB{b:Bs}:(CU b).size=32:=by unfold CU;exact bR
def Er{a b:Bs}:(nV a b).size=32:=by unfold nV;exact bR
def ksB(N:Nat)(S:Nat->Nat)(k:Bs)(n:Nat)(l:List UInt8):Bs:=if k.size=32/\n<=16 then bx (kSc N (zA S k n l)) else #[]
def I3(O:Ord N)(G:Option Y0)(E sc:Nat)(k:Bs)(b:ByteArray)(t:b.size<=65536)(q:Option Y0)(n c:Nat)(S:Nat->Nat)(w:XA)(W:n<=1048576)(P:PartOk w (.slice G E sc) k.toList)(A:E=k.size)(M:Du w q n S):
 cZ 39 #[.slice G E sc,.string b,.slice q n c] w (rZ w λe w'=>∃v,e=.tuple #[v,iZ (kdE k n:Int)]/\Aa w' v (ksB N S k n b.data.toList).toList):=by
 have hd:=Dv G E sc k b t q n c S w W P A M;clear P M A;by_cases d:k.size=32/\n<=16
 .have hE:kdE k n=0:=by unfold kdE;rw[yEX d.1,yEX d.2]
  have u:ksB N S k n b.data.toList=bx (kSc N (zA S k n b.data.toList)):=by unfold ksB;rw[yEX d]
  rw[hE,u];have m:=AP S k n b.data.toList;generalize zA S k n b.data.toList=T at hd m⊢;have I:=Hid.mk2 d;have o:=Hid.mk2 (λr w (h:hZ w r 0 T)=>DZ O r T w m h);have l:=Hid.mk2 (nP O (KJ O (T:=T)));have g:=cQ (kSc N T);generalize kSc N T=x at o l g⊢;generalize bx x=B at l g⊢;obtain⟨U,H⟩:=yH (nv x);rw[H.out]at o l;clear hE u d;go_enter func39,ntmps39;go_wp2_with fail
  refine hd.mono ?_;rintro e p ⟨v2,rfl,i,f⟩;obtain⟨r,rfl,V,K⟩:∃r,v2=.tuple #[sZ r 32 32,iZ 0]/\w.heap.size<=r/\hZ p r 0 T:=by
   rcases f with⟨f,-⟩|⟨-,f⟩
   .exact absurd I f
   .exact f
  have s:Hid (kZ w p/\hZ p r 0 T):=⟨i,K⟩
  clear i f V K hd;go_wp2_with fail
  apply(o r p s.2).mono;rintro e L ⟨X,rfl,z,rfl⟩;have J:Hid (kZ w L):=s.1.trans (z.mono s.1.size);have C:=l L;clear z s;go_wp2_with fail
  refine C.mono ?_;rintro e Q ⟨Y,rfl,y,D,rfl⟩;have R:Hid (kZ w Q/\PartOk Q (sZ y 32 32) B.toList):=by
   refine⟨J.trans (D.bel.mono J.size),⟨_,y,0,32,B,by rw[g],rfl,by rw[g];exact XD _,by rw[g];decide,X7 ⟨rfl,λj F=>?_⟩⟩⟩;have a:=D.range j (encB B[j]!) (by unfold cb;rw[YB,getElem!_pos B j F,<-Array.getElem_toList F,XO (by rw[Array.length_toList];exact F)];rfl);exact⟨a,(D.there j (by rw[lS];exact F)).2⟩
  clear D C J;go_wp2
  go_ret2
  exact⟨.tuple #[sZ y 32 32,iZ 0],rfl,R.1,sZ y 32 32,rfl,⟨some (aZ y),32,32,rfl⟩,R.2⟩
 .have u:ksB N S k n b.data.toList=#[]:=by unfold ksB;rw[yEY d]
  rw[u];have l:¬(kdE k n:Int)=0:=by
   unfold kdE;by_cases a:k.size=32
   .rw[yEX a,yEY (λh=>d ⟨a,h⟩)];decide
   .rw[yEY a];decide
  have g:((kdE k n:Int) == 0)=false:=by simpa using l
  have I:=Hid.mk2 d;clear u d;generalize kdE k n=ee at hd l g⊢;go_enter func39,ntmps39;go_wp2_with fail
  refine hd.mono ?_;rintro e p ⟨v2,rfl,i,f⟩;obtain rfl:v2=.tuple #[nZ,iZ ee]:=by
   rcases f with⟨-,f⟩|⟨f,-⟩
   .exact f
   .exact absurd f I
  have s:Hid (kZ w p):=i;clear i f hd;go_wp2
  go_ret2
  exact⟨_,rfl,s,_,rfl,⟨_,_,_,rfl⟩,Ii (w:=p)⟩
section
open SPA
def TE:wZ 9:=wQ
def J3{W:XA}{v:XB}{b:Bs}(h:PartOk W v b.toList)(l:b.size=32):Arg W v b:=by
 obtain⟨a,f,d,cap,e,rfl,g,j,-,k⟩:=h;obtain rfl:e=b:=yDL.1 g;refine⟨a,_,cap,rfl,rfl,λi=>?_⟩;rcases k with k|⟨rfl,c⟩
 .omega
 .exact⟨f,d,rfl,oM,Holds.lt c oM,c⟩
def Qf(i:Nat)(w:XA):(Ys 61 (.agg (sdC N i).toArray)).run prog w=.ok (jZ w.heap.size) (w.alloc (.cells (sdC N i).toArray 61)):=kR
def Vk(n:Nat)(w:XA):(Yw 93 1 #[(0,.int .u32 n)]).run prog w=.ok (sZ w.heap.size 1 1) (w.alloc (.cells [YW .u32 n].toArray 38)):=kR
def blN(N:Nat)(k:Bs)(i n:Nat):Nat:=kSc N (zA (λ_=>n) k 1 (sdL i).data.toList)
def psB(k:Bs)(i n:Nat):Bs:=zA (λ_=>n) k 1 (sdP i).data.toList
def QX:∀i,(sdL i).size<=65536
 | 0=>YL rfl
 | _+1=>YL rfl
def QW:∀i,(sdP i).size<=65536
 | 0=>YL rfl
 | _+1=>YL rfl
def Kh{W:XA}{k n:Nat}(c:n<4294967296)(b:Row W k [.int .u32 n]):Du W (some (aZ k)) 1 (λ_=>n):=⟨λ_ _=>c,λ_=>⟨k,0,rfl,b.1,λj d=>by
 obtain rfl:j=0:=oM;exact b.2.1 0 _ rfl⟩⟩
def Ug(i n:Nat)(D:n<4294967296)(l:Bs)(g:l.size=32)(o:Option Y0)(sc:Nat)(w:XA)(x:PartOk w (.slice o 32 sc) l.toList):YN prog 21 #[.agg (sdC N i).toArray,.slice o 32 sc,.int .u32 n] w (rZ w λe w'=>∃r,e=sZ r 32 32/\w.heap.size<=r/\Holds encB w' r 0 (psB l i n)):=by
 refine hG w.heap.size λC b=>?_
 refine hG (w.alloc (.cells (sdC N i).toArray 61)) λm c=>?_
 have p:=mk1 ((Mp.start w).new b c);have B:=Qf (N:=N) i w;rw[b.out,c.out]at B;refine hG m.heap.size λt k=>?_
 refine hG (m.alloc (.cells [YW .u32 n].toArray 38)) λA d=>?_
 have f:=mk1 (p.new k d);have u:=Vk n m;rw[k.out,d.out]at u;have v:=mk1 (Dv o 32 sc l (sdP i) (QW i) (some (aZ t)) 1 1 (λ_=>n) A oM (x.below f.bl) g.symm (Kh D (f.at_ 1)));obtain⟨cs,j⟩:=hE (sdC N i);have a:cs[1]? = some (.string (sdP i)):=by rw[<-j.out];rfl
 rw[j.out]at B p⊢;go_enter func21,ntmps21;refine PW.bg [] ?_;refine PW.ns B ?_;refine PW.en [.slice none 0 0] ?_;refine PW.bg [oZ C 1] ?_;refine PW.ce ((p.at_ 0).2.1 1 _ a) TE ?_;refine PW.go [] ?_;refine PW.ns u ?_;refine PW.ca v ?_;rintro e E ⟨s,⟨h,-⟩|⟨-,r,rfl,z,y⟩⟩
 .exact absurd ⟨g,oM⟩ h
 have q:=mk3 (f.bl.trans (s.mono f.bl.size)) (XH f.bl.size z) y;refine PW.en [sZ r 32 32,iZ 0,sZ r 32 32,iZ 0] ?_;go_wp2;go_ret;exact⟨_,rfl,q.1,r,rfl,q.2.1,q.2.2⟩
def BZ(O:Ord N)(k:Bs)(i n:Nat):blN N k i n<N:=KJ O
def Qh(O:Ord N)(i n:Nat)(hn:n<4294967296)(k:Bs)(d:k.size=32)(x:Option Y0)(sc:Nat)(w:XA)(X:PartOk w (.slice x 32 sc) k.toList):YN prog 18 #[.agg (sdC N i).toArray,.slice x 32 sc,.int .u32 n] w (rZ w λe w'=>e=nv (blN N k i n)):=by
 refine hG w.heap.size λk3 g=>?_
 refine hG (w.alloc (.cells (sdC N i).toArray 61)) λH j=>?_
 have R:=mk1 ((Mp.start w).new g j);have B:=Qf (N:=N) i w;rw[g.out,j.out]at B;refine hG H.heap.size λJ o=>?_
 refine hG (H.alloc (.cells (RG.z 4).toArray 44)) λD l=>?_
 have y:=mk1 (R.new o l);refine hG D.heap.size λF c=>?_
 refine hG (D.alloc (.cells [YW .u32 n].toArray 38)) λw3 p=>?_
 have u:=mk1 (y.new c p);have I:=Vk n D;rw[c.out,p.out]at I;have C:=I3 O x 32 sc k (sdL i) (QX i) (some (aZ F)) 1 1 (λ_=>n) w3 oM (X.below u.bl) d.symm (Kh hn (u.at_ 2));have Y:kdE k 1=0:=by unfold kdE;rw[yEX d];rfl
 have e2:ksB N (λ_=>n) k 1 (sdL i).data.toList=bx (blN N k i n):=by unfold ksB;rw[yEX ⟨d,oM⟩];rfl
 rw[Y,e2]at C;have T:=BZ O k i n;generalize blN N k i n=m at T C⊢;have Q:=λv W (h:Arg W v (bx m))=>vZ O h
 rw[kQ O T]at Q;obtain⟨V,b⟩:=hE (nv m);have z:Hid (∀v W,Arg W v (bx m)->YN prog 11 #[v] W (rZ W λe w'=>e=.tuple #[V,.bool true])):=by rw[<-b.out];exact Q
 obtain⟨cs,t⟩:=hE (sdC N i);have h1:cs[0]? = some (.string (sdL i)):=by rw[<-t.out];rfl
 rw[t.out]at B R y u⊢;have A:=mk1 C;go_enter func18,ntmps18;refine PW.bg [] ?_;refine PW.ns B ?_;refine PW.al o l ?_;refine PW.dn ?_;refine PW.bg [jZ k3] ?_;refine PW.ce ((y.at_ 0).2.1 0 _ h1) TE ?_;refine PW.go [] ?_;refine PW.ns I ?_;refine PW.ca A ?_;rintro e w4 ⟨G,v,rfl,⟨P,K,S,rfl⟩,hp⟩;have K4:=mk1 (u.grow G);have A4:=J3 hp (cQ _);refine PW.en [.slice P K S,iZ 0,.slice P K S,iZ 0] ?_;refine PW.bg [] ?_;refine PW.gi (z _ w4 A4) λU E=>?_
 have K5:=mk1 (K4.grow E);refine PW.go [V,.bool true] ?_;refine hG U.heap.size λk9 f=>?_
 refine hG (U.alloc (.cells (RG.z 4).toArray 44)) λZ s=>?_
 refine hG (Z.setCells k9 0 (wn m)) λw7 q=>?_
 have M:=mk1 (K5.new f s);have a:=mk1 (M.put 3 q);refine PW.al f s ?_;refine PW.st q b (M.th 3) i40 aI ?_;refine PW.en [.bool true] ?_;refine PW.bg [] ?_;refine hG (w7.setCells J 0 (wn m)) λw8 r=>?_
 have L:=mk1 (a.put 1 r);refine PW.ro (a.at_ 3).2.1 b u40 i40 ?_;refine PW.st r b (a.th 1) i40 aI ?_;refine PW.dn ?_;refine Za<|XN (aF 6 rfl (show Row w8 J (wn m) from L.at_ 1) rfl u40 i40) rfl ?_
 exact⟨_,rfl,L.bl,rfl⟩
end
section
open SPA
variable {P:Nat}[NeZero P]{N:Nat}[NeZero N]
omit [NeZero N] in
theorem SE(O:Ord N)(a b:Fin N)(W:XA):cZ 71 #[nv a.val,nv b.val] W (rZ W λe w'=>e=nv (a-b).val):=by
 rw[Ku];exact D3 O a.val b.val a.isLt b.isLt W
def rgD(n:Nat)(y z:Fin N):Fin N:=(z-z*z)*Md.pr (λ_=>1) (pwF y) n-z*z*z*ofF N (2^n-1)
def Aw{a:Bs}{n:Nat}{w:XA}(k:a.size=33):cZ 32 #[pvl a,nv n] w (rZ w λe w'=>Sm w.heap.size w' e [(n,a)]):=
 (lH a k n w).mono λ_ _ ⟨_,c,d,_,f,b,hR⟩=>⟨_,c,d,by rw[f];exact Sm.one hR b rfl⟩
def Nn(C:Fld P)(O:Ord N)(k:∀r:EC.Pt P,On r->mul N r=none)(hP:IsP N)(hN:18446744073709551616<=N){n t:Nat}(hw:Wd n t)(p:Rp)(ok:p.Ok)(V:Bs)(Vp P1 P2:OnP P)(hV:V=wP Vp)(h1:p.c=wP P1)(h2:p.d=wP P2)(tau tt x y z:Fin N)(hu:p.u=tau.val)(ht:p.t=tt.val)(w:XA)(X Y:Bs)(hX:X=wP ((aC C k).cm (hPV C) (gPG C) (tt-rgD n y z) tau))(hY:Y=wP ((aC C k).ad ((aC C k).ad ((aC C k).ac (z*z) Vp) ((aC C k).ac x P1)) ((aC C k).ac (x*x) P2))):
 cZ 162 #[.agg p.l.toArray,pvl V,iZ n,nv x.val,nv y.val,nv z.val] w (rZ w λe w'=>e=.bool (decide (X=Y))):=by
 have hp:n<=64:=by rw[hw.1];exact XH (Y5 dC hw.2.2) dC
 have sV:V.size=33:=by rw[hV];exact aL _
 obtain⟨vp,h7⟩:=hE (X9 p.l.toArray);obtain⟨vV,l⟩:=hE (pvl V);obtain⟨vx,j⟩:=hE (nv x.val);obtain⟨vy,m⟩:=hE (nv y.val);obtain⟨vz,d⟩:=hE (nv z.val);obtain⟨vq,f⟩:=hE (nv (z*z).val);obtain⟨T,hr⟩:=hE (w.heap.size);obtain⟨w1,hq⟩:=hE (lZ w p.l 153);obtain⟨k7,h0⟩:=hE (w1.heap.size);obtain⟨w2,he⟩:=hE (lZ w1 (aA V) 51);obtain⟨k9,R⟩:=hE (w2.heap.size);obtain⟨w3,h4⟩:=hE (lZ w2 (wn x.val) 44);obtain⟨kg,B⟩:=hE (w3.heap.size);obtain⟨w4,U⟩:=hE (lZ w3 (wn y.val) 44);obtain⟨kf,G⟩:=hE (w4.heap.size);obtain⟨w5,hi⟩:=hE (lZ w4 (wn z.val) 44);have K5:=mk1 (((((Mp.start w).new hr hq).new h0 he).new R h4).new B U |>.new G hi);have B1:Hid ((Ys 153 vp).run prog w=.ok (jZ T) w1):=h7.out▸hq.out▸hr.out▸Mh ok w;have B2:Hid ((Ys 51 vV).run prog w1=.ok (jZ k7) w2):=l.out▸he.out▸h0.out▸sL sV w1;have B3:Hid ((Ys 44 vx).run prog w2=.ok (jZ k9) w3):=j.out▸h4.out▸R.out▸boxS _ (w:=w2);have B4:Hid ((Ys 44 vy).run prog w3=.ok (jZ kg) w4):=m.out▸U.out▸B.out▸boxS _ (w:=w3);have B5:Hid ((Ys 44 vz).run prog w4=.ok (jZ kf) w5):=d.out▸hi.out▸G.out▸boxS _ (w:=w4);rw[h7.out,l.out,j.out,m.out,d.out];go_enter func162,ntmps162;refine PW.bg [] ?_;refine PW.ns B1 ?_;refine PW.ns B2 ?_;refine PW.ns B3 ?_;refine PW.ns B4 ?_;refine PW.ns B5 ?_;refine PW.en [fZ] ?_;have HQ:=mk1 (yP O z z w5);rw[d.out,f.out]at HQ;refine PW.bg [] ?_;refine PW.ro (K5.at_ 4).2.1 d u40 i40 ?_;refine PW.ro (K5.at_ 4).2.1 d u40 i40 ?_;refine PW.gi HQ λw6 J=>?_
 have K6:=mk1 (K5.grow J);obtain⟨kl,H⟩:=hE (w6.heap.size);obtain⟨w7,hm⟩:=hE (lZ w6 (RG.z 4) 44);obtain⟨w8,h6⟩:=hE (w7.setCells kl 0 (wn (z*z).val));have K7:=mk1 (K6.new H hm);have K8:=mk1 (K7.put 5 h6);refine PW.al H hm ?_;refine PW.st h6 f (K7.th 5) i40 aI ?_;refine PW.dn ?_;obtain⟨v1,hk⟩:=hE (nv 1);have HO:=mk1 (rQ 1 dC w8);rw[hk.out]at HO;refine PW.bg [] ?_;refine PW.gi HO λw9 k3=>?_
 have K9:=mk1 (K8.grow k3);obtain⟨kb,hl⟩:=hE (w9.heap.size);obtain⟨wA,h9⟩:=hE (lZ w9 (wn 1) 44);have kn:Hid ((Yw 143 1 #[(0,v1)]).run prog w9=.ok (sZ kb 1 1) wA):=hk.out▸h9.out▸hl.out▸Vj (n:=1) (w:=w9);have FA:=aK hl h9;refine PW.ns kn ?_;refine PW.go [] ?_;refine PW.ca (JR 1 kb n oM wA FA.2) ?_;rintro ov wB ⟨kh,I⟩;replace I:=I.fin (λ_=>(1:Fin N)) (λi _=>(X6 hP.1).symm);have q:=mk1 ((K9.grow FA.1).gets kh (pqS ov n λi=>((λ_=>(1:Fin N)) i).val) I);refine PW.en [ov] ?_;obtain⟨a1,k1⟩:=hE (nv (z-z*z).val);obtain⟨a2,hn⟩:=hE (nv (Md.pr (λ_=>1) (pwF y) n).val);obtain⟨a3,k4⟩:=hE (nv ((z-z*z)*Md.pr (λ_=>1) (pwF y) n).val);obtain⟨a4,k2⟩:=hE (nv (z*z*z).val);obtain⟨a5,k0⟩:=hE (nv (ofF N (2^n-1)).val);obtain⟨a6,k5⟩:=hE (nv (z*z*z*ofF N (2^n-1)).val);obtain⟨a7,A⟩:=hE (nv (rgD n y z).val);have M:=mk5 (λW=>SE O z (z*z) W) (λW=>yP O (z-z*z) (Md.pr (λ_=>1) (pwF y) n) W) (λW=>yP O (z*z) z W) (λW=>yP O (z*z*z) (ofF N (2^n-1)) W) (λW=>SE O ((z-z*z)*Md.pr (λ_=>1) (pwF y) n) (z*z*z*ofF N (2^n-1)) W);rw[show(z-z*z)*Md.pr (λ_=>1) (pwF y) n-z*z*z*ofF N (2^n-1)=rgD n y z from rfl,k1.out,hn.out,k4.out,k2.out,k0.out,k5.out,A.out,d.out,f.out]at M;have l2:2^n-1<2^64:=by
  have:=Y5 (n:=2) dC hp;have:=yAz (n:=n) (show 0<2 by decide);omega
 obtain⟨gi,hj⟩:=hE (2^n-1);have km:Hid (∀W,cZ 15 #[uZ gi] W (rZ W λe w'=>e=a5)):=λW=>by
  rw[<-k0.out,<-hj.out,show(ofF N (2^n-1)).val=2^n-1 from X6 oM];exact rQ _ l2 W
 have ko:Hid (∀W,cZ 41 #[iZ n] W (rZ W λe w'=>e=uZ gi)):=λW=>by
  rw[<-hj.out];exact GF hw W
 obtain⟨Q,hQ⟩:=q.q;apply XG;refine(gwL [pE vz,pE vq,pE a1,pE ov,pE vy,pE (iZ n),RG.pS Q n (λi=>(pwF y i).val),pE a2,pE a3,pE vq,pE vz,pE a4,pE (iZ n),pE (uZ gi),pE a5,pE a6,pE a7,RG.pN wB.heap.size (RG.z 4)] (λW=>kZ wB W) (λW W' hb h=>h.trans (hb.mono h.size))).tail2 18 kR kR kR ⟨
  gLo (cs:=wn z.val) 11 (λW c=>((q.grow c).at_ 4).2.1) u40 i40 (hR:=λ_=>d),
  gLo (cs:=wn (z*z).val) 13 (λW c=>((q.grow c).at_ 5).2.1) u40 i40 (hR:=λ_=>f),
  gC2 0 24 1 25 M.1,
  gO 14 ov,
  gLo (cs:=wn y.val) 10 (λW c=>((q.grow c).at_ 3).2.1) u40 i40 (hR:=λ_=>m),
  gO 2 (iZ n),
  dY 4 28 5 29 83 (λx y=>#[x,y]) (λa u W o D c=>by
   obtain rfl:a=vy:=o;obtain rfl:u=iZ n:=D;rw[<-m.out];exact(PC O (x:=y.val) y.isLt (n:=n) oM (w:=W)).mono λe W' ⟨v,h1,h2,F⟩=>⟨v,h1,h2,(F.mono λg E=>(q.grow c).nkq hQ g E).fin (pwF y) λi _=>mM hP.1 y i⟩),
  dY 3 27 6 30 87 (λx y=>#[x,y]) (λa u W o D c=>by
   obtain rfl:a=ov:=o;have h:=BN O n oM (λi=>((λ_=>(1:Fin N)) i).val) (λi=>(pwF y i).val) (λi _=>(1:Fin N).isLt) (λi _=>(pwF y i).isLt) a u W ((q.grow c).vU hQ 0) D;rw[kM,hn.out]at h;exact h),
  gC2 2 26 7 31 M.2.1,
  gLo (cs:=wn (z*z).val) 13 (λW c=>((q.grow c).at_ 5).2.1) u40 i40 (hR:=λ_=>f),
  gLo (cs:=wn z.val) 11 (λW c=>((q.grow c).at_ 4).2.1) u40 i40 (hR:=λ_=>d),
  gC2 9 33 10 34 M.2.2.1,
  gO 2 (iZ n),
  oC 12 36 41 (λx=>#[x]) (λa W o c=>by
   obtain rfl:a=iZ n:=o;exact ko W),
  oC 13 37 15 (λx=>#[x]) (λa W o c=>by
   obtain rfl:a=uZ gi:=o;exact km W),
  gC2 11 35 14 38 M.2.2.2.1,
  gC2 8 32 15 39 M.2.2.2.2,
  tQ (RG.z 4) 44 (λW W' h c=>⟨_,rfl,c.size,h⟩),yEZ⟩ ⟨rfl,rfl,rfl,XD _,λ_ _=>rfl⟩ ?_
 intro Z wC hR c;have ke:=hR 16 dC;obtain⟨kc,kk,ka,kd⟩:=hR 17 dC;dsimp only[bW,YT,yAb,yAd];simp only[Ym,XF,XJ,XL];rw[ke,kk];have KC:=mk1 (q.add c kd ka);obtain⟨wD,ha⟩:=hE (wC.setCells kc 0 (wn (rgD n y z).val));have KD:=mk1 (KC.put 6 ha);refine PW.st ha A (KC.th 6) i40 aI ?_;refine PW.dn ?_;have tV:Tl N [((z*z).val,V)] ((aC C k).ac (z*z) Vp):=by rw[hV];exact Tl.pt C k (z*z) Vp
 have t1:Tl N [(x.val,p.c)] ((aC C k).ac x P1):=by rw[h1];exact Tl.pt C k x P1
 have t2:Tl N [((x*x).val,p.d)] ((aC C k).ac (x*x) P2):=by rw[h2];exact Tl.pt C k (x*x) P2
 have t3:=tV.app C k t1;have t4:=t3.app C k t2;obtain⟨vc,hs⟩:=hE (pvl p.c);obtain⟨vd,hc⟩:=hE (pvl p.d);obtain⟨kp,h8⟩:=hE (nv (x*x).val);obtain⟨vY,h5⟩:=hE (pvl Y);have E:=mk7 (λW=>Aw (a:=V) sV (n:=(z*z).val) (w:=W)) (λW=>Aw (a:=p.c) ok.c (n:=x.val) (w:=W)) (λW=>Aw (a:=p.d) ok.d (n:=(x*x).val) (w:=W)) (λW=>yP O x x W)
  (λ(W:XA) (s u:XB) (a:Sm 0 W s [((z*z).val,V)]) (b:Sm 0 W u [(x.val,p.c)])=>bY 0 s u _ _ (by simp) (by simp) (by simp) tV.ok.sz t1.ok.sz W (X7 a) (X7 b))
  (λ(W:XA) (s u:XB) (a:Sm 0 W s ([((z*z).val,V)]++[(x.val,p.c)])) (b:Sm 0 W u [((x*x).val,p.d)])=>bY 0 s u _ _ (by simp) (by simp) (by simp) t3.ok.sz t2.ok.sz W (X7 a) (X7 b))
  (λ(W:XA) (s:XB) (a:Sm 0 W s ([((z*z).val,V)]++[(x.val,p.c)]++[((x*x).val,p.d)]))=>(by rw[hY];exact t4.point C O k (by simp) (by simp) a:cZ 33 #[s] W (rZ W λe w'=>e=pvl Y)))
 rw[l.out,hs.out,hc.out,j.out,f.out,h8.out,h5.out]at E;have ip:∀ {b:Bs},b.size=33->gZ 51 (aA b).length:=λh=>by rw[aB h];exact iCP
 refine XG<|AW.beg 15 15 (J:=(Iv.mp w _ _ false)) KD.drew ?_
 refine AW.ro 0 (λW h=>(h.at_ 1).2.1) l uCP (ip sV) ?_;refine AW.ro 1 (λW h=>(h.at_ 5).2.1) f u40 i40 ?_;refine AW.va 3 (oZ T 66) ?_;refine AW.ro 4 (λW h=>(Rp.at7 ok (h.at_ 0).2.1).2.2.1) hs uCP (ip ok.c) ?_;refine AW.ro 5 (λW h=>(h.at_ 2).2.1) j u40 i40 ?_;refine AW.va 8 (oZ T 99) ?_;refine AW.ro 9 (λW h=>(Rp.at7 ok (h.at_ 0).2.1).2.2.2.1) hc uCP (ip ok.d) ?_;refine AW.ro 10 (λW h=>(h.at_ 2).2.1) j u40 i40 ?_;refine AW.ro 11 (λW h=>(h.at_ 2).2.1) j u40 i40 ?_;refine AW.ca 2 (λ_=>E.1 _) (λe w' h=>h.1) ?_;rintro s1 x1 ⟨K,q1⟩;refine AW.ca 6 (λ_=>E.2.1 _) (λe w' h=>h.1) ?_;rintro s2 x2 ⟨o,q2⟩;refine AW.ca 7 (λ_=>E.2.2.2.2.1 _ _ _ (q1.q.keep (Kq.of_below o)).sm q2.q.sm) (λe w' h=>h.1) ?_;rintro s3 x3 ⟨L,q3⟩;refine AW.gi 12 (λ_=>E.2.2.2.1 _) λx4 hz=>?_
 refine AW.ca 13 (λ_=>E.2.2.1 _) (λe w' h=>h.1) ?_;rintro s5 x5 ⟨hy,q5⟩;refine AW.ca 14 (λ_=>E.2.2.2.2.2.1 _ _ _ ((q3.q.keep (Kq.of_below hz)).keep (Kq.of_below hy)).sm q5.q.sm) (λe w' h=>h.1) ?_;rintro s6 x6 ⟨J,q6⟩;have KE:=mk1 (((((KD.drew.grow K).grow o).grow L).grow hz).grow hy |>.gets J (pqM s6 _) q6.q);refine AW.nx 15 s6 ?_;refine AW.dn λ_=>?_
 obtain⟨ks,D⟩:=hE (nv tt.val);obtain⟨kr,F⟩:=hE (nv tau.val);obtain⟨vm,ki⟩:=hE (nv (tt-rgD n y z).val);obtain⟨vX,S⟩:=hE (pvl X);have HM:=mk2 (λW=>SE O tt (rgD n y z) W) (λW=>lW (P:=P) C O (tt-rgD n y z).isLt tau.isLt W);rw[zC C k (tt-rgD n y z) tau,show wP ((aC C k).cm (hPV C) (gPG C) (tt-rgD n y z) tau)=X from hX.symm,D.out,F.out,ki.out,S.out,A.out]at HM;have sX:X.size=33:=by rw[hX];exact aL _
 have sY:Y.size=33:=by rw[hY];exact aL _
 have kj:Hid (∀W:XA,(eqGuard .eql 51 (.tmp 62) (.tmp 64) vX vY >>= λ_=>binOp .eql 51 vX vY).run prog W=.ok (.bool (decide (X=Y))) W):=λW=>by
  rw[<-S.out,<-h5.out,X1,show(eqGuard .eql 51 (.tmp 62) (.tmp 64) (pvl X) (pvl Y)).run prog W=.ok () W by kernel_rfl];exact LG sX sY (w:=W)
 refine XG<|AW.beg 10 10 (J:=(Iv.mp w _ _ false)) KE.drew ?_
 refine AW.va 0 (oZ T 140) ?_;refine AW.ro 1 (cs:=wn tt.val) (λW h=>by rw[<-ht];exact(Rp.at7 ok (h.at_ 0).2.1).2.2.2.2.2.2) D u40 i40 ?_;refine AW.ro 2 (λW h=>(h.at_ 6).2.1) A u40 i40 ?_;refine AW.va 4 (oZ T 132) ?_;refine AW.ro 5 (cs:=wn tau.val) (λW h=>by rw[<-hu];exact(Rp.at7 ok (h.at_ 0).2.1).2.2.2.2.1) F u40 i40 ?_;refine AW.mv 7 ?_;refine AW.gi 3 (λ_=>HM.1 _) λx1 K=>?_
 refine AW.gi 6 (λ_=>HM.2 _) λx2 o=>?_
 refine AW.gi 8 (λh=>E.2.2.2.2.2.2 _ _ (SmQ.sm (h.get 1))) λx3 L=>?_
 have KF:=mk1 (((KE.drew.grow K).grow o).grow L);refine AW.ns 9 (kj x3) (XR _ _) ?_;refine AW.nx 10 (.bool (decide (X=Y))) ?_;refine AW.dn λ_=>?_
 obtain⟨bb,k8⟩:=hE (decide (X=Y));rw[k8.out];go_wp2;go_ret;exact⟨_,rfl,KF.bl,rfl⟩
def rgS(y z:Fin N)(i:Nat):Fin N:=z*pwF y i+z*z*pwF (ofF N 2) i
def NN{y z:Fin N}{i:Nat}(k:IsP N)(b:2<N):sPl N (sTi N z.val (pwN N y.val i)) (sTi N (sTi N z.val z.val) (pwN N 2 i))=(rgS y z i).val:=by
 show _=(z*pwF y i+z*z*pwF (ofF N 2) i).val;rw[jP,eR,eR,eR,<-mM k.1,<-mM k.1,show(ofF N 2).val=2 from X6 b]
def UQ(C:Fld P)(O:Ord N)(k:∀r:EC.Pt P,On r->mul N r=none)(hP:IsP N)(hN:18446744073709551616<=N){n:Nat}(hl:0<n)(hw:n<=64)(p:Rp)(ok:p.Ok)(PA PS:OnP P)(hA:p.a=wP PA)(hS:p.s=wP PS)(mu tt x y z:Fin N)(hm:p.m=mu.val)(ht:p.t=tt.val)(G H:Nat->LB)(U:LB)(g h:Nat->OnP P)(u:OnP P)(hG:Gd N n 1 G g)(hH:Gd N n 1 H h)(hU:Tl N U u)(hs:U.length=1):
 ∃l,Tl N l ((aC C k).ad ((aC C k).ad ((aC C k).ad ((aC C k).ad PA ((aC C k).ac x PS)) ((aC C k).ac (-1) ((aC C k).ac mu (gPG C)))) ((aC C k).ad ((aC C k).dt (λ_=>-z) g n) ((aC C k).dt (rgS y z) h n))) ((aC C k).ac tt u))/\(0<l.length/\l.length<=150) /\
  ∀(Q:Nat->Prop) (Y:XB) (w:XA),GRq Q w Y n G H U->cZ 164 #[.agg p.l.toArray,Y,iZ n,nv x.val,nv y.val,nv z.val] w (rZ w λe w'=>Sm w.heap.size w' e l):=by
 obtain⟨Gb,F⟩:=hE (wr (gG P));have sG:Gb.size=33:=F.out▸aL _;have tA:Tl N [(1,p.a)] PA:=by rw[hA];exact Tl.one C hP.1 PA
 have tS:Tl N [(x.val,p.s)] ((aC C k).ac x PS):=by rw[hS];exact Tl.pt C k x PS
 have tG:Tl N [(mu.val,Gb)] ((aC C k).ac mu (gPG C)):=F.out▸Tl.pt C k mu (gPG C);have t1:=tA.app C k tS;have tM:=tG.tm C k (-1);rw[Uw hP.1]at tM;have t2:=t1.app C k tM;have tL:=(hG.cmb C k (λ_=>-z)).1.app C k (hH.cmb C k (rgS y z)).1;have lL:(dE N (λ_=>(-z).val) G n++dE N (λi=>(rgS y z i).val) H n).length=n+n:=by rw[XK,(hG.cmb C k (λ_=>-z)).2,(hH.cmb C k (rgS y z)).2,ZV]
 have tU:=hU.tm C k tt;have lU:(U.map (tmT N tt.val)).length=1:=by rw[XZ,hs]
 have t3:=t2.app C k tL;have t4:=t3.app C k tU;have hn:=tW hl (by decide:0<1) oM hG hH hU oM oM;refine⟨_,t4,⟨by simp,by simp only[XK,XZ,lL,lU,Yx,Zz]at *;omega⟩,λQ Y w h0=>?_⟩;obtain⟨lb,R⟩:=hE (dE N (λ_=>(-z).val) G n++dE N (λi=>(rgS y z i).val) H n);obtain⟨lu,I⟩:=hE (U.map (tmT N tt.val));obtain⟨S,A⟩:=hE ([(1,p.a)]++[(x.val,p.s)]++[(mu.val,Gb)].map (tmT N (sMi N 0 1)));rw[A.out,R.out,I.out];have n2:S.length=3:=by rw[<-A.out];rfl
 rw[R.out]at tL lL;rw[I.out]at tU lU;rw[A.out]at t2;have hu:=t2.app C k tL;have h2:2<N:=oM;obtain⟨vp,h6⟩:=hE (X9 p.l.toArray);obtain⟨vx,t⟩:=hE (nv x.val);obtain⟨vy,m⟩:=hE (nv y.val);obtain⟨vz,o⟩:=hE (nv z.val);obtain⟨vm,ha⟩:=hE (nv mu.val);obtain⟨vt,h7⟩:=hE (nv tt.val);obtain⟨vG,hp⟩:=hE (pvl Gb);obtain⟨va,hb⟩:=hE (pvl p.a);obtain⟨vs,Z⟩:=hE (pvl p.s);have q:=mk8 (λW=>Bw p.a ok.a W) (λW=>Aw (a:=p.s) ok.s (n:=x.val) (w:=W)) (λW=>Aw (a:=Gb) sG (n:=mu.val) (w:=W)) (λW=>P7 (P:=P) C W)
  (λ(W:XA) (s u:XB) (a:Sm 0 W s [(1,p.a)]) (b:Sm 0 W u [(x.val,p.s)])=>bY 0 s u _ _ (by simp) (by simp) (by simp) tA.ok.sz tS.ok.sz W (X7 a) (X7 b))
  (λ(W:XA) (s u:XB) (a:Sm 0 W s ([(1,p.a)]++[(x.val,p.s)])) (b:Sm 0 W u [(mu.val,Gb)])=>xI O 0 s u _ _ (by simp) (by simp) (by simp) t1.ok.sz tG.ok.sz tG.ok.lt W (Zl _) a b)
  (λ(W:XA) (s u:XB) (a:Sm 0 W s S) (b:Sm 0 W u lb)=>bY 0 s u S lb (by rw[XK];omega) oM oM t2.ok.sz tL.ok.sz W (X7 a) (X7 b))
  (λ(W:XA) (s u:XB) (a:Sm 0 W s (S++lb)) (b:Sm 0 W u lu)=>bY 0 s u (S++lb) lu (by simp only[XK];omega) (by rw[XK];omega) oM hu.ok.sz tU.ok.sz W (X7 a) (X7 b))
 rw[A.out,F.out,hp.out,hb.out,Z.out,t.out,ha.out]at q;have hi:Hid (∀(Q:Nat->Prop) (W:XA) (v a b:XB),GRq Q W v n G H U->SLq Q W a n (λ_=>(-z).val)->SLq Q W b n (λi=>(rgS y z i).val)->cZ 78 #[v,a,b] W (rZ W λe w'=>Sm W.heap.size w' e lb)):=λQ W v a b g1 g2 g3=>by
  rw[<-R.out];exact yL O n 1 G H U hn _ _ (λi _=>(-z).isLt) (λi _=>(rgS y z i).isLt) v a b W g1 g2 g3
 have hj:Hid (∀(W:XA) (v:XB),Sm 0 W v U->cZ 149 #[v,vt] W (rZ W λe w'=>Sm W.heap.size w' e lu)):=λW v a=>by
  rw[<-I.out,<-h7.out];exact eD O tt.isLt 0 v U oM hU.ok.szm hU.ok.lt W a
 have h5:=mk1 (λW=>FN O h2 (y:=y.val) (z:=z.val) y.isLt z.isLt n oM W);rw[m.out,o.out]at h5;obtain⟨q1,q2,q3,rfl,-,-,-⟩:=h0.ex;obtain⟨V,he⟩:=hE (w.heap.size);obtain⟨w1,hc⟩:=hE (lZ w p.l 153);obtain⟨k7,h1⟩:=hE (w1.heap.size);obtain⟨w2,h8⟩:=hE (w1.alloc (.cells [q1,q2,q3].toArray 150));obtain⟨k9,T⟩:=hE (w2.heap.size);obtain⟨w3,h4⟩:=hE (lZ w2 (wn x.val) 44);obtain⟨hr,D⟩:=hE (w3.heap.size);obtain⟨w4,X⟩:=hE (lZ w3 (wn y.val) 44);obtain⟨hq,E⟩:=hE (w4.heap.size);obtain⟨w5,h9⟩:=hE (lZ w4 (wn z.val) 44);have K0:=(Mp.start w).has (pqG (.agg #[q1,q2,q3]) n G H U) (h0.mono2 λg _ _ e=>by cases e);have K5:=mk1 ((((K0.new he hc).new h1 h8).new T h4).new D X |>.new E h9);obtain⟨Y,j⟩:=hE (X9 #[q1,q2,q3]);have B1:Hid ((Ys 153 vp).run prog w=.ok (jZ V) w1):=h6.out▸hc.out▸he.out▸Mh ok w;have B2:Hid ((Ys 150 Y).run prog w1=.ok (jZ k7) w2):=j.out▸h8.out▸h1.out▸Dh (w:=w1);have B3:Hid ((Ys 44 vx).run prog w2=.ok (jZ k9) w3):=t.out▸h4.out▸T.out▸boxS _ (w:=w2);have B4:Hid ((Ys 44 vy).run prog w3=.ok (jZ hr) w4):=m.out▸X.out▸D.out▸boxS _ (w:=w3);have B5:Hid ((Ys 44 vz).run prog w4=.ok (jZ hq) w5):=o.out▸h9.out▸E.out▸boxS _ (w:=w4);rw[h6.out,j.out,t.out,m.out,o.out];rw[j.out]at K5;have ip:∀ {b:Bs},b.size=33->gZ 51 (aA b).length:=λh=>by rw[aB h];exact iCP
 go_enter func164,ntmps164;refine PW.bg [] ?_;refine PW.ns B1 ?_;refine PW.ns B2 ?_;refine PW.ns B3 ?_;refine PW.ns B4 ?_;refine PW.ns B5 ?_;refine PW.en [nZ] ?_;refine XG<|AW.beg 13 13 (J:=(Iv.mp w _ _ false)) K5.drew ?_
 refine AW.va 0 (jZ V) ?_;refine AW.ro 1 (λW h=>(Rp.at7 ok (h.at_ 0).2.1).1) hb uCP (ip ok.a) ?_;refine AW.va 3 (oZ V 33) ?_;refine AW.ro 4 (λW h=>(Rp.at7 ok (h.at_ 0).2.1).2.1) Z uCP (ip ok.s) ?_;refine AW.ro 5 (λW h=>(h.at_ 2).2.1) t u40 i40 ?_;refine AW.va 9 (oZ V 136) ?_;refine AW.ro 10 (cs:=wn mu.val) (λW h=>by rw[<-hm];exact(Rp.at7 ok (h.at_ 0).2.1).2.2.2.2.2.1) ha u40 i40 ?_;refine AW.ca 2 (λ_=>q.1 _) (λe w' h=>h.1) ?_;rintro s1 x1 ⟨J,e1⟩;refine AW.ca 6 (λ_=>q.2.1 _) (λe w' h=>h.1) ?_;rintro s2 x2 ⟨f,e2⟩;refine AW.ca 7 (λ_=>q.2.2.2.2.1 _ _ _ (e1.q.keep (Kq.of_below f)).sm e2.q.sm) (λe w' h=>h.1) ?_;rintro s3 x3 ⟨L,e3⟩;refine AW.gi 8 (λ_=>q.2.2.2.1 _) λx4 d=>?_
 refine AW.ca 11 (λ_=>q.2.2.1 _) (λe w' h=>h.1) ?_;rintro s5 x5 ⟨B,e5⟩;refine AW.ca 12 (λ_=>q.2.2.2.2.2.1 _ _ _ ((e3.q.keep (Kq.of_below d)).keep (Kq.of_below B)).sm e5.q.sm) (λe w' h=>h.1) ?_;rintro s6 x6 ⟨hk,e6⟩;have KE:=mk1 (((((K5.drew.grow J).grow f).grow L).grow d).grow B |>.gets hk (pqM s6 S) e6.q);refine AW.nx 13 s6 ?_;refine AW.dn λ_=>?_
 refine XG<|AW.beg 16 16 (J:=(Iv.mp w _ _ false)) KE.drew ?_
 refine AW.mv 0 ?_;refine AW.ro 1 (λW h=>(h.at_ 1).2.1) j uGr iGr ?_;refine AW.ro 2 (λW h=>(h.at_ 3).2.1) m u40 i40 ?_;refine AW.ro 3 (λW h=>(h.at_ 4).2.1) o u40 i40 ?_;refine AW.mv 4 ?_;refine AW.va 10 (oZ k7 2) ?_;refine AW.ce 11 Bc (λW h=>(h.at_ 1).2.1 2 _ rfl) ?_;refine AW.va 12 (oZ V 140) ?_;refine AW.ro 13 (cs:=wn tt.val) (λW h=>by rw[<-ht];exact(Rp.at7 ok (h.at_ 0).2.1).2.2.2.2.2.2) h7 u40 i40 ?_;refine AW.ca 5 (λ_=>h5 _) (λe w' h=>h.1) ?_;rintro e y1 ⟨J,ls,rs,rfl,M,K⟩;replace M:=M.fin (λ_=>-z) (λi _=>(Es z).symm);replace K:=K.fin (rgS y z) (λi _=>NN hP h2 (y:=y) (z:=z) (i:=i));have KF:=mk1 ((KE.drew.gets J (pqS ls n λ_=>(-z).val) M).has (pqS rs n λi=>(rgS y z i).val) (K.mono λg hg=>KE.drew.nk g hg));refine AW.va 6 ls ?_;refine AW.va 7 rs ?_;refine AW.ca 8 (λ_=>hi _ _ _ _ _ (KF.get 0) (KF.get 2) (KF.get 3)) (λe w' h=>h.1) ?_;rintro s2 y2 ⟨f,e2⟩;refine AW.ca 9 (λ_=>q.2.2.2.2.2.2.1 _ _ _ (SmQ.sm ((KF.grow f).get 1)) e2.q.sm) (λe w' h=>h.1) ?_;rintro s3 y3 ⟨L,e3⟩;have KG:=mk1 ((KF.grow f).grow L);refine AW.ca 14 (λ_=>hj _ _ (by
  have hh:=KG.get 0;rw[<-j.out]at hh;obtain⟨a,b,c,e,-,-,h3⟩:=hh.ex;cases e
  exact h3.sm)) (λe w' h=>h.1) ?_
 rintro s4 y4 ⟨d,e4⟩;refine AW.ca 15 (λ_=>q.2.2.2.2.2.2.2 _ _ _ (e3.q.keep (Kq.of_below d)).sm e4.q.sm) (λe w' h=>h.1) ?_;rintro s5 y5 ⟨B,e5⟩;have KH:=mk1 ((KG.grow d).grow B);have E5:Hid (Sm w.heap.size y5 s5 (S++(lb++lu))):=by
  rw[<-YP];exact e5.q.mono λg hg=>XH (KG.grow d).bl.size hg
 refine AW.nx 16 s5 ?_;refine AW.dn λ_=>?_
 go_wp2;go_ret;exact⟨_,rfl,KH.bl,E5⟩
end
namespace RG
variable {P:YJ}{ops:Array Yp}{Q:Exit->Act->XA->Prop}{w:XA}{a0:Act}{G:Gw}{S:XA->XA->Prop}{B1:XA->Prop}{m k:Nat}{o:Yp}
def Gw.lk(G:Gw)(m:Nat)(S:XA->XA->Prop)(k:XA->Prop):Flow:=⟨G.R,λb=>if b=0 then G.B else k,λi w w'=>(i=m/\S w w')\/kZ w w',λ_=>[],λb=>if b=0 then [] else [m]⟩
def Ey(h:bD P Q G.flow ops a0 k o):bD P Q (G.lk m S B1) ops a0 k o:=λa w K e f d c=>h a w K e f (λb _=>d 0 rfl) λv w' hE hR=>c v w' (X7 hE) hR
def WN(h:∀(a:Act) (w:XA),PreG G ops a0 m o a w->B1 w->∃(k:List (Zw × XB)) (f:ZQ) (args:Array XB),AllE a k/\(cJ (k.map (·.1)) o,(Yh (evo (evl k)) o).run P w)=(true,.ok (.enter f args) w)/\YN P f args w (Ret λe w'=>S w w'/\G.R m e w'))(l:okK ops m [m]=true:=by kernel_rfl):bD P Q (G.lk m S B1) ops a0 m o:=by
 intro a w K n p c r;obtain⟨k,f,args,g,b,q⟩:=h a w ⟨λj d t hd=>n j d t rfl hd,p,c 0 rfl⟩ (c 1 l);simp only[Ze.injEq]at b;unfold Y3;rw[jE (evl k) (k.map (·.1)) b.1 g.ev,b.2,ZM];refine q.mono ?_;rintro e w' ⟨v,rfl,s,i⟩;exact r _ _ (Ye ⟨rfl,s⟩) i
def Gw.tailL{id:Nat}(G:Gw)(m:Nat)(S:XA->XA->Prop)(f:XA->Prop)(n:Nat)(l:∀j v w w',j≠m->S w w'->G.R j v w->G.R j v w')(q:∀w w',S w w'->G.B w->G.B w')(p:∀w w',kZ w w'->f w->f w')(s:(decide (n<ops.size) && mX ops n)=true)(u:P.follows .mixedOrders=true)(z:BO ops a0.tmps.size=true)(h:iY P Q (G.lk m S f) ops a0 0 (ops.toList.take n))(k:G.B w.drew)(o:f w.drew)
 (a:∀(V:Nat->XB) (w':XA),(∀i,i<n->G.R i (V i) w')->G.B w'->wpList P ops Q (ops.toList.drop n) (bW V (ops.toList.take n) 0 a0) w'):(Zd id ops true).wp P Q a0 w:=by
 rw[XV,decide_eq_true_eq]at s;refine qU (G.lk m S f) s.1 s.2 u ⟨z,uD h,λi j _ _ r _ _ v w w' hE hR=>?_,λi b _ d w w' hE k=>?_⟩ (λb=>?_) λV w' x y=>a V w' (λi c=>x i c rfl) (y 0 rfl)
 .rcases hE with⟨c,g⟩|hE
  .exact l j v w w' (λe=>r (c.trans e.symm)) g hR
  .exact G.sR j v w w' hE hR
 .unfold Gw.lk at d k⊢;dsimp only at d k⊢;by_cases t:b=0
  .rw[yEX t]at k⊢;rcases hE with⟨-,g⟩|hE
   .exact q w w' g k
   .exact G.sB w w' hE k
  .rw[yEY t]at k d⊢;rcases hE with⟨c,-⟩|hE
   .rw[c]at d;simp at d
   .exact p w w' hE k
 .unfold Gw.lk;dsimp only;split
  .exact k
  .exact o
end RG
section
open SPA
def pX(b:Nat)(cs:List XB):S1:=⟨λv w=>∃k,v=jZ k/\b<=k/\Row w k cs/\∀i x,w.cell? ⟨k,i,none⟩=some x->x∈cs,λ_ w w' d ⟨k,f,g,c,e⟩=>⟨k,f,g,c.below d,λi x hx=>e i x (by rw[<-X4 (a:=⟨k,i,none⟩) (d.block k c.1)];exact hx)⟩⟩
def Oa{b r:Nat}{cs:List XB}{v:XB}{W W':XA}(d:SP.Only r 0 32 W W')(l:r<b)(h:(pX b cs).p v W):(pX b cs).p v W':=by
 obtain⟨k,g,j,c,f⟩:=h;have e:=d.block k c.1 oM;exact⟨k,g,j,aQ c d.size e,λi x hx=>f i x (by rw[<-X4 (a:=⟨k,i,none⟩) e];exact hx)⟩
def UU{P:YJ}{c:Array Yp}{Q:Exit->Act->XA->Prop}{a0:Act}{G:Gw}{k:Nat}{o:Yp}(b:Nat)(cs:List XB)(T:Yd)(e:∀W,G.B W->b<=W.heap.size)(hR:∀v W,(pX b cs).p v W->G.R k v W)(d:∀W,(cJ [] o,(Yh (evo (evl [])) o).run P W)=(true,.ok (.value (jZ W.heap.size)) (W.alloc (.cells cs.toArray T))):=by intro _;kernel_rfl):bD P Q G.flow c a0 k o:=
 bJ λa W f=>⟨[],_,_,trivial,d W,aD _,hR _ _ ⟨_,rfl,e W f.b,row_new W cs T,λi x hx=>by
  rw[World.cell?_alloc_at _ _ _ _ rfl,Yj]at hx;exact YO hx⟩⟩
section
variable {Q:Nat->Prop}{W:XA}{v:XB}{k n:Nat}{T G H:Nat->List (Nat × Bs)}{l U:List (Nat × Bs)}
def SmQ.offX(h:SmQ Q W v l)(m:0<l.length)(hx:∀i x,W.cell? ⟨k,i,none⟩=some x->x=nZ):SmQ (λg=>Q g/\g≠k) W v l:=by
 obtain⟨g,c,j,n,f,e,d⟩:=h;refine⟨g,c,j,n,⟨f,?_⟩,e,d⟩;rintro rfl;match l,m with
 | (a,b) :: t,_=>cases hx _ _ (d 0 _ rfl)
def GLq.offX(h:GLq Q W v n T)(t:0<n)(p:∀j,j<n->0<(T j).length)(hx:∀i x,W.cell? ⟨k,i,none⟩=some x->x=nZ):GLq (λg=>Q g/\g≠k) W v n T:=by
 obtain⟨g,o,c,m,q,s,l,d⟩:=h;refine⟨g,o,c,m,q,⟨s,?_⟩,l,λj f=>?_⟩
 .rintro rfl;obtain⟨x,b,r,u,e,-⟩:=d 0 t;have:=hx _ _ b;rw[e]at this;cases this
 .obtain⟨x,b,r⟩:=d j f;exact⟨x,b,r.offX (p j f) hx⟩
def GRq.offX(h:GRq Q W v n G H U)(b:0<n)(hG:∀j,j<n->0<(G j).length)(o:∀j,j<n->0<(H j).length)(f:0<U.length)(hx:∀i x,W.cell? ⟨k,i,none⟩=some x->x=nZ):GRq (λg=>Q g/\g≠k) W v n G H U:=by
 obtain⟨d,e,p,l,q,m,c⟩:=h.ex;exact⟨d,e,p,l,q.offX b hG hx,m.offX b o hx,c.offX f hx⟩
end
def Mp.sayAdd{w W W':XA}{rs d:List (Nat × List XB)}{S:List Pq}{k r:Nat}{c:List XB}{L l:Bs}(h:Mp w W rs S)(i:Nat)(o:SP.Only r 0 32 W W')(v:hZ W' r 0 l)(u:Row W' k c)(z:W.heap.size<=k)(f:rs[i]? = some (r,aA L):=by rfl)(e:rs.set i (r,aA l)++[(k,c)]=d:=by(simp only[XJ,XL,List.cons_append,Z1])<;>rfl):Mp w W' d S/\∀g,Nk rs g->g≠k->Nk d g:=by
 subst e;have m:∀g,Nk (rs.set i (r,aA l)++[(k,c)]) g↔Nk rs g/\g≠k:=λg=>by
  unfold Nk;rw[Y1,Mp.keys f,Y9];simp
 refine⟨?_,λg j p=>(m g).2 ⟨j,p⟩⟩;have j:=h.say i o v f rfl;have y:=h.lt (Mp.key f);refine⟨j.bl,λx hx=>?_,?_,λs t=>?_⟩
 .rcases Y9.1 hx with hx|hx
  .exact j.rw x hx
  .rw[Zj.1 hx];exact⟨XH h.bl.size z,u⟩
 .rw[Y1,List.nodup_append];refine⟨j.nd,by simp,λa q b n e=>?_⟩;rw[Mp.keys f]at q;have p:=(h.lt q).2;simp at n;omega
 .refine s.kp _ W _ ⟨o.size,λg n q=>o.block g q λe=>((m g).1 n).1 (by rw[e];exact Mp.key f)⟩ (s.mo _ _ _ (λg n B=>(m g).2 ⟨B,oM⟩) (h.ob s t))
variable {P:Nat}[NeZero P]{N:Nat}[NeZero N]
def Lq{y:Fin N}{n:Nat}(C:Fld P)(k:∀r:EC.Pt P,On r->mul N r=none)(c:IsP N):Gd N n 1 (qH N y.val (hGT P)) (λi=>(aC C k).ac (pwF (ivF y) i) (gPt C ⟨#[114,105,103,104,116]⟩ i)):=by
 have g:=oD C c.1 n;refine⟨λi b=>?_,λi b=>by unfold qH;rw[XZ];exact g.len i b⟩;have h:=(g.tl i b).tm C k (pwF (ivF y) i);rw[<-mM c.1]at h;exact h
end
section
open SPA
section
variable {P:YJ}{ops:Array Yp}{Q:Exit->Act->XA->Prop}{p r:Nat}{J:Iv}{i fuel:Nat}{o:Yp}{listed:Array Bool}{a a':Act}{w w':XA}{d:Option Zw}{x v:XB}{t:Zw}{T:Yd}{b off:Nat}{cs:List XB}
def AG.ro(i:Nat)(u:∀W,J.p W->W.rangeAt b off cs)(hv:Hid (.agg cs.toArray=x))(g:(P.underlying T).map (·.isRow)=some true)(f:(P.info? T).map (·.size)=some cs.length)(h:AW P ops Q p r J fuel (listed.setIfInBounds i true) a' w)(ho:ops[i]? = some o:=by(simp only[Yj,Yg,Yi])<;>rfl)(hd:o.dst=d:=by rfl)(j:Zc o (yielded ops a.tmps)=true:=by kernel_rfl)(k:o.op=.load T (.tmp t):=by rfl)(hx:a.eval (.tmp t)=oZ b off:=by rfl)
 (v:a.put d x=a':=by(simp only[Ym,XF,XJ,XL])<;>rfl) (l:aw1 ops p r (qw ops J.b p r i) i listed=true:=by kernel_rfl) (n:∀c a w,Q (.panic c) (a.put o.dst x) w->Q (.panic c) a w:=by exact λ_ _ _ h=>h):AW P ops Q p r J (fuel+1) listed a w:=by
 obtain rfl:=hv;obtain⟨s,m,q⟩:=XE.1 g;exact AW.take i (qw ops J.b p r i) ho hd (yieldsIf_load_mid j T (.tmp t) k b off hx cs s (λw e=>u w (Sa.bel e)) m q f) v l n h
def AG.mv(i:Nat)(h:AW P ops Q p r J fuel (listed.setIfInBounds i true) a' w)(ho:ops[i]? = some o:=by(simp only[Yj,Yg,Yi])<;>rfl)(hd:o.dst=d:=by rfl)(e:Zc o (yielded ops a.tmps)=true:=by kernel_rfl)(k:o.op=.move (.tmp t):=by rfl)(hx:a.eval (.tmp t)=x:=by(conv=>lhs;whnf)<;>rfl)
 (b:a.put d x=a':=by(simp only[Ym,XF,XJ,XL])<;>rfl) (f:aw1 ops p r (fw ops i) i listed=true:=by kernel_rfl) (g:∀c a w,Q (.panic c) (a.put o.dst x) w->Q (.panic c) a w:=by exact λ_ _ _ h=>h):AW P ops Q p r J (fuel+1) listed a w:=
 AW.take i (fw ops i) ho hd (Ye ⟨e,λw _=>by unfold Yh;rw[k];dsimp only;rw[hx];rfl⟩) b f g h
def AG.cw(i:Nat){f:ZQ}{args:Array XB}{R:XB->XA->Prop}{F:XB->Act}(j:J.p w->YN P f args w (Ret R))(hR:∀e w',J.p w->R e w'->J.p w')(h:∀e w',R e w'->AW P ops Q p r J fuel (listed.setIfInBounds i true) (F e) w')(ho:ops[i]? = some o:=by(simp only[Yj,Yg,Yi])<;>rfl)(hd:o.dst=d:=by rfl)(g:Zc o (yielded ops a.tmps)=true:=by kernel_rfl)(hx:(Yh a.eval o).run P w=.ok (.enter f args) w:=by kernel_rfl)(c:Yu .any ops listed=[i]:=by kernel_rfl)(hf:∀e,a.put d e=F e:=by intro _;(simp only[Ym,XF,XJ,XL])<;>rfl):AW P ops Q p r J (fuel+1) listed a w:=λb=>by
 subst hd;exact anyS.step ho c λK l=>by
  rw[yEX g];unfold Y3;rw[hx,ZM];apply(j b).mono;rintro e w' ⟨v,rfl,k⟩;exact l _ _ (X7 (hR v w' b k)) (hf v ▸ h v w' k (hR v w' b k))
end
variable {P:Nat}[NeZero P]{N:Nat}[NeZero N]
def Vz{a b c d e f g h i j k:XB}{w:XA}:(Ys 66 (.agg #[a,b,c,d,e,f,g,h,i,j,k])).run prog w=.ok (jZ w.heap.size) (w.alloc (.cells #[a,b,c,d,e,f,g,h,i,j,k] 66)):=kR
def q33(g:Nat × Nat):XB:=sZ g.1 33 g.2
def q32(g:Nat × Nat):XB:=sZ g.1 32 g.2
structure RgU(Q:Nat->Prop)(W:XA)(p:Rp)(a b c d e f g:Nat × Nat):Prop where
 a:ElQ Q 33 W (q33 a) p.a
 b:ElQ Q 33 W (q33 b) p.s
 c:ElQ Q 33 W (q33 c) p.c
 d:ElQ Q 33 W (q33 d) p.d
 e:ElQ Q 32 W (q32 e) (bx p.u)
 f:ElQ Q 32 W (q32 f) (bx p.m)
 g:ElQ Q 32 W (q32 g) (bx p.t)
def RgU.keep{Q:Nat->Prop}{W W':XA}{p:Rp}{a b c d e f g:Nat × Nat}(h:RgU Q W p a b c d e f g)(k:Kq Q W W'):RgU Q W' p a b c d e f g:=⟨h.a.keep k,h.b.keep k,h.c.keep k,h.d.keep k,h.e.keep k,h.f.keep k,h.g.keep k⟩
structure RgV(t:Nat)(p:Rp)(Lb Rb:Nat->Bs)(Ab Bb:Bs)(e:XB)(W:XA):Prop where
 ex:∃a b c d u m s vL vR vA vB,e=.agg #[q33 a,q33 b,q33 c,q33 d,q32 u,q32 m,q32 s,vL,vR,vA,vB]/\RgU (λ_=>True) W p a b c d u m s/\TlV t W vL Lb/\TlV t W vR Rb/\ElQ (λ_=>True) 32 W vA Ab/\ElQ (λ_=>True) 32 W vB Bb
def RgV.below{t:Nat}{p:Rp}{j Rb:Nat->Bs}{g i:Bs}{e:XB}{W W':XA}(h:RgV t p j Rb g i e W)(f:kZ W W'):RgV t p j Rb g i e W':=by
 obtain⟨a,b,c,d,u,m,s,y,v,l,q,n,x,r,hR,w,o⟩:=h.ex;have k:Kq (λ_=>True) W W':=Kq.of_below f;exact⟨a,b,c,d,u,m,s,y,v,l,q,n,x.keep k,r.below f,hR.below f,w.keep k,o.keep k⟩
def Vr{a b c:Nat × Nat}{w:XA}:(Yw 27 3 #[(0,q32 a),(1,q32 b),(2,q32 c)]).run prog w=.ok (sZ w.heap.size 3 3) (w.alloc (.cells #[q32 a,q32 b,q32 c] 23)):=kR
def Xh{a b c d:Nat × Nat}{w:XA}:(Yw 27 4 #[(0,q33 a),(1,q33 b),(2,q33 c),(3,q33 d)]).run prog w=.ok (sZ w.heap.size 4 4) (w.alloc (.cells #[q33 a,q33 b,q33 c,q33 d] 23)):=kR
abbrev pqP(k n:Nat)(B:Nat->Bs):Pq:=⟨λQ W=>PtL Q W k n B,λ_ _ _ k h=>h.keep k,λ_ _ _ m h=>h.mono2 m⟩
def four(a b c d:Bs)(j:Nat):Bs:=if j=0 then a else if j=1 then b else if j=2 then c else d
def Bg{α:Type}(a b c:α)(j:Nat):α:=if j=0 then a else if j=1 then b else c
def Fg{Q:Nat->Prop}{W':XA}{k:Nat}{a b c:Nat × Nat}{x y z:Bs}(h:ElQ Q 32 W' (q32 a) x)(g:ElQ Q 32 W' (q32 b) y)(e:ElQ Q 32 W' (q32 c) z)(d:Row W' k [q32 a,q32 b,q32 c]):Args W' (some (aZ k)) 3 (Bg x y z):=λ_=>by
 refine⟨_,rfl,d.1,λj f=>?_⟩;match j,f with
 | 0,_=>exact⟨_,d.2.1 0 _ rfl,h.argS⟩
 | 1,_=>exact⟨_,d.2.1 1 _ rfl,g.argS⟩
 | 2,_=>exact⟨_,d.2.1 2 _ rfl,e.argS⟩
 | j+3,h=>omega
def Jz{Q:Nat->Prop}{W:XA}{i k n c:Nat}{a:Nat->Nat}(h:SLq Q W (sZ k n c) n a)(b:i<n):W.rangeAt k (0+4*i) (wn (a i)):=by
 obtain⟨g,o,d,e,-,-,-,h⟩:=h;cases e
 exact h i b
def FU{Q:Nat->Prop}{W:XA}{i k n:Nat}{B:Nat->Bs}(h:PtL Q W k n B)(b:i<n):W.rangeAt k (0+33*i) (aA (B i)):=by
 rw[XI];exact(h i b).2.2
abbrev Z3:List XB:=[nZ,nZ,nZ]
def Qy{x:XB}(h:x∈Z3):x=nZ:=by
 simp only[Y6,Yf,or_false,or_self]at h;exact h
def pLw(v:XB)(r:Nat)(L:Bs):S1:=⟨λx w=>x=v/\r<w.heap.size/\hZ w r 0 L,λ_ _ _ k h=>⟨h.1,XC h.2.1 k.size,Holds.below h.2.2 k h.2.1⟩⟩
def row_ne{rs:List (Nat × List XB)}{k r:Nat}{c q:List XB}(h:(rs.map (·.1)).Nodup)(i j:Nat)(n:i≠j)(m:rs[i]? = some (k,c))(s:rs[j]? = some (r,q)):k≠r:=λe=>by
 have g:=List.pairwise_iff_getElem.1 h;obtain⟨u,l⟩:=XM.1 m;obtain⟨o,t⟩:=XM.1 s;have d:(rs.map (·.1))[i]'(by simpa using u)=k:=by rw[yAc,l]
 have f:(rs.map (·.1))[j]'(by simpa using o)=r:=by rw[yAc,t]
 rcases Zp i j with b|p
 .exact g i j _ _ b (d.trans (e.trans f.symm))
 .exact g j i _ _ oM (f.trans (e.symm.trans d.symm))
def Nm{p:Rp}{V X:Bs}{b f d:OnP P}{tau tt x y z:Fin N}{w:XA}(C:Fld P)(O:Ord N)(k:∀r:EC.Pt P,On r->mul N r=none)(s:IsP N)(o:18446744073709551616<=N){n t:Nat}(g:Wd n t)(ok:p.Ok)(q:V=wP b)(c:p.c=wP f)(u:p.d=wP d)(j:p.u=tau.val)(i:p.t=tt.val)(m:X=wP ((aC C k).cm (hPV C) (gPG C) (tt-rgD n y z) tau))(l:X=wP ((aC C k).ad ((aC C k).ad ((aC C k).ac (z*z) b) ((aC C k).ac x f)) ((aC C k).ac (x*x) d))):
 cZ 162 #[.agg p.l.toArray,pvl V,iZ n,nv x.val,nv y.val,nv z.val] w (rZ w λe w'=>e=tZ):=by
 apply(Nn C O k s o g p ok V b f d q c u tau tt x y z j i w X X m l).mono;rintro e w' ⟨v,rfl,c,rfl⟩;refine⟨_,rfl,c,?_⟩;simp only[decide_true]
def uIl:yZ 252:=yQ
def iIl(c k t a b:Nat):(prog.info? 252).map (·.size)=some (inL c k t a b).length:=kR
def QA(C:Fld P)(O:Ord N)(d:∀r:EC.Pt P,On r->mul N r=none)(Z:IsP N)(hN:18446744073709551616<=N){n t:Nat}(hw:Wd n t)(p:Rp)(ok:p.Ok)(V:Bs)(Vp PA PS P1 P2:OnP P)(hV:V=wP Vp)(hA:p.a=wP PA)(hS:p.s=wP PS)(T:p.c=wP P1)(h2:p.d=wP P2)(tau mu tt x y z wf:Fin N)(hu:p.u=tau.val)(hm:p.m=mu.val)(ht:p.t=tt.val)(L3 L6 L8:Bs)(l3:L3=bgL V n p.a p.s)(ey:y=kV N L3)(ez:z=kV N (aW L3))(l6:L6=mdL (aW (aW L3)) p.c p.d)(ex:x=kV N L6)(l8:L8=enL (aW L6) p.u p.m p.t)(ew:wf=kV N L8)
 (Lb Rb:Nat->Bs) (Lp Tp:Nat->OnP P) (b6:∀j,Lb j=wP (Lp j)) (bs:∀j,Rb j=wP (Tp j)) (a b:Fin N) (u:OnP P) (eu:u=(aC C d).ac wf (uPt C)) (v0:Md.Vs Bs (OnP P)) (d0:v0.s=aW L8) (ea:v0.g=gPt C ⟨#[108,101,102,116]⟩) (ep:v0.h=λi=>(aC C d).ac (pwF (ivF y) i) (gPt C ⟨#[114,105,103,104,116]⟩ i)) (ef:v0.p=(aC C d).ad ((aC C d).ad ((aC C d).ad ((aC C d).ad PA ((aC C d).ac x PS)) ((aC C d).ac (-1) ((aC C d).ac mu (gPG C)))) ((aC C d).ad ((aC C d).dt (λ_=>-z) v0.g n) ((aC C d).dt (rgS y z) v0.h n))) ((aC C d).ac tt u)) (X:Bs) (J:X=wP ((aC C d).cm (hPV C) (gPG C) (tt-rgD n y z) tau)) (hY:X=wP ((aC C d).ad ((aC C d).ad ((aC C d).ac (z*z) Vp) ((aC C d).ac x P1)) ((aC C d).ac (x*x) P2))) (et:(aC C d).MV u a b ((aC C d).vst (chF N) ivF t Lp Tp v0 t)) (e:XB) (w:XA) (br:RgV t p Lb Rb (bx a.val) (bx b.val) e w) :
 cZ 107 #[pvl V,iZ n,e] w (rZ w λe w'=>e=tZ):=by
 obtain⟨g1,g2,g3,g4,g5,g6,g7,vL,vR,vA,vB,rfl,hT,hL,hR,eA,eB⟩:=br.ex;have cx:=hw.2.2;have sV:V.size=33:=by rw[hV];exact aL _
 have hr:=λ(W:XA) (E:kZ w W)=>(Kq.of_below E:Kq (λ_=>True) w W)
 have HT:=mk1 (λ(W:XA) (E:kZ w W)=>hT.keep (hr W E));have h5:∀X:OnP P,∃q,rd P (wP X)=some q:=λX=>by obtain⟨q,hq,-⟩:=xR C X.2;exact⟨q,hq⟩
 have b8:=mk1 (λ(W:XA) (E:kZ w W)=>NQ C O cx W (hL.below E) (hR.below E) (eA.keep (hr W E)) (eB.keep (hr W E)) (λj _=>by rw[b6];exact h5 _) (λj _=>by rw[bs];exact h5 _) (kQ O a.isLt) (kQ O b.isLt));obtain⟨vV,h0⟩:=hE (pvl V);obtain⟨k3,bq⟩:=hE (w.heap.size);obtain⟨w1,d9⟩:=hE (lZ w (aA V) 51);obtain⟨k5,d4⟩:=hE (w1.heap.size);obtain⟨w2,cj⟩:=hE (w1.alloc (.cells [q33 g1,q33 g2,q33 g3,q33 g4,q32 g5,q32 g6,q32 g7,vL,vR,vA,vB].toArray 66));have K2:=mk1 (((Mp.start w).new bq d9).new d4 cj);obtain⟨ve,cn⟩:=hE (X9 #[q33 g1,q33 g2,q33 g3,q33 g4,q32 g5,q32 g6,q32 g7,vL,vR,vA,vB]);have B1:Hid ((Ys 51 vV).run prog w=.ok (jZ k3) w1):=by rw[<-h0.out,<-d9.out,<-bq.out];exact sL sV w
 have B2:Hid ((Ys 66 ve).run prog w1=.ok (jZ k5) w2):=by rw[<-cn.out,<-cj.out,<-d4.out];exact Vz (w:=w1)
 have d7:=mk1 (hw.hv w2);rw[h0.out,cn.out];clear br hT hL hR eA eB hr;go_enter func107,ntmps107;refine PW.bg [] ?_;refine PW.ns B1.out ?_;refine PW.ns B2.out ?_;refine PW.en [fZ] ?_;refine PW.bg [] ?_;refine PW.gi d7.out λw3 d8=>?_
 have K3:=mk1 (K2.grow d8);clear K2 d8 d7 B1 B2;refine PW.en [iZ t,tZ,iZ t,tZ] ?_;refine PW.bg [oZ k5 7] ?_;refine PW.ro (cs:=[vL,vR,vA,vB]) (rnB (xs:=[q33 g1,q33 g2,q33 g3,q33 g4,q32 g5,q32 g6,q32 g7]) (K3.at_ 1).2.1 rfl) (Hid.mk' rfl) Nb KU ?_;refine PW.go [] ?_;refine PW.ca (b8 w3 K3.bl) ?_;rintro e w4 ⟨db,kl,kr,rfl,cz,cv⟩;have A:=mk1 ((K3.gets db (pqP kl t Lb) cz).has (pqP kr t Rb) (cv.mono2 λg _ hg=>K3.nk g hg));clear b8 db cz cv K3;obtain⟨vI,hvI⟩:=hE (X9 (inL kl kr t a.val b.val).toArray);rw[hvI.out];refine PW.go [vI,tZ] ?_;obtain⟨k9,c7⟩:=hE (w4.heap.size);obtain⟨w5,bc⟩:=hE (lZ w4 inZ 252);obtain⟨w6,ct⟩:=hE (w5.setCells k9 0 (inL kl kr t a.val b.val));have B:=mk1 (A.new c7 bc);have K6:=mk1 (B.put 2 ct);refine PW.al c7 bc ?_;refine PW.st ct hvI (B.th 2) (iIl _ _ _ _ _) Gx ?_;refine PW.go [tZ] ?_;clear A B;refine PW.dn ?_;have I:=HT w6 K6.bl;obtain⟨kb,cp⟩:=hE (w6.heap.size);obtain⟨w7,cq⟩:=hE (w6.alloc (.cells [q33 g1,q33 g2,q33 g3,q33 g4].toArray 23));have hk:Hid ((Yw 27 4 #[(0,q33 g1),(1,q33 g2),(2,q33 g3),(3,q33 g4)]).run prog w6=.ok (sZ kb 4 4) w7):=by rw[<-cq.out,<-cp.out];exact Xh (w:=w6)
 have F7:=aK cp cq;have bm:Hid (cZ 56 #[.func (.func 57) #[] #[],sZ kb 4 4] w7 (rZ w7 λe w'=>∃K,e=.tuple #[sZ K 4 4,tZ]/\PtL (w7.heap.size<=·) w' K 4 (four p.a p.s p.c p.d))):=by
  have kq:Kq (λ_=>True) w6 w7:=Kq.of_below F7.1;refine(Fo C (b:=kb) 4 4 dC (L:=(four p.a p.s p.c p.d)) (w:=w7) F7.2.1 λj S=>?_).mono ?_
  .match j,S with
   | 0,_=>exact⟨_,F7.2.2.1 0 _ rfl,(I.a.keep kq).arg⟩
   | 1,_=>exact⟨_,F7.2.2.1 1 _ rfl,(I.b.keep kq).arg⟩
   | 2,_=>exact⟨_,F7.2.2.1 2 _ rfl,(I.c.keep kq).arg⟩
   | 3,_=>exact⟨_,F7.2.2.1 3 _ rfl,(I.d.keep kq).arg⟩
  .rintro e w' ⟨v,rfl,E,h⟩;rcases h with⟨-,K,rfl,l,s,k3⟩|⟨⟨j,S,f⟩,-⟩
   .exact⟨_,rfl,E,K,rfl,λj S=>⟨l,s,k3 j S⟩⟩
   .exfalso;have:∃q,rd P (four p.a p.s p.c p.d j)=some q:=by
     match j,S with
     | 0,_=>rw[show four p.a p.s p.c p.d 0=p.a from rfl,hA];exact h5 _
     | 1,_=>rw[show four p.a p.s p.c p.d 1=p.s from rfl,hS];exact h5 _
     | 2,_=>rw[show four p.a p.s p.c p.d 2=p.c from rfl,T];exact h5 _
     | 3,_=>rw[show four p.a p.s p.c p.d 3=p.d from rfl,h2];exact h5 _
    obtain⟨q,hq⟩:=this;rw[hq]at f;cases f
 refine PW.bg [jZ k5] ?_;refine PW.ce ((K6.at_ 1).2.1 0 _ rfl) uBy ?_;refine PW.go [oZ k5 1] ?_;refine PW.ce ((K6.at_ 1).2.1 1 _ rfl) uBy ?_;refine PW.go [oZ k5 2] ?_;refine PW.ce ((K6.at_ 1).2.1 2 _ rfl) uBy ?_;refine PW.go [oZ k5 3] ?_;refine PW.ce ((K6.at_ 1).2.1 3 _ rfl) uBy ?_;refine PW.ns hk.out ?_;refine PW.ca bm.out ?_;rintro e w8 ⟨bo,A,rfl,b7⟩;have K8:=mk1 ((K6.grow F7.1).gets bo (pqP A 4 (four p.a p.s p.c p.d)) b7);clear bm hk F7 I K6 bo b7;refine PW.en [sZ A 4 4,tZ,sZ A 4 4,tZ] ?_;have I:=HT w8 K8.bl;obtain⟨kc,kz⟩:=hE (w8.heap.size);obtain⟨w9,da⟩:=hE (w8.alloc (.cells [q32 g5,q32 g6,q32 g7].toArray 23));have hk:Hid ((Yw 27 3 #[(0,q32 g5),(1,q32 g6),(2,q32 g7)]).run prog w8=.ok (sZ kc 3 3) w9):=by rw[<-da.out,<-kz.out];exact Vr (w:=w8)
 have F9:=aK kz da;have ky:Kq (λ_=>True) w8 w9:=Kq.of_below F9.1;have eb:=mk1 (Mv O 3 3 dC (some (aZ kc)) (Bg (bx p.u) (bx p.m) (bx p.t)) (Bg p.u p.m p.t) w9 (Fg (I.e.keep ky) (I.f.keep ky) (I.g.keep ky) F9.2) λj S=>by
  match j,S with
  | 0,_=>exact kQ O (by rw[hu];exact tau.isLt)
  | 1,_=>exact kQ O (by rw[hm];exact mu.isLt)
  | 2,_=>exact kQ O (by rw[ht];exact tt.isLt)
  | j+3,h=>omega)
 refine PW.bg [oZ k5 4] ?_;refine PW.ce ((K8.at_ 1).2.1 4 _ rfl) uBy ?_;refine PW.go [oZ k5 5] ?_;refine PW.ce ((K8.at_ 1).2.1 5 _ rfl) uBy ?_;refine PW.go [oZ k5 6] ?_;refine PW.ce ((K8.at_ 1).2.1 6 _ rfl) uBy ?_;refine PW.ns hk.out ?_;refine PW.ca eb.out ?_;rintro e h8 ⟨cd,B,rfl,dd⟩;have M:=mk1 ((K8.grow F9.1).gets cd (pqS (sZ B 3 3) 3 (Bg p.u p.m p.t)) dd);refine PW.en [sZ B 3 3,tZ,sZ B 3 3,tZ] ?_;refine XG ?_;go_wp2_with fail
 rename_i Q' K hKK
 refine hG (pvl p.a) λva c4=>?_
 refine hG (pvl p.s) λvs c9=>?_
 refine hG (pvl p.c) λvc c6=>?_
 refine hG (pvl p.d) λvd ci=>?_
 refine hG (nv p.u) λvu d6=>?_
 refine hG (nv p.m) λvm c0=>?_
 refine hG (nv p.t) λvt b9=>?_
 refine hG (X9 p.l.toArray) λvp D=>?_
 refine hG h8.heap.size λb0 E=>?_
 have kv:∀ {W},kZ h8 W->b0<=W.heap.size:=λh=>E.out ▸ h.size
 refine(gwL [pE (sZ A 4 4),pE (oZ A (0+33*0)),pE va,pE (sZ A 4 4),pE (oZ A (0+33*1)),pE vs,pE (sZ A 4 4),pE (oZ A (0+33*2)),pE vc,pE (sZ A 4 4),pE (oZ A (0+33*3)),pE vd,pE (sZ B 3 3),pE (oZ B (0+4*0)),pE vu,pE (sZ B 3 3),pE (oZ B (0+4*1)),pE vm,pE (sZ B 3 3),pE (oZ B (0+4*2)),pE vt,pE vp,RG.pN b0 rp0.l] (λW=>kZ h8 W) (λW W' E h=>h.trans (E.mono h.size))).tail2 23 kR kR kR ⟨
  gO 11 (sZ A 4 4),
  EG 0 67 (sZ A 4 4) (b:=(oZ A (0+33*0))) (I:=(Yv 83 (sZ A 4 4) (iZ ((0:Nat):Int)))) (atP (k:=A) (o:=0) (n:=4) (c:=4) (i:=0) dC) (λx W h=>h) (λ_=>rfl),
  gLr (cs:=aA p.a) 1 68 (λW s=>FU ((M.grow s).get 2) (i:=0) dC) uCP (by rw[aB ok.a];exact iCP) (hR:=λ_=>c4.out),
  gO 11 (sZ A 4 4),
  EG 3 70 (sZ A 4 4) (b:=(oZ A (0+33*1))) (I:=(Yv 83 (sZ A 4 4) (iZ ((1:Nat):Int)))) (atP (k:=A) (o:=0) (n:=4) (c:=4) (i:=1) dC) (λx W h=>h) (λ_=>rfl),
  gLr (cs:=aA p.s) 4 71 (λW s=>FU ((M.grow s).get 2) (i:=1) dC) uCP (by rw[aB ok.s];exact iCP) (hR:=λ_=>c9.out),
  gO 11 (sZ A 4 4),
  EG 6 73 (sZ A 4 4) (b:=(oZ A (0+33*2))) (I:=(Yv 83 (sZ A 4 4) (iZ ((2:Nat):Int)))) (atP (k:=A) (o:=0) (n:=4) (c:=4) (i:=2) dC) (λx W h=>h) (λ_=>rfl),
  gLr (cs:=aA p.c) 7 74 (λW s=>FU ((M.grow s).get 2) (i:=2) dC) uCP (by rw[aB ok.c];exact iCP) (hR:=λ_=>c6.out),
  gO 11 (sZ A 4 4),
  EG 9 76 (sZ A 4 4) (b:=(oZ A (0+33*3))) (I:=(Yv 83 (sZ A 4 4) (iZ ((3:Nat):Int)))) (atP (k:=A) (o:=0) (n:=4) (c:=4) (i:=3) dC) (λx W h=>h) (λ_=>rfl),
  gLr (cs:=aA p.d) 10 77 (λW s=>FU ((M.grow s).get 2) (i:=3) dC) uCP (by rw[aB ok.d];exact iCP) (hR:=λ_=>ci.out),
  gO 13 (sZ B 3 3),
  EG 12 79 (sZ B 3 3) (b:=(oZ B (0+4*0))) (I:=(Yv 143 (sZ B 3 3) (iZ ((0:Nat):Int)))) (lY (k:=B) (o:=0) (n:=3) (c:=3) (i:=0) dC) (λx W h=>h) (λ_=>rfl),
  gLr (cs:=wn p.u) 13 80 (λW s=>Jz ((M.grow s).get 3) (i:=0) dC) u40 i40 (hR:=λ_=>d6.out),
  gO 13 (sZ B 3 3),
  EG 15 82 (sZ B 3 3) (b:=(oZ B (0+4*1))) (I:=(Yv 143 (sZ B 3 3) (iZ ((1:Nat):Int)))) (lY (k:=B) (o:=0) (n:=3) (c:=3) (i:=1) dC) (λx W h=>h) (λ_=>rfl),
  gLr (cs:=wn p.m) 16 83 (λW s=>Jz ((M.grow s).get 3) (i:=1) dC) u40 i40 (hR:=λ_=>c0.out),
  gO 13 (sZ B 3 3),
  EG 18 85 (sZ B 3 3) (b:=(oZ B (0+4*2))) (I:=(Yv 143 (sZ B 3 3) (iZ ((2:Nat):Int)))) (lY (k:=B) (o:=0) (n:=3) (c:=3) (i:=2) dC) (λx W h=>h) (λ_=>rfl),
  gLr (cs:=wn p.t) 19 86 (λW s=>Jz ((M.grow s).get 3) (i:=2) dC) u40 i40 (hR:=λ_=>b9.out),
  Lg [(69,va),(72,vs),(75,vc),(78,vd),(81,vu),(84,vm),(87,vt)] vp (λa W f=>⟨f.n 2 69 kR kR,f.n 5 72 kR kR,f.n 8 75 kR kR,f.n 11 78 kR kR,f.n 14 81 kR kR,f.n 17 84 kR kR,f.n 20 87 kR kR,yEZ⟩) (λ_=>rfl) (λW=>by rw[<-c4.out,<-c9.out,<-c6.out,<-ci.out,<-d6.out,<-c0.out,<-b9.out,<-D.out];unfold pvl Rp.l;rw[dD ok.a,dD ok.s,dD ok.c,dD ok.d];kernel_rfl),
  tQ rp0.l 153 (λW W' h s=>⟨_,rfl,kv s,h⟩),yEZ⟩ ⟨rfl,rfl,rfl,XD _,λ_ _=>rfl⟩ ?_
 intro Y7 es hR s;have eo:=hR 21 dC;obtain⟨b4,dx,eh,dk⟩:=hR 22 dC;have ba:=mk1 (M.add s dk (by rw[E.out];exact eh));dsimp only[bW,YT,yAb,yAd];simp only[Ym,XF,XJ,XL];rw[eo,dx];refine hG (es.setCells b4 0 p.l) λha kk=>?_
 have lR:=(Rp.len ok).trans (Rp.len JL).symm;have ks:=mk1 (ba.put 3 kk rfl lR);have h7:gZ 153 p.l.length:=by rw[Rp.len ok];exact iRd
 refine PW.st kk D (ba.th 3 rfl lR) h7 (Rp.one p) ?_;refine PW.dn ?_;refine hKK _ _ ?_;refine hG (aW (aW L3)) λL5 ku=>?_
 have s5:L5.size=32:=by rw[<-ku.out];exact aY
 refine hG (nv y.val) λvy R=>?_
 refine hG (nv z.val) λvz h6=>?_
 have k7:n<=64:=by rw[hw.1];exact XH (Y5 dC hw.2.2) dC
 have bt:Hid (cZ 79 #[vp,vV,iZ n] ha (rZ ha λe w'=>∃r,e=.tuple #[lgV r,vy,vz]/\ha.heap.size<=r/\hZ w' r 0 L5)):=by
  have h:=Qk O p ok V sV n oM ha;rw[<-l3,nG O Z ey,nG O Z ez,ku.out,D.out,h0.out,R.out,h6.out]at h;exact h
 have iV:gZ 51 (aA V).length:=by rw[aB sV];exact iCP
 refine PW.bg [] ?_;refine PW.ro (ks.at_ 3).2.1 D uRd h7 ?_;refine PW.ro (ks.at_ 0).2.1 h0 uCP iV ?_;refine PW.go [] ?_;refine PW.ca bt.out ?_;rintro e c5 ⟨c3,r,rfl,lr,Hr⟩;have ei:=mk1 (ks.add c3 (qN Hr (Holds.lt Hr (by rw[s5];decide))) lr);refine PW.go [lgV r,vy,vz] ?_;refine hG c5.heap.size λbz hz=>?_
 refine hG (c5.alloc (.cells [.pointer none].toArray 159)) λb5 k8=>?_
 refine hG b5.heap.size λbu ki=>?_
 refine hG (lZ b5 (RG.z 4) 44) λbe k0=>?_
 refine hG be.heap.size λde ka=>?_
 refine hG (lZ be (RG.z 4) 44) λdy kg=>?_
 refine hG (dy.setCells bz 0 [jZ r]) λec kf=>?_
 refine hG (ec.setCells bu 0 (wn y.val)) λdh km=>?_
 refine hG (dh.setCells de 0 (wn z.val)) λkw k6=>?_
 have bl:=mk1 (((ei.new hz k8).new ki k0).new ka kg);have b2:=mk1 (bl.put 5 kf);have bn:=mk1 (b2.put 6 km);have hs:=mk1 (bn.put 7 k6);refine PW.al hz k8 ?_;refine PW.al ki k0 ?_;refine PW.al ka kg ?_;refine PW.st kf (Hid.mk' rfl) (bl.th 5) iLg kR ?_;refine PW.st km R (b2.th 6) i40 aI ?_;refine PW.st k6 h6 (bn.th 7) i40 aI ?_;refine PW.dn ?_;refine hG (aW L6) λL7 kn=>?_
 have s7:L7.size=32:=by rw[<-kn.out];exact aY
 refine hG (nv x.val) λvx h4=>?_
 have cf:Hid (cZ 85 #[vp,lgV r] kw (Ret λe w'=>SP.Only r 0 32 kw w'/\hZ w' r 0 L7/\e=vx)):=by
  have h:=PN O p ok r L5 kw (hs.log 4) s5;rw[show mdL L5 p.c p.d=L6 by rw[<-ku.out];exact l6.symm,nG O Z ex,kn.out,D.out,h4.out]at h;exact h
 refine PW.bg [] ?_;refine PW.ro (hs.at_ 3).2.1 D uRd h7 ?_;refine PW.ro (cs:=[jZ r]) (hs.at_ 5).2.1 (Hid.mk' rfl) uLg iLg ?_;refine PW.ca cf.out ?_;rintro e bd ⟨bj,d3,b3⟩;obtain rfl:=b3.symm;have df:=mk1 (hs.say 4 bj d3);refine hG bd.heap.size λdz k4=>?_
 refine hG (lZ bd (RG.z 4) 44) λf0 ke=>?_
 refine hG (f0.setCells dz 0 (wn x.val)) λL kh=>?_
 have d2:=mk1 (df.new k4 ke);have F:=mk1 (d2.put 8 kh);refine PW.al k4 ke ?_;refine PW.st kh h4 (d2.th 8) i40 aI ?_;refine PW.dn ?_;refine hG (aW L8) λL9 he=>?_
 have s9:L9.size=32:=by rw[<-he.out];exact aY
 refine hG (nv wf.val) λvw bh=>?_
 have kp:0<n:=by rw[hw.1];exact yAz dC
 obtain⟨Q2,hQ⟩:=F.out.q;have nr:=F.ne hQ 4;have hy:=(F.at_ 4).1;have l:Hid (∀ {k:Nat}{c:List XB}{W:XA},Row L k c->k≠r->SP.Only r 0 32 L W->Row W k c):=λT h2 h3=>aQ T h3.size (h3.block _ T.1 h2)
 have nk:Hid ((bu≠r/\b4≠r)/\bz≠r):=by
  have h:=F.out.nd;simp only[Z7,yCp,List.nodup_cons,Y6,Yf,or_false,not_or]at h;exact⟨⟨λe=>h.2.2.2.2.1.2.1 e.symm,h.2.2.2.1.1⟩,λe=>h.2.2.2.2.1.1 e.symm⟩
 have eg:=oD C Z.1 n;have dq:Hid (∀W,hZ W r 0 L7->cZ 88 #[vp,lgV r] W (Ret λe w'=>SP.Only r 0 32 W w'/\hZ w' r 0 L9/\e=vw)):=λW hH=>by
  have h:=P8 O p ok (by rw[hu];exact tau.isLt) (by rw[hm];exact mu.isLt) (by rw[ht];exact tt.isLt) r L7 W hH s7;rw[show enL L7 p.u p.m p.t=L8 by rw[<-kn.out];exact l8.symm,nG O Z ew,he.out,D.out,bh.out]at h;exact h
 have em:Hid (∀W v,(∀g,W.heap.size<=g->Q2 g)->GRq Q2 W v n (gGT P) (hGT P) (uGT P)->cZ 91 #[v,vy,vw] W (rZ W λe w'=>GRq Q2 w' e n (gGT P) (qH N y.val (hGT P)) ((uGT P).map (tmT N wf.val)))):=λW v T h2=>by
  rw[<-R.out,<-bh.out];exact Jh O n kp k7 (gGT P) (hGT P) (uGT P) (λi G=>⟨(eg.tl i G).ok,by show 1<=512;decide⟩) (nI C Z.1).ok (by show 1<=512;decide) y.val wf.val y.isLt wf.isLt v W T h2
 refine hG L.heap.size λb0 E=>?_
 have kv:∀ {W},SP.Only r 0 32 L W->b0<=W.heap.size:=λh=>E.out ▸ h.size
 have Gk:Hid (∀ {W W':XA}{v:XB}{G H U},SP.Only r 0 32 W W'->GRq Q2 W v n G H U->GRq Q2 W' v n G H U):=λhO h=>h.keep ⟨hO.size,λg hg hl=>hO.block g hl (nr g hg)⟩
 have rb:r<b0:=by rw[<-E.out];exact hy
 have kj:Hid (∀ {W:XA},SP.Only r 0 32 L W->∀g,W.heap.size<=g->Q2 g):=λh g hg=>F.nkq hQ g (XH h.size hg)
 refine XG ?_;refine(gwL [pE (iZ n),pR Q2 n (gGT P) (hGT P) (uGT P),pE vy,pE vp,pE (lgV r),pLw vw r L9,pR Q2 n (gGT P) (qH N y.val (hGT P)) ((uGT P).map (tmT N wf.val)),pX b0 Z3] (λW=>SP.Only r 0 32 L W) (λ_ _ E h=>h.trans (SP.Only.of_below E rfl (XC hy h.size)))).tailL 5 (λW W'=>SP.Only r 0 32 W W') (λW=>r<W.heap.size/\hZ W r 0 L7) 8 (λj v W W' S hO h=>by
  match j,S with
  | 0,_=>exact h
  | 1,_=>exact Gk.out hO h
  | 2,_=>exact h
  | 3,_=>exact h
  | 4,_=>exact h
  | 5,S=>exact(S rfl).elim
  | 6,_=>exact Gk.out hO h
  | 7,_=>exact Oa hO rb h
  | j+8,_=>exact h) (λW W' hO h=>SP.Only.trans h hO) (λW W' E h=>⟨XC h.1 E.size,Holds.below h.2 E h.1⟩) kR kR kR ⟨
  Ey (gO 1 (iZ n)),
  Ey (oC 0 100 76 (λx=>#[x]) (λx W e1 s=>by
   obtain rfl:x=iZ n:=e1;refine(yO (P:=P) C n oM W).mono ?_;rintro e W' ⟨Y,rfl,T,h2⟩;exact⟨_,rfl,T,h2.mono (kj.out s)⟩)),
  Ey (gLo (cs:=wn y.val) 17 (λW s=>(l.out (F.at_ 6) nk.1.1 s).2.1) u40 i40 (hR:=λ_=>R.out)),
  Ey (gLo (cs:=p.l) 15 (λW s=>(l.out (F.at_ 3) nk.1.2 s).2.1) uRd h7 (hR:=λ_=>D.out)),
  Ey (gLo (cs:=[jZ r]) 16 (λW s=>(l.out (F.at_ 5) nk.2 s).2.1) uLg iLg),
  WN (λa W f s=>⟨[(103,vp),(104,lgV r)],88,#[vp,lgV r],⟨f.n 3 103 kR kR,f.n 4 104 kR kR,yEZ⟩,kR,by
   refine(dq.out W s.2).mono ?_;rintro e W' ⟨Y,rfl,T,h2,h3⟩;exact⟨_,rfl,T,h3,XC s.1 T.size,h2⟩⟩),
  Ey (nD 1 101 2 102 5 105 91 (λx y z=>#[x,y,z]) (λx u z W e1 e2 e3 s=>by
   obtain rfl:u=vy:=e2;obtain rfl:z=vw:=e3.1;exact em.out W x (kj.out s) e1)),
  Ey (UU b0 Z3 150 (λW s=>kv s) (λv W h=>h)),yEZ⟩ (SP.Only.of_below (⟨rfl,rfl,rfl,XD _,λ_ _=>rfl⟩:kZ L L.drew) rfl hy) ⟨hy,F.log 4⟩ ?_
 intro Y dm hR s;have f4:=hR 6 dC;have ej:=(hR 5 dC).2.2;obtain⟨e9,e7,ds,f6,ed⟩:=hR 7 dC;obtain⟨er,ek⟩:=F.out.sayAdd 4 s ej f6 (by rw[E.out];exact ds);have gl:∀j,j<n->0<(gGT P j).length:=λj S=>by rw[(wL C Z.1 n).len j S];decide
 have hl:∀j,j<n->0<(qH N y.val (hGT P) j).length:=λj S=>by rw[(Lq C d Z (y:=y) (n:=n)).len j S];decide
 have kt:=(f4.offX kp gl hl (by rw[XZ];show 0<1;decide) (λi x hx=>Qy (ed i x hx))).mono λg hg=>ek g (by rw[hQ.out];exact hg.1) hg.2
 obtain⟨q1,q2,q3,e6,e8,e4,f5⟩:=kt.ex;obtain⟨ga,oa,ca,e1⟩:∃g o c,q1=qZ g o n c:=by obtain⟨g,o,c,h,-⟩:=e8;exact⟨g,o,c,h⟩
 obtain⟨gb,ob,cb,e2⟩:∃g o c,q2=qZ g o n c:=by obtain⟨g,o,c,h,-⟩:=e4;exact⟨g,o,c,h⟩
 obtain⟨gc,mc,cc,e3⟩:∃g m c,q3=sZ g m c:=by obtain⟨g,c,h,-⟩:=f5;exact⟨g,_,c,h⟩
 subst e1 e2 e3;rw[e6]at kt;have cg:=mk1 (er.has (pqG _ n (gGT P) (qH N y.val (hGT P)) ((uGT P).map (tmT N wf.val))) kt);dsimp only[bW,YT,yAb,yAd];simp only[Ym,XF,XJ,XL];rw[e6,e7];refine hG (dm.setCells e9 0 [qZ ga oa n ca,qZ gb ob n cb,sZ gc mc cc]) λh9 kd=>?_
 have f:=mk1 (cg.put 9 kd);refine PW.st kd (Hid.mk' rfl) (cg.th 9) iGr kR ?_;refine PW.dn ?_;have e5:Hid (∀W,cZ 162 #[vp,vV,iZ n,vx,vy,vz] W (rZ W λe w'=>e=tZ)):=λW=>by
  rw[<-D.out,<-h0.out,<-h4.out,<-R.out,<-h6.out];exact Nm C O d Z hN hw (p:=p) ok (V:=V) (b:=Vp) (f:=P1) (d:=P2) hV T h2 (tau:=tau) (tt:=tt) (x:=x) (y:=y) (z:=z) hu ht (w:=W) (X:=X) J hY
 have G1:Gd N n 1 (gGT P) v0.g:=by rw[ea];exact wL C Z.1 n
 have G2:Gd N n 1 (qH N y.val (hGT P)) v0.h:=by rw[ep];exact Lq C d Z (y:=y) (n:=n)
 have G3:Tl N ((uGT P).map (tmT N wf.val)) u:=by rw[eu];exact(nI C Z.1).tm C d wf
 have G4:((uGT P).map (tmT N wf.val)).length=1:=by rw[XZ];rfl
 obtain⟨lh,bp,e0,c8⟩:=UQ C O d Z hN kp k7 p ok PA PS hA hS mu tt x y z hm ht (gGT P) (qH N y.val (hGT P)) ((uGT P).map (tmT N wf.val)) v0.g v0.h u G1 G2 G3 G4;rw[<-ef]at bp;rw[D.out,h4.out,R.out,h6.out]at c8;refine hG (X9 #[qZ ga oa n ca,qZ gb ob n cb,sZ gc mc cc]) λvg ko=>?_
 rw[ko.out]at f;have bi:=(f.at_ 4).1;refine XG ?_;have l:Hid (∀ {k:Nat}{c:List XB}{W:XA},Row h9 k c->k≠r->SP.Only r 0 32 h9 W->Row W k c):=λT h2 h3=>aQ T h3.size (h3.block _ T.1 h2)
 have co:=(row_ne f.out.nd 3 4 dC rfl rfl)
 have n3:=(row_ne f.out.nd 0 4 dC rfl rfl)
 have n9:=(row_ne f.out.nd 2 4 dC rfl rfl)
 have du:=(row_ne f.out.nd 5 4 dC rfl rfl)
 have d1:=(row_ne f.out.nd 6 4 dC rfl rfl)
 have bf:=(row_ne f.out.nd 7 4 dC rfl rfl)
 have cy:=(row_ne f.out.nd 8 4 dC rfl rfl)
 have d5:=(row_ne f.out.nd 9 4 dC rfl rfl)
 refine AW.beg 20 20 (J:=(Iv.only bi)) (SP.Only.of_below (⟨rfl,rfl,rfl,XD _,λ_ _=>rfl⟩:kZ h9 h9.drew) rfl bi) ?_;refine AW.ro 0 (cs:=p.l) (λW h=>(l.out (f.at_ 3) co h).2.1) D uRd h7 ?_;refine AW.ro 1 (λW h=>(l.out (f.at_ 0) n3 h).2.1) h0 uCP iV ?_;refine AW.mv 2 ?_;refine AW.ro 3 (λW h=>(l.out (f.at_ 8) cy h).2.1) h4 u40 i40 ?_;refine AW.ro 4 (λW h=>(l.out (f.at_ 6) d1 h).2.1) R u40 i40 ?_;refine AW.ro 5 (λW h=>(l.out (f.at_ 7) bf h).2.1) h6 u40 i40 ?_;refine AW.gi 6 (λ_=>e5.out _) λdp bk=>?_
 have hc:=mk1 (f.drew.grow bk);refine AW.mv 7 ?_;refine AG.ro 8 (cs:=inL kl kr t a.val b.val) (λW h=>(l.out (f.at_ 2) n9 h).2.1) hvI uIl (iIl _ _ _ _ _) ?_;refine AG.ro 9 (cs:=[jZ r]) (λW h=>(l.out (f.at_ 5) du h).2.1) (Hid.mk' rfl) uLg iLg ?_;refine AG.ro 10 (cs:=[qZ ga oa n ca,qZ gb ob n cb,sZ gc mc cc]) (λW h=>(l.out (f.at_ 9) d5 h).2.1) ko uGr iGr ?_;refine AG.ro 11 (cs:=p.l) (λW h=>(l.out (f.at_ 3) co h).2.1) D uRd h7 ?_;refine AG.ro 12 (cs:=[qZ ga oa n ca,qZ gb ob n cb,sZ gc mc cc]) (λW h=>(l.out (f.at_ 9) d5 h).2.1) ko uGr iGr ?_;refine AG.mv 13 ?_;refine AG.ro 14 (λW h=>(l.out (f.at_ 8) cy h).2.1) h4 u40 i40 ?_;refine AG.ro 15 (λW h=>(l.out (f.at_ 6) d1 h).2.1) R u40 i40 ?_;refine AG.ro 16 (λW h=>(l.out (f.at_ 7) bf h).2.1) h6 u40 i40 ?_;refine AG.cw 17 (λ_=>c8 _ vg dp (hc.get 4)) (λe w' hJ h=>SP.Only.trans hJ (SP.Only.of_below h.1 rfl (hc.at_ 4).1)) ?_;rintro sv kx ⟨cu,dw⟩;have J:=mk1 (hc.grow cu);have dl:Hid (cZ 163 #[vI,lgV r,vg,sv] kx (Ret λe w'=>SP.Only r 0 32 kx w'/\e=tZ)):=by
  obtain⟨Q,hQ⟩:=J.out.q;have nr:=J.ne hQ 4;have f8:=(hc.at_ 4).1;rw[<-hvI.out];exact NM C O d Z t cx Lp Tp v0 u (gGT P) (qH N y.val (hGT P)) ((uGT P).map (tmT N wf.val)) lh (by rw[<-hw.1];exact G1) (by rw[<-hw.1];exact G2) G3 (by rw[G4];decide) (by rw[G4];decide) bp e0 Lb Rb b6 bs r kl kr a b vg sv kx (by rw[d0,he.out];exact J.log 4) (by rw[d0,he.out];exact s9) (PtL.mono2 (J.vU hQ 0) λg _ hg=>nr g hg) (PtL.mono2 (J.vU hQ 1) λg _ hg=>nr g hg) (by rw[<-hw.1];exact GRq.mono (J.vU hQ 4) nr) (dw.q.mono λg hg=>oM) true (by simp only[true_iff];exact et)
 refine AG.cw 18 (λ_=>dl.out) (λe w' hJ h=>SP.Only.trans hJ h.1) ?_;rintro e f7 ⟨bv,rfl⟩;refine AW.nx 19 tZ ?_;refine AW.nx 20 tZ ?_;refine AW.dn λ_=>?_
 have hF:=J.bl.trans (yB bv J.bl.size (J.rw (r,aA L9) (YO (i:=4) rfl)).1);go_wp2;go_ret;exact⟨_,rfl,hF,rfl⟩
end
def Cor(W:XA)(k:List (Y0 × Nat))(us:List XB):Prop:=k.length=us.length/\∀(j:Nat) x u,k[j]? = some x->us[j]? = some u->(∃b o,x.1=⟨b,o,none⟩)/\W.cell? x.1=some u
def Cor.app{W:XA}{p1 p2:List (Y0 × Nat)}{u1 u2:List XB}(k:Cor W p1 u1)(d:Cor W p2 u2):Cor W (p1++p2) (u1++u2):=by
 refine⟨by rw[XK,XK,k.1,d.1],λj x u hx b=>?_⟩;by_cases c:j<p1.length
 .rw[XY c]at hx;rw[XY (by rw[<-k.1];exact c)]at b;exact k.2 j x u hx b
 .rw[XW oM]at hx;rw[XW (by rw[<-k.1];omega),<-k.1]at b;exact d.2 _ x u hx b
def Cor.lp{W:XA}{s:Sv}{b o:Nat}{ys:List XB}(h:VL W s.q s.n ys)(c:s.n=0\/s.q=some ⟨b,o,none⟩):Cor W (lp b o s.n) ys:=by
 refine⟨by rw[jT,h.len],λj x u hx f=>?_⟩;unfold Go.Proofs.YtlofhpkoaljmeaaGreat.lp at hx;rw[YB]at hx;obtain⟨k,g,rfl⟩:=XE.1 hx;have n:j<s.n:=by
  have:=(XM.1 g).1;simpa using this
 have e:j=k:=by
  have:=(XM.1 g).2;simpa using this
 subst e;refine⟨⟨_,_,rfl⟩,?_⟩;rcases h.cells with i|⟨p,m,d,-,l⟩
 .rw[i]at f;cases f
 .rcases c with c|c
  .omega
  .rw[c]at d;have d:=XX.inj d;injection d with e1 e2 _
   subst e1 e2;exact l j u f
def qR(p:Rg)(k b:List XB):List XB:=[p.a.v,p.b.v,p.c.v,p.d.v,p.e.v,p.f.v,p.g.v]++k++b++[p.x.v,p.y.v]
def fU(k b c n d or m:Nat):List (Y0 × Nat):=uF k++lp b c n++lp d or m++endP k
def OI{W:XA}{m g i l or:Nat}{p:Rg}{d e:List XB}(f:W.rangeAt m 0 p.cs)(q:VL W p.l.q p.l.n d)(hR:VL W p.r.q p.r.n e)(n:p.l.n=0\/p.l.q=some ⟨g,i,none⟩)(o:p.r.n=0\/p.r.q=some ⟨l,or,none⟩):
 Cor W (fU m g i p.l.n l or p.r.n) (qR p d e):=by
 refine Cor.app (Cor.app (Cor.app ?_ (Cor.lp q n)) (Cor.lp hR o)) ?_
 .refine⟨rfl,λj x u hx b=>?_⟩;have c:=f j u;rw[XI]at c;match j,hx,b with
  | 0,hx,b|1,hx,b|2,hx,b|3,hx,b|4,hx,b|5,hx,b|6,hx,b =>
   obtain rfl:=XX.inj hx;exact⟨⟨_,_,rfl⟩,c b⟩
  | k+7,hx,b=>cases hx
 .refine⟨rfl,λj x u hx b=>?_⟩;match j,hx,b with
  | 0,hx,b =>
   obtain rfl:=XX.inj hx;exact⟨⟨_,_,rfl⟩,by have c:=f 9 u b;rw[XI]at c;exact c⟩
  | 1,hx,b =>
   obtain rfl:=XX.inj hx;exact⟨⟨_,_,rfl⟩,by have c:=f 10 u b;rw[XI]at c;exact c⟩
  | k+2,hx,b=>cases hx
def fD(n m:Nat):List Nat:=[33,33,33,33,32,32,32]++YM n 33++YM m 33++[32,32]
def tN(k c d n e or m:Nat):(fU k c d n e or m).map (·.2)=fD n m:=by
 have h:∀b o n,(lp b o n).map (·.2)=YM n 33:=λb o n=>by
  unfold lp;rw[List.map_map];exact List.ext_getElem (by simp) (λi f g=>by simp)
 unfold fU fD;rw[Y1,Y1,Y1,h,h];rfl
def F6{n m:Nat}:∀k∈fD n m,k<=33:=by
 intro k b;unfold fD at b;simp only[Y9,Y6,Yf,or_false,yB3]at b;omega
def lI(n m:Nat):(fD n m).length=n+m+9:=by
 unfold fD;simp only[XK,List.length_replicate,Yx,Zz];omega
def PtB(W:XA)(us:List XB)(BB:List SP.Bs):Prop:=BB.length=us.length/\∀(j:Nat) u b,us[j]? = some u->BB[j]? = some b->Pt W u b
def eZ(n:Nat)(BB:List SP.Bs)(i:Nat):SP.Bs:=(BB.take i).foldl (·++·) #[n.toUInt8]
def lT{BB:List SP.Bs}{i:Nat}{b:SP.Bs}(n:Nat)(h:BB[i]? = some b):eZ n BB (i+1)=eZ n BB i++b:=by
 unfold eZ;rw[yCm,h];simp
def kP(n m:Nat)(BB:List SP.Bs):Prop:=n=m/\n<=6/\BB.map Zm=fD n m
def VO(w:XA)(n m:Nat)(BB:List SP.Bs)(e:Ending)(W:XA):Prop:=Below w.heap.size w W/\((kP n m BB/\∃v,e=.returned (.tuple #[v,.int .i64 0])/\Pt W v (eZ n BB (n+m+9))/\∃g c,v=.slice (some ⟨g,0,none⟩) (Zm (eZ n BB (n+m+9))) c/\Zm (eZ n BB (n+m+9))<=c)\/(¬kP n m BB/\e=.returned (.tuple #[.slice none 0 0,.int .i64 2])))
def PuI.cap{w e W:XA}{k f:Nat}{v:XB}{b:SP.Bs}(h:PuI w e W k f v b):∃g c,v=sZ g (Zm b) c/\Zm b<=c:=by
 rcases id h.ow with⟨j,⟨rfl,-⟩|⟨g,cap,cur,rfl,i,l,d,-⟩⟩
 .exact absurd rfl h.nn
 .exact⟨g,cap,rfl,d⟩
def PuI.pt{w m W:XA}{o i:Nat}{v:XB}{b:SP.Bs}(h:PuI w m W o i v b):Pt W v b:=by
 have k:=h.lt;rcases id h.ow with⟨s,⟨rfl,-⟩|⟨g,cap,cur,rfl,r,n,x,q,u,p⟩⟩
 .exact absurd rfl h.nn
 .obtain⟨t,c,e,-,l⟩:=k;injection e with e _ _
  injection e with e
  injection e with e _ _
  subst e;refine⟨_,_,rfl,X7 ⟨g,0,rfl,l,λj f=>?_⟩⟩;have d:=h.ow.cells (g:=g) rfl j (SP.encB b[j]!) (by
   unfold bC;rw[YB,XO (by simpa using f),yAq,getElem!_pos b j f];simp)
  rw[gI,XI]at d;refine⟨by rw[XI];exact d,?_⟩;simp[Zk,n]
def TI:yZ 101:=yQ
def iPt:gZ 101 2:=gQ
def PZ{n i:Nat}(g c:Nat)(b:i<n)(w:XA):(Yv 96 (sZ g n c) (iZ i)).run prog w=.ok (oZ g (i*2)) w:=by
 have k:=gI g 0 (i*2);rw[XI]at k;go_simp
def Q6(p:Rg){O L P or:Nat}{A D:List XB}{BB:List SP.Bs}(w:XA)(hL:VL w p.l.q p.l.n A)(hR:VL w p.r.q p.r.n D)(hl:p.l.n=0\/p.l.q=some ⟨O,L,none⟩)(hr:p.r.n=0\/p.r.q=some ⟨P,or,none⟩)(hB:PtB w (qR p A D) BB)(n1:p.l.n<=1000)(n2:p.r.n<=1000):
 YN prog 22 #[.agg p.cs.toArray] w (VO w p.l.n p.r.n BB):=by
 obtain⟨cs,r⟩:=hE (p.cs:List XB);obtain⟨l,t⟩:=hE (w.alloc (.cells cs.toArray 66));have e1:l.heap.size=w.heap.size+1:=by rw[<-t.out,XP]
 have b1:Below w.heap.size w l:=by rw[<-t.out];exact bG _ _
 have r1:l.rangeAt w.heap.size 0 cs:=by rw[<-t.out];exact oJ (w:=w) (cs:=cs)
 have R:l.cell? ⟨w.heap.size,7,none⟩=some p.l.v:=by have:=r1 7 p.l.v (by rw[<-r.out];rfl);rw[XI]at this;exact this
 have Q:l.cell? ⟨w.heap.size,8,none⟩=some p.r.v:=by have:=r1 8 p.r.v (by rw[<-r.out];rfl);rw[XI]at this;exact this
 obtain⟨U,z⟩:=hE (l.alloc (.cells #[.int .u8 (p.l.n:Int)] 5));have b2:Below l.heap.size l U:=by rw[<-z.out];exact bG _ _
 have Y:U.heap.size=l.heap.size+1:=by rw[<-z.out,XP]
 have hP:Hid (YN prog 44 #[.pointer (some ⟨w.heap.size,0,none⟩)] U λe w'=>∃v,e=.returned v/\PLs U w' v (fU w.heap.size O L p.l.n P or p.r.n)):=
  Ay w.heap.size p.l p.r O L P or U oM (by rw[b2.cell (p:=⟨w.heap.size,7,none⟩) (by show w.heap.size<_;omega)];exact R) (by rw[b2.cell (p:=⟨w.heap.size,8,none⟩) (by show w.heap.size<_;omega)];exact Q) hl hr n1 n2
 have a:=Hid.mkP b1;have V:=Hid.mkP b2;have h1:=Hid.mkP r1;have HE:=mk2 e1 Y;have HL:=Hid.mkP hL;have HR:=Hid.mkP hR;have Hl:=Hid.mkP hl;have Hr:=Hid.mkP hr;have HB:=Hid.mkP hB;have m:Hid ((qR p A D).length=p.l.n+p.r.n+9):=by
  show _=_;unfold qR;simp only[XK,hL.len,hR.len,Yx,Zz];omega
 clear b1 b2 r1 e1 Y hL hR hl hr hB;rw[r.out];obtain⟨f,I⟩:=yH p.l.n;obtain⟨nr,N⟩:=yH p.r.n;rw[show p.l.v=.slice p.l.q p.l.n p.l.c from rfl]at R;rw[show p.r.v=.slice p.r.q p.r.n p.r.c from rfl]at Q;rw[I.out,N.out]at hP m⊢;rw[I.out]at R n1 z;rw[N.out]at Q n2;generalize p.l.q=ql at R;generalize p.l.c=cl at R;generalize p.r.q=qr at Q;generalize p.r.c=cr at Q;go_enter func22,ntmps22;by_cases hg:f=nr
 .subst hg;by_cases h6:f<=6
  .have h3:¬(6:Int)<(f:Int):=oM;have hp:IntKind.u8.wrap (f:Int)=(f:Int):=by
    show((f:Int)%256)=_;omega
   go_wp2_with (first|(refine fC (v:=.pointer (some ⟨w.heap.size,0,none⟩)) (w':=l) rfl (.box 66 (.tmp 0)) rfl ?_ ?_;(rw[<-t.out,<-r.out];kernel_rfl))|(refine fC (v:=.slice (some ⟨l.heap.size,0,none⟩) 1 1) (w':=U) rfl (.buildSlice 23 1 #[(0,.tmp 23)]) rfl ?_ ?_;(rw[<-z.out];kernel_rfl))|fail)
   refine hP.out.mono ?_;rintro e T ⟨v3,rfl,J⟩;obtain⟨F,X,rfl,hb,h8⟩:=J.lt;have hM:(fU w.heap.size O L f P or f).length=f+f+9:=by
    rw[<-lI f f,<-tN w.heap.size O L f P or f,XZ]
   have I0:Hid (PuI w T T w.heap.size F (.slice (some ⟨l.heap.size,0,none⟩) 1 1) (eZ f BB 0)):=by
    obtain⟨z1,z2⟩:=HE.out;have o:=J.bl.size;refine⟨a.out.trans ((V.out.mono a.out.size).trans (J.bl.mono oM)),⟨rfl,X7 ⟨l.heap.size,1,#[.int .u8 f],rfl,oM,?_,XD _,dC,rfl,?_⟩⟩,by simp[Zh],by simp[Zh];omega,by simp[Zh];omega,rfl,rfl,XD _,oM,oM⟩
    .rw[J.bl.block l.heap.size oM,<-z.out];exact ZU
    .show [YW .u8 f]=[SP.encB f.toUInt8];unfold SP.encB SP.ub;have:(f.toUInt8).toNat=f:=by
      rw[UInt8.toNat_ofNat'];omega
     simp[this]
   have HC:Hid (∀W v b,PuI w T W w.heap.size F v b->∀i,i<f+f+9->∃bb y k q n c B,(fD f f)[i]? = some k/\k<=33/\W.rangeAt F (i*2) [.pointer (some ⟨bb,y,none⟩),.int .i64 k]/\W.cell? ⟨bb,y,none⟩=some (.slice q n c)/\BB[i]? = some B/\Pt W (.slice q n c) B):=λW v b Z i hi=>by
    obtain⟨z1,z2⟩:=HE.out;have o:W.rangeAt w.heap.size 0 p.cs:=λj u G=>by
     have e:=Z.e1;have s:T.heap[w.heap.size]? = l.heap[w.heap.size]?:=by rw[J.bl.block _ oM,V.out.block _ oM]
     have:W.cell? ⟨w.heap.size,0+j,none⟩=l.cell? ⟨w.heap.size,0+j,none⟩:=by unfold YZ;rw[e,s]
     rw[this];exact h1.out j u (by rw[<-r.out];exact G)
    have H:=OI o (HL.out.below Z.bl) (HR.out.below Z.bl) Hl.out Hr.out;rw[I.out,N.out]at H;obtain⟨x,hx⟩:∃x,(fU w.heap.size O L f P or f)[i]? = some x:=⟨_,XO oM⟩
    obtain⟨u,S⟩:∃u,(qR p A D)[i]? = some u:=⟨_,XO (by rw[m.out];omega)⟩
    obtain⟨B,s⟩:∃B,BB[i]? = some B:=⟨_,XO (by rw[HB.out.1,m.out];omega)⟩
    obtain⟨⟨bb,y,E⟩,C⟩:=H.2 i x u hx S;have hpt:=(HB.out.2 i u B S s).below Z.bl;have hk:(fD f f)[i]? = some x.2:=by rw[<-tN w.heap.size O L f P or f,YB,hx];rfl
    have K:=J.at i x hx;rw[E]at C;obtain⟨q,c,rfl,-⟩:=id hpt;refine⟨bb,y,x.2,q,_,c,B,hk,F6 (n:=f) (m:=f) _ (YO hk),λj u G=>?_,C,s,hpt⟩;have e:=Z.e2;have:W.cell? ⟨F,i*2+j,none⟩=T.cell? ⟨F,i*2+j,none⟩:=by unfold YZ;rw[e]
    rw[this,YK];exact K j u (by unfold pC;rw[E];exact G)
   obtain⟨M,s⟩:=yH (f+f+9);rw[s.out]at HC hM;rw[hM];have hq:M<=21:=oN s.out;have h7:Hid (BB.length=M):=by show _=_;rw[HB.out.1,m.out,s.out]
   have h4:Hid ((fD f f).length=M):=by show _=_;rw[lI,s.out]
   obtain⟨dP,h5,ha⟩:=XE.1 TI;clear J hM hP HB HL HR Hl Hr m R Q hb h8 h1;go_wp2;go_loopg [5,27] M (λgk s5 s27 wr=>∃i:Nat,i+gk=M/\s27=.int .i64 i/\Hid (PuI w T wr w.heap.size F s5 (eZ f BB i)/\(eZ f BB i).size<=1+33*i/\∀j,j<i->(BB[j]?).map Zm=(fD f f)[j]?))
   case atStart=>exact⟨0,oM,rfl,I0.out,by show 1<=_;omega,λj G=>absurd G (Nat.not_lt_zero _)⟩
   case round =>
    obtain⟨i,hi,rfl,K⟩:=hrel;obtain⟨g,cap,rfl,-,-⟩:=K.out.1.lt;by_cases h0:i<M
    .have h2:=oM;have hn:=PZ F (n:=M) X (i:=i) h0;obtain⟨bb,y,k,q,n,c,B,k1,k2,k3,k4,k5,k6⟩:=HC.out _ _ _ K.out.1 i h0;have K3:=Hid.mkP k3;have H:=mk3 k1 k5 k6;obtain⟨E,C⟩:=hE (wr.alloc (.cells #[.pointer (some ⟨bb,y,none⟩),.int .i64 k] 101));have S:Below wr.heap.size wr E:=by rw[<-C.out];exact bG _ _
     have a0:E.cell? ⟨wr.heap.size,0,none⟩=some (.pointer (some ⟨bb,y,none⟩)):=by rw[<-C.out];exact fG (w:=wr) (j:=0) rfl
     have a1:E.cell? ⟨wr.heap.size,1,none⟩=some (.int .i64 k):=by rw[<-C.out];exact fG (w:=wr) (j:=1) rfl
     have a2:E.cell? ⟨bb,y,none⟩=some (.slice q n c):=by rw[S.cell (p:=⟨bb,y,none⟩) (World.block_lt_of_cell? _ _ k4)];exact k4
     have KA:Hid (∀d,Below wr.heap.size wr (E.drewN d)):=λd=>⟨S.os,S.tape,S.output,S.size,S.block⟩
     go_wp2_with (first|(refine YI rfl 101 _ rfl F (i*2) ?_ [.pointer (some ⟨bb,y,none⟩),.int .i64 k] dP ?_ ?_ ?_ ?_ ?_;rfl;exact K3.out;exact h5;exact ha;exact iPt;skip)|fail)
     rw[C.out];go_quiet (fail);have KB:=Hid.mkP (KA.out nq);have q0:(E.drewN nq).cell? ⟨wr.heap.size,0,none⟩=some (.pointer (some ⟨bb,y,none⟩)):=a0;have q2:(E.drewN nq).cell? ⟨bb,y,none⟩=some (.slice q n c):=a2;clear KA a0 a1 a2;generalize E.drewN nq=wb at KB q0 q2⊢;by_cases h9:n=k
     .subst h9;obtain⟨e1,hv⟩:=(H.out.2.2.below KB.out).vl;subst e1;have hc:=K.out.2.1;obtain⟨v',W',x1,x2⟩:=(K.out.1.below KB.out).app (c:=c) hv oM;rw[<-lT f (BB:=BB) (i:=i) (b:=B) H.out.2.1]at x2;have X2:=Hid.mkP x2;have X3:Hid ((eZ f BB (i+1)).size<=1+33*(i+1)/\∀j,j<i+1->(BB[j]?).map Zm=(fD f f)[j]?):=by
       refine⟨?_,λj G=>?_⟩
       .rw[lT f (BB:=BB) (i:=i) (b:=B) H.out.2.1,Yl];omega
       .by_cases o:j=i
        .subst o;rw[H.out.2.1,H.out.1];rfl
        .exact K.out.2.2 j oM
      have o:=Hid.mkP x1;obtain⟨g',hm,rfl,-,-⟩:=x2.lt;generalize Zm (eZ f BB (i+1))=N2 at o X2;generalize Zm (eZ f BB i)=N1 at o⊢;clear K x1 x2 hv hc;generalize Zm B=nB at o q2⊢;go_wp2_with (first|(at_builtin;refine yAj wb rfl _ _ _ _ rfl _ _ rfl rfl _ _ o.out ?_)|fail)
      go_roundg (gk-1)
      case measure=>omega
      case rel=>exact⟨i+1,oM,rfl,X2.out,X3.out⟩
     .have he:=oM;have o:¬kP f f BB:=λh=>by
       have e0:(BB.map Zm)[i]? = (fD f f)[i]?:=by rw[h.2.2]
       rw[YB,H.out.2.1,H.out.1]at e0;have e1:=XX.inj e0;obtain⟨q',c',Y,-⟩:=H.out.2.2;injection Y with _ Y _
       omega
      have HW:=Hid.mkP (K.out.1.bl.trans (KB.out.mono K.out.1.bl.size));go_wp2
      go_ret2
      exact⟨HW.out,X7 ⟨o,rfl⟩⟩
    .have h2:=oM;obtain rfl:i=M:=oM;have C:Hid (VO w f f BB (.returned (.tuple #[.slice (some ⟨g,0,none⟩) (eZ f BB i).size cap,.int .i64 0])) wr):=by
      refine⟨K.out.1.bl,Ye ⟨⟨rfl,h6,List.ext_getElem? λj=>?_⟩,_,rfl,?_,?_⟩⟩
      .by_cases G:j<i
       .rw[YB];exact K.out.2.2 j G
       .rw[ZK (by rw[XZ,h7.out];omega),ZK (by rw[h4.out];omega)]
      .rw[s.out];exact K.out.1.pt
      .rw[s.out];exact K.out.1.cap
     go_wp2
     go_ret2
     exact C.out
  .have h3:=oM;have o:¬kP f f BB:=λh=>h6 h.2.1
   go_wp2_with (first|(refine fC (v:=.pointer (some ⟨w.heap.size,0,none⟩)) (w':=l) rfl (.box 66 (.tmp 0)) rfl ?_ ?_;(rw[<-t.out,<-r.out];kernel_rfl))|fail)
   go_ret2
   exact⟨a.out,X7 ⟨o,rfl⟩⟩
 .have s:=oM;have o:¬kP f nr BB:=λh=>hg h.1
  go_wp2_with (first|(refine fC (v:=.pointer (some ⟨w.heap.size,0,none⟩)) (w':=l) rfl (.box 66 (.tmp 0)) rfl ?_ ?_;(rw[<-t.out,<-r.out];kernel_rfl))|fail)
  go_ret2
  exact⟨a.out,X7 ⟨o,rfl⟩⟩
section
namespace RG
variable {P:YJ}{ops:Array Yp}{Q:Exit->Act->XA->Prop}{a0:Act}{F:Flow}
def lP{k:Nat}{o:Yp}(h:∀(a:Act) (w:XA),PreF F ops a0 k o a w->∃(b:List (Zw × XB)) (v:XB) (w':XA),AllE a b/\(cJ (b.map (·.1)) o,(Yh (evo (evl b)) o).run P w)=(true,.ok (.value v) w')/\F.E k w w'/\F.R k v w'):bD P Q F ops a0 k o:=
 oH λa w e=>by
  obtain⟨b,v,w',d,c,hE⟩:=h a w e;simp only[Ze.injEq]at c;refine⟨v,w',?_,hE⟩;rw[jE (evl b) (b.map (·.1)) c.1 d.ev];exact c.2
def ES{T:Yd}{k:Nat}{o:Yp}(t:Zw)(ho:o.op=.load T (.tmp t))(f:(P.underlying T).map (·.isRow)=some false)(h:∀(a:Act) (w:XA),PreF F ops a0 k o a w->∃g off v,a.eval (.tmp t)=oZ g off/\w.cell? ⟨g,off,none⟩=some v/\F.E k w w/\F.R k v w):bD P Q F ops a0 k o:=
 oH λa w e=>by
  obtain⟨g,off,v,b,d,c⟩:=h a w e;refine⟨v,w,?_,c⟩;unfold Yh;rw[ho];dsimp only;rw[b,X1,eK d f];rfl
end RG
end
section
def RQ(a:Y0)(n c:Nat)(w:XA):(binOp .eql 23 (.slice (some a) n c) nZ).run prog w=.ok fZ w:=kR
def My{g o b k:Nat}(h:some (⟨g,o,none⟩:Y0)=some ⟨b,k,none⟩):g=b/\o=k:=by
 cases h
 exact⟨rfl,rfl⟩
def Ik{W:XA}{B n s:Nat}{T:Yd}{v:XB}{xs:List XB}(h:W.ownsRow B T s v n xs):∃q c,v=.slice q n c:=by
 rcases h.2 with⟨e,e'⟩|⟨g,cap,cur,e,-⟩
 .exact⟨none,0,by rw[e,e']⟩
 .exact⟨_,_,e⟩
structure FrC(N:Nat)(X:SP.Bs)(v:XB)(W:XA):Prop where
 own:W.ownsRow N 5 1 v X.size (bC X)
 nn:v.ownBlock≠none
def FrC.below{N:Nat}{X:SP.Bs}{v:XB}{W W':XA}(h:FrC N X v W)(b:kZ W W'):FrC N X v W':=⟨bE h.own (λg k=>b.block g (bQ h.own k).2.1),h.nn⟩
def LS(g o c:Nat)(X:SP.Bs)(J:X.size<=1000000)(w:XA)(C:g<w.heap.size)(a:Holds SP.encB w g o X):
 cZ 159 #[qZ g o X.size c] w λe w'=>∃v,e=.returned v/\kZ w w'/\FrC w.heap.size X v w':=by
 obtain⟨i,A,r⟩:=XE.1 KT;simp only[Ze.injEq]at r;obtain⟨E,F,H⟩:=r;obtain⟨z,y,n⟩:=XE.1 H;obtain⟨f,d⟩:=hE (w.alloc (.cells #[] 5));have s:f.heap.size=w.heap.size+1:=by rw[<-d.out,XP]
 have b1:kZ w f:=d.out▸bG _ _;have ho:f.ownsRow w.heap.size 5 1 (sZ w.heap.size 0 0) 0 []:=by
  rw[<-d.out];exact⟨rfl,.inr ⟨w.heap.size,0,#[],rfl,XD _,ZU,XD _,Zl _,rfl,rfl⟩⟩
 have hpt:Pt f (qZ g o X.size c) X:=⟨_,_,rfl,X7 ⟨g,o,rfl,oM,SP.Holds.below a b1 C⟩⟩
 obtain⟨-,hv⟩:=hpt.vl;have p:∀(j:Nat) u,(bC X)[j]? = some u->f.cell? ((⟨g,o,none⟩:Y0).add j)=some u:=λj u q=>by
  rcases hv.cells with m|⟨b,x,l,-,p⟩
  .rw[m]at q;cases q
  .obtain⟨s,t⟩:=My l;subst s t;rw[gI];exact p j u q
 obtain⟨B,W',I,m,l,x⟩:=run_append_own (P:=prog) f w.heap.size 23 23 5 i z 1 1 Ai A y E F n dC _ 0 [] ho ⟨g,o,none⟩ X.size c (bC X) (by rw[uG];omega) p zU (by unfold maxLen;omega) oM oM;rw[XI,Z1]at m;have K:Hid (kZ w W'/\FrC w.heap.size X B W'):=by
  refine⟨⟨by rw[l.os,b1.os],by rw[l.tape,b1.tape],by rw[l.output,b1.output],XH b1.size l.size,λk D=>?_⟩,m,?_⟩
  .rw[l.block k oM (by simp[Zh];omega),b1.block k D]
  .rcases m.2 with⟨G,-⟩|⟨L,t,cur,rfl,-⟩
   .have:=(x.1 G).1;exact absurd this (by simp)
   .simp[Zh]
 have t:=Hid.mkP I;have D:=RQ ⟨g,o,none⟩ X.size c;go_enter func159,ntmps159;go_wp2_with (first|(refine fC (v:=sZ w.heap.size 0 0) (w':=f) rfl (.buildSlice 23 0 #[]) rfl ?_ ?_;(rw[<-d.out];kernel_rfl))|(at_builtin;refine yAj f rfl _ _ _ _ rfl _ _ rfl rfl _ _ t ?_)|fail)
 go_ret;exact⟨_,rfl,K.1,K.2⟩
def heap_set (w : World) (a : Addr) (v : Value) (k : Nat) : (w.setCell a v).heap[k]? = if a.block = k then (w.heap[k]?).map (fun
      | .cells c elem frozen => .cells (if a.spot.isSome then c else c.setIfInBounds a.off v) elem frozen
      | o => o) else w.heap[k]? := by
  show(w.heap.modify a.block _)[k]? = _;rw [Array.getElem?_modify];rfl
def IU{a:Y0}{v:XB}{N:Nat}{ws w:XA}(h:Below N ws w):Below N (ws.setCell a v) (w.setCell a v):=
 ⟨h.os,h.tape,h.output,by rw[yAS,yAS];exact h.size,λk b=>by rw[heap_set,heap_set,h.block k b]⟩
def StR(ws:XA)(bb k:Nat)(X:SP.Bs)(w:XA):Prop:=∃v,Below ws.heap.size (ws.setCell ⟨bb,k,none⟩ v) w/\FrC ws.heap.size X v w
def FR(ws:XA)(ga bb d k gi off m c nx:Nat)(X:SP.Bs):Flow where
 R i v w:=match i with
  | 0=>v=jZ ga
  | 1=>v=oZ bb d
  | 2=>v=qZ gi off m c
  | 3=>v=oZ ga 1
  | 4=>v=iZ k
  | 5=>v=qZ gi off k c
  | 6=>FrC ws.heap.size X v w
  | 7=>v=qZ gi off m c
  | 8=>v=oZ ga 1
  | 9=>v=iZ k
  | 10=>v=qZ gi nx (m-k) (c-k)
  | 11=>v=oZ bb d
  | 12=>StR ws bb d X w
  | _=>v=qZ gi nx (m-k) (c-k)
 B b w:=match b with
  | 0=>kZ ws w
  | _=>w.cell? ⟨ga,0,none⟩=some (oZ bb d)/\w.cell? ⟨ga,1,none⟩=some (iZ k)/\ga<ws.heap.size/\ws.heap.size<=w.heap.size
 E i w w':=match i with
  | 12=>∃v,w'=w.setCell ⟨bb,d,none⟩ v
  | _=>kZ w w'
 kill _:=[]
 killB b:=match b with
  | 0=>[12]
  | _=>[]
variable {ws:XA}{ga bb oo k gi off m c nx:Nat}{X:SP.Bs}
def StR.below{w w':XA}(h:StR ws bb oo X w)(b:kZ w w'):StR ws bb oo X w':=by
 obtain⟨v,k,c⟩:=h;refine⟨v,k.trans (b.mono ?_),c.below b⟩;have:=k.size;rw[yAS]at this;exact this
def FR.stab(l:bb<ws.heap.size)(i j:Nat)(f:i≠j)(v:XB)(w w':XA)(hE:(FR ws ga bb oo k gi off m c nx X).E i w w')(hR:(FR ws ga bb oo k gi off m c nx X).R j v w):(FR ws ga bb oo k gi off m c nx X).R j v w':=by
 have key:j≠6->j≠12->(FR ws ga bb oo k gi off m c nx X).R j v w':=λe b=>by
  match j,e,b,hR with
  | 0,_,_,h|1,_,_,h|2,_,_,h|3,_,_,h|4,_,_,h|5,_,_,h|7,_,_,h|8,_,_,h|9,_,_,h|10,_,_,h|11,_,_,h|_+13,_,_,h=>exact h
  | 6,h,_,_=>exact absurd rfl h
  | 12,_,h,_=>exact absurd rfl h
 by_cases e:j=6
 .subst e;by_cases b:i=12
  .subst b;obtain⟨u,rfl⟩:=hE;have hR:=hR;refine(⟨bE hR.own (λg d=>?_),hR.nn⟩:FrC ws.heap.size X v _);have:=(bQ hR.own d).1;rw[heap_set,yEY (by show bb≠g;omega)]
  .have d:kZ w w':=by
    unfold FR at hE;dsimp only at hE;split at hE
    .exact absurd rfl b
    .exact hE
   exact(FrC.below (show FrC ws.heap.size X v w from hR) d:FrC ws.heap.size X v w')
 .by_cases b:j=12
  .subst b;have d:kZ w w':=by
    unfold FR at hE;dsimp only at hE;split at hE
    .exact absurd rfl f
    .exact hE
   exact(StR.below (show StR ws bb oo X w from hR) d:StR ws bb oo X w')
  .exact key e b
def FR.stabB(g:bb≠ga)(i b:Nat)(n:((FR ws ga bb oo k gi off m c nx X).killB b).contains i=false)(w w':XA)(hE:(FR ws ga bb oo k gi off m c nx X).E i w w')(l:(FR ws ga bb oo k gi off m c nx X).B b w):(FR ws ga bb oo k gi off m c nx X).B b w':=by
 by_cases f:i=12
 .subst f;obtain⟨u,rfl⟩:=hE;match b,n,l with
  | 0,n,_=>exact absurd (show([12]:List Nat).contains 12=false from n) dC
  | _+1,_,⟨h1,h2,h3,h4⟩ =>
   refine⟨?_,?_,h3,by rw[yAS];exact h4⟩
   .rw[Yc _ _ _ _ (by intro e;injection e with e _ _;exact g e)];exact h1
   .rw[Yc _ _ _ _ (by intro e;injection e with e _ _;exact g e)];exact h2
 .have d:kZ w w':=by
   unfold FR at hE;dsimp only at hE;split at hE
   .exact absurd rfl f
   .exact hE
  match b,l with
  | 0,l =>
   have j:=l;exact(j.trans (d.mono j.size):kZ ws w')
  | _+1,⟨h1,h2,h3,h4⟩ =>
   refine⟨?_,?_,h3,XH h4 d.size⟩
   .rw[d.cell (p:=⟨ga,0,none⟩) (by show ga<_;omega)];exact h1
   .rw[d.cell (p:=⟨ga,1,none⟩) (by show ga<_;omega)];exact h2
end
section
structure PsOk(w w4:XA)(gr gq gp:Nat)(ps:List (Y0 × Nat)):Prop where
 ad:∀(j:Nat) x,ps[j]? = some x->∃b o,x.1=⟨b,o,none⟩/\b<w4.heap.size/\w.heap.size<=b/\b≠gq/\b≠gr/\x.1≠⟨gp,7,none⟩/\x.1≠⟨gp,8,none⟩
 ne:∀(j j':Nat) x x',j≠j'->ps[j]? = some x->ps[j']? = some x'->x.1≠x'.1
 q:gq<w4.heap.size
 r:gr<w4.heap.size
 p:gp<w4.heap.size
structure RdI(w w4 W:XA)(gr gq gp:Nat)(lv rv:XB)(ps:List (Y0 × Nat))(vs:List XB)(CH:Nat->SP.Bs):Prop where
 bl:kZ w W
 st:∀(j:Nat) x u,ps[j]? = some x->vs[j]? = some u->W.cell? x.1=some u
 th:∀(j:Nat) x,ps[j]? = some x->(∃u,W.cell? x.1=some u)/\W.frozen? x.1=false
 c7:W.cell? ⟨gp,7,none⟩=some lv
 c8:W.cell? ⟨gp,8,none⟩=some rv
 eq:W.heap[gq]? = w4.heap[gq]?
 er:W.heap[gr]? = w4.heap[gr]?
 sz:w4.heap.size<=W.heap.size
 ow:∀(j:Nat) u,vs[j]? = some u->FrC w4.heap.size (CH j) u W
 ne:∀(j j':Nat) u u' g,j<j'->vs[j]? = some u->vs[j']? = some u'->u.ownBlock=some g->u'.ownBlock≠some g
variable {w w4 W:XA}{gr gq gp:Nat}{lv rv:XB}{ps:List (Y0 × Nat)}{vs:List XB}{CH:Nat->SP.Bs}
def RdI.below{W':XA}(h:RdI w w4 W gr gq gp lv rv ps vs CH)(c:PsOk w w4 gr gq gp ps)(k:kZ W W'):RdI w w4 W' gr gq gp lv rv ps vs CH:=by
 have g:=h.sz;have n:=c.p;have i:=c.q;have l:=c.r;have f:∀(j:Nat) x,ps[j]? = some x->W'.cell? x.1=W.cell? x.1/\W'.frozen? x.1=W.frozen? x.1:=λj x hx=>by
  obtain⟨b,o,e,m,-⟩:=c.ad j x hx;have d:=k.block b oM;rw[e];unfold YZ Zk;rw[d];exact⟨rfl,rfl⟩
 refine⟨h.bl.trans (k.mono h.bl.size),λj x u hx d=>by rw[(f j x hx).1];exact h.st j x u hx d,λj x hx=>by rw[(f j x hx).1,(f j x hx).2];exact h.th j x hx,?_,?_,by rw[k.block gq oM];exact h.eq,by rw[k.block gr oM];exact h.er,XH g k.size,λj u d=>(h.ow j u d).below k,h.ne⟩
 .rw[k.cell (p:=⟨gp,7,none⟩) (by show gp<_;omega)];exact h.c7
 .rw[k.cell (p:=⟨gp,8,none⟩) (by show gp<_;omega)];exact h.c8
def RdI.step{W':XA}{bb r k:Nat}(h:RdI w w4 W gr gq gp lv rv ps vs CH)(y:PsOk w w4 gr gq gp ps)(hx:ps[vs.length]? = some (⟨bb,r,none⟩,k))(I:StR W bb r (CH vs.length) W'):∃v,RdI w w4 W' gr gq gp lv rv ps (vs++[v]) CH:=by
 obtain⟨v,n,C⟩:=I;have P:=h.sz;have U:=y.p;have O:=y.q;have Q:=y.r;obtain⟨T,R,e',p1,p2,M,J,N,p6⟩:=y.ad _ _ hx;injection e' with e1 e2 _
 subst e1 e2;obtain⟨⟨old,s⟩,L⟩:=h.th _ _ hx;have f:∀g,g<W.heap.size->g≠bb->W'.heap[g]? = W.heap[g]?:=λg t d=>by
  rw[n.block g t,heap_set,yEY (by show bb≠g;omega)]
 have b:∀a:Y0,a.block<W.heap.size->a≠⟨bb,r,none⟩->W'.cell? a=W.cell? a:=λa F d=>by
  rw[n.cell (p:=a) F,Yc _ _ _ _ (λe=>d e.symm)]
 have E:∀a:Y0,a.block<W.heap.size->W'.frozen? a=W.frozen? a:=λa F=>by
  have c:W'.frozen? a=(W.setCell ⟨bb,r,none⟩ v).frozen? a:=by
   unfold Zk;rw[n.block a.block F]
  rw[c];exact World.frozen?_setCells bb [v] r W a
 have z:W.heap.size<=W'.heap.size:=by
  have:=n.size;rw[yAS]at this;exact this
 refine⟨v,⟨⟨by rw[n.os];exact h.bl.os,by rw[n.tape];exact h.bl.tape,by rw[n.output];exact h.bl.output,XH h.bl.size z,λg t=>?_⟩,λj x u q c=>?_,λj x q=>?_,?_,?_,?_,?_,oM,λj u c=>?_,λj D u H g o c l t=>?_⟩⟩
 .have:=h.bl.size;rw[f g oM oM,h.bl.block g t]
 .obtain⟨B,K,A,G,-⟩:=y.ad j x q;by_cases i:j<vs.length
  .rw[XY i]at c;have d:=y.ne j vs.length x _ oM q hx;rw[b x.1 (by rw[A];show B<_;omega) d];exact h.st j x u q c
  .have m:j=vs.length:=by
    have:=(XM.1 c).1;rw[XK]at this;simp only[Yx,Zz]at this;omega
   subst m;rw[hx]at q;obtain rfl:=XX.inj q;rw[XW (XD _),yBi]at c;obtain rfl:v=u:=by simpa using c
   rw[n.cell (p:=⟨bb,r,none⟩) (by show bb<_;omega)];exact ZI _ _ _ s
 .obtain⟨B,K,A,G,-⟩:=y.ad j x q;have o:x.1.block<W.heap.size:=by rw[A];show B<_;omega
  refine⟨?_,by rw[E x.1 o];exact(h.th j x q).2⟩;by_cases d:x.1=⟨bb,r,none⟩
  .rw[d];exact⟨v,by rw[n.cell (p:=⟨bb,r,none⟩) (by show bb<_;omega)];exact ZI _ _ _ s⟩
  .rw[b x.1 o d];exact(h.th j x q).1
 .rw[b ⟨gp,7,none⟩ (by show gp<_;omega) (λe=>N e.symm)];exact h.c7
 .rw[b ⟨gp,8,none⟩ (by show gp<_;omega) (λe=>p6 e.symm)];exact h.c8
 .rw[f gq oM (λe=>M e.symm)];exact h.eq
 .rw[f gr oM (λe=>J e.symm)];exact h.er
 .by_cases i:j<vs.length
  .rw[XY i]at c;have B:=h.ow j u c;refine⟨bE B.own (λg t=>?_),B.nn⟩;have:=bQ B.own t;exact f g this.2.1 oM
  .have m:j=vs.length:=by
    have:=(XM.1 c).1;rw[XK]at this;simp only[Yx,Zz]at this;omega
   subst m;rw[XW (XD _),yBi]at c;obtain rfl:v=u:=by simpa using c
   refine⟨?_,C.nn⟩;rcases C.own with⟨G,A|⟨g,cap,cur,A,S,K⟩⟩
   .exact⟨G,Ye A⟩
   .exact⟨G,X7 ⟨g,cap,cur,A,oM,K⟩⟩
 .have A:=(XM.1 l).1;rw[XK]at A;simp only[Yx,Zz]at A;rw[XY oM]at c;by_cases i:D<vs.length
  .rw[XY i]at l;exact h.ne j D u H g o c l t
  .have m:D=vs.length:=oM;subst m;rw[XW (XD _),yBi]at l;obtain rfl:v=H:=by simpa using l
   intro e;have B:=(bQ C.own e).1;have G:=(bQ (h.ow j u c).own t).2.1;omega
end
def Ow:(prog.info? 23).map (λi=>(i.zero,i.size,i.bytes))=some (some nZ,1,24):=kR
structure R4(w1 W:XA)(gp gL gR k:Nat):Prop where
 bl:kZ w1 W
 d1:gp≠gL
 d2:gp≠gR
 d3:gL≠gR
 p1:w1.heap.size<=gp/\gp<W.heap.size
 p2:w1.heap.size<=gL/\gL<W.heap.size
 p3:w1.heap.size<=gR/\gR<W.heap.size
 hp:W.heap[gp]? = some (.cells #[nZ,nZ,nZ,nZ,nZ,nZ,nZ,sZ gL k k,sZ gR k k,nZ,nZ] 66 (0,0))
 hL:W.heap[gL]? = some (.cells (madeCells #[nZ] k) 23 (0,0))
 hR:W.heap[gR]? = some (.cells (madeCells #[nZ] k) 23 (0,0))
def three{k:XA}{a b c:Array XB}{A B C:Yd}:kZ k (((k.alloc (.cells a A)).alloc (.cells b B)).alloc (.cells c C)).drew/\(((k.alloc (.cells a A)).alloc (.cells b B)).alloc (.cells c C)).drew.heap.size=k.heap.size+3/\(((k.alloc (.cells a A)).alloc (.cells b B)).alloc (.cells c C)).drew.heap[k.heap.size]? = some (.cells a A (0,0))/\(((k.alloc (.cells a A)).alloc (.cells b B)).alloc (.cells c C)).drew.heap[k.heap.size+1]? = some (.cells b B (0,0))/\(((k.alloc (.cells a A)).alloc (.cells b B)).alloc (.cells c C)).drew.heap[k.heap.size+1+1]? = some (.cells c C (0,0)):=by
 have m:=bG k (.cells a A);have f:(k.alloc (.cells a A)).heap.size=k.heap.size+1:=XP _ _;have j:=bG (k.alloc (.cells a A)) (.cells b B);have g:((k.alloc (.cells a A)).alloc (.cells b B)).heap.size=k.heap.size+2:=by rw[XP,f]
 have e:=bG ((k.alloc (.cells a A)).alloc (.cells b B)) (.cells c C);have z3:(((k.alloc (.cells a A)).alloc (.cells b B)).alloc (.cells c C)).heap.size=k.heap.size+3:=by rw[XP,g]
 have l:(k.alloc (.cells a A)).heap[k.heap.size]? = some (.cells a A (0,0)):=ZU;have i:((k.alloc (.cells a A)).alloc (.cells b B)).heap[(k.alloc (.cells a A)).heap.size]? = some (.cells b B (0,0)):=ZU;have e3:(((k.alloc (.cells a A)).alloc (.cells b B)).alloc (.cells c C)).heap[((k.alloc (.cells a A)).alloc (.cells b B)).heap.size]? = some (.cells c C (0,0)):=ZU;rw[f]at i;rw[g]at e3;have d:=(m.trans (j.mono oM)).trans (e.mono oM);refine⟨⟨d.os,d.tape,d.output,d.size,d.block⟩,z3,?_,?_,e3⟩
 .show(((k.alloc (.cells a A)).alloc (.cells b B)).alloc (.cells c C)).heap[k.heap.size]? = _;rw[e.block _ oM,j.block _ oM];exact l
 .show(((k.alloc (.cells a A)).alloc (.cells b B)).alloc (.cells c C)).heap[k.heap.size+1]? = _;rw[e.block _ oM];exact i
def zR:List XB:=YM 11 nZ
def dN{f p q n r or m j:Nat}{x:Y0 × Nat}(h:(fU f p q n r or m)[j]? = some x):(j<7/\x.1=⟨f,j,none⟩)\/(7<=j/\j<7+n/\x.1=⟨p,q+(j-7),none⟩)\/(7+n<=j/\j<7+n+m/\x.1=⟨r,or+(j-7-n),none⟩)\/(7+n+m<=j/\j<9+n+m/\x.1=⟨f,9+(j-7-n-m),none⟩):=by
 have e:∀ {b o k i:Nat}{y:Y0 × Nat},(lp b o k)[i]? = some y->i<k/\y.1=⟨b,o+i,none⟩:=λ{b o k i y} h=>by
  unfold lp at h;rw[YB]at h;obtain⟨z,s,rfl⟩:=XE.1 h;have d:=(XM.1 s)
  obtain⟨g,l⟩:=d;have c:i<k:=by simpa using g
  have t:i=z:=by simpa using l
  subst t;exact⟨c,rfl⟩
 unfold fU at h;by_cases d:j<7
 .left;refine⟨d,?_⟩;rw[YP,YP,XY (by show j<7;exact d)]at h;match j,d,h with
  | 0,_,h|1,_,h|2,_,h|3,_,h|4,_,h|5,_,h|6,_,h =>
   obtain rfl:=XX.inj h;rfl
 .right;rw[YP,YP,XW (by show 7<=j;omega)]at h;have s:(uF f).length=7:=rfl;rw[s]at h;by_cases g:j-7<n
  .left;rw[XY (by rw[jT];exact g)]at h;obtain⟨-,c⟩:=e h;exact⟨oM,oM,c⟩
  .right;rw[XW (by rw[jT];omega),jT]at h;by_cases l:j-7-n<m
   .left;rw[XY (by rw[jT];exact l)]at h;obtain⟨-,c⟩:=e h;exact⟨oM,oM,c⟩
   .right;rw[XW (by rw[jT];omega),jT]at h;obtain⟨i,c⟩:=vH (j-7-n-m);rw[c]at h⊢;match i,c,h with
    | 0,c,h|1,c,h =>
     obtain rfl:=XX.inj h;exact⟨oM,oM,rfl⟩
    | i+2,_,h=>cases h
def CO{k j:Nat}{z:XB}(h:j<k):(madeCells #[z] k)[j]? = some z:=by
 unfold madeCells;rw[Array.getElem?_map,Array.getElem?_range,yEX h];simp[Nat.mod_one]
def JY{w y G s:XA}{l m o k B n c:Nat}{CH:Nat->SP.Bs}(h:R4 y G l m o k)(F:kZ w y)(N:w.heap.size<y.heap.size)(p:PLs G s (sZ B n c) (fU l m 0 k o 0 k)):
 PsOk w s w.heap.size B l (fU l m 0 k o 0 k)/\RdI w s s w.heap.size B l (sZ m k k) (sZ o k k) (fU l m 0 k o 0 k) [] CH:=by
 obtain⟨Q,R,e,H,z⟩:=p.lt;injection e with e _ _
 injection e with e
 injection e with e _ _
 subst e;have z3:=p.bl.size;obtain⟨p1,A⟩:=h.p1;obtain⟨p2,a⟩:=h.p2;obtain⟨T,C⟩:=h.p3;have M:=h.d1;have O:=h.d2;have S:=h.d3;have t:=p.bl.block l A;have L:=p.bl.block m a;have I:=p.bl.block o C;refine⟨⟨λj x hx=>?_,λj J x P K hx D e=>?_,z,oN h.bl.size,oM⟩,⟨?_,λj x u _ q=>by simp at q,λj x hx=>?_,?_,?_,rfl,rfl,XD _,λj u q=>by simp at q,λj J u U g _ q=>by simp at q⟩⟩
 .rcases dN hx with⟨f,b⟩|⟨f,d,b⟩|⟨f,d,b⟩|⟨f,d,b⟩
  .exact⟨l,j,b,oM,oM,oM,oM,by rw[b];intro e;injection e with _ e _;omega,by rw[b];intro e;injection e with _ e _;omega⟩
  .exact⟨m,_,b,oM,oM,oM,oM,by rw[b];intro e;injection e with e _ _;omega,by rw[b];intro e;injection e with e _ _;omega⟩
  .exact⟨o,_,b,oM,oM,oM,oM,by rw[b];intro e;injection e with e _ _;omega,by rw[b];intro e;injection e with e _ _;omega⟩
  .exact⟨l,_,b,oM,oM,oM,oM,by rw[b];intro e;injection e with _ e _;omega,by rw[b];intro e;injection e with _ e _;omega⟩
 .rcases dN hx with⟨f,b⟩|⟨f,d,b⟩|⟨f,d,b⟩|⟨f,d,b⟩<;>rcases dN D with⟨E,v⟩|⟨E,r,v⟩|⟨E,r,v⟩|⟨E,r,v⟩<;>(rw[b,v]at e;injection e with e1 e2 _;omega)
 .exact(F.trans (h.bl.mono F.size)).trans (p.bl.mono (oN h.bl.size))
 .rcases dN hx with⟨f,b⟩|⟨f,d,b⟩|⟨f,d,b⟩|⟨f,d,b⟩
  .rw[b];unfold YZ Zk;rw[t,h.hp];refine⟨?_,by simp⟩;match j,f with
   | 0,_|1,_|2,_|3,_|4,_|5,_|6,_=>exact⟨_,rfl⟩
  .rw[b];unfold YZ Zk;rw[L,h.hL];exact⟨⟨_,CO (k:=k) (j:=(0+(j-7))) oM⟩,by simp⟩
  .rw[b];unfold YZ Zk;rw[I,h.hR];exact⟨⟨_,CO (k:=k) (j:=(0+(j-7-k))) oM⟩,by simp⟩
  .rw[b];unfold YZ Zk;rw[t,h.hp];refine⟨?_,by simp⟩;obtain⟨i,r⟩:=vH (j-7-k-k);rw[r];match i,r with
   | 0,_|1,_=>exact⟨_,rfl⟩
   | i+2,r=>omega
 .unfold YZ;rw[t,h.hp];rfl
 .unfold YZ;rw[t,h.hp];rfl
def offs(n j:Nat):Nat:=1+((fD n n).take j).sum
def lM{n j k:Nat}(h:(fD n n)[j]? = some k):offs n (j+1)=offs n j+k:=by
 unfold offs;rw[yCm,h,yDW];simp[ZB]
def uM:∀(l:List Nat) (j:Nat),(l.take j).sum<=l.sum
 | [],j=>by simp
 | a :: r,0=>by simp
 | a :: r,j+1=>by
  have:=uM r j;simp only[List.take_succ_cons,yEh];omega
def Oh(n j:Nat):offs n j<=1+(fD n n).sum:=by
 have:=uM (fD n n) j;unfold offs;omega
def CE(n:Nat):(fD n n).sum=292+66*n:=by
 unfold fD;simp only[yDW,List.sum_replicate_nat,yEh,List.sum_nil];omega
def rP{n:Nat}:offs n (n+n+9)=293+66*n:=by
 unfold offs;rw[List.take_of_length_le (by rw[lI];omega),CE];omega
def chk(s:SP.Bs)(n j:Nat):SP.Bs:=s.extract (offs n j) (offs n (j+1))
def Dq(s:SP.Bs):Prop:=0<s.size/\s[0]!.toNat<=6/\s.size=293+66*s[0]!.toNat
def RdR(w:XA)(s:SP.Bs)(k:Nat)(e:Ending)(W:XA):Prop:=
 (¬Dq s/\kZ w W/\e=.returned (.tuple #[.agg zR.toArray,iZ 2])) \/
 (Dq s/\kZ w W/\∃(g d:XA) (i b c f:Nat) (vs cs:List XB),vs.length=k+k+9/\PsOk w g w.heap.size i b (fU b c 0 k f 0 k)/\RdI w g d w.heap.size i b (sZ c k k) (sZ f k k) (fU b c 0 k f 0 k) vs (chk s k)/\cs.length=11/\d.rangeAt b 0 cs/\W=d.setCells w.heap.size 0 cs/\e=.returned (.tuple #[.agg cs.toArray,iZ 0]))
def NA(d b n c k:Nat)(i:k<=n)(f:n<=c):∃nx,(0<c-k->nx=b+k)/\∀w:XA,(Zy 23 (qZ d b n c) (some (iZ k)) none none).run prog w=.ok (qZ d nx (n-k) (c-k)) w:=by
 by_cases e:c=k
 .obtain rfl:n=k:=oM;subst e;refine⟨b,λh=>oM,λw=>?_⟩;rw[yBi];go_simp
 .have g:=oM;refine⟨b+k,λ_=>rfl,λw=>?_⟩;go_simp
def NB(d b n c k:Nat)(e:k<=c)(w:XA):(Zy 23 (qZ d b n c) none (some (iZ k)) none).run prog w=.ok (qZ d b k c) w:=by
 go_simp
def qQ{T:Yd}{P:YJ}{c:Func}{tmps:Array XB}{W:XA}{k:Nat}{vs:List XB}{v:XB}(t u:Zw)(f:c.results=#[.cell t T,.tmp u])(h:W.rangeAt k 0 vs)(e:tmps[t]? = some (jZ k))(hv:tmps[u]? = some v)(b:(P.underlying T).map (·.isRow)=some true)(g:(P.info? T).map (·.size)=some vs.length):(results c tmps).run P W=.ok (.tuple #[.agg vs.toArray,v]) W:=by
 obtain⟨d,b,hd⟩:=XE.1 b;have i:=run_loadVar_mid (P:=P) W k 0 T vs d h b hd g;have j:tmps.getD t Zs=jZ k:=by rw[XQ,e];rfl
 have l:tmps.getD u Zs=v:=by rw[XQ,hv];rfl
 unfold results;rw[f];simp only[Array.mapM_eq_mapM_toList,List.mapM_cons,List.mapM_nil,j,l,asAddr];simp[X1,i]
def Ue{w W:XA}{cs:List XB}(g:W.heap[w.heap.size]? = some (.cells zR.toArray 66 (0,0)))(i:cs.length=11)(c:kZ w W):W.there w.heap.size 0 cs.toArray.size/\(W.setCells w.heap.size 0 cs).rangeAt w.heap.size 0 cs/\kZ w (W.setCells w.heap.size 0 cs):=by
 have e:W.there w.heap.size 0 cs.length:=λj l=>by
  unfold YZ Zk;rw[g];refine⟨?_,by simp⟩;have:(0+j)<zR.toArray.size:=by show 0+j<11;omega
  simp only[X8 this];rfl
 refine⟨by simpa using e,World.rangeAt_setCells_same _ _ _ _ e,⟨(World.os_setCells _ _ _ _).trans c.os,?_,(World.output_setCells _ _ _ _).trans c.output,?_,λk f=>?_⟩⟩
 .have d:=below_setCells (B:=0) (b:=w.heap.size) (Zl _) cs 0 W (XR 0 W);rw[d.tape];exact c.tape
 .have d:=below_setCells (B:=0) (b:=w.heap.size) (Zl _) cs 0 W (XR 0 W);exact XH c.size d.size
 .rw[yCH W _ 0 cs (oN c.size) oM];exact c.block k f
section
open SPA
section
variable {P:YJ}{ops:Array Yp}{rest:List Yp}{o:Yp}{a:Act}{w:XA}{Q:Exit->Act->XA->Prop}
def PW.gd(h:wpList P ops Q ({ o with guard:=none } :: rest) a w)(k:Zc o (yielded ops a.tmps)=true:=by kernel_rfl):wpList P ops Q (o :: rest) a w:=by
 unfold wpList at h⊢;rw[yEX k];rw[yEX (show Zc { o with guard:=none } (yielded ops a.tmps)=true from rfl)]at h;exact h
end
variable {P:Nat}[NeZero P]{N:Nat}[NeZero N]
def Tw(C:Fld P){n t:Nat}(O:Wd n t)(V:Bs)(q:Fin P × Fin P)(H:rd P V=some q)(v:XB)(y m p i x s f l z k b:XB)(w:XA)(Y:Arg33 w v V)(hV:∀W,kZ w W->cZ 107 #[pvl V,iZ n,.agg #[y,m,p,i,x,s,f,l,z,k,b]] W (rZ W λe w'=>e=tZ)):
 cZ 61 #[v,iZ n,.agg #[y,m,p,i,x,s,f,l,z,k,b]] w (rZ w λe w'=>e=tZ):=by
 have N:=FS H;obtain⟨A,d⟩:=hE (pvl V);obtain⟨F,c⟩:=hE (X9 #[y,m,p,i,x,s,f,l,z,k,b]);obtain⟨Q,o⟩:=hE (w.heap.size);obtain⟨G,j⟩:=hE (w.alloc (.cells [y,m,p,i,x,s,f,l,z,k,b].toArray 66));have I:=mk1 ((Mp.start w).new o j);have B1:Hid ((Ys 66 F).run prog w=.ok (jZ Q) G):=c.out▸j.out▸o.out▸Vz;have X:Hid (∀W,kZ w W->cZ 57 #[v] W (rZ W λe w'=>e=.tuple #[A,tZ])):=λW T=>by
  rw[<-d.out];exact GY C v V q W (Y.below T) H
 have HV:Hid (∀W,kZ w W->cZ 107 #[A,iZ n,F] W (rZ W λe w'=>e=tZ)):=by
  rw[<-d.out,<-c.out];exact hV
 have L:gZ 51 (aA V).length:=by rw[aB N];exact iCP
 rw[c.out];go_enter func61,ntmps61;refine PW.bg [] ?_;refine PW.ns B1 ?_;refine PW.en [fZ] ?_;refine PW.bg [] ?_;refine PW.gi (X G I.bl) λK B=>?_
 have R:=mk1 (I.grow B);refine PW.go [A,tZ] ?_;refine hG K.heap.size λk7 r=>?_
 refine hG (lZ K z33 51) λU u=>?_
 refine hG (U.setCells k7 0 (aA V)) λw4 g=>?_
 have M:=aB N;have J:=mk1 (R.new r u);have K4:=mk1 (J.put 1 g rfl M);refine PW.al r u ?_;refine PW.st g d (J.th 1 rfl M) L bN ?_;refine PW.en [tZ] ?_;refine PW.bg [] ?_;refine PW.gd ?_;refine PW.go [] ?_;refine PW.gd ?_;refine PW.gi (PU O w4) λZ E=>?_
 have a:=mk1 (K4.grow E);refine PW.go [tZ] ?_;refine PW.gd ?_;refine PW.ro (a.at_ 1).2.1 d uCP L ?_;refine PW.gd ?_;refine PW.go [] ?_;refine PW.gd ?_;refine PW.ro (cs:=[y,m,p,i,x,s,f,l,z,k,b]) (a.at_ 0).2.1 c uAr iAr ?_;refine PW.gd ?_;refine PW.gi (HV Z a.bl) λw6 D=>?_
 have S:=mk1 (a.grow D);refine PW.en [tZ,tZ] ?_;go_wp2;go_ret;exact⟨_,rfl,S.bl,rfl⟩
def Ui(C:Fld P)(O:Ord N)(k:∀r:EC.Pt P,On r->mul N r=none)(hP:IsP N){t:Nat}(R:Rv N)(m:Wd R.n t)(hv:R.v<2^R.n)(hN:18446744073709551616<=N)(sd:List UInt8)(sq:Option Y0)(sc:Nat)(V A S C1 C2 L3 L6 Y:Bs)(hL:RvL C k R V A S C1 C2 L3 L6 Y)(hS:RvS R sd)(q:Md.Ps Bs (Fin N) (OnP P))(h5:q.s=aW Y)(I:q.a=R.a)(h9:q.b=R.b)(h2:q.g=gPt C ⟨#[108,101,102,116]⟩)(he:q.h=R.hh (aC C k) (gPt C ⟨#[114,105,103,104,116]⟩))(u:OnP P)(hu:u=(aC C k).ac R.w (uPt C))(L Rb:Nat->Bs)(h0:∀j,L j=wP ((aC C k).pLi (chF N) ivF u t q j))(h1:∀j,Rb j=wP ((aC C k).pTi (chF N) ivF u t q j))(Ab K:Bs)(hj:Ab=bx (((aC C k).pst (chF N) ivF u t q t).a 0).val)(hl:K=bx (((aC C k).pst (chF N) ivF u t q t).b 0).val)(pz:Rp)(h4:Hid (⟨A,S,C1,C2,R.tau.val,R.mu.val,R.t.val⟩=pz))(v1:XB)(w:XA)(hk:Arg w v1 (bx R.k.val))(hp:PartOk w (.slice sq 32 sc) sd):
 cZ 20 #[uZ (R.v:Int),v1,iZ (R.n:Int),.slice sq 32 sc] w (rZ w λe w'=>∃e' J,e=.tuple #[e',iZ 0]/\w.heap.size<=J/\RgA J t pz L Rb Ab K e' w'):=by
 have H:R.n<=64:=by rw[m.1];exact XH (Y5 dC m.2.2) dC
 have T:R.v<2^64:=XC hv (XH (Y5 dC H) dC);have v:=λ(W:XA) (o:kZ w W)=>NX C O k hP t m.2.2 R m.1 T hN sd sq 32 sc V A S C1 C2 L3 L6 Y hL hS q h5 I h9 h2 he u hu L Rb h0 h1 Ab K hj hl pz h4 W (hp.below o)
 have z:=λ(W:XA) (o:kZ w W)=>vZ O (hk.below o)
 rw[kQ O R.k.isLt]at z;have X:¬((2^R.n-1:Nat):Int)<(R.v:Int):=oM;have hg:decide (((2^R.n-1:Nat):Int)<(R.v:Int))=false:=decide_eq_false X;generalize hm:R.v=vn at *;generalize h6:(2^R.n-1:Nat)=gn at *;have HG:=λ(W:XA)=>GF m W
 rw[h6]at HG;have HW:=λ(W:XA)=>PU m W
 obtain⟨vk,b⟩:=hE (nv R.k.val);rw[b.out]at v;have h8:Hid (∀W,kZ w W->cZ 11 #[v1] W (rZ W λe w'=>e=.tuple #[vk,tZ])):=λW o=>by
  rw[<-b.out];exact z W o
 have U:=mk3 v HG HW;refine hG w.heap.size λk8 x=>?_
 refine hG (lZ w z11 66) λw1 a=>?_
 have K1:=mk1 ((Mp.start w).new x a);go_enter func20,ntmps20;refine PW.bg [] ?_;refine PW.al x a ?_;refine PW.en [iZ 0] ?_;refine XG<|PW.bg [] ?_
 refine PW.gi (U.2.2 w1) λw2 Z=>?_
 have K2:=mk1 (K1.grow Z);refine PW.go [fZ] ?_;refine PW.gd ?_;refine PW.go [] ?_;refine PW.gd ?_;refine PW.go [iZ 32] ?_;refine PW.gd ?_;refine PW.en [fZ,fZ] ?_;refine Yb rfl<|YU<|PW.bg [] ?_
 refine PW.gi (h8 w2 K2.bl) λw3 ha=>?_
 have K3:=mk1 (K2.grow ha);refine PW.go [vk,tZ] ?_;refine hG w3.heap.size λh7 d=>?_
 refine hG (lZ w3 (RG.z 4) 44) λw4 n=>?_
 refine hG (w4.setCells h7 0 (wn R.k.val)) λw5 y=>?_
 have K4:=mk1 (K3.new d n);have K5:=mk1 (K4.put 1 y);refine PW.al d n ?_;refine PW.st y b (K4.th 1) i40 aI ?_;refine PW.en [tZ] ?_;refine XG<|PW.rg [fZ] ?_
 refine Yb rfl<|YU<|XG<|PW.bg [] ?_
 refine PW.gi (U.2.1 w5) λw6 h3=>?_
 have s:=mk1 (K5.grow h3);refine PW.go [.bool (decide ((gn:Int)<(vn:Int)))] ?_;rw[hg];refine PW.dn ?_;refine Yb rfl<|YU<|PW.bg [] ?_
 refine PW.ro (s.at_ 1).2.1 b u40 i40 ?_;refine PW.go [] ?_;refine PW.ca (U.1 w6 s.bl) ?_;rintro e w7 ⟨hc,J,hi,p⟩;have l8:=(s.at_ 0).1;have K7:=mk1 (s.grow hc);have RA:=mk1 p;obtain⟨M,rb,G,i,Q,rf,l,D,B,E,F,rfl,-,tL,tR,eA,eB⟩:=p.ex;have c:E.oneCell'=true/\F.oneCell'=true/\D.oneCell'=true/\B.oneCell'=true:=⟨eA.one.2,eB.one.2,tL.one.2,tR.one.2⟩
 refine hG (w7.setCells k8 0 [r33 M,r33 rb,r33 G,r33 i,r32 Q,r32 rf,r32 l,D,B,E,F]) λw8 f=>?_
 have K8:=mk1 (K7.put 0 f);have RB:=mk1 (RA.set (us:=[r33 M,r33 rb,r33 G,r33 i,r32 Q,r32 rf,r32 l,D,B,E,F]) (K7.at_ 0) oM);rw[f.out]at RB;refine PW.st (cs:=[r33 M,r33 rb,r33 G,r33 i,r32 Q,r32 rf,r32 l,D,B,E,F]) f (Hid.mk' rfl) (K7.th 0) iAr (by simp only[yAJ,yCN,yC6,c.1,c.2.1,c.2.2.1,c.2.2.2,show ∀g,(r33 g).oneCell'=true from λ_=>rfl,show ∀g,(r32 g).oneCell'=true from λ_=>rfl,yC9]) ?_;refine PW.en [iZ 0] ?_;have KE:=mk2 K8.bl (YV (XH s.bl.size hi) RB);have Kr:=(K8.at_ 0).2.1;refine Za<|XN (qQ 8 9 rfl Kr rfl rfl uAr iAr) rfl ?_
 exact⟨_,rfl,KE.1,_,_,rfl,KE.2.1,KE.2.2⟩
end
section
open SPA
def Gy{g i:Nat}{w:XA}(d:i<2):(Yv 57 (sZ g 2 2) (iZ i)).run prog w=.ok (oZ g (7*i)) w:=by
 have b:¬(i:Int)<0:=oM;have c:(i:Int)<2:=oM;have k:=gI g 0 (7*i);rw[XI]at k;go_simp
def FO{W:XA}{g i:Nat}(b:i<2)(h:Row W g (sdC N 0++sdC N 1)):W.rangeAt g (7*i) (sdC N i):=λj u k=>by
 rcases(show i=0\/i=1 by omega)with rfl|rfl
 .have:=h.2.1 j u (by rw[XY (XM.1 k).1];exact k);rw[Nat.mul_zero];exact this
 .have:=h.2.1 (7+j) u (by rw[XW (by show 7<=7+j;omega),show 7+j-(sdC N 0).length=j from ZE 7 j];exact k);rw[XI]at this;rw[Z5];exact this
def uSd:yZ 61:=yQ
def iSd:gZ 61 7:=gQ
def TJ:wZ 59:=wQ
def z7:List XB:=[.string ⟨#[]⟩,.string ⟨#[]⟩,.nilFunc]++RG.z 4
def Qd:∀i args W,(callFunc (sdA i) args).run prog W=.ok (.enter (sdA i) args) W
 | 0,_,_=>kR
 | _+1,_,_=>kR
def amN:Nat->Nat->Nat->Nat
 | 0,a,_=>a
 | _,_,b=>b
def VG(k a b:Nat):∀i,Gives (sdA i) #[.agg (opC k a b).toArray] (uZ (amN i a b:Int))
 | 0=>VI k a b
 | _+1=>VH k a b
def Bj{i:Nat}:(sdC N i).toArray.all (·.oneCell')=true:=kR
def u3r:wZ 3:=wQ
def MO(O:Ord N)(k a b n:Nat)(r:1<=k)(t:k<=3)(ha:a<4294967296)(hb:b<4294967296)(hn:n<=1048575):Gives 16 #[iZ n,.agg (opC k a b).toArray] (iZ 0):=λw=>by
 refine hG w.heap.size λD p=>?_
 refine hG (w.alloc (.cells (opC k a b).toArray 26)) λI d=>?_
 have F:=mk1 ((Mp.start w).new p d);have B:=G5 k a b w;rw[p.out,d.out]at B;have Y:decide ((n:Int)<0)=false:=decide_eq_false oM;have J:decide (1048575<(n:Int))=false:=decide_eq_false oM;have M:=mk1 (PV (n:=k) r t);have R:=mk1 (λW=>v9 O W);have G:=mk1 (VG k a b);have C:Hid (∀i,decide (4294967295<(amN i a b:Int))=false):=λi=>decide_eq_false (by
  match i with
  | 0=>show ¬_<(a:Int);omega
  | _+1=>show ¬_<(b:Int);omega)
 obtain⟨vo,j⟩:=hE (X9 (opC k a b).toArray);rw[j.out]at B G⊢;go_enter func16,ntmps16;refine PW.bg [] ?_;refine PW.ns B ?_;refine PW.en [iZ 0] ?_;refine XG<|PW.bg [jZ D] ?_
 refine PW.ce ((F.at_ 0).2.1 0 _ rfl) u3r ?_;refine PW.gi (M I) λX v=>?_
 refine PW.en [.bool false] ?_;refine Yb rfl<|YU<|XG<|PW.bg [.bool (decide ((n:Int)<0))] ?_
 rw[Y];refine PW.gd ?_;refine PW.go [] ?_;refine PW.gd ?_;refine PW.go [.bool (decide (1048575<(n:Int)))] ?_;rw[J];refine PW.en [.bool false] ?_;refine Yb rfl<|YU<|XG<|PW.bg [] ?_
 refine PW.ca (R X) ?_;rintro e w3 ⟨z,g,rfl,T,q⟩;refine PW.en [iZ 2,iZ 0] ?_;have U:=mk1 ((F.grow v).add z q T);apply YX;go_loopg [19] 2 (λgk s19 wr=>∃i:Nat,i+gk=2/\s19=iZ i/\Hid (Mp w wr [(D,opC k a b),(g,sdC N 0++sdC N 1)] []))
 case atStart=>exact⟨0,oM,rfl,U⟩
 case round =>
  obtain⟨i,Z,rfl,K⟩:=hrel;by_cases E:i<2
  .have c:(i:Int)<2:=oM;have y:Ya.wrap ((i:Int)+1)=((i+1:Nat):Int):=by rw[YD];omega
   refine hG wr.heap.size λs l=>?_
   refine hG (wr.alloc (.cells z7.toArray 61)) λV f=>?_
   refine hG (V.setCells s 0 (sdC N i)) λS m=>?_
   have H:=mk1 (K.new l f);have u:=mk1 (H.put 2 m);have Q:=FO E (K.at_ 1);obtain⟨vs,o⟩:=hE (X9 (sdC N i).toArray);refine PW.bg [.bool (decide ((i:Int)<2))] ?_;rw[decide_eq_true c];refine PW.dn ?_;refine XG<|Yy rfl<|YU<|XG<|YX<|PW.bg [] ?_
   refine PW.ns (Gy (g:=g) (i:=i) E (w:=wr)) ?_;refine PW.ro Q o uSd iSd ?_;refine PW.al l f ?_;refine PW.st m o (H.th 2) iSd (Bj (i:=i)) ?_;refine PW.dn ?_;refine PW.bg [oZ s 2] ?_;refine PW.ce ((u.at_ 2).2.1 2 _ rfl) TJ ?_;refine PW.ro (u.at_ 0).2.1 j uOp iOp ?_;refine PW.ca (G i S) ?_ rfl rfl (BV (Qd i) rfl rfl rfl);rintro e w6 ⟨A,rfl⟩;have L:=mk1 (Mp.pop (rs:=[(D,opC k a b),(g,sdC N 0++sdC N 1)]) (x:=(s,sdC N i)) (u.grow A));refine PW.go [.bool (decide (4294967295<(amN i a b:Int)))] ?_;rw[C.out i];refine PW.dn ?_;refine Yb rfl<|YU<|PW.bb [iZ (Ya.wrap ((i:Int)+1))] ?_
   rw[y];go_wp2;go_roundg (gk-1)
   case measure=>omega
   case rel=>exact⟨i+1,oM,rfl,L⟩
  .have c:¬(i:Int)<2:=oM;refine PW.bg [.bool (decide ((i:Int)<2))] ?_;rw[decide_eq_false c];refine PW.dn ?_;refine XG<|Yb rfl<|yAC<|PW.rg (P:=prog) [iZ 0] ?_
   go_wp2;go_ret;exact⟨_,rfl,K.bl,rfl⟩
def OpL(W:XA)(q:Option Y0)(n:Nat)(K A B:Nat->Nat):Prop:=0<n->∃g,q=some (aZ g)/\g<W.heap.size/\∀i,i<n->W.rangeAt g (3*i) (opC (K i) (A i) (B i))
def OpL.below{W W':XA}{q:Option Y0}{n:Nat}{K A B:Nat->Nat}(h:OpL W q n K A B)(k:kZ W W'):OpL W' q n K A B:=λd=>by
 obtain⟨g,e,b,c⟩:=h d;exact⟨g,e,XC b k.size,λi f=>range_below (c i f) k b⟩
def aV(f:Nat->Nat):Nat->Nat
 | 0=>0
 | n+1=>aV f n+f n
def rD{f:Nat->Nat}(h:∀i,f i<4294967296):∀n,aV f n<=n*4294967296
 | 0=>XD _
 | n+1=>by
  have:=rD h n;have:=h n;unfold aV;omega
def P0{g n c i:Nat}{w:XA}(b:i<n):(Yv 22 (sZ g n c) (iZ i)).run prog w=.ok (oZ g (3*i)) w:=by
 have k:=gI g 0 (3*i);rw[XI]at k;go_simp
def z3:List XB:=[iZ 0,uZ 0,uZ 0]
def Bv{k a b:Nat}:(opC k a b).toArray.all (·.oneCell')=true:=kR
def VB(O:Ord N)(n c:Nat)(q:Option Y0)(K A B:Nat->Nat)(hn:n<=64)(C:∀i,1<=K i/\K i<=3)(u:∀i,A i<4294967296)(r:∀i,B i<4294967296)(E:aV A n<=aV B n)(w:XA)(I:OpL w q n K A B):
 YN prog 6 #[.slice q n c] w (Ret λe w'=>Below w.heap.size w w'/\e=.tuple #[.int .u64 ((aV B n-aV A n:Nat):Int),.int .i64 0]):=by
 have G:=mk1 (λi (j:Nat) (T:j<=1048575)=>MO O (K i) (A i) (B i) j (C i).1 (C i).2 (u i) (r i) T);have R:=rD u;have a:=rD r;have HL:=mk1 I;have m:=mk3 u r E;go_enter func6,ntmps6;refine PW.rg [.int .u64 0,.int .i64 0] ?_;refine PW.rg [.int .u64 0,.int .u64 0] ?_;refine XG<|PW.rg [.int .i64 n,.int .i64 0] ?_
 apply YX;have U:=mk1 (Mp.start w);go_loopg [4,5,11] n (λgk s4 s5 s11 wr=>∃i:Nat,i+gk=n/\s4=.int .u64 (aV A i:Int)/\s5=.int .u64 (aV B i:Int)/\s11=.int .i64 i/\Hid (Mp w wr [] []))
 case atStart=>exact⟨0,oM,rfl,rfl,rfl,U⟩
 case round =>
  obtain⟨i,V,rfl,rfl,rfl,p⟩:=hrel;by_cases y:i<n
  .have b:(i:Int)<(n:Int):=oM;have t:Ya.wrap ((i:Int)+1)=((i+1:Nat):Int):=by rw[YD];omega
   have l1:=R i;have l2:=a i;have l3:=m.1 i;have Z:=m.2.1 i;have H:Yt.wrap ((aV A i:Int)+(A i:Int))=((aV A (i+1):Nat):Int):=by rw[ZO,show aV A (i+1)=aV A i+A i from rfl];omega
   have S:Yt.wrap ((aV B i:Int)+(B i:Int))=((aV B (i+1):Nat):Int):=by rw[ZO,show aV B (i+1)=aV B i+B i from rfl];omega
   obtain⟨g,rfl,hg,o⟩:=(HL.below p.bl) oM;refine hG wr.heap.size λX l=>?_
   refine hG (wr.alloc (.cells z3.toArray 26)) λQ d=>?_
   refine hG (Q.setCells X 0 (opC (K i) (A i) (B i))) λM f=>?_
   have D:=mk1 (p.new l d);have z:=mk1 (D.put 0 f);have L:=o i y;obtain⟨F,k⟩:=hE (X9 (opC (K i) (A i) (B i)).toArray);have x:Hid (∀W,YN prog 16 #[.int .i64 i,F] W (Ret λe w'=>Below W.heap.size W w'/\e=.int .i64 0)):=k.out▸G i i oM;refine PW.bg [.bool (decide ((i:Int)<(n:Int)))] ?_;rw[decide_eq_true b];refine PW.dn ?_;refine XG<|Yy rfl<|YU<|XG<|YX<|PW.bg [] ?_
   refine PW.ns (P0 (g:=g) (n:=n) (c:=c) (i:=i) y (w:=wr)) ?_;refine PW.ro L k uOp iOp ?_;refine PW.al l d ?_;refine PW.go [.int .i64 i] ?_;refine PW.st f k (D.th 0) iOp Bv ?_;refine PW.dn ?_;refine XG<|PW.bg [] ?_
   refine PW.ro (z.at_ 0).2.1 k uOp iOp ?_;refine PW.gi (x M) λY v=>?_
   refine PW.en [.int .i64 0] ?_;have s:=mk1 (z.grow v);have c1:=(s.at_ 0).2.1 1 (.int .u64 (A i:Int)) rfl;have c2:=(s.at_ 0).2.1 2 (.int .u64 (B i:Int)) rfl;have J:=mk1 (Mp.pop (rs:=[]) s);refine PW.rg [.bool false] ?_;refine Yb rfl<|YU ?_
   go_quiet (fail);refine PW.bb (P:=prog) [.int .i64 (Ya.wrap ((i:Int)+1))] ?_;rw[t];go_wp2;go_roundg (gk-1)
   case measure=>omega
   case rel=>exact⟨i+1,oM,by rw[<-H],by rw[<-S],rfl,J.grow ⟨rfl,rfl,rfl,XD _,λ_ _=>rfl⟩⟩
  .have b:¬(i:Int)<(n:Int):=oM;obtain rfl:i=n:=oM;have hd:decide ((aV B i:Int)<(aV A i:Int))=false:=decide_eq_false (oN m.2.2);have k:Yt.wrap ((aV B i:Int)-(aV A i:Int))=((aV B i-aV A i:Nat):Int):=by
    have:=a i;have:=m.2.2;rw[ZO];omega
   refine PW.bg [.bool (decide ((i:Int)<(i:Int)))] ?_;rw[decide_eq_false b];refine PW.dn ?_;refine XG<|Yb rfl<|yAC<|XG (P:=prog)<|PW.bg [.bool (decide ((aV B i:Int)<(aV A i:Int)))] ?_
   rw[hd];refine PW.dn ?_;refine Yb rfl<|YU<|PW.bg [.int .u64 (Yt.wrap ((aV B i:Int)-(aV A i:Int)))] ?_
   rw[k];refine PW.en [.int .u64 ((aV B i-aV A i:Nat):Int),.int .i64 0] ?_;refine Za<|XN (dJ 2 3 rfl rfl rfl) rfl ?_
   exact⟨_,rfl,p.bl,rfl⟩
def opA(N:Nat)(f:Nat->Nat->Nat):Nat->Nat
 | 0=>0
 | i+1=>sPl N (sPl N (opA N f i) (f i 0)) (f i 1)
def opI(N:Nat)(f:Nat->Nat->Nat)(i:Nat):Nat->Nat
 | 0=>opA N f i
 | s+1=>sPl N (opI N f i s) (f i s)
def blW(N:Nat)(k:Bs)(i s:Nat):Nat:=sTi N (blN N k s i) (sdW N s)
def JH{a b:Nat}(O:Ord N):sPl N a b<N:=Y8 _ O.pos
def Q5{a b:Nat}(O:Ord N):sTi N a b<N:=Y8 _ O.pos
def Kb{f:Nat->Nat->Nat}(O:Ord N):∀i,opA N f i<N
 | 0=>O.pos
 | _+1=>JH O
def RH{f:Nat->Nat->Nat}{i:Nat}(O:Ord N):∀s,opI N f i s<N
 | 0=>Kb O i
 | _+1=>JH O
def QV(O:Ord N):∀s,sdW N s<N
 | 0=>Y8 _ O.pos
 | _+1=>by have:=O.n2;show 1<N;omega
def VR:wn 0=RG.z 4:=kR
def Im(O:Ord N)(n:Nat)(hn:n<=64)(k:Bs)(Q:k.size=32)(U:Option Y0)(sc:Nat)(w:XA)(G:PartOk w (.slice U 32 sc) k.toList):
 cZ 9 #[.slice U 32 sc,iZ n] w (rZ w λe w'=>e=nv (opA N (blW N k) n)):=by
 refine hG w.heap.size λj a=>?_
 refine hG (lZ w (RG.z 4) 44) λZ C=>?_
 have K1:=mk1 ((Mp.start w).new a C);refine hG Z.heap.size λm t=>?_
 refine hG (lZ Z (RG.z 4) 44) λw2 z=>?_
 have K2:Hid (Mp w w2 [(j,RG.z 4),(m,wn (opA N (blW N k) 0))] []):=by
  rw[show wn (opA N (blW N k) 0)=RG.z 4 from VR];exact K1.new t z
 have HB:=mk1 (λi (hi:i<64) s (W:XA) (b:kZ w W)=>Qh O s i oM k Q U sc W (G.below b));have HS:=mk1 (λW=>v9 O W);go_enter func9,ntmps9;refine PW.bg [] ?_;refine PW.al a C ?_;refine PW.dn ?_;refine PW.bg [] ?_;refine PW.al t z ?_;refine PW.dn ?_;refine XG<|PW.rg [iZ 0] ?_
 apply YX;go_loopg [10] n (λgk s10 wr=>∃i:Nat,i+gk=n/\s10=iZ i/\Hid (Mp w wr [(j,RG.z 4),(m,wn (opA N (blW N k) i))] []))
 case atStart=>exact⟨0,oM,rfl,K2⟩
 case round =>
  obtain⟨i,h1,rfl,K⟩:=hrel;by_cases hi:i<n
  .have l:(i:Int)<(n:Int):=oM;have M:Ya.wrap ((i:Int)+1)=((i+1:Nat):Int):=by rw[YD];omega
   have L:yCS.wrap (i:Int)=(i:Int):=by rw[IntKind.wrap_u32];omega
   refine PW.bg [.bool (decide ((i:Int)<(n:Int)))] ?_;rw[decide_eq_true l];refine PW.dn ?_;refine XG<|Yy rfl<|YU<|XG<|YX<|PW.rg [iZ i] ?_
   refine PW.bg [] ?_;refine PW.ca (HS wr) ?_;rintro e w3 ⟨S,g,rfl,hg,B⟩;refine PW.en [iZ 2,iZ 0] ?_;obtain⟨I,h2⟩:∃x,x=gk:=⟨_,rfl⟩
   have K3:=mk1 (K.add S B hg);apply YX;go_loopg [15] 2 (λgk s15 wr=>∃s:Nat,s+gk=2/\s15=iZ s/\Hid (Mp w wr [(j,RG.z 4),(m,wn (opI N (blW N k) i s)),(g,sdC N 0++sdC N 1)] []))
   case atStart=>exact⟨0,oM,rfl,K3⟩
   case round =>
    obtain⟨s,h0,rfl,K⟩:=hrel;by_cases G:s<2
    .have D:(s:Int)<2:=oM;have H:Ya.wrap ((s:Int)+1)=((s+1:Nat):Int):=by rw[YD];omega
     refine hG wr.heap.size λJ u=>?_
     refine hG (lZ wr z7 61) λT c=>?_
     refine hG (T.setCells J 0 (sdC N s)) λw5 A=>?_
     have F:=mk1 (K.new u c);have o:=mk1 (F.put 3 A);have R0:=FO G (K.at_ 2);have X:=gJ O (blN N k s i) (sdW N s) (BZ O k s i) (QV O s);have Y:=mJ O (opI N (blW N k) i s) (blW N k i s) (RH O (i:=i) s) (Q5 O);have p:=λW b=>HB i oM s W b
     obtain⟨vs,f⟩:=hE (X9 (sdC N s).toArray);obtain⟨va,d⟩:=hE (nv (opI N (blW N k) i s));obtain⟨vb,q⟩:=hE (nv (blN N k s i));obtain⟨vw,E⟩:=hE (nv (sdW N s));obtain⟨vt,v⟩:=hE (nv (blW N k i s));obtain⟨vr,r⟩:=hE (nv (opI N (blW N k) i (s+1)));rw[show sTi N (blN N k s i) (sdW N s)=blW N k i s from rfl,q.out,E.out,v.out]at X;rw[show sPl N (opI N (blW N k) i s) (blW N k i s)=opI N (blW N k) i (s+1) from rfl,d.out,v.out,r.out]at Y;rw[f.out,q.out]at p;refine PW.bg [.bool (decide ((s:Int)<2))] ?_;rw[decide_eq_true D];refine PW.dn ?_;refine XG<|Yy rfl<|YU<|XG<|YX<|PW.bg [] ?_
     refine PW.ns (Gy (g:=g) (i:=s) G (w:=wr)) ?_;refine PW.ro R0 f uSd iSd ?_;refine PW.al u c ?_;refine PW.st A f (F.th 3) iSd (Bj (i:=s)) ?_;refine PW.dn ?_;refine AW.begin 10 10 ?_;refine AW.ro 0 (λW b=>((o.at_ 1).below b).2.1) d u40 i40 ?_;refine AW.ro 1 (λW b=>((o.at_ 3).below b).2.1) f uSd iSd ?_;refine AW.mv 2 ?_;refine AW.mv 3 ?_;refine AW.va 4 (.int .u32 (yCS.wrap (i:Int))) ?_;rw[L];refine AW.va 6 (oZ J 3) ?_;refine AW.ro 7 (λW b=>rnB (xs:=[.string (sdL s),.string (sdP s),.func (.func (sdA s)) #[] #[]]) ((o.at_ 3).below b).2.1 rfl) E u40 i40 ?_;refine AW.gi 5 (λb=>p _ (o.bl.trans (b.mono o.bl.size))) λW1 _=>?_
     refine AW.gi 8 (λ_=>X _) λW2 _=>?_
     refine AW.gi 9 (λ_=>Y _) λW3 _=>?_
     refine AW.fi (us:=wn (opI N (blW N k) i (s+1))) r aI i40 (λb=>?_);have V:=o.grow b;obtain⟨W4,y⟩:=hE (W3.setCells m 0 (wn (opI N (blW N k) i (s+1))));have R:=mk1 (Mp.pop (rs:=[(j,RG.z 4),(m,wn (opI N (blW N k) i (s+1))),(g,sdC N 0++sdC N 1)]) (x:=(J,sdC N s)) (V.put 1 y));rw[y.out];refine⟨V.th 1,?_⟩;refine PW.bb (P:=prog) [iZ (Ya.wrap ((s:Int)+1))] ?_;rw[H];go_wp2;go_roundg (gk-1)
     case measure=>omega
     case rel=>exact⟨s+1,oM,rfl,R⟩
    .have D:¬(s:Int)<2:=oM;obtain rfl:s=2:=oM;have R:Hid (Mp w wr [(j,RG.z 4),(m,wn (opA N (blW N k) (i+1)))] []):=Mp.pop (x:=(g,sdC N 0++sdC N 1)) K;refine PW.rg [fZ] ?_;refine XG<|Yb rfl<|yAC<|PW.bb (P:=prog) [iZ (Ya.wrap ((i:Int)+1))] ?_
     rw[M];go_wp2;go_roundg (I-1)
     case measure=>omega
     case rel=>exact⟨i+1,oM,rfl,R⟩
  .have l:¬(i:Int)<(n:Int):=oM;obtain rfl:i=n:=oM;refine hG (wr.setCells j 0 (wn (opA N (blW N k) i))) λT c=>?_
   have F:=mk1 (K.put 0 c);obtain⟨va,d⟩:=hE (nv (opA N (blW N k) i));refine PW.bg [.bool (decide ((i:Int)<(i:Int)))] ?_;rw[decide_eq_false l];refine PW.dn ?_;refine XG<|Yb rfl<|yAC<|PW.bg (P:=prog) [] ?_
   refine PW.ro (K.at_ 1).2.1 d u40 i40 ?_;refine PW.st c d (K.th 0) i40 aI ?_;refine PW.dn ?_;refine Za<|XN (aF 4 (T:=44) rfl (show Row T j (wn (opA N (blW N k) i)) from F.at_ 0) rfl u40 i40) rfl ?_
   exact⟨_,rfl,F.bl,rfl⟩
end
section
open SPA
variable {P:Nat}[NeZero P]{N:Nat}[NeZero N]
def Tx{R:Rv N}{V A S m v G H n E K:Bs}{u:OnP P}{y Rb:Nat->Bs}{I:Rp}{e:XB}{w:XA}(C:Fld P)(O:Ord N)(k:∀r:EC.Pt P,On r->mul N r=none)(g:IsP N)(T:18446744073709551616<=N){t:Nat}(D:Wd R.n t)(hv:R.v<2^R.n)(b:RvL C k R V A S m v G H n)(q:Md.Ps Bs (Fin N) (OnP P))(l:q.s=aW n)(o:q.a=R.a)(p:q.b=R.b)(f:q.g=gPt C ⟨#[108,101,102,116]⟩)(d:q.h=R.hh (aC C k) (gPt C ⟨#[114,105,103,104,116]⟩))(F:u=(aC C k).ac R.w (uPt C))(s:∀j,y j=wP ((aC C k).pLi (chF N) ivF u t q j))(x:∀j,Rb j=wP ((aC C k).pTi (chF N) ivF u t q j))(z:E=bx (((aC C k).pst (chF N) ivF u t q t).a 0).val)(B:K=bx (((aC C k).pst (chF N) ivF u t q t).b 0).val)(i:Hid (⟨A,S,m,v,R.tau.val,R.mu.val,R.t.val⟩=I))(c:RgV t I y Rb E K e w):
 cZ 107 #[pvl V,iZ (R.n:Int),e] w (rZ w λe w'=>e=tZ):=by
 obtain rfl:=i;have J:R.y.val≠0:=by rw[b.y];exact Ha g.1
 have ok:(⟨A,S,m,v,R.tau.val,R.mu.val,R.t.val⟩:Rp).Ok:=⟨by rw[b.eA];exact aL _,by rw[b.eS];exact aL _,by rw[b.e1];exact aL _,by rw[b.e2];exact aL _⟩
 have M:=R.sums (aC C k) (gPG C) (hPV C) g J hv;have U:=R.point (aC C k) (gPG C) (uPt C) (gPt C ⟨#[108,101,102,116]⟩) (gPt C ⟨#[114,105,103,104,116]⟩) g J;have hf:=SD C k g u t q;rw[z,B]at c;generalize ((aC C k).pst (chF N) ivF u t q t).a 0=L at *;generalize ((aC C k).pst (chF N) ivF u t q t).b 0=Q at *;refine QA C O k g T D _ ok V _ _ _ _ _ b.eV b.eA b.eS b.e1 b.e2 R.tau R.mu R.t R.x R.y R.z R.w rfl rfl rfl G H n b.l3 b.y b.z b.l6 b.x b.l8 b.w y Rb _ _ s x L Q u F ⟨q.s,(aC C k).hdP u (2^t) q,q.g,q.h⟩ l f d ?_ _ rfl ?_ hf e w c
 .show(aC C k).hd q.a q.b q.g q.h u (2^t)=(aC C k).ad ((aC C k).ad ((aC C k).ad ((aC C k).ad _ _) _) ((aC C k).ad ((aC C k).dt (λ_=>-R.z) q.g R.n) ((aC C k).dt (rgS R.y R.z) q.h R.n))) _;rw[<-D.1,o,p,f,d,F];exact U.symm
 .exact congrArg wP M
def TW(C:Fld P)(O:Ord N)(b:∀r:EC.Pt P,On r->mul N r=none)(v n:Nat)(k:Fin N)(d:List UInt8):∃(R:Rv N) (V A S j o e g m:Bs),R.v=v/\R.n=n/\R.k=k/\RvL C b R V A S j o e g m/\RvS R d:=by
 have lt:∀l B,chL N l B<N:=λl B=>oS O
 obtain⟨s,E⟩:∃s:Nat->Fin N,∀i,(s i).val=chL N [115,108] [d,(fV i).toList]:=⟨λi=>⟨_,lt _ _⟩,λ_=>rfl⟩
 obtain⟨q,D⟩:∃s:Nat->Fin N,∀i,(s i).val=chL N [115,114] [d,(fV i).toList]:=⟨λi=>⟨_,lt _ _⟩,λ_=>rfl⟩
 obtain⟨al,p⟩:∃x:Fin N,x.val=chL N [97,108,112,104,97] [d]:=⟨⟨_,lt _ _⟩,rfl⟩
 obtain⟨c,f⟩:∃x:Fin N,x.val=chL N [114,104,111] [d]:=⟨⟨_,lt _ _⟩,rfl⟩
 obtain⟨t1,u⟩:∃x:Fin N,x.val=chL N [116,97,117,49] [d]:=⟨⟨_,lt _ _⟩,rfl⟩
 obtain⟨t2,t⟩:∃x:Fin N,x.val=chL N [116,97,117,50] [d]:=⟨⟨_,lt _ _⟩,rfl⟩
 obtain⟨V,Q⟩:∃V,V=wP ((⟨v,n,s,q,al,c,t1,t2,k,0,0,0,0⟩:Rv N).pV (aC C b) (gPG C) (hPV C)):=⟨_,rfl⟩
 obtain⟨A,K⟩:∃A,A=wP ((⟨v,n,s,q,al,c,t1,t2,k,0,0,0,0⟩:Rv N).pA (aC C b) (gPG C) (gPt C ⟨#[108,101,102,116]⟩) (gPt C ⟨#[114,105,103,104,116]⟩)):=⟨_,rfl⟩
 obtain⟨S,G⟩:∃A,A=wP ((⟨v,n,s,q,al,c,t1,t2,k,0,0,0,0⟩:Rv N).pS (aC C b) (gPG C) (gPt C ⟨#[108,101,102,116]⟩) (gPt C ⟨#[114,105,103,104,116]⟩)):=⟨_,rfl⟩
 obtain⟨e,W⟩:∃L,L=bgL V n A S:=⟨_,rfl⟩
 obtain⟨y,U⟩:∃y,y=kV N e:=⟨_,rfl⟩
 obtain⟨z,J⟩:∃z,z=kV N (aW e):=⟨_,rfl⟩
 obtain⟨j,M⟩:∃A,A=wP ((⟨v,n,s,q,al,c,t1,t2,k,y,z,0,0⟩:Rv N).p1 (aC C b) (gPG C) (hPV C)):=⟨_,rfl⟩
 obtain⟨o,T⟩:∃A,A=wP ((⟨v,n,s,q,al,c,t1,t2,k,y,z,0,0⟩:Rv N).p2 (aC C b) (gPG C) (hPV C)):=⟨_,rfl⟩
 obtain⟨g,F⟩:∃L,L=mdL (aW (aW e)) j o:=⟨_,rfl⟩
 obtain⟨x,hx⟩:∃x,x=kV N g:=⟨_,rfl⟩
 obtain⟨m,I⟩:∃L,L=enL (aW g) (⟨v,n,s,q,al,c,t1,t2,k,y,z,x,0⟩:Rv N).tau.val (⟨v,n,s,q,al,c,t1,t2,k,y,z,x,0⟩:Rv N).mu.val (⟨v,n,s,q,al,c,t1,t2,k,y,z,x,0⟩:Rv N).t.val:=⟨_,rfl⟩
 obtain⟨w,H⟩:∃w,w=kV N m:=⟨_,rfl⟩
 exact⟨⟨v,n,s,q,al,c,t1,t2,k,y,z,x,w⟩,V,A,S,j,o,e,g,m,rfl,rfl,rfl,⟨Q,K,G,M,T,W,U,J,F,hx,I,H⟩,⟨E,D,p,f,u,t⟩⟩
def RgA.below{n t:Nat}{p:Rp}{q Rb:Nat->Bs}{j o:Bs}{e:XB}{W W':XA}(h:RgA n t p q Rb j o e W)(f:kZ W W'):RgA n t p q Rb j o e W':=by
 obtain⟨a,b,c,d,u,m,s,B,y,r,x,v,A,l,hR,z,w⟩:=h.ex;have k:Kq (λ_=>True) W W':=Kq.of_below f;exact⟨a,b,c,d,u,m,s,B,y,r,x,v,A.keep k,l.keep k λg i=>f.block g (l.lt i).2,hR.keep k λg i=>f.block g (hR.lt i).2,z.keep k,w.keep k⟩
def Uh{S R M:Type}(s:S)(a b:Nat->R)(g h:Nat->M):∃q:Md.Ps S R M,q.s=s/\q.a=a/\q.b=b/\q.g=g/\q.h=h:=⟨⟨s,a,b,g,h⟩,rfl,rfl,rfl,rfl,rfl⟩
def Ns(C:Fld P)(O:Ord N)(f:∀r:EC.Pt P,On r->mul N r=none)(hP:IsP N)(hN:18446744073709551616<=N){n t:Nat}(M:Wd n t)(v:Nat)(hv:v<2^n)(k:Fin N)(U:List UInt8):∃(V:Bs) (B:Rp) (l Rb:Nat->Bs) (g i:Bs),V=wP ((aC C f).cm (hPV C) (gPG C) (ofF N v) k) /\
 (∀(K:Option Y0) (sc:Nat) (v1:XB) (w:XA),Arg w v1 (bx k.val)->PartOk w (.slice K 32 sc) U->cZ 20 #[uZ v,v1,iZ n,.slice K 32 sc] w (rZ w λe w'=>∃e' o,e=.tuple #[e',iZ 0]/\w.heap.size<=o/\RgA o t B l Rb g i e' w')) /\
 (∀(e v0:XB) (w:XA),Arg33 w v0 V->RgV t B l Rb g i e w->(cZ 61 #[v0,iZ n,e] w (rZ w λe w'=>e=tZ)))/\B.Ok/\(∀j,(l j).size=33)/\(∀j,(Rb j).size=33)/\g.size=32/\i.size=32:=by
 obtain⟨R,V,A,S,Q,X,L3,L6,T,rfl,rfl,rfl,o,hS⟩:=TW C O f v n k U;obtain⟨q,F,G,H,J,I⟩:=Uh (aW T) R.a R.b (gPt C ⟨#[108,101,102,116]⟩) (R.hh (aC C f) (gPt C ⟨#[114,105,103,104,116]⟩));obtain⟨u,Z⟩:∃u,u=(aC C f).ac R.w (uPt C):=⟨_,rfl⟩
 obtain⟨l,y⟩:∃l:Nat->Bs,∀j,l j=wP ((aC C f).pLi (chF N) ivF u t q j):=⟨λj=>wP ((aC C f).pLi (chF N) ivF u t q j),λ_=>rfl⟩
 obtain⟨Rb,z⟩:∃Rb:Nat->Bs,∀j,Rb j=wP ((aC C f).pTi (chF N) ivF u t q j):=⟨λj=>wP ((aC C f).pTi (chF N) ivF u t q j),λ_=>rfl⟩
 obtain⟨g,D⟩:∃g,g=bx (((aC C f).pst (chF N) ivF u t q t).a 0).val:=⟨_,rfl⟩
 obtain⟨i,E⟩:∃i,i=bx (((aC C f).pst (chF N) ivF u t q t).b 0).val:=⟨_,rfl⟩
 obtain⟨B,p⟩:=hE (⟨A,S,Q,X,R.tau.val,R.mu.val,R.t.val⟩:Rp);refine⟨V,B,l,Rb,g,i,o.eV,λK sc v1 w Y L=>?_,λe v0 w Y L=>?_,?_,λj=>by rw[y];exact aL _,λj=>by rw[z];exact aL _,by rw[D];exact cQ _,by rw[E];exact cQ _⟩
 .exact Ui C O f hP R M hv hN U K sc V A S Q X L3 L6 T o hS q F G H J I u Z l Rb y z g i D E B p v1 w Y L
 .have hr:∃q,rd P V=some q:=by
   rw[o.eV];obtain⟨q,hq,-⟩:=xR C (R.pV (aC C f) (gPG C) (hPV C)).2;exact⟨q,hq⟩
  obtain⟨x,hx⟩:=hr;obtain⟨a,b,c,d,u',m,s,vL,vR,vA,vB,e1,-⟩:=L.ex;subst e1;exact Tw C M V x hx v0 _ _ _ _ _ _ _ _ _ _ _ w Y λW hb=>Tx C O f hP hN M hv o q F G H J I Z y z D E p (L.below hb)
 .rw[<-p.out];exact⟨by rw[o.eA];exact aL _,by rw[o.eS];exact aL _,by rw[o.e1];exact aL _,by rw[o.e2];exact aL _⟩
end
section
open SPA
def TlL.vl{Q:Nat->Prop}{k t:Nat}{W:XA}{v:XB}{B:Nat->Bs}(h:TlL Q k t W v B)(m:0<t):∃g c ys,v=sZ g t c/\VL W (some (aZ g)) t ys/\∀j,j<t->∃x,ys[j]? = some x/\ElQ Q 33 W x (B j):=by
 obtain⟨xs,d,f⟩:=h.ex;obtain⟨g,c,rfl⟩:=mP d m;have l:xs.length=t:=oN d.1;have o:=(h.lt (g:=g) rfl).2;refine⟨g,c,xs,rfl,⟨l,λe=>(by cases e),X7 ⟨g,0,rfl,o,λj u b=>?_⟩,λu b=>?_⟩,f⟩
 .rw[XI];exact jI d b
 .obtain⟨j,p,rfl⟩:=List.mem_iff_getElem.1 b;obtain⟨x,i,n⟩:=f j oM;rw[XO p]at i;obtain rfl:=XX.inj i;exact n.one.2
def ElQ.pt{Q:Nat->Prop}{m:Nat}{W:XA}{x:XB}{b:Bs}(h:ElQ Q m W x b):Pt W x b:=by
 obtain⟨k,c,rfl,-,e,-,d,f⟩:=h;exact⟨_,c,by rw[e],X7 ⟨k,0,rfl,d,f⟩⟩
def rgB(t:Nat)(p:Rp)(b Rb:Nat->Bs)(c k:Bs):List Bs:=[p.a,p.s,p.c,p.d,bx p.u,bx p.m,bx p.t]++(YA t).map b++(YA t).map Rb++[c,k]
def PtB.app{W:XA}{us vs:List XB}{A B:List Bs}(h:PtB W us A)(e:PtB W vs B):PtB W (us++vs) (A++B):=by
 refine⟨by rw[XK,XK,h.1,e.1],λj u b c k=>?_⟩;by_cases d:j<us.length
 .rw[XY d]at c;rw[XY (by rw[h.1];exact d)]at k;exact h.2 j u b c k
 .rw[XW oM]at c;rw[XW (by rw[h.1];omega),h.1]at k;exact e.2 _ u b c k
def PtB.one{W:XA}{u:XB}{b:Bs}(h:Pt W u b):PtB W [u] [b]:=⟨rfl,λj e d k c=>by
 match j with
 | 0 =>
  cases k
  cases c
  exact h
 | j+1=>cases k⟩
def PtB.list{W:XA}{Q:Nat->Prop}{t:Nat}{ys:List XB}{B:Nat->Bs}(d:ys.length=t)(h:∀j,j<t->∃x,ys[j]? = some x/\ElQ Q 33 W x (B j)):PtB W ys ((YA t).map B):=⟨by simp[d],λj u b c f=>by
 have e:j<t:=by rw[<-d];exact(XM.1 c).1
 obtain⟨x,k,g⟩:=h j e;rw[c]at k;obtain rfl:=XX.inj k;rw[YB,yBo e]at f;obtain rfl:=XX.inj f;exact g.pt⟩
def RgA.rg{F t:Nat}{p:Rp}{w Rb:Nat->Bs}{l v:Bs}{e:XB}{W:XA}(h:RgA F t p w Rb l v e W)(n:0<t):∃(q:Rg) (k f:List XB) (i j:Nat),e=.agg q.cs.toArray/\q.l.n=t/\q.r.n=t/\q.a.n=33/\VL W q.l.q q.l.n k/\VL W q.r.q q.r.n f/\q.l.q=some (aZ i)/\q.r.q=some (aZ j)/\PtB W (qR q k f) (rgB t p w Rb l v):=by
 obtain⟨a,b,c,d,u,m,s,K,J,H,I,rfl,g,B,hR,r,o⟩:=h.ex;obtain⟨i,cl,k,rfl,v1,y⟩:=B.vl n;obtain⟨j,cr,f,rfl,v2,E⟩:=hR.vl n;have pA:=r.pt;have x:=o.pt;obtain⟨z,D,rfl,-⟩:=r;obtain⟨G,C,rfl,-⟩:=o;refine⟨⟨⟨some (aZ a),33,_⟩,⟨some (aZ b),33,_⟩,⟨some (aZ c),33,_⟩,⟨some (aZ d),33,_⟩,⟨some (aZ u),32,_⟩,⟨some (aZ m),32,_⟩,⟨some (aZ s),32,_⟩,⟨some (aZ i),t,cl⟩,⟨some (aZ j),t,cr⟩,⟨some (aZ z),32,D⟩,⟨some (aZ G),32,C⟩⟩,k,f,i,j,rfl,rfl,rfl,rfl,v1,v2,rfl,rfl,?_⟩;exact(((PtB.one g.a.pt).app ((PtB.one g.b.pt).app ((PtB.one g.c.pt).app ((PtB.one g.d.pt).app ((PtB.one g.e.pt).app ((PtB.one g.f.pt).app (PtB.one g.g.pt))))))).app (PtB.list v1.len y)).app (PtB.list v2.len E) |>.app ((PtB.one pA).app (PtB.one x))
def RgA.cl{g t:Nat}{p:Rp}{j Rb:Nat->Bs}{b i:Bs}{e:XB}{W:XA}(h:RgA g t p j Rb b i e W)(f:0<t):∃cs:List XB,Hid (.agg cs.toArray=e)/\cs.length=11/\cs.toArray.all (·.oneCell')=true/\∃q c,cs[0]? = some (.slice q 33 c):=by
 obtain⟨q,d,l,m,n,rfl,-,-,k,-⟩:=h.rg f;exact⟨q.cs,rfl,rfl,by simp only[yAJ,Rg.cs,rgC,Sv.v,yCN,yC6];rfl,q.a.q,q.a.c,by rw[<-k];rfl⟩
def TlL.sz{Q:Nat->Prop}{d t:Nat}{W:XA}{v:XB}{B:Nat->Bs}(h:TlL Q d t W v B):((YA t).map B).map Zm=YM t 33:=by
 obtain⟨xs,-,e⟩:=h.ex;refine yDc.2 ⟨by simp,λx hx=>?_⟩;simp only[YC,Y4]at hx;obtain⟨b,⟨j,g,rfl⟩,rfl⟩:=hx;obtain⟨y,-,k,c,-,-,f,-⟩:=e j g;exact f
def ElQ.sz{Q:Nat->Prop}{m:Nat}{W:XA}{x:XB}{b:Bs}(h:ElQ Q m W x b):Zm b=m:=by
 obtain⟨k,c,-,-,d,-⟩:=h;exact d
def RgA.good{q t:Nat}{p:Rp}{i Rb:Nat->Bs}{f g:Bs}{e:XB}{W:XA}(h:RgA q t p i Rb f g e W)(j:t<=6):kP t t (rgB t p i Rb f g):=by
 obtain⟨a,b,c,d,u,m,s,x,w,r,v,-,k,n,hR,o,l⟩:=h.ex;refine⟨rfl,j,?_⟩;unfold rgB;rw[Y1,Y1,Y1,n.sz,hR.sz];simp only[Z7,yCp,k.a.sz,k.b.sz,k.c.sz,k.d.sz,k.e.sz,k.f.sz,k.g.sz,o.sz,l.sz];rfl
def OB{t:Nat}{p:Rp}{k Rb:Nat->Bs}{d e:Bs}(f:t<=6)(ok:p.Ok)(i:∀j,(k j).size=33)(hR:∀j,(Rb j).size=33)(l:d.size=32)(g:e.size=32):kP t t (rgB t p k Rb d e):=by
 have c:∀(B:Nat->Bs),(∀j,(B j).size=33)->((YA t).map B).map Zm=YM t 33:=λB h=>yDc.2 ⟨by simp,λx hx=>by
  simp only[YC,Y4]at hx;obtain⟨b,⟨j,m,rfl⟩,rfl⟩:=hx;exact h j⟩
 refine⟨rfl,f,?_⟩;unfold rgB;rw[Y1,Y1,Y1,c k i,c Rb hR];simp only[Z7,yCp,ok.a,ok.s,ok.c,ok.d,cQ,l,g];rfl
def RgA.put{y t:Nat}{p:Rp}{d Rb:Nat->Bs}{k b:Bs}{e:XB}{W:XA}(h:RgA y t p d Rb k b e W)(w:0<t)(m:t<=6):cZ 22 #[e] W (rZ W λe W'=>∃v,e=.tuple #[v,iZ 0]/\Pt W' v (eZ t (rgB t p d Rb k b) (t+t+9))/\∃g c,v=sZ g (Zm (eZ t (rgB t p d Rb k b) (t+t+9))) c/\Zm (eZ t (rgB t p d Rb k b) (t+t+9))<=c):=by
 have u:=h.good m;obtain⟨q,s,z,A,B,rfl,f,i,-,v1,v2,x,o,n⟩:=h.rg w;apply(Q6 q W v1 v2 (X7 x) (X7 o) n oM oM).mono;rintro e W' ⟨r,⟨-,v,rfl,l⟩|⟨j,-⟩⟩
 .rw[f,i]at l;exact⟨_,rfl,r,v,rfl,l⟩
 .rw[f,i]at j;exact absurd u j
end
section
variable {n:Nat}{BB:List Bs}
def wK(h:kP n n BB){j:Nat}{b:Bs}(k:BB[j]? = some b):(fD n n)[j]? = some (Zm b):=by
 rw[<-h.2.2,YB,k];rfl
def lO(h:kP n n BB):BB.length=n+n+9:=by
 have:=congrArg List.length h.2.2;unfold fD at this;simp at this;omega
def sK(h:kP n n BB):∀i,i<=n+n+9->Zm (eZ n BB i)=offs n i
 | 0,_=>rfl
 | i+1,hi=>by
  have b:i<BB.length:=by rw[lO h];omega
  have k:=XO b;rw[lT n k,Yl,sK h i oM,lM (wK h k)]
def zO(i:Nat):∀m,i+m<=BB.length->∃r,eZ n BB (i+m)=eZ n BB i++r
 | 0,_=>⟨#[],by simp⟩
 | m+1,hm=>by
  obtain⟨r,b⟩:=zO i m oM;have k:=XO (show i+m<BB.length by omega);refine⟨r++BB[i+m],?_⟩;rw[<-ZB,lT n k,b,Array.append_assoc]
def OQ(h:kP n n BB){j:Nat}{b:Bs}(k:BB[j]? = some b):chk (eZ n BB (n+n+9)) n j=b:=by
 have d:=(XM.1 k).1;rw[lO h]at d;obtain⟨r,c⟩:=zO (n:=n) (BB:=BB) (j+1) (n+n+9-(j+1)) (by rw[lO h];omega);rw[show j+1+(n+n+9-(j+1))=n+n+9 by omega,lT n k]at c;have s1:=sK h j oM;have s2:=lM (wK h k);unfold chk;rw[c,s2,<-s1];apply Array.ext
 .simp
 .intro i e f;simp[Array.getElem_append]
def Mb(h:kP n n BB):(eZ n BB (n+n+9))[0]!.toNat=n/\Dq (eZ n BB (n+n+9)):=by
 have d:=h.2.1;obtain⟨r,c⟩:=zO (n:=n) (BB:=BB) 0 (n+n+9) (by rw[lO h];omega);rw[XI]at c;have k:=sK h (n+n+9) (XD _);rw[rP]at k;have b:(eZ n BB (n+n+9))[0]!.toNat=n:=by
  rw[c];have:(eZ n BB 0++r)[0]! = n.toUInt8:=by
   rw[show eZ n BB 0=#[n.toUInt8] from rfl,getElem!_pos _ 0 (by simp;omega),Array.getElem_append_left (by simp)];rfl
  rw[this];exact X6 oM
 exact⟨b,oM,oM,by rw[b];exact k⟩
end
section
open SPA
variable {P:Nat}[NeZero P]{N:Nat}[NeZero N]
structure PrT(T:Bs)(e:XB)(w:XA):Prop where
 cs:∃cs:List XB,Hid (.agg cs.toArray=e)/\cs.length=11/\cs.toArray.all (·.oneCell')=true
 put:∀(W1 W:XA) (k:Nat) (us vs:List XB),kZ w W1->Row W1 k (nZ :: vs)->Below (W1.setCells k 0 us).heap.size (W1.setCells k 0 us) W->cZ 22 #[e] W (rZ W λx W'=>∃g c,x=.tuple #[sZ g 623 c,iZ 0]/\623<=c/\g<W'.heap.size/\hZ W' g 0 T)
theorem pt_holds{W:XA}{g n c:Nat}{b:Bs}(h:Pt W (sZ g n c) b)(i:0<b.size):g<W.heap.size/\hZ W g 0 b:=by
 obtain⟨q,l,e,j|⟨m,o,d,f,k⟩⟩:=h
 .omega
 injection e with e1 e2 e3
 rw[d]at e1;injection e1 with e1
 injection e1 with e1 e4 e5
 subst e1 e4;exact⟨f,k⟩
omit [NeZero P] [NeZero N] in
theorem RgA.set0{l t k:Nat}{p:Rp}{D Rb:Nat->Bs}{v A:Bs}{e:XB}{W:XA}{us vs:List XB}(h:RgA l t p D Rb v A e W)(z:0<t)(w:Row W k (nZ :: vs)):RgA l t p D Rb v A e (W.setCells k 0 us):=by
 obtain⟨a,b,c,d,u,m,s,O,K,F,I,G,f,J,hR,M,H⟩:=h.ex;have kq:Kq (·≠k) W (W.setCells k 0 us):=Kq.set λg i=>i
 have el:∀ {m:Nat}{x:XB}{b:Bs},0<m->ElQ (λ_=>True) m W x b->ElQ (λ_=>True) m (W.setCells k 0 us) x b:=λL hx=>((hx.off L w).keep kq).mono2 λ_ _ _=>trivial
 have y:∀ {E:XB}{B:Nat->Bs},TlL (λ_=>True) l t W E B->TlL (λ_=>True) l t (W.setCells k 0 us) E B:=λhx=>by
  obtain⟨xs,o,C⟩:=hx.ex;obtain⟨g,c,rfl⟩:=mP o z;obtain⟨T,n,q⟩:=C 0 z;have R:=jI o n;have r:g≠k:=λe=>by
   subst e;have:=w.2.1 0 _ rfl;rw[XI,R]at this;obtain⟨Q,S,rfl,-⟩:=q;cases this
  refine⟨xs,bE o λQ i=>aE us 0 W Q (by injection i with i;rw[<-i];exact r),λj S=>?_⟩;obtain⟨x,n,q⟩:=C j S;exact⟨x,n,el dC q⟩
 exact⟨a,b,c,d,u,m,s,O,K,F,I,G,⟨el dC f.a,el dC f.b,el dC f.c,el dC f.d,el dC f.e,el dC f.f,el dC f.g⟩,y J,y hR,el dC M,el dC H⟩
end
section
open SPA
def UL:(prog.info? 5).map (λi=>(i.size,i.bytes,i.zero.map λz=>z.cells.size))=some (1,1,some 1):=kR
def TC:prog.underlying 23=some (.slice 5):=kR
def Tf{k g o c:Nat}{W:XA}{v:XB}{X Y:Bs}(q:W.ownsRow k 5 1 v X.size (bC X))(p:hZ W g o Y)(E:X.size+Y.size<=1000000)(r:k<=W.heap.size):
 ∃b W',(YG #[23,23] 23 #[v,qZ g o Y.size c]).run prog W=.ok b W'/\W'.ownsRow k 5 1 b (X++Y).size (bC (X++Y))/\W.grownBy W' v.ownBlock/\(b.ownBlock=v.ownBlock\/b.ownBlock=some W.heap.size):=by
 obtain⟨i,m,f⟩:=XE.1 UL;simp only[Ze.injEq]at f;obtain⟨s,y,C⟩:=f;obtain⟨z,l,d⟩:=XE.1 C;have B:∀(j:Nat) u,(bC Y)[j]? = some u->W.cell? ((⟨g,o,none⟩:Y0).add j)=some u:=λj u e=>by
  unfold bC at e;rw[YB]at e;obtain⟨x,hx,rfl⟩:=XE.1 e;rw[Array.getElem?_toList]at hx;have:=(X5.1 hx)
  rw[gI,(p j this.1).1,getElem!_pos Y j this.1,this.2];rfl
 obtain⟨b,W',D,n,t,-,A⟩:=run_append_own_at (P:=prog) (w:=W) k 23 23 5 i z 1 1 TC m l s y d (by decide) v X.size (bC X) q ⟨g,o,none⟩ Y.size c (bC Y) (by rw[uG,Z5]) B zU (by unfold maxLen;omega) (by omega) r;exact⟨b,W',D,by rw[Ml,Yl];exact n,t,A⟩
structure Wt(w W:XA)(v u:XB)(A B:Bs):Prop where
 bl:kZ w W
 oA:W.ownsRow w.heap.size 5 1 v A.size (bC A)
 oB:W.ownsRow w.heap.size 5 1 u B.size (bC B)
 ne:∀g,v.ownBlock=some g->u.ownBlock≠some g
section
variable {w W W':XA}{v u:XB}{A B:Bs}
def Wt.swap(h:Wt w W v u A B):Wt w W u v B A:=⟨h.bl,h.oB,h.oA,λg k b=>h.ne g b k⟩
def Wt.grow(h:Wt w W v u A B)(b:kZ W W'):Wt w W' v u A B:=⟨h.bl.trans (b.mono h.bl.size),bE h.oA λg k=>b.block g (bQ h.oA k).2.1,bE h.oB λg k=>b.block g (bQ h.oB k).2.1,h.ne⟩
def Wt.app{g o c:Nat}{Y:Bs}(h:Wt w W v u A B)(p:hZ W g o Y)(q:A.size+Y.size<=1000000):
 ∃f W',(YG #[23,23] 23 #[v,qZ g o Y.size c]).run prog W=.ok f W'/\Wt w W' f u (A++Y) B/\W.heap.size<=W'.heap.size/\∀k,k<W.heap.size->v.ownBlock≠some k->W'.heap[k]? = W.heap[k]?:=by
 obtain⟨f,W',r,n,i,m⟩:=Tf h.oA p q h.bl.size;refine⟨f,W',r,⟨h.bl.grown i h.bl.size λk b=>(bQ h.oA b).1,n,bE h.oB λk b=>i.block k (bQ h.oB b).2.1 (λe=>h.ne k e.symm b),λk d l=>?_⟩,i.size,λk b j=>i.block k b (λe=>j e.symm)⟩;rcases m with e|e
 .rw[e]at d;exact h.ne k d l
 .rw[e]at d;have:=(bQ h.oB l).2.1;injection d with d
  omega
end
section
variable {P:YJ}{ops:Array Yp}{Q:Exit->Act->XA->Prop}{p r:Nat}{J:Iv}{o:Yp}{a a':Act}{w w':XA}{fuel:Nat}{listed:Array Bool}{d:Option Zw}{x:XB}
def AW.nw(i:Nat){I:Sem XB}(hx:I.run P w=.ok x w')(b:J.p w->J.p w')(h:AW P ops Q p r J fuel (listed.setIfInBounds i true) a' w')(ho:ops[i]? = some o:=by(simp only[Yj,Yg,Yi])<;>rfl)(hd:o.dst=d:=by rfl)(f:o.guard=none:=by rfl)(c:Yh a.eval o=I >>= λv=>pure (Next.value v):=by kernel_rfl)
 (e:a.put d x=a':=by(simp only[Ym,XF,XJ,XL])<;>rfl) (g:Yu .any ops listed=[i]:=by kernel_rfl):AW P ops Q p r J (fuel+1) listed a w:=λk=>by
 subst e;exact anyS.ins ho hx (X7 (b k)) (h (b k)) g f c hd
end
section
variable {P:YJ}{ops:Array Yp}{Q:Exit->Act->XA->Prop}{a0:Act}{k:Nat}{o:Yp}{G:RG.Gw}
open RG
def gw_cv{f:ZQ}(j:Nat)(t:Zw)(c:Nat)(b:Zw){l:Array Yd}(hf:∀args W,(callFunc f args).run P W=.ok (.enter f args) W)(n:∀x W,G.R j x W->x=.func (.func f) #[] #[])(m:∀y W,G.R c y W->G.B W->YN P f #[y] W (rZ W λe W'=>G.R k e W'))(hd:((cO o j,aU ops j),(cO o c,aU ops c))=((true,some t),(true,some b)):=by kernel_rfl)(i:cJ [t,b] o=true:=by kernel_rfl)(ho:o.op=.call ⟨.value (.tmp t),#[.tmp b],l⟩:=by rfl)(g:t≠b:=by decide):bD P Q G.flow ops a0 k o:=
 fX λa W d=>⟨[(t,.func (.func f) #[] #[]),(b,a.eval (.tmp b))],f,#[a.eval (.tmp b)],⟨n _ W (d.n j t (congrArg (·.1.1) hd) (congrArg (·.1.2) hd)),rfl,yEZ⟩,by
  rw[show([(t,Value.func (.func f) #[] #[]),(b,a.eval (.tmp b))].map (·.1))=[t,b] from rfl,i]
  congr 1
  refine BV hf ho ?_ ?_
  .simp[evo,evl]
  .simp[evo,evl,g,Ne.symm g],m _ W (d.n c b (congrArg (·.2.1) hd) (congrArg (·.2.2) hd)) d.b⟩
end
end
section
section
variable {P:YJ}{ops:Array Yp}{Q:Exit->Act->XA->Prop}{a0:Act}{F:RG.Flow}{k:Nat}{o:Yp}
def OU(T:Yd)(s t:Zw)(ho:o.op=.slice T (.tmp s) none (some (.tmp t)) none)
 (h:∀(a:Act) (w:XA),PreF F ops a0 k o a w->∃v1 v2 v,a.eval (.tmp s)=v1/\a.eval (.tmp t)=v2/\(Zy T v1 none (some v2) none).run P w=.ok v w/\F.E k w w/\F.R k v w):bD P Q F ops a0 k o:=
 oH λa w e=>by
  obtain⟨v1,v2,v,c,d,b,hE,hR⟩:=h a w e;refine⟨v,w,?_,hE,hR⟩;unfold Yh;rw[ho];dsimp only[yEl];rw[c,d,X1,b];rfl
def OT(T:Yd)(s t:Zw)(ho:o.op=.slice T (.tmp s) (some (.tmp t)) none none)
 (h:∀(a:Act) (w:XA),PreF F ops a0 k o a w->∃v1 v2 v,a.eval (.tmp s)=v1/\a.eval (.tmp t)=v2/\(Zy T v1 (some v2) none none).run P w=.ok v w/\F.E k w w/\F.R k v w):bD P Q F ops a0 k o:=
 oH λa w e=>by
  obtain⟨v1,v2,v,c,d,b,hE,hR⟩:=h a w e;refine⟨v,w,?_,hE,hR⟩;unfold Yh;rw[ho];dsimp only[yEl];rw[c,d,X1,b];rfl
def IH(h:∀(a:Act) (w:XA),PreF F ops a0 k o a w->∃(b:List (Zw × XB)) (f:ZQ) (args:Array XB),AllE a b/\(cJ (b.map (·.1)) o,(Yh (evo (evl b)) o).run P w)=(true,.ok (.enter f args) w)/\YN P f args w (λe w'=>∃v,e=.returned v/\F.E k w w'/\F.R k v w')):bD P Q F ops a0 k o:=by
 intro a w K g i m l;obtain⟨b,f,args,d,c,j⟩:=h a w ⟨g,i,m⟩;simp only[Ze.injEq]at c;unfold Y3;rw[jE (evl b) (b.map (·.1)) c.1 d.ev,c.2,ZM];refine j.mono ?_;rintro e w' ⟨v,rfl,hE,hR⟩;exact l _ _ hE hR
def IG{T:Yd}(t u:Zw)(ho:o.op=.store T (.tmp t) (.tmp u))(hd:o.dst=none)(d:(P.info? T).map (·.size)=some 1)(h:∀(a:Act) (w:XA),PreF F ops a0 k o a w->∃g off v old,a.eval (.tmp t)=oZ g off/\a.eval (.tmp u)=v/\w.cell? ⟨g,off,none⟩=some old/\w.frozen? ⟨g,off,none⟩=false/\v.oneCell'=true/\v.cells=#[v]/\F.E k w (w.setCell ⟨g,off,none⟩ v)/\F.R k Zs (w.setCell ⟨g,off,none⟩ v)):bD P Q F ops a0 k o:=by
 intro a w K f j m l;obtain⟨g,off,v,old,b,i,e3,c,n,e,hE,hR⟩:=h a w ⟨f,j,m⟩;have:=l Zs _ hE hR;unfold Y3 Yh;rw[ho];dsimp only;rw[b,i,X1,xN e3 c n e d];show K (a.put o.dst Zs) _;exact this
end
def SU{s:SP.Bs}{k i j:Nat}(c:j<(chk s k i).size)(b:offs k i+j<s.size):(chk s k i)[j]! = s[offs k i+j]!:=by
 rw[getElem!_pos (chk s k i) j c,getElem!_pos s (offs k i+j) b];unfold chk at c⊢;rw[Array.getElem_extract]
def JW{w s W:XA}{p q d f i k:Nat}{vs:List XB}{CH:Nat->SP.Bs}(h:RdI w s W p q d (sZ f k k) (sZ i k k) (fU d f 0 k i 0 k) vs CH)(a:vs.length=k+k+9):∃cs:List XB,cs.length=11/\W.rangeAt d 0 cs/\∀v∈cs,v.oneCell'=true:=by
 have D:(fU d f 0 k i 0 k).length=k+k+9:=by
  rw[<-lI k k,<-tN d f 0 k i 0 k,XZ]
 have c:∀j,j<k+k+9->∃u,(∀x,(fU d f 0 k i 0 k)[j]? = some x->W.cell? x.1=some u)/\u.oneCell'=true:=λj b=>by
  obtain⟨u,l⟩:∃u,vs[j]? = some u:=⟨_,XO oM⟩
  exact⟨u,λx hx=>h.st j x u hx l,by rcases(h.ow j u l).own.2 with⟨e,-⟩|⟨g,cap,cur,e,-⟩<;>rw[e]<;>rfl⟩
 have two:∀j,j<2->∃u,W.cell? ⟨d,9+j,none⟩=some u/\u.oneCell'=true:=λj b=>by
  obtain⟨u,o,r⟩:=c (7+k+k+j) oM;obtain⟨x,hx⟩:∃x,(fU d f 0 k i 0 k)[7+k+k+j]? = some x:=⟨_,XO oM⟩
  rcases dN hx with⟨n,m⟩|⟨n,l,m⟩|⟨n,l,m⟩|⟨n,l,m⟩
  .omega
  .omega
  .omega
  .have:=o x hx;rw[m,show 7+k+k+j-7-k-k=j by omega]at this;exact⟨u,this,r⟩
 obtain⟨u0,a0,b0⟩:=c 0 oM;obtain⟨u1,y,b1⟩:=c 1 oM;obtain⟨u2,a2,C⟩:=c 2 oM;obtain⟨u3,n,B⟩:=c 3 oM;obtain⟨u4,z,F⟩:=c 4 oM;obtain⟨u5,o,A⟩:=c 5 oM;obtain⟨u6,t,G⟩:=c 6 oM;obtain⟨u9,r,E⟩:=two 0 oM;obtain⟨u10,l,m⟩:=two 1 oM;refine⟨[u0,u1,u2,u3,u4,u5,u6,sZ f k k,sZ i k k,u9,u10],rfl,λj u b=>?_,λv hv=>?_⟩
 .rw[XI];match j,b with
  | 0,b=>obtain rfl:=XX.inj b;exact a0 _ rfl
  | 1,b=>obtain rfl:=XX.inj b;exact y _ rfl
  | 2,b=>obtain rfl:=XX.inj b;exact a2 _ rfl
  | 3,b=>obtain rfl:=XX.inj b;exact n _ rfl
  | 4,b=>obtain rfl:=XX.inj b;exact z _ rfl
  | 5,b=>obtain rfl:=XX.inj b;exact o _ rfl
  | 6,b=>obtain rfl:=XX.inj b;exact t _ rfl
  | 7,b=>obtain rfl:=XX.inj b;exact h.c7
  | 8,b=>obtain rfl:=XX.inj b;exact h.c8
  | 9,b=>obtain rfl:=XX.inj b;exact r
  | 10,b=>obtain rfl:=XX.inj b;exact l
  | j+11,b=>simp at b
 .simp only[Y6,Yf,or_false]at hv;rcases hv with rfl|rfl|rfl|rfl|rfl|rfl|rfl|rfl|rfl|rfl|rfl<;>first|assumption|rfl
end
def TF:wZ 99:=wQ
def Pp:wZ 3:=wQ
def i22:gZ 23 1:=gQ
def Uq{cs:List XB}(h:∀v∈cs,v.oneCell'=true):cs.toArray.all (·.oneCell')=true:=Go.all_oneCell_toArray h
def JG(s:SP.Bs)(gi Y c:Nat)(hG:Dq s)(hs:s.size<=100000)(hc:s.size<=c)(h4:1<c)(w:XA)(hq:gi<w.heap.size)(hH:Holds SP.encB w gi Y s):
 cZ 106 #[qZ gi Y s.size c] w (RdR w s s[0]!.toNat):=by
 obtain⟨y,R⟩:=yH (w.alloc (.cells zR.toArray 66));have b1:kZ w y:=by rw[<-R.out];exact bG _ _
 have z1:y.heap.size=w.heap.size+1:=by rw[<-R.out,XP]
 have h9:y.heap[w.heap.size]? = some (.cells zR.toArray 66 (0,0)):=by rw[<-R.out];exact ZU
 have k8:=Hid.mkP b1;have hr:=Hid.mkP z1;have kp:=Hid.mkP h9;have HH:=Hid.mkP hH;obtain⟨n,hn⟩:∃n:Nat,Hid (n=s.size):=⟨_,rfl⟩
 obtain⟨k,hk⟩:∃k:Nat,Hid (k=s[0]!.toNat):=⟨_,rfl⟩
 rw[<-hk.out];rw[<-hn.out]at hs hc⊢;have h0:0<n:=by rw[hn.out];exact hG.1
 have Q:=(SP.Holds.below hH b1 hq 0 (by rw[<-hn.out];exact h0)).1;unfold SP.encB SP.ub at Q;rw[<-hk.out,Nat.add_zero]at Q;obtain⟨m,hm⟩:∃m,n=m+1:=⟨n-1,oM⟩
 have kr:=oM;rw[hm]at hc hs⊢;have Hm:Hid (s.size=m+1):=by rw[<-hn.out,hm];rfl
 have h6:k<=6:=by rw[hk.out];exact hG.2.1
 have ku:¬(6:Int)<(k:Int):=oM;have kd:=run_make_row' (P:=prog) 27 23 nZ 24 Fy Ow rfl .i64 .i64 k oM oM;have J:Hid (m+1=293+66*k):=by
  have:=hG.2.2;rw[<-hk.out,Hm.out]at this;exact this
 clear hm kr h0 hH b1 h9 z1;go_enter func106,ntmps106;go_wp2_with (first|(refine fC (v:=jZ w.heap.size) (w':=y) rfl (.alloc 66) rfl ?_ ?_;(rw[<-R.out];kernel_rfl))|fail)
 go_cut [5] (λs5 wx=>∃o r t,s5=jZ o/\Hid (R4 y wx o r t k))
 case first =>
  go_region
  all_goals (try go_wp2)
  all_goals (go_meet;first|(refine⟨_,y.heap.size,y.heap.size+1,rfl,(⟨(three).1,?_,?_,?_,?_,?_,?_,?_,?_,?_⟩:R4 _ _ _ _ _ _)⟩<;>first|(rw[(three).2.1];omega)|exact(three).2.2.1|exact(three).2.2.2.1|exact(three).2.2.2.2|omega)|(refine⟨_,y.heap.size,y.heap.size+1+1,rfl,(⟨(three).1,?_,?_,?_,?_,?_,?_,?_,?_,?_⟩:R4 _ _ _ _ _ _)⟩<;>first|(rw[(three).2.1];omega)|exact(three).2.2.1|exact(three).2.2.2.1|exact(three).2.2.2.2|omega)|(refine⟨_,y.heap.size+1,y.heap.size,rfl,(⟨(three).1,?_,?_,?_,?_,?_,?_,?_,?_,?_⟩:R4 _ _ _ _ _ _)⟩<;>first|(rw[(three).2.1];omega)|exact(three).2.2.1|exact(three).2.2.2.1|exact(three).2.2.2.2|omega)|(refine⟨_,y.heap.size+1,y.heap.size+1+1,rfl,(⟨(three).1,?_,?_,?_,?_,?_,?_,?_,?_,?_⟩:R4 _ _ _ _ _ _)⟩<;>first|(rw[(three).2.1];omega)|exact(three).2.2.1|exact(three).2.2.2.1|exact(three).2.2.2.2|omega)|(refine⟨_,y.heap.size+1+1,y.heap.size,rfl,(⟨(three).1,?_,?_,?_,?_,?_,?_,?_,?_,?_⟩:R4 _ _ _ _ _ _)⟩<;>first|(rw[(three).2.1];omega)|exact(three).2.2.1|exact(three).2.2.2.1|exact(three).2.2.2.2|omega)|(refine⟨_,y.heap.size+1+1,y.heap.size+1,rfl,(⟨(three).1,?_,?_,?_,?_,?_,?_,?_,?_,?_⟩:R4 _ _ _ _ _ _)⟩<;>first|(rw[(three).2.1];omega)|exact(three).2.2.1|exact(three).2.2.2.1|exact(three).2.2.2.2|omega))
 case rest =>
  obtain⟨o,r,t,rfl,Z⟩:=hcut;have c7:wc.cell? ⟨o,7,none⟩=some (sZ r k k):=by unfold YZ;rw[Z.out.hp];rfl
  have c8:wc.cell? ⟨o,8,none⟩=some (sZ t k k):=by unfold YZ;rw[Z.out.hp];rfl
  have hl:=Hid.mkP (Ay o ⟨some (aZ r),k,k⟩ ⟨some (aZ t),k,k⟩ r 0 t 0 wc Z.out.p1.2 c7 c8 (X7 rfl) (X7 rfl) (by show k<=_;omega) (by show k<=_;omega));have ko:=oM;have k9:=oM;have kg:=oM;have k6:=oM;go_wp2_with fail
  refine hl.out.mono ?_;rintro e X ⟨v3,rfl,g3⟩;obtain⟨N,h7,rfl,kl,ke⟩:=g3.lt;have S:=JY (CH:=chk s k) Z.out k8.out (oN hr.out) g3;have I:=Hid.mkP S.1;have I0:=Hid.mkP S.2;have hM:(fU o r 0 k t 0 k).length=k+k+9:=by
   rw[<-lI k k,<-tN o r 0 k t 0 k,XZ]
  have U:(uF o++lp r 0 k++lp t 0 k++endP o).length=k+k+9:=hM;have hw:Hid (∀W v,RdI w X W w.heap.size N o (sZ r k k) (sZ t k k) (fU o r 0 k t 0 k) v (chk s k)->∀i,i<k+k+9->∃bb z f,(fD k k)[i]? = some f/\(fU o r 0 k t 0 k)[i]? = some (⟨bb,z,none⟩,f)/\f<=33/\32<=f/\W.rangeAt N (i*2) [oZ bb z,iZ f]):=λW v E i hi=>by
   obtain⟨x,hx⟩:∃x,(fU o r 0 k t 0 k)[i]? = some x:=⟨_,XO oM⟩
   obtain⟨bb,z,l,-⟩:=I.out.ad i x hx;have G:(fD k k)[i]? = some x.2:=by rw[<-tN o r 0 k t 0 k,YB,hx];rfl
   have d:=YO G;have A:=g3.at i x hx;refine⟨bb,z,x.2,G,by rw[hx,<-l],F6 (n:=k) (m:=k) _ d,?_,λj u hj=>?_⟩
   .unfold fD at d;simp only[Y9,Y6,Yf,or_false,yB3]at d;omega
   .have e:=E.eq;have:W.cell? ⟨N,i*2+j,none⟩=X.cell? ⟨N,i*2+j,none⟩:=by unfold YZ;rw[e]
    rw[this,YK];exact A j u (by unfold pC;rw[l];exact hj)
  have k5:Hid (X.heap[w.heap.size]? = some (.cells zR.toArray 66 (0,0))):=by
   have:=hr.out;have d:=Z.out.bl.size;show _=_;rw[g3.bl.block w.heap.size oM,Z.out.bl.block w.heap.size oM];exact kp.out
  obtain⟨M,F⟩:=yH (k+k+9);rw[F.out]at hw U;rw[U];have kx:M<=21:=oN F.out;obtain⟨dP,kb,kj⟩:=XE.1 TI;obtain⟨C1,h8⟩:=vH (c-1);rw[h8];have km:1+C1=c:=oM;clear g3 hM U S hl kl ke kd h8 ko k9 kg k6;go_wp2;go_loopg [0,32] M (λgk s0 s32 wr=>∃(i off ad L C:Nat),i+gk=M/\s32=iZ i/\s0=qZ gi ad L C/\off+L=m+1/\off+C=c/\Hid (0<C->ad=Y+off)/\Hid (off=offs k i/\∃vs,vs.length=i/\RdI w X wr w.heap.size N o (sZ r k k) (sZ t k k) (fU o r 0 k t 0 k) vs (chk s k)))
  case atStart=>exact⟨0,1,Y+1,m,C1,oM,rfl,rfl,oM,km,λ_=>rfl,rfl,[],rfl,I0.out⟩
  case round =>
   clear I0;obtain⟨i,off,ad,L,C,hi,rfl,rfl,b2,kv,kk,K⟩:=hrel;by_cases hu:i<M
   .have hz:(i:Int)<(M:Int):=oM;have kw:=PZ N (n:=M) h7 (i:=i) hu;obtain⟨B,vs,D,E⟩:=K.out;obtain⟨bb,z,f,k1,k2,k3,ky,k4⟩:=hw.out _ _ E i hu;have K4:=Hid.mkP k4;obtain⟨l,H⟩:=yH (wr.alloc (.cells #[oZ bb z,iZ f] 101));have ba:kZ wr l:=by rw[<-H.out];exact bG _ _
    have za:l.heap.size=wr.heap.size+1:=by rw[<-H.out,XP]
    have a0:l.cell? ⟨wr.heap.size,0,none⟩=some (oZ bb z):=by rw[<-H.out];exact fG (w:=wr) (j:=0) rfl
    have a1:l.cell? ⟨wr.heap.size,1,none⟩=some (iZ f):=by rw[<-H.out];exact fG (w:=wr) (j:=1) rfl
    have T:Hid (RdI w X l w.heap.size N o (sZ r k k) (sZ t k k) (fU o r 0 k t 0 k) vs (chk s k)):=E.below I.out ba;have A:Hid (off=offs k i/\(fD k k)[i]? = some f/\(fU o r 0 k t 0 k)[vs.length]? = some (⟨bb,z,none⟩,f)/\vs.length=i/\bb<wr.heap.size/\l.heap.size=wr.heap.size+1):=by
     refine⟨B,k1,by rw[D];exact k2,D,?_,za⟩;obtain⟨O,d,e',p1,-⟩:=I.out.ad i _ k2;injection e' with e' _ _
     have:=E.sz;omega
    clear K k4 k2 k1 E ba za B D;have kz:¬L<f:=λ_=>by
     have Q:=J.out;have V:=Oh k (i+1);rw[CE,lM (n:=k) (j:=i) (k:=f) A.out.2.1]at V;have:=A.out.1;omega
    have ks:¬(L:Int)<(f:Int):=oM;have he:Hid (ad=Y+off):=kk.out oM;go_wp2_with (first|(refine YI rfl 101 _ rfl N (i*2) ?_ [oZ bb z,iZ f] dP ?_ ?_ ?_ ?_ ?_;rfl;exact K4.out;exact kb;exact kj;exact iPt;skip)|fail)
    rw[H.out];have G:(chk s k i).size=f:=by
     unfold chk;rw[lM (n:=k) (j:=i) (k:=f) A.out.2.1,Array.size_extract,Hm.out];have:=A.out.1;omega
    have HX:Hid (∀W,kZ l W->Holds SP.encB W gi ad (chk s k i)):=λW O j hj=>by
     have kn:kZ w W:=T.out.bl.trans (O.mono T.out.bl.size);have d:off+j<s.size:=by rw[Hm.out];omega
     have Q:=(SP.Holds.below HH.out kn hq) (off+j) d;rw[show Y+(off+j)=ad+j by have:=he.out;omega]at Q;have e:(chk s k i)[j]! = s[off+j]!:=by
      rw[A.out.1];exact SU (s:=s) (k:=k) (i:=i) (j:=j) hj (by rw[<-A.out.1];exact d)
     rw[e];exact Q
    have ka:=NB gi ad L C f oM;obtain⟨nx,ha,k0⟩:=NA gi ad L C f oM oM;have kh:Hid (0<C-f->nx=Y+(off+f)):=λh=>by have:=ha h;have:=he.out;omega
    clear ha;have ht:=Hid.mkP G;clear G;refine qV (FR l wr.heap.size bb z f gi ad L C nx (chk s k i)) kR ⟨kR,Dd ?_,λi j _ _ kf _ _ v w w' hE hR=>FR.stab (oN A.out.2.2.2.2) i j kf v w w' hE hR,λi b _ hk w w' hE hB=>FR.stabB (oN A.out.2.2.2.2) i b hk w w' hE hB⟩ (λb=>by
     match b with
     | 0=>exact(⟨rfl,rfl,rfl,XD _,λ_ _=>rfl⟩:kZ l l.drew)
     | _+1=>exact⟨a0,a1,oN A.out.2.2.2.2,XD _⟩) ?_
    .exact⟨lP λa W d=>⟨[(7,jZ wr.heap.size)],_,W,⟨d.o 7 kR,yEZ⟩,kR,XR _ _,rfl⟩,
      ES (T:=99) 42 rfl TF λa W d=>⟨wr.heap.size,0,oZ bb z,d.n 0 42 kR kR kR,(d.b 1 kR).1,XR _ _,rfl⟩,
      lP λa W d=>⟨[(0,qZ gi ad L C)],_,W,⟨d.o 0 kR,yEZ⟩,kR,XR _ _,rfl⟩,
      lP λa W d=>⟨[(7,jZ wr.heap.size)],_,W,⟨d.o 7 kR,yEZ⟩,kR,XR _ _,rfl⟩,
      ES (T:=3) 45 rfl Pp λa W d=>⟨wr.heap.size,1,iZ f,d.n 3 45 kR kR kR,(d.b 1 kR).2.1,XR _ _,rfl⟩,
      OU 23 44 46 rfl λa W d=>⟨_,_,_,d.n 2 44 kR kR kR,d.n 4 46 kR kR kR,ka W,XR _ _,rfl⟩,
      IH λa W d=>⟨[(47,qZ gi ad f C)],159,#[qZ gi ad f C],⟨d.n 5 47 kR kR kR,yEZ⟩,kR,by
       have O:kZ l W:=d.b 0 kR;have hc:=LS gi ad C (chk s k i) (by rw[ht.out];omega) W (by have Q:=T.out.bl.size;have V:=O.size;omega) (HX.out W O);rw[ht.out]at hc;refine hc.mono ?_;rintro e' W' ⟨v,rfl,Q,V⟩;refine⟨v,rfl,Q,?_⟩;have h3:=O.size;refine(⟨?_,V.nn⟩:FrC l.heap.size (chk s k i) v W');rcases V.own with⟨x0,x1|⟨g,cap,cur,x1,x2,x3⟩⟩
       .exact⟨x0,Ye x1⟩
       .exact⟨x0,X7 ⟨g,cap,cur,x1,oM,x3⟩⟩⟩,
      lP λa W d=>⟨[(0,qZ gi ad L C)],_,W,⟨d.o 0 kR,yEZ⟩,kR,XR _ _,rfl⟩,
      lP λa W d=>⟨[(7,jZ wr.heap.size)],_,W,⟨d.o 7 kR,yEZ⟩,kR,XR _ _,rfl⟩,
      ES (T:=3) 50 rfl Pp λa W d=>⟨wr.heap.size,1,iZ f,d.n 8 50 kR kR kR,(d.b 1 kR).2.1,XR _ _,rfl⟩,
      OT 23 49 51 rfl λa W d=>⟨_,_,_,d.n 7 49 kR kR kR,d.n 9 51 kR kR kR,k0 W,XR _ _,rfl⟩,
      lP λa W d=>⟨[(43,oZ bb z)],_,W,⟨d.n 1 43 kR kR kR,yEZ⟩,kR,XR _ _,rfl⟩,
      IG (T:=23) 53 48 rfl rfl i22 λa W d=>by
       have O:kZ l W:=d.b 0 kR;have hF:FrC l.heap.size (chk s k i) (a.eval (.tmp 48)) W:=d.n 6 48 kR kR kR;obtain⟨⟨old,k7⟩,kc⟩:=T.out.th _ _ A.out.2.2.1;have V:bb<l.heap.size:=oN A.out.2.2.2.2;obtain⟨q,c',hv⟩:=Ik hF.own;refine⟨bb,z,_,old,d.n 11 53 kR kR kR,rfl,?_,?_,by rw[hv];rfl,by rw[hv];rfl,⟨_,rfl⟩,?_⟩
       .rw[O.cell (p:=⟨bb,z,none⟩) V];exact k7
       .have:W.frozen? ⟨bb,z,none⟩=l.frozen? ⟨bb,z,none⟩:=by unfold Zk;rw[O.block bb V]
        rw[this];exact kc
       .refine(⟨_,IU O,⟨bE hF.own (λg hg=>?_),hF.nn⟩⟩:StR l bb z (chk s k i) _);have:=(bQ hF.own hg).1;rw[heap_set,yEY (by show bb≠g;omega)],
      mY 52 λa W d=>⟨a.eval (.tmp 52),W,kR,kR,XR _ _,d.n 10 52 kR kR kR⟩,yEZ⟩
    .intro V w5 hV hB;have hS:StR l bb z (chk s k i) w5:=hV 12 (Z6 (YL kR)) rfl;have hy:V 13=qZ gi nx (L-f) (C-f):=hV 13 (Z6 (YL kR)) rfl;obtain⟨v,d⟩:=T.out.step I.out A.out.2.2.1 (by rw[A.out.2.2.2.1];exact hS);have K5:Hid (off+f=offs k (i+1)/\∃vs,vs.length=i+1/\RdI w X w5 w.heap.size N o (sZ r k k) (sZ t k k) (fU o r 0 k t 0 k) vs (chk s k)):=by
      refine⟨by rw[lM (n:=k) (j:=i) (k:=f) A.out.2.1,A.out.1],_,?_,d⟩;rw[XK,A.out.2.2.2.1];rfl
     dsimp only[bW,YT];simp only[Ym,XF,XJ,XL];rw[hy];clear hV hB hS hy d T A HX;go_wp2;go_roundg (gk-1)
     case measure=>omega
     case rel=>exact⟨i+1,off+f,nx,L-f,C-f,oM,rfl,rfl,oM,oM,kh,K5⟩
   .have hz:=oM;obtain⟨B,vs,D,E⟩:=K.out;have kt:off=293+66*k:=by
     rw[B,show i=k+k+9 by have:=F.out;omega];exact rP (n:=k)
    have T:=Hid.mkP E;obtain rfl:L=0:=oN J.out;obtain⟨cs,l,A,h4⟩:=JW E (by rw[D];have:=F.out;omega);have G:=Hid.mkP (Ue (cs:=cs) (by rw[E.er];exact k5.out) l E.bl);have HC:=Hid.mkP A;have O:=Hid.mkP h4;have d:=Hid.mkP l;have KR:Hid (RdR w s k (.returned (.tuple #[.agg cs.toArray,iZ 0])) (wr.setCells w.heap.size 0 cs)):=X7 ⟨hG,G.out.2.2,X,wr,N,o,r,t,vs,cs,by rw[D];have:=F.out;omega,I.out,E,l,A,rfl,rfl⟩;obtain⟨dR,V,H⟩:=XE.1 uRg;go_wp2_with (first|(refine YI rfl 66 _ rfl o 0 ?_ cs dR ?_ ?_ ?_ ?_ ?_;rfl;exact HC.out;exact V;exact H;(rw[d.out];exact iRg);skip)|(refine Yk rfl 66 _ _ rfl w.heap.size 0 cs.toArray ?_ ?_ ?_ ?_ ?_ ?_;rfl;rfl;exact G.out.1;(rw[List.size_toArray,d.out];exact iRg);exact Uq O.out;rw[show cs.toArray.toList=cs from rfl])|fail)
    refine XN (qQ 2 3 (T:=66) rfl G.out.2.1 rfl rfl uRg (by rw[d.out];exact iRg)) rfl ?_;exact KR.out
def RdG(w:XA)(s:SP.Bs)(k:Nat)(e:Ending)(W:XA):Prop:=kZ w W/\∃(p:Rg) (d c:List XB) (B:Nat),e=.returned (.tuple #[.agg p.cs.toArray,iZ 0])/\VL W p.l.q p.l.n d/\VL W p.r.q p.r.n c/\p.l.n=k/\p.r.n=k/\(∀b o,p.l.q=some ⟨b,o,none⟩->0<k->w.heap.size<=b)/\(∀b o,p.r.q=some ⟨b,o,none⟩->0<k->w.heap.size<=b)/\w.heap.size<=B/\B<=W.heap.size/\(∀j,j<k+k+9->∃u,(qR p d c)[j]? = some u/\FrC B (chk s k j) u W)/\(∀(j f:Nat) u i g,j<f->(qR p d c)[j]? = some u->(qR p d c)[f]? = some i->u.ownBlock=some g->i.ownBlock≠some g)/\∃gl l,p.l.q=some (aZ gl)/\p.r.q=some (aZ l)
def Ma{W W':XA}{j g:Nat}(h:W'.heap[g]? = W.heap[g]?):W'.cell? ⟨g,j,none⟩=W.cell? ⟨g,j,none⟩/\W'.frozen? ⟨g,j,none⟩=W.frozen? ⟨g,j,none⟩:=by
 unfold YZ Zk;rw[h];exact⟨rfl,rfl⟩
def Js{vs:List XB}{k:Nat}(h:vs.length=k+k+9):∃hd d b c,vs=hd++d++b++c/\hd.length=7/\d.length=k/\b.length=k/\c.length=2:=by
 refine⟨vs.take 7,(vs.drop 7).take k,((vs.drop 7).drop k).take k,((vs.drop 7).drop k).drop k,?_,?_,?_,?_,?_⟩
 .rw[YP,yBL,YP,yBL,yBL]
 all_goals (simp only[List.length_take,List.length_drop];omega)
def len2:∀(l:List XB),l.length=2->∃b k,l=[b,k]
 | [b,k],_=>⟨b,k,rfl⟩
def WO:∀(l:List XB),l.length=7->∃c k b z3 d f e,l=[c,k,b,z3,d,f,e]
 | [c,k,b,z3,d,f,e],_=>⟨c,k,b,z3,d,f,e,rfl⟩
def UE:∀(l:List XB),l.length=11->∃e c d z3 f i g z7 j b k,l=[e,c,d,z3,f,i,g,z7,j,b,k]
 | [e,c,d,z3,f,i,g,z7,j,b,k],_=>⟨e,c,d,z3,f,i,g,z7,j,b,k,rfl⟩
def JV{w W:XA}{s:SP.Bs}{k:Nat}{e:Ending}(h:RdR w s k e W)(O:Dq s):RdG w s k e W:=by
 rcases h with⟨h,-⟩|⟨-,hb,w3,r,gq,G,D,F,vs,cs,hl,V,C,hc,hr,rfl,rfl⟩
 .exact absurd O h
 have hz:=V.r;have h4:=C.sz;have Z:∀b,b<r.heap.size->b≠w.heap.size->(r.setCells w.heap.size 0 cs).heap[b]? = r.heap[b]?:=λb A L=>yCH r _ 0 cs A L
 have hM:(fU G D 0 k F 0 k).length=k+k+9:=by rw[<-lI k k,<-tN G D 0 k F 0 k,XZ]
 have z:∀(j:Nat) u,vs[j]? = some u->∃x,(fU G D 0 k F 0 k)[j]? = some x/\r.cell? x.1=some u:=λj u l=>by
  obtain⟨x,hx⟩:∃x,(fU G D 0 k F 0 k)[j]? = some x:=⟨_,XO (oN ((XM.1 l).1))⟩
  exact⟨x,hx,C.st j x u hx l⟩
 have S:∀(j:Nat) u,vs[j]? = some u->∃t:Sv,u=t.v:=λj u l=>by
  obtain⟨q,c,hv⟩:∃q c,u=.slice q (Zm (chk s k j)) c:=by
   rcases(C.ow j u l).own with⟨-,⟨rfl,i⟩|⟨g,cap,cur,rfl,-⟩⟩
   .exact⟨none,0,by rw[i]⟩
   .exact⟨_,_,rfl⟩
  exact⟨⟨q,_,c⟩,hv⟩
 have hF:∀(j:Nat) u,vs[j]? = some u->FrC w3.heap.size (chk s k j) u (r.setCells w.heap.size 0 cs):=λj u l=>by
  have A:=C.ow j u l;exact⟨bE A.own (λg O=>Z g (bQ A.own O).2.1 (oN ((bQ A.own O).1))),A.nn⟩
 have U:=C.ne;have h3:=(below_setCells (B:=0) (b:=w.heap.size) (Zl _) cs 0 r (XR 0 r)).size;have M:∀(g T:Nat) (ys:List XB),ys.length=k->(∀j,j<k->∃u x,ys[j]? = some u/\vs[T+j]? = some u/\(fU G D 0 k F 0 k)[T+j]? = some x/\x.1=⟨g,j,none⟩)->VL (r.setCells w.heap.size 0 cs) (some (aZ g)) k ys/\(0<k->w.heap.size<=g):=λg T ys hn Q=>by
  refine⟨⟨hn,λe=>(by cases e),?_,λu l=>?_⟩,λK=>?_⟩
  .by_cases K:k=0
   .exact Ye (List.length_eq_zero_iff.1 oM)
   .obtain⟨u0,H,-,-,m,v⟩:=Q 0 oM;obtain⟨b,o,i,A,-,-,L,-⟩:=V.ad _ H m;rw[v]at i;injection i with i _ _
    subst i;refine X7 ⟨g,0,rfl,oM,λj u p=>?_⟩;obtain⟨I,N,n,E,P,J⟩:=Q j (oN ((XM.1 p).1));rw[p]at n;obtain rfl:=XX.inj n;rw[XI,(Ma (Z g oM L)).1,<-J];exact C.st _ N u P E
  .obtain⟨j,p⟩:=List.getElem?_of_mem l;obtain⟨I,N,n,E,-⟩:=Q j (oN ((XM.1 p).1));rw[p]at n;obtain rfl:=XX.inj n;obtain⟨t,rfl⟩:=S _ u E;rfl
  .obtain⟨u0,H,-,-,m,v⟩:=Q 0 K;obtain⟨b,o,i,A,L,-⟩:=V.ad _ H m;rw[v]at i;injection i with i _ _
   subst i;exact L
 obtain⟨hd,E,H,J,rfl,P,R,n3,n4⟩:=Js hl;have X:=M D 7 E R (λj p=>by
  obtain⟨u,l⟩:∃u,E[j]? = some u:=⟨_,XO oM⟩
  have hv:(hd++E++H++J)[7+j]? = some u:=by
   rw[YP,YP,XW oM,P,ZE,XY oM];exact l
  obtain⟨x,hx,-⟩:=z _ u hv;refine⟨u,x,l,hv,hx,?_⟩;rcases dN hx with⟨n,m⟩|⟨n,i,m⟩|⟨n,i,m⟩|⟨n,i,m⟩
  .omega
  .rw[m,ZE];congr 1;omega
  .omega
  .omega)
 have V2:=M F (7+k) H n3 (λj p=>by
  obtain⟨u,l⟩:∃u,H[j]? = some u:=⟨_,XO oM⟩
  have hv:(hd++E++H++J)[7+k+j]? = some u:=by
   rw[YP,XW (by rw[XK];omega),XK,P,R,ZE,XY oM];exact l
  obtain⟨x,hx,-⟩:=z _ u hv;refine⟨u,x,l,hv,hx,?_⟩;rcases dN hx with⟨n,m⟩|⟨n,i,m⟩|⟨n,i,m⟩|⟨n,i,m⟩
  .omega
  .omega
  .rw[m];congr 1;omega
  .omega)
 have Y:∀j,j<2->∀u,J[j]? = some u->r.cell? ⟨G,9+j,none⟩=some u/\∃t:Sv,u=t.v:=λj p u l=>by
  have hv:(hd++E++H++J)[7+k+k+j]? = some u:=by
   rw[XW (by rw[XK,XK];omega),XK,XK,P,R,n3,ZE];exact l
  refine⟨?_,S _ u hv⟩;obtain⟨x,hx,v⟩:=z _ u hv;rcases dN hx with⟨n,m⟩|⟨n,i,m⟩|⟨n,i,m⟩|⟨n,i,m⟩
  .omega
  .omega
  .omega
  .rw[m,show 7+k+k+j-7-k-k=j by omega]at v;exact v
 have I:∀j,j<7->∀u,hd[j]? = some u->r.cell? ⟨G,j,none⟩=some u/\∃t:Sv,u=t.v:=λj p u l=>by
  have hv:(hd++E++H++J)[j]? = some u:=by
   rw[YP,YP,XY oM];exact l
  refine⟨?_,S _ u hv⟩;obtain⟨x,hx,v⟩:=z _ u hv;rcases dN hx with⟨n,m⟩|⟨n,i,m⟩|⟨n,i,m⟩|⟨n,i,m⟩
  .rw[m]at v;exact v
  .omega
  .omega
  .omega
 have i:∀j u,cs[j]? = some u->r.cell? ⟨G,j,none⟩=some u:=λj u p=>by
  have:=hr j u p;rw[XI]at this;exact this
 have c7:=C.c7;have c8:=C.c8;obtain⟨v0,v1,v2,v3,v4,v5,v6,rfl⟩:=WO hd P;obtain⟨x,y,rfl⟩:=len2 J n4;obtain⟨z0,z1,z2,z3,z4,z5,z6,z7,z8,z9,m,rfl⟩:=UE cs hc;obtain⟨q0,a,rfl⟩:=I 0 oM v0 rfl;obtain⟨q1,b,rfl⟩:=I 1 oM v1 rfl;obtain⟨q2,c,rfl⟩:=I 2 oM v2 rfl;obtain⟨q3,d,rfl⟩:=I 3 oM v3 rfl;obtain⟨q4,e,rfl⟩:=I 4 oM v4 rfl;obtain⟨q5,f,rfl⟩:=I 5 oM v5 rfl;obtain⟨q6,g,rfl⟩:=I 6 oM v6 rfl;obtain⟨q9,N,rfl⟩:=Y 0 oM x rfl;obtain⟨n,v,rfl⟩:=Y 1 oM y rfl;obtain rfl:=XX.inj ((i 0 z0 rfl).symm.trans q0);obtain rfl:=XX.inj ((i 1 z1 rfl).symm.trans q1);obtain rfl:=XX.inj ((i 2 z2 rfl).symm.trans q2);obtain rfl:=XX.inj ((i 3 z3 rfl).symm.trans q3);obtain rfl:=XX.inj ((i 4 z4 rfl).symm.trans q4);obtain rfl:=XX.inj ((i 5 z5 rfl).symm.trans q5);obtain rfl:=XX.inj ((i 6 z6 rfl).symm.trans q6);obtain rfl:=XX.inj ((i 7 z7 rfl).symm.trans c7);obtain rfl:=XX.inj ((i 8 z8 rfl).symm.trans c8);obtain rfl:=XX.inj ((i 9 z9 rfl).symm.trans q9);obtain rfl:=XX.inj ((i 10 m rfl).symm.trans n);refine⟨hb,⟨a,b,c,d,e,f,g,⟨some (aZ D),k,k⟩,⟨some (aZ F),k,k⟩,N,v⟩,E,H,w3.heap.size,rfl,X.1,V2.1,rfl,rfl,λb o e K=>by injection e with e;injection e with e _ _;subst e;exact X.2 K,λb o e K=>by injection e with e;injection e with e _ _;subst e;exact V2.2 K,oM,oM,λj p=>?_,U,D,F,rfl,rfl⟩;obtain⟨u,l⟩:∃u,([a.v,b.v,c.v,d.v,e.v,f.v,g.v]++E++H++[N.v,v.v])[j]? = some u:=⟨_,XO oM⟩
 exact⟨u,l,hF j u l⟩
def wH{W:XA}{B:Nat}{v:XB}{b:SP.Bs}(h:W.ownsRow B 5 1 v b.size (bC b))(f:0<b.size):ElQ (B<=·) b.size W v b:=by
 rcases id h with⟨-,⟨-,e⟩|⟨g,cap,cur,rfl,c,d,k,-⟩⟩
 .omega
 .exact⟨g,cap,rfl,k,rfl,c,(bQ h rfl).2.1,Ei h⟩
structure RdB(B t:Nat)(BB:List SP.Bs)(e:XB)(W:XA):Prop where
 ex:∃(p:Rg) (l1 l2:List XB),e=.agg p.cs.toArray/\VL W p.l.q p.l.n l1/\VL W p.r.q p.r.n l2/\p.l.n=t/\p.r.n=t/\(∃gl gr,p.l.q=some (aZ gl)/\p.r.q=some (aZ gr)/\(0<t->B<=gl/\B<=gr))/\∀j,j<t+t+9->∃u b,(qR p l1 l2)[j]? = some u/\BB[j]? = some b/\ElQ (B<=·) b.size W u b
def JU{W:XA}{g o c t:Nat}{BB:List SP.Bs}(k:kP t t BB)(x:Pt W (qZ g o (Zm (eZ t BB (t+t+9))) c) (eZ t BB (t+t+9)))(w:Zm (eZ t BB (t+t+9))<=c):cZ 106 #[qZ g o (Zm (eZ t BB (t+t+9))) c] W (rZ W λe W'=>∃e',e=.tuple #[e',iZ 0]/\RdB W.heap.size t BB e' W'):=by
 have M:=k.2.1;have N:=lO k;have i:=sK k (t+t+9) (XD _);rw[rP]at i;obtain⟨d,hG⟩:=Mb k;have v:∀j b,BB[j]? = some b->chk (eZ t BB (t+t+9)) t j=b:=λj b=>OQ k
 generalize eZ t BB (t+t+9)=s at i d hG v x w;obtain⟨q,Q,e,h|⟨P,O,F,G,J⟩⟩:=x
 .omega
 injection e with e1 e2 e3
 rw[F]at e1;injection e1 with e1
 injection e1 with e1 e4 e5
 subst e1 e4;have:=JG s g o c hG oM w oM W G J;rw[d]at this;refine this.mono λe W' h=>?_
 obtain⟨C,p,H,A,B,rfl,v1,v2,I,z,L,E,D,-,y,-,gl,n,l,m⟩:=JV h hG;refine⟨_,rfl,C,_,rfl,⟨p,H,A,rfl,v1,v2,I,z,⟨gl,n,l,m,λd=>⟨L gl 0 l d,E n 0 m d⟩⟩,λj K=>?_⟩⟩;obtain⟨u,a,hf⟩:=y j K;have f:BB[j]? = some BB[j]:=XO oM;refine⟨u,_,a,f,?_⟩;have hf:=hf.own;rw[v j _ f]at hf;have r:=YO (wK k f);unfold fD at r;simp only[Y9,Y6,Yf,or_false,yB3]at r;exact(wH hf (by omega)).mono2 λg _ k=>XH D k
end Go.Proofs.YtlofhpkoaljmeaaGreat
