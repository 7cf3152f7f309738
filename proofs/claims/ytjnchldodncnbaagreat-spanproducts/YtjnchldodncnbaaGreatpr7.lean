import Derived.Lib.ConvBytes
import Derived.Laws.MathBits
import Derived.Deep.LoopGhost
import Derived.Laws.AppendOwn
import Derived.Deep.AppendSrc
import Derived.Lib.AppendZeros
import Derived.Deep.MidRow
import Derived.BigQuiet
import Derived.BigRegion
import Derived.Deep.RegionLaw
import Derived.Test.YtjnchldodncnbaaGreatpr6
set_option linter.unusedVariables false
set_option linter.constructorNameAsVariable false
set_option linter.unusedSimpArgs false
set_option maxRecDepth 1000000
set_option maxHeartbeats 4000000
namespace Go.Proofs.YtjnchldodncnbaaGreat
open _root_.And renaming intro->U8
open _root_.Array renaming getD_eq_getD_getElem?->TS,getElem?_eq_getElem->Uj,getElem?_eq_none->XD,getElem?_eq_some_iff->Uh,getElem?_replicate->VZ,getElem?_toList->UF,length_toList->TR,replicate->TP,size->ZQ,size_append->UA,size_replicate->TY,size_setIfInBounds->Up,toArray_toList->XT,toList_replicate->YK
open _root_.Bool renaming and_eq_true->T0,false_or->yBs,or_eq_true->Wu,true_or->Wz
open _root_.Go renaming Addr->V5,Calls->TW,Exit->YJ,FuncId->Xy,Oper->UI,Program->Vd,Tmp->Vn,TypeId->Uw,Value->TC,World->TA,bodyPost_ret->TM,execOp->UD,run_loadVar_mid->Z9,run_storeVar_mid->yAv,size_madeCells->ZK,undef->VU,wpList_load_mid->UL,wpList_plain->Xw,wpList_store_mid->Ui,wpOp_mono->Zh,wp_block->V3,wp_cond_false->UG,wp_cond_true->UC,wp_region_any->yBw,wp_ret->UZ,wp_seq->TI,wp_skip->Vg
open _root_.Go.Act renaming put->Ug
open _root_.Go.Addr renaming add->XI
open _root_.Go.Builtin renaming append_->Ur,nextslicecap->YC
open _root_.Go.Code renaming region->Vj
open _root_.Go.Instr renaming box->U6,indexAt->UP,makeSlice->VI,sliceAt->VP,storeAt->Yw,sureAddr->Yk
open _root_.Go.IntKind renaming i64->UR
open _root_.Go.Lib renaming bytesCells->WX,bytesWorld->Yt,bytesWorld_size->Zi,wpList_append_run->Vi
open _root_.Go.Next renaming value->Ww
open _root_.Go.Oper renaming wp->Vp
open _root_.Go.Region renaming binds->U7,ready->UN
open _root_.Go.Result renaming andThen_ok->UE
open _root_.Go.RowKit.Below renaming refl->TX
open _root_.Go.RowKit.Hid renaming out->ZX
open _root_.Go.Sem renaming run_bind->Ue,run_pure->VA
open _root_.Go.Value renaming agg->Um,ownBlock->VO,slice->V1
open _root_.Go.World renaming cell?->WN,cell?_of_block->Ua,freeze->YH,frozen?_of_block->UY,rangeAt_setCells_apart->UW,rangeAt_setCells_same->Vq,size_alloc->TQ,there_setCells->VM
open _root_.Int renaming natCast_mul->V0,tdiv_eq_ediv_of_nonneg->Wt,toNat_natCast->YB
open _root_.List renaming all_eq_true->Uo,any_eq_true->yAU,countP_replicate->YR,drop->Vx,drop_eq_getElem_cons->Yi,drop_length->Yy,eq_nil_iff_forall_not_mem->XN,getElem?_eq_getElem->TZ,length_append->TT,length_map->Uk,mem_append->WA,mem_map->UM,mem_range->U4,not_mem_nil->Ud,range->US,setIfInBounds_toArray->TD,set_cons_succ->TK,set_cons_zero->TL,take->Vw
open _root_.Nat renaming le_of_ble_eq_true->Va,le_refl->TG,le_trans->TU,lt_of_lt_of_le->TF,lt_of_succ_le->V8,lt_or_ge->Vo,lt_trichotomy->yAP,mod_eq_of_lt->Uf,mod_lt->Vm,mul_comm->Ut,mul_le_mul->VR,mul_le_mul_left->WJ,mul_pos->yAm,mul_succ->XV,not_lt_zero->VC,one_mul->V4,reduceAdd->UJ,succ_le_of_lt->yAM,zero_add->TO,zero_le->VH
open _root_.Option renaming isSome_iff_exists->UT,map_eq_some_iff->TJ,some->Uc
open _root_.Or renaming inl->Ub,inr->T8
open _root_.Prod renaming fst->ZI,mk->Vz,snd->ZH
open Go.Proofs.Tryz
section
open SPA
variable {P:Nat}[NeZero P]{N:Nat}[NeZero N]
structure Gd(N n c:Nat)(T:Nat->List (Nat × Bs))(g:Nat->OnP P):Prop where
 tl:∀i,i<n->Tl N (T i) (g i)
 len:∀i,i<n->(T i).length=c
section
variable (C:Fld P) (hord:∀r:EC.Pt P,EC.On r->EC.mul N r=none)
theorem Gd.fold{n c:Nat}{T:Nat->List (Nat × Bs)}{g:Nat->OnP P}(h:Gd N (n+n) c T g)(x y:Fin N):Gd N n (c+c) (lG N x.val y.val n T) ((aO C hord).fP x y n g):=
 ⟨λi k=>Mz C hord x y n h.tl i k,λi k=>Jl N x.val y.val n h.len i k⟩
theorem Gd.cmb{n c:Nat}{T:Nat->List (Nat × Bs)}{g:Nat->OnP P}(h:Gd N n c T g)(a:Nat->Fin N):Tl N (eW N (λi=>(a i).val) T n) ((aO C hord).dt a g n)/\(eW N (λi=>(a i).val) T n).length=c*n:=
 ⟨Fj C hord n h.tl,fB N _ n h.len⟩
omit [NeZero N] in
theorem Gd.low{n m c:Nat}{T:Nat->List (Nat × Bs)}{g:Nat->OnP P}(h:Gd N (n+m) c T g):Gd N n c T g:=⟨λi k=>h.tl i oM,λi k=>h.len i oM⟩
omit [NeZero N] in
theorem Gd.high{n m c:Nat}{T:Nat->List (Nat × Bs)}{g:Nat->OnP P}(h:Gd N (n+m) c T g):Gd N m c (λi=>T (n+i)) (λi=>g (n+i)):=⟨λi k=>h.tl (n+i) oM,λi k=>h.len (n+i) oM⟩
def Jb(N:Nat)(a b:Nat->Nat)(p:Nat)(G H:Nat->List (Nat × Bs))(U:List (Nat × Bs))(n:Nat):List (Nat × Bs):=eW N a G n++eW N b H n++U.map (tmT N p)
theorem Px{n c d:Nat}{G H:Nat->List (Nat × Bs)}{U:List (Nat × Bs)}{g h:Nat->OnP P}{u:OnP P}(e:Gd N n c G g)(k:Gd N n c H h)(f:Tl N U u)(hd:U.length=d)(a b:Nat->Fin N):
 Tl N (Jb N (λi=>(a i).val) (λi=>(b i).val) (Md.pr a b n).val G H U n) ((aO C hord).hd a b g h u n)/\(Jb N (λi=>(a i).val) (λi=>(b i).val) (Md.pr a b n).val G H U n).length=c*n+c*n+d:=by
 refine⟨((e.cmb C hord a).1.app C hord (k.cmb C hord b).1).app C hord (f.tm C hord _),?_⟩;unfold Jb;rw[TT,TT,Uk,fB N _ n e.len,fB N _ n k.len,hd]
end
end
section
open Go.RowKit Go.Sort Go.Deep
variable {P:Nat}[NeZero P]{N:Nat}
def BL(W:TA)(q:Option V5)(n:Nat)(X:Nat->List UInt8):Prop:=0<n->∃g,q=some (aZ g)/\g<W.heap.size/\∀i,i<n->∃a l c,W.cell? ⟨g,i,none⟩=some (.slice a l c)/\SP.PartOk W (.slice a l c) (X i)
structure Ar(w W:TA)(K e n i:Nat)(R:Nat->List TC):Prop where
 bl:Below w.heap.size w W
 lt:K<W.heap.size
 th:W.there K 0 (e*n)
 rw:∀j,j<i->W.rangeAt K (e*j) (R j)
theorem Ar.grow{w W W':TA}{K e n i:Nat}{R:Nat->List TC}(h:Ar w W K e n i R)(k:Below W.heap.size W W'):Ar w W' K e n i R:=
 ⟨h.bl.trans (k.mono h.bl.size),TF h.lt k.size,RG.eG h.th k h.lt,λj b=>RG.range_below (h.rw j b) k h.lt⟩
theorem Ar.put{w W:TA}{K e n i:Nat}{R:Nat->List TC}(h:Ar w W K e n i R)(d:w.heap.size<=K)(f:i<n)(b:∀j,j<=i->(R j).length=e):Ar w (W.setCells K (e*i) (R i)) K e n (i+1) R:=by
 refine⟨RG.below_setCells d _ _ _ h.bl,by rw[RG.setCells_size];exact h.lt,VM h.th _ _ _,λj l=>?_⟩;by_cases k:j=i
 ·subst k;refine Vq W K _ _ λt c=>?_
  rw[b j (TG _)]at c;have g:e*j+e<=e*n:=by
   have:=WJ e (yAM f);rwa[XV]at this
  have:=h.th (e*j+t) oM;rwa[TO]at this
 ·have g:e*j+e<=e*i:=by
   have:=WJ e (show j+1<=i by omega);rwa[XV]at this
  exact UW (h.rw j oM) K _ _ (T8 (Ub (by rw[b j oM];omega)))
theorem I0{T E:Uw}{e:Nat}(d:prog.underlying T=some (.slice E))(j:(prog.info? E).map (λi=>(i.size,decide (i.bytes<=4000),i.zero.isSome))=some (e,true,true))(n:Nat)(m:n<=512):∃C0:List TC,C0.length=e*n/\∀w:TA,(VI T (iZ n) (iZ n)).run prog w=.ok (.slice (some ⟨w.heap.size,0,none⟩) n n) (w.alloc (.cells C0.toArray E)):=by
 obtain⟨i,b,k⟩:=TJ.1 j;simp only[Vz.injEq,decide_eq_true_eq]at k;obtain⟨p,f,o⟩:=k;obtain⟨z,l⟩:=UT.1 o;refine⟨(madeCells z.cells (n*e)).toList,by rw[TR,ZK,Ut],λw=>?_⟩;have g:(i.bytes:Int)*(n:Int)<=281474976710656:=by
  have:i.bytes*n<=4000*512:=VR f m;have c:((i.bytes*n:Nat):Int)<=281474976710656:=oM;rwa[V0]at c
 have:=run_make (P:=prog) w T E i z d b l .i64 .i64 (n:Int) (n:Int) oM oM g oM;rw[YB,p]at this;rw[XT];exact this
theorem Ar.new{w k:TA}{K e n:Nat}{C0:List TC}{E:Uw}(R:Nat->List TC)(g:C0.length=e*n)(b:w.alloc (.cells C0.toArray E)=k)(f:w.heap.size=K):Ar w k K e n 0 R:=by
 subst f;have c:Row k w.heap.size C0:=by rw[<-b];exact aE w _ _
 exact⟨by rw[<-b];exact aD _ _,c.1,by rw[<-g];exact c.2.2,λj d=>absurd d (VC _)⟩
theorem CS(O:Ord N)(r:Nat)(L:Bs)(k:ByteArray)(w:TA)(n:k.size<=1048576)(x:Holds encB w r 0 L)(K:L.size=32):
 TW prog 155 #[.agg #[pZ r],.string k] w (Ret λe w'=>SP.Only r 0 32 w w'/\Holds encB w' r 0 (SP.mD L k.data.toList)/\e=nv (qO N (SP.t7 L k.data.toList 64))):=by
 obtain⟨A,B⟩:=hE (SP.t7 L k.data.toList 64);obtain⟨q,b⟩:∃q,Hid (SP.mD L k.data.toList=q):=⟨_,rfl⟩
 rw[b.out];have H:q.size=32:=by rw[<-b.out];exact SP.fR _ _
 have u:A.size=64:=by rw[<-B.out];exact SP.zG _ _ _
 rw[B.out];have t:=Holds.lt x oM;obtain⟨g,f⟩:∃g,Hid ((w.alloc (.cells #[pZ r] 62)).alloc (.cells #[uZ 0,uZ 0,uZ 0,uZ 0] 46)=g):=⟨_,rfl⟩
 have C:Hid (Row g (w.heap.size+1) [uZ 0,uZ 0,uZ 0,uZ 0]/\Below w.heap.size w g/\Holds encB g r 0 L):=by
  rw[<-f.out];have c:Below w.heap.size w ((w.alloc (.cells #[pZ r] 62)).alloc (.cells #[uZ 0,uZ 0,uZ 0,uZ 0] 46)):=(aD w _).alloc (by rw[TQ];omega) _;have d:=aE (w.alloc (.cells #[pZ r] 62)) [uZ 0,uZ 0,uZ 0,uZ 0] 46;rw[TQ]at d;exact⟨d,c,Holds.below x c t⟩
 clear x;go_enter func155,ntmps155;go_wp2_with fail
 rw[f.out];clear f;refine(SP.Na r L k 64 g n dC C.2.2 K).mono ?_;rintro e J ⟨I,rfl,P,E,c,o⟩;rw[B.out]at o;rw[b.out]at c;have D:=Holds.lt c oM;have i:=mk4 (C.1.only E oM) ((SP.Only.of_below C.2.1 rfl t).trans E) o c;go_wp2_with fail
 refine(Gm O I A u J (Holds.lt i.2.2.1 oM) i.2.2.1).mono ?_;rintro e F ⟨v,rfl,d,rfl⟩;have s:=mk3 (i.1.below d) (i.2.1.trans (SP.Only.of_below d rfl (TF t i.2.1.size))) (Holds.below i.2.2.2 d D);obtain⟨m,G⟩:=hE (qO N A);rw[G.out];obtain⟨y,l⟩:=hE (F.setCells (w.heap.size+1) 0 (wn m));have z:Hid (Row y (w.heap.size+1) (wn m)/\SP.Only r 0 32 w y/\Holds encB y r 0 q):=by
  rw[<-l.out];refine⟨s.1.put rfl,cE s.2.1 t oM _,λj p=>?_⟩;have e:=RG.aG (w.heap.size+1) (wn m) 0 F r oM;rw[Ua (a:=⟨r,0+j,none⟩) e,UY (a:=⟨r,0+j,none⟩) e];exact s.2.2 j p
 obtain⟨M,p⟩:=hE (nv m);rw[p.out];go_wp2_with (refine Ui rfl 46 _ _ rfl (w.heap.size+1) 0 (wn m).toArray ?_ ?_ ?_ ?_ ?_ ?_;rfl;exact p.symm;exact s.1.2.2;exact i40;exact bT m;rw[show(wn m).toArray.toList=wn m from rfl,l.out])
 refine TM (aL 4 46 rfl z.1 rfl u40 i40) rfl ?_;exact⟨_,rfl,z.2.1,z.2.2,by rw[G.out];rfl⟩
theorem aN{W W':TA}{k:Nat}{vs:List TC}(h:Row W k vs)(c:W.heap.size<=W'.heap.size)(e:W'.heap[k]? = W.heap[k]?):Row W' k vs:=
 ⟨TF h.1 c,λj v b=>by rw[Ua (a:=⟨k,0+j,none⟩) e];exact h.2.1 j v b,λj b=>by rw[Ua (a:=⟨k,0+j,none⟩) e,UY (a:=⟨k,0+j,none⟩) e];exact h.2.2 j b⟩
structure Wk(w W:TA)(k7 r:Nat)(L:Bs):Prop where
 bl:Below w.heap.size w W
 r7:Row W k7 [pZ r]
 lg:Holds encB W r 0 L
 lr:w.heap.size<=r
 n7:k7≠r
theorem uS4:prog.underlying 39=some (.slice 46):=kR
theorem iS4:(prog.info? 46).map (λi=>(i.size,decide (i.bytes<=4000),i.zero.isSome))=some (4,true,true):=kR
end
section
open Go.RowKit Go.Sort Go.Deep
variable {Q Q':Nat->Prop}{W W':TA}{v:TC}{l:List (Nat × Bs)}{n:Nat}
structure Kq(Q:Nat->Prop)(W W':TA):Prop where
 size:W.heap.size<=W'.heap.size
 block:∀g,Q g->g<W.heap.size->W'.heap[g]? = W.heap[g]?
theorem Kq.of_below(k:Below W.heap.size W W'):Kq Q W W':=⟨k.size,λg _ h=>k.block g h⟩
theorem Kq.of_only{r o m:Nat}(k:SP.Only r o m W W')(d:∀g,Q g->g≠r):Kq Q W W':=⟨k.size,λg c b=>k.block g b (d g c)⟩
theorem Kq.range{g o:Nat}{vs:List TC}(h:Kq Q W W')(d:Q g)(c:g<W.heap.size)(b:W.rangeAt g o vs):W'.rangeAt g o vs:=λj v k=>by
 rw[Ua (a:=⟨g,o+j,none⟩) (h.block g d c)];exact b j v k
theorem Kq.cell{g o:Nat}{x:TC}(h:Kq Q W W')(c:Q g)(b:g<W.heap.size)(k:W.cell? ⟨g,o,none⟩=some x):W'.cell? ⟨g,o,none⟩=some x:=by
 rw[Ua (a:=⟨g,o,none⟩) (h.block g c b)];exact k
def SmQ(Q:Nat->Prop)(W:TA)(v:TC)(l:List (Nat × Bs)):Prop:=∃g c,v=.slice (some (aZ g)) l.length c/\l.length<=c/\Q g/\g<W.heap.size/\W.rangeAt g 0 (aU l)
theorem SmQ.sm(h:SmQ Q W v l):Sm 0 W v l:=by
 obtain⟨g,c,d,k,-,b⟩:=h;exact⟨g,c,d,k,VH _,b⟩
theorem Sm.q{B:Nat}(h:Sm B W v l):SmQ (B<=·) W v l:=h
theorem SmQ.mono(h:SmQ Q W v l)(f:∀g,Q g->Q' g):SmQ Q' W v l:=by
 obtain⟨g,c,e,b,d,k⟩:=h;exact⟨g,c,e,b,f g d,k⟩
theorem SmQ.keep(h:SmQ Q W v l)(d:Kq Q W W'):SmQ Q W' v l:=by
 obtain⟨g,c,f,e,b,k,i⟩:=h;exact⟨g,c,f,e,b,TF k d.size,d.range b k i⟩
def SLq(Q:Nat->Prop)(W:TA)(v:TC)(n:Nat)(a:Nat->Nat):Prop:=∃g o c,v=.slice (some ⟨g,o,none⟩) n c/\n<=c/\Q g/\g<W.heap.size/\∀j,j<n->W.rangeAt g (o+4*j) (wn (a j))
theorem SLq.mono{a:Nat->Nat}(h:SLq Q W v n a)(f:∀g,Q g->Q' g):SLq Q' W v n a:=by
 obtain⟨g,o,c,e,b,d,k⟩:=h;exact⟨g,o,c,e,b,f g d,k⟩
theorem SLq.keep{a:Nat->Nat}(h:SLq Q W v n a)(d:Kq Q W W'):SLq Q W' v n a:=by
 obtain⟨g,o,c,i,f,b,k,l⟩:=h;exact⟨g,o,c,i,f,b,TF k d.size,λj e=>d.range b k (l j e)⟩
def GLq(Q:Nat->Prop)(W:TA)(v:TC)(n:Nat)(T:Nat->List (Nat × Bs)):Prop:=∃g o c,v=.slice (some ⟨g,o,none⟩) n c/\n<=c/\Q g/\g<W.heap.size/\∀j,j<n->∃x,W.cell? ⟨g,o+j,none⟩=some x/\SmQ Q W x (T j)
theorem GLq.mono{T:Nat->List (Nat × Bs)}(h:GLq Q W v n T)(k:∀g,Q g->Q' g):GLq Q' W v n T:=by
 obtain⟨g,o,c,l,d,f,b,p⟩:=h;refine⟨g,o,c,l,d,k g f,b,λj e=>?_⟩;obtain⟨x,m,i⟩:=p j e;exact⟨x,m,i.mono k⟩
theorem GLq.keep{T:Nat->List (Nat × Bs)}(h:GLq Q W v n T)(k:Kq Q W W'):GLq Q W' v n T:=by
 obtain⟨g,o,c,l,e,d,b,p⟩:=h;refine⟨g,o,c,l,e,d,TF b k.size,λj f=>?_⟩;obtain⟨x,m,i⟩:=p j f;exact⟨x,k.cell d b m,i.keep k⟩
structure GRq(Q:Nat->Prop)(W:TA)(v:TC)(n:Nat)(G H:Nat->List (Nat × Bs))(U:List (Nat × Bs)):Prop where
 ex:∃vg vh vu,v=.agg #[vg,vh,vu]/\GLq Q W vg n G/\GLq Q W vh n H/\SmQ Q W vu U
theorem GRq.mono{G H:Nat->List (Nat × Bs)}{U:List (Nat × Bs)}(h:GRq Q W v n G H U)(k:∀g,Q g->Q' g):GRq Q' W v n G H U:=by
 obtain⟨c,f,j,i,d,e,b⟩:=h.ex;exact⟨c,f,j,i,d.mono k,e.mono k,b.mono k⟩
theorem GRq.keep{G H:Nat->List (Nat × Bs)}{U:List (Nat × Bs)}(h:GRq Q W v n G H U)(k:Kq Q W W'):GRq Q W' v n G H U:=by
 obtain⟨c,f,i,g,d,e,b⟩:=h.ex;exact⟨c,f,i,g,d.keep k,e.keep k,b.keep k⟩
structure TOk(N:Nat)(l:List (Nat × Bs)):Prop where
 sz:∀x∈l,x.2.size=33
 lt:∀x∈l,x.1<N
theorem TOk.szm{N:Nat}(h:TOk N l):∀x∈l.map (·.2),x.size=33:=λx b=>by
 obtain⟨y,k,rfl⟩:=UM.1 b;exact h.sz y k
theorem TOk.app{N:Nat}{m:List (Nat × Bs)}(h:TOk N l)(k:TOk N m):TOk N (l++m):=⟨λx b=>(WA.1 b).elim (h.sz x) (k.sz x),λx b=>(WA.1 b).elim (h.lt x) (k.lt x)⟩
theorem TOk.tm{N:Nat}(d:0<N)(h:TOk N l)(k:Nat):TOk N (l.map (tmT N k)):=⟨λx b=>by
 obtain⟨y,c,rfl⟩:=UM.1 b;exact h.sz y c,λx b=>by
 obtain⟨y,c,rfl⟩:=UM.1 b;exact Vm _ d⟩
theorem TOk.nil{N:Nat}:TOk N []:=⟨λ_ h=>(Ud h).elim,λ_ h=>(Ud h).elim⟩
theorem Tl.ok{P:Nat}[NeZero P]{N:Nat}{X:OnP P}(h:Tl N l X):TOk N l:=⟨λx k=>by
 obtain⟨X,-,e⟩:=h.pts x k;rw[e];exact bX _,h.lt⟩
theorem oJ{N:Nat}(k:0<N){a:Nat->Nat}{T:Nat->List (Nat × Bs)}:∀n,(∀i,i<n->TOk N (T i))->TOk N (eW N a T n)
 | 0,_=>TOk.nil
 | n+1,h=>(oJ k n λi b=>h i oM).app ((h n oM).tm k _)
end
namespace RG
open Go Go.RowKit
variable {P:Vd}{ops:Array UI}{Q:YJ->Act->TA->Prop}{w:TA}{a0:Act}{F:Flow}
def chain(k:Array UI)(n:Nat):Bool:=(US k.size).all (λi=>decide (i<n) || (US i).all (λj=>depOn k i j))
theorem y9{n i j:Nat}(h:chain ops n=true)(d:n<=i)(b:i<ops.size)(c:j<i):depOn ops i j=true:=by
 have k:=Uo.1 h i (U4.2 b);rw[Wu,decide_eq_true_eq]at k;rcases k with k|k
 ·omega
 ·exact Uo.1 k j (U4.2 c)
theorem jF{L:Array Bool}{i j:Nat}{o:UI}(ho:ops[i]? = some o)(k:∀e∈o.after,U7 .any e=true->on L e.on=true)(b:depOn ops i j=true):on L j=true:=by
 unfold depOn at b;rw[ho]at b;obtain⟨e,d,c⟩:=Array.any_eq_true'.1 b;simp only[T0,beq_iff_eq]at c;have:=k e d c.1;rw[c.2]at this;exact this
theorem Hu{n:Nat}(B:chain ops n=true)(v:∀(i:Nat) (o:UI),ops[i]? = some o->∀e∈o.after,U7 .any e=true->e.on<i):∀(c:Nat) (L:Array Bool) (a:Act) (w:TA) (m:Nat),n<=m->m<=ops.size->L.size=ops.size->(∀j,on L j=true↔j<m)->unl L=c->wpList P ops Q (ops.toList.drop m) a w->wpAny P .any ops Q c L a w:=by
 intro c;induction c with
 | zero =>
  intro L a w m x u t k A h;have q:m=ops.size:=by
   rcases Vo m ops.size with d|d
   ·have:=jJ A m oM;rw[k]at this;omega
   ·omega
  rw[q,<-TR,Yy]at h;refine⟨?_,h⟩;apply XN.2;intro i r;obtain⟨d,o,ho,-⟩:=mem_ready.1 r;have f:=(k i).2 (by rw[q];exact(Uh.1 ho).1);unfold on at f;rw[TS]at d f;cases l:L[i]? with
  | none=>rw[l]at d;cases d
  | some b=>rw[l]at d f;rw[show b=false from d]at f;cases f
 | succ c ih =>
  intro L a w m x u t k A h;have s:∀i,i∈UN .any ops L->i=m:=λi r=>by
   obtain⟨d,o,ho,p⟩:=mem_ready.1 r;have g:on L i=false:=by
    unfold on;rw[TS]at d⊢;cases l:L[i]? with
    | none=>rfl
    | some b=>rw[l]at d;exact d
   have l:=(Uh.1 ho).1;rcases yAP i m with f|f|f
   ·rw[(k i).2 f]at g;cases g
   ·exact f
   ·have:=(k m).1 (jF ho p (y9 B oM l f));omega
  refine⟨λD=>?_,λi r=>?_⟩
  ·rcases Vo m ops.size with d|d
   ·exfalso;have ho:ops[m]? = some ops[m]:=Uj _;have g:on L m=false:=by
     cases y:on L m with
     | false=>rfl
     | true=>have:=(k m).1 y;omega
    have:m∈UN .any ops L:=mem_ready.2 ⟨?_,_,ho,λe z y=>(k e.on).2 (v m _ ho e z y)⟩
    ·rw[D]at this;cases this
    ·unfold on at g;rw[TS,Uj (by rw[t];exact d)]at g⊢;exact g
   ·have q:m=ops.size:=oM;rw[q,<-TR,Yy]at h;exact h
  ·obtain rfl:=s i r;obtain⟨d,o,ho,p⟩:=mem_ready.1 r;have l:=(Uh.1 ho).1;have q:ops.toList.drop i=o :: ops.toList.drop (i+1):=by
    rw[Yi (by rw[TR];exact l)];have:ops.toList[i]? = some o:=by rw[UF];exact ho
    rw[TZ (by rw[TR];exact l)]at this;rw[Uc.inj this]
   rw[q]at h;have y:wpOp P ops Q i (λz w'=>wpList P ops Q (ops.toList.drop (i+1)) z w') a w:=by
    unfold wpOp;rw[ho];exact h
   refine Zh (λz w' C=>ih _ z w' (i+1) oM oM (by rw[Up];exact t) (λj=>?_) (by have:=lK d;omega) C) y;rw[eI (by rw[t];omega)];constructor
   ·intro g;rw[Wu]at g;rcases g with g|g
    ·have:=(k j).1 g;omega
    ·have:i=j:=by simpa using g
     omega
   ·intro g;by_cases f:j<i
    ·rw[(k j).2 f,Wz]
    ·rw[show j=i by omega];simp
theorem GP{id:Nat}(F:Flow)(n:Nat)(I:n<ops.size)(z:chain ops n=true)(D:P.follows .mixedOrders=true)(R:RegF P Q F ops a0 n)(B:∀b,F.B b w.drew)
 (C:∀(V:Nat->TC) (w':TA),(∀i,i<n->F.kill i=[]->F.R i (V i) w')->(∀b,F.killB b=[]->F.B b w')->wpList P ops Q (ops.toList.drop n) (bW V (ops.toList.take n) 0 a0) w'):(Vj id ops true).wp P Q a0 w:=by
 have s:∀(i:Nat) (o:UI),ops[i]? = some o->∀e∈o.after,U7 .any e=true->e.on<i:=λi o ho=>(R.of ho).1
 have key:∀(c:Nat) (L:Array Bool) (a:Act) (w:TA),unl L=c->(∀j,n<=j->on L j=false)->InvF F ops a0 L a w->wpAny P .any ops Q c L a w:=by
  intro c;induction c with
  | zero =>
   intro L a w u k p;have:=jJ u n (by rw[p.size];omega);rw[k n (TG _)]at this;cases this
  | succ c ih =>
   intro L a w u k p;by_cases f:∀j,j<n->on L j=true
   ·have m:∀j,on L j=true↔j<n:=λj=>⟨λg=>(by
     rcases Vo j n with h|h
     ·exact h
     ·rw[k j h]at g;cases g),f j⟩
    obtain⟨V,v,t⟩:=p.all;have E:=p.act R oM m v;have r:∀l:List Nat,l=[]->∀x∈l,on L x=false:=λl G x y=>by rw[G]at y;cases y
    have q:=C V w (λj g H=>t j (f j g) (r _ H)) (λb A=>p.base b (r _ A));rw[<-E]at q;exact Hu z s _ L a w n (TG _) oM p.size m u q
   ·refine⟨λC=>?_,λi A=>?_⟩
    ·exact absurd (λj g=>p.full R C j oM) f
    ·obtain⟨r,o,ho,m⟩:=mem_ready.1 A;have q:i<ops.size:=(Uh.1 ho).1;have t:on L i=false:=by
      unfold on;rw[TS]at r⊢;cases v:L[i]? with
      | none=>rfl
      | some b=>rw[v]at r;exact r
     have y:i<n:=by
      rcases Vo i n with h|h
      ·exact h
      ·exact absurd (λj g=>jF ho m (y9 z h q oM)) f
     refine Zh (λE w' v=>ih _ E w' (by have:=lK r;omega) (λj g=>?_) v) (A9 R y (λj g=>?_) ho t m p)
     ·rw[eI (by rw[p.size];exact q),k j g];simp only[yBs,beq_eq_false_iff_ne];omega
     ·rcases Vo j n with h|h
      ·exact h
      ·rw[k j h]at g;cases g
 have k:∀i,on (TP ops.size false) i=false:=λi=>by
  unfold on;rw[TS,VZ];by_cases h:i<ops.size
  ·rw[yB3 h];rfl
  ·rw[yB4 h];rfl
 refine yBw D (key _ _ a0 _ ?_ (λj _=>k j) ⟨TY,(λi o _ h=>by rw[k]at h;cases h),rfl,rfl,λ_ _=>rfl,⟨λ_=>VU,λi d h=>(by rw[k]at h;cases h),λi h=>(by rw[k]at h;cases h)⟩,λb _=>B b⟩);unfold unl;rw[YK,YR];simp
theorem DV{id:Nat}(F:Flow)(n:Nat)(A:n<=ops.size)(R:RegF P Q F ops a0 n)(B:∀b,F.B b w)
 (u:∀(V:Nat->TC) (w':TA),(∀i,i<n->F.kill i=[]->F.R i (V i) w')->(∀b,F.killB b=[]->F.B b w')->wpList P ops Q (ops.toList.drop n) (bW V (ops.toList.take n) 0 a0) w'):(Vj id ops false).wp P Q a0 w:=by
 refine wp_region_list ?_;have t:∀(i:Nat) (o:UI),ops[i]? = some o->∀e∈o.after,U7 .any e=true->e.on<i:=λi o ho=>(R.of ho).1
 have key:∀(d m:Nat) (L:Array Bool) (a:Act) (w:TA),m+d=n->(∀j,on L j=true↔j<m)->InvF F ops a0 L a w->wpList P ops Q (ops.toList.drop m) a w:=by
  intro d;induction d with
  | zero =>
   intro m L a w y k q;obtain rfl:m=n:=oM;obtain⟨V,p,g⟩:=q.all;have v:=q.act R A k p;have c:∀l:List Nat,l=[]->∀x∈l,on L x=false:=λl z x s=>by rw[z]at s;cases s
   rw[v];exact u V w (λj f C=>g j ((k j).2 f) (c _ C)) (λb r=>q.base b (c _ r))
  | succ d ih =>
   intro m L a w y k q;have s:m<ops.size:=oM;have ho:ops[m]? = some ops[m]:=Uj _;have c:on L m=false:=by
    cases r:on L m with
    | false=>rfl
    | true=>have:=(k m).1 r;omega
   have v:=A9 R oM (λj f=>by have:=(k j).1 f;omega) ho c (λe C r=>(k e.on).2 (t m _ ho e C r)) q;have g:wpOp P ops Q m (λz w'=>wpList P ops Q (ops.toList.drop (m+1)) z w') a w:=Zh (λz w' u=>ih (m+1) _ z w' oM (λj=>by
    rw[eI (by rw[q.size];omega)];constructor
    ·intro f;rw[Wu]at f;rcases f with f|f
     ·have:=(k j).1 f;omega
     ·have:m=j:=by simpa using f
      omega
    ·intro f;by_cases p:j<m
     ·rw[(k j).2 p,Wz]
     ·rw[show j=m by omega];simp) u) v
   have p:ops.toList.drop m=ops[m] :: ops.toList.drop (m+1):=by
    rw[Yi (by rw[TR];exact s),Array.getElem_toList]
   rw[p];unfold wpOp at g;rw[ho]at g;exact g
 have c:∀i,on (TP ops.size false) i=false:=λi=>by
  unfold on;rw[TS,VZ];by_cases h:i<ops.size
  ·rw[yB3 h];rfl
  ·rw[yB4 h];rfl
 exact key n 0 _ a0 w oM (λj=>by rw[c];exact⟨λh=>(by cases h),λh=>absurd h (VC _)⟩) ⟨TY,(λi o _ h=>by rw[c]at h;cases h),rfl,rfl,λ_ _=>rfl,⟨λ_=>VU,λi d h=>(by rw[c]at h;cases h),λi h=>(by rw[c]at h;cases h)⟩,λb _=>B b⟩
theorem Gw.plain{id:Nat}(G:Gw)(n:Nat)(k:(decide (n<=ops.size) && D7 ops a0.tmps.size)=true)(h:kQ P Q G.flow ops a0 0 (ops.toList.take n))(c:G.B w)
 (f:∀(V:Nat->TC) (w':TA),(∀i,i<n->G.R i (V i) w')->G.B w'->wpList P ops Q (ops.toList.drop n) (bW V (ops.toList.take n) 0 a0) w'):(Vj id ops false).wp P Q a0 w:=by
 rw[T0,decide_eq_true_eq]at k;exact DV G.flow n k.1 (Gw.reg k.2 h) (λ_=>c) λV w' d b=>f V w' (λi e=>d i e rfl) (b 0 rfl)
end RG
namespace RG
open Go Go.RowKit
structure S1 where
 p:TC->TA->Prop
 st:∀v w w',Below w.heap.size w w'->p v w->p v w'
def pE(v:TC):S1:=⟨λx _=>x=v,λ_ _ _ _ h=>h⟩
def pA:S1:=⟨λ_ _=>True,λ_ _ _ _ h=>h⟩
def pM(Q:Nat->Prop)(l:List (Nat × Bs)):S1:=⟨λv w=>SmQ Q w v l,λ_ _ _ k h=>h.keep (Kq.of_below k)⟩
def pS(Q:Nat->Prop)(n:Nat)(a:Nat->Nat):S1:=⟨λv w=>SLq Q w v n a,λ_ _ _ k h=>h.keep (Kq.of_below k)⟩
def pG(Q:Nat->Prop)(n:Nat)(T:Nat->List (Nat × Bs)):S1:=⟨λv w=>GLq Q w v n T,λ_ _ _ k h=>h.keep (Kq.of_below k)⟩
def pR(Q:Nat->Prop)(n:Nat)(G H:Nat->List (Nat × Bs))(U:List (Nat × Bs)):S1:=⟨λv w=>GRq Q w v n G H U,λ_ _ _ k h=>h.keep (Kq.of_below k)⟩
def pI(T:Uw)(p:S1):S1:=⟨λv w=>∃x,v=.iface T x/\p.p x w,λ_ w w' b ⟨x,c,k⟩=>⟨x,c,p.st x w w' b k⟩⟩
def pN(B:Nat)(cs:List TC):S1:=⟨λv w=>∃k,v=pZ k/\B<=k/\Row w k cs,λ_ _ _ d ⟨k,e,b,c⟩=>⟨k,e,b,c.below d⟩⟩
def nth:List S1->Nat->S1
 | [],_=>pA
 | x :: _,0=>x
 | _ :: r,k+1=>nth r k
def gwL(L:List S1)(B:TA->Prop)(k:∀w w',Below w.heap.size w w'->B w->B w'):Gw:=⟨λi=>(nth L i).p,B,λi=>(nth L i).st,k⟩
variable {P:Vd}{ops:Array UI}{Q:YJ->Act->TA->Prop}{w:TA}{a0:Act}{G:Gw}{k:Nat}{o:UI}
theorem Mp(b:List (Vn × TC))(v:TC)(c:∀a W,PreG G ops a0 k o a W->AllE a b)(d:∀W,G.R k v W)(e:∀W,(dW (b.map (·.1)) o,(UD (evo (evl b)) o).run P W)=(true,.ok (.value v) W):=by intro _;kernel_rfl):bK P Q G.flow ops a0 k o:=
 dM λa W f=>⟨b,v,W,c a W f,e W,TX _ _,d W⟩
theorem Rj(t:Vn)(v b:TC)(c:a0.eval (.tmp t)=v)(e:∀W,G.R k b W)(hf:oW ops k t=true:=by kernel_rfl)(d:∀W,(dW [t] o,(UD (evo (evl [(t,v)])) o).run P W)=(true,.ok (.value b) W):=by intro _;kernel_rfl):bK P Q G.flow ops a0 k o:=
 Mp [(t,v)] b (λa W f=>⟨(f.o t hf).trans c,yB5⟩) e d
theorem pO(j:Nat)(t:Vn)(v b:TC)(c:∀x W,G.R j x W->x=v)(e:∀W,G.R k b W)(hd:(bR o j,aV ops j)=(true,some t):=by kernel_rfl)(d:∀W,(dW [t] o,(UD (evo (evl [(t,v)])) o).run P W)=(true,.ok (.value b) W):=by intro _;kernel_rfl):bK P Q G.flow ops a0 k o:=
 Mp [(t,v)] b (λa W f=>⟨c _ W (f.n j t (congrArg ZI hd) (congrArg ZH hd)),yB5⟩) e d
theorem GM(j:Nat)(t:Vn)(f:TC->TC)(c:∀x W,G.R j x W->G.R k (f x) W)(hd:(bR o j,aV ops j)=(true,some t):=by kernel_rfl)(b:∀v W,(dW [t] o,(UD (evo (evl [(t,v)])) o).run P W)=(true,.ok (.value (f v)) W):=by intro _ _;kernel_rfl):bK P Q G.flow ops a0 k o:=
 dM λa W d=>⟨[(t,a.eval (.tmp t))],_,W,⟨rfl,yB5⟩,b _ W,TX _ _,c _ W (d.n j t (congrArg ZI hd) (congrArg ZH hd))⟩
theorem Ao(j:Nat)(t:Vn)(c:Nat)(b:Vn)(v u d:TC)(I:Sem TC)(l:∀W,I.run P W=.ok d W)(i:∀x W,G.R j x W->x=v)(e:∀x W,G.R c x W->x=u)(m:∀W,G.R k d W)(hd:((bR o j,aV ops j),(bR o c,aV ops c))=((true,some t),(true,some b)):=by kernel_rfl)(f:(dW [t,b] o,UD (evo (evl [(t,v),(b,u)])) o)=(true,I >>= λv=>pure (Ww v)):=by kernel_rfl):bK P Q G.flow ops a0 k o:=
 dM λa W g=>⟨[(t,v),(b,u)],d,W,⟨i _ W (g.n j t (congrArg (·.1.1) hd) (congrArg (·.1.2) hd)),e _ W (g.n c b (congrArg (·.2.1) hd) (congrArg (·.2.2) hd)),yB5⟩,by
  rw[Vz.injEq]at f⊢;refine⟨f.1,?_⟩;rw[f.2,Ue,l W];rfl,TX _ _,m W⟩
theorem gB(T:Uw)(j:Nat)(t:Vn)(g off:Nat)(x:TC)(e:(P.underlying T).map (·.isRow)=some false)(f:∀x W,G.R j x W->x=.pointer (some ⟨g,off,none⟩))(d:∀W,G.B W->W.cell? ⟨g,off,none⟩=some x)(i:∀W,G.R k x W)(hd:(bR o j,aV ops j)=(true,some t):=by kernel_rfl)(ho:o.op=.load T (.tmp t):=by rfl):bK P Q G.flow ops a0 k o:=
 sO λa W b=>by
  have c:=pD b;refine⟨x,W,?_,TX _ _,i W⟩;unfold UD;rw[ho];dsimp only;rw[f _ W (c.n j t (congrArg ZI hd) (congrArg ZH hd)),Ue,kV (d W c.b) e];rfl
theorem Rk(T:Uw)(j:Nat)(t:Vn)(g off:Nat)(cs:List TC)(d:(P.underlying T).map (·.isRow)=some true)(f:(P.info? T).map (·.size)=some cs.length)(e:∀x W,G.R j x W->x=.pointer (some ⟨g,off,none⟩))(c:∀W,G.B W->W.rangeAt g off cs)(i:∀W,G.R k (.agg cs.toArray) W)(hd:(bR o j,aV ops j)=(true,some t):=by kernel_rfl)(ho:o.op=.load T (.tmp t):=by rfl):bK P Q G.flow ops a0 k o:=
 l9 T t ho d λa W b=>⟨g,off,cs,e _ W (b.n j t (congrArg ZI hd) (congrArg ZH hd)),c W b.b,f,i W⟩
theorem iS(T:Uw)(t:Vn)(g off:Nat)(cs:List TC)(d:(P.underlying T).map (·.isRow)=some true)(f:(P.info? T).map (·.size)=some cs.length)(e:a0.eval (.tmp t)=.pointer (some ⟨g,off,none⟩))(c:∀W,G.B W->W.rangeAt g off cs)(i:∀W,G.R k (.agg cs.toArray) W)(hf:oW ops k t=true:=by kernel_rfl)(ho:o.op=.load T (.tmp t):=by rfl):bK P Q G.flow ops a0 k o:=
 l9 T t ho d λa W b=>⟨g,off,cs,(b.o t hf).trans e,c W b.b,f,i W⟩
theorem PG(T:Uw)(t:Vn)(g off:Nat)(x:TC)(e:(P.underlying T).map (·.isRow)=some false)(f:a0.eval (.tmp t)=.pointer (some ⟨g,off,none⟩))(d:∀W,G.B W->W.cell? ⟨g,off,none⟩=some x)(i:∀W,G.R k x W)(hf:oW ops k t=true:=by kernel_rfl)(ho:o.op=.load T (.tmp t):=by rfl):bK P Q G.flow ops a0 k o:=
 sO λa W b=>by
  have c:=pD b;refine⟨x,W,?_,TX _ _,i W⟩;unfold UD;rw[ho];dsimp only;rw[c.o t hf,f,Ue,kV (d W c.b) e];rfl
theorem Ro(cs:List TC)(T:Uw)(b:∀W W':TA,Row W' W.heap.size cs->G.B W->G.R k (.pointer (some ⟨W.heap.size,0,none⟩)) W')(c:∀W,(dW [] o,(UD (evo (evl [])) o).run P W)=(true,.ok (.value (.pointer (some ⟨W.heap.size,0,none⟩))) (W.alloc (.cells cs.toArray T))):=by intro _;kernel_rfl):bK P Q G.flow ops a0 k o:=
 dM λa W d=>⟨[],_,_,trivial,c W,aD W _,b W _ (aE W cs T) d.b⟩
theorem Rm(f:Xy)(args:Array TC)(b:∀W,G.B W->TW P f args W (rZ W λe W'=>G.R k e W'))(c:∀W,(dW [] o,(UD (evo (evl [])) o).run P W)=(true,.ok (.enter f args) W):=by intro _;kernel_rfl):bK P Q G.flow ops a0 k o:=
 kH λa W d=>⟨[],f,args,trivial,c W,b W d.b⟩
theorem wN(j:Nat)(t:Vn)(f:Xy)(args:TC->Array TC)(c:∀x W,G.R j x W->G.B W->TW P f (args x) W (rZ W λe W'=>G.R k e W'))(hd:(bR o j,aV ops j)=(true,some t):=by kernel_rfl)(d:∀x W,(dW [t] o,(UD (evo (evl [(t,x)])) o).run P W)=(true,.ok (.enter f (args x)) W):=by intro _ _;kernel_rfl):bK P Q G.flow ops a0 k o:=
 kH λa W b=>⟨[(t,a.eval (.tmp t))],f,_,⟨rfl,yB5⟩,d _ W,c _ W (b.n j t (congrArg ZI hd) (congrArg ZH hd)) b.b⟩
theorem nD(j:Nat)(t:Vn)(c:Nat)(b:Vn)(f:Xy)(args:TC->TC->Array TC)(g:∀x y W,G.R j x W->G.R c y W->G.B W->TW P f (args x y) W (rZ W λe W'=>G.R k e W'))(hd:((bR o j,aV ops j),(bR o c,aV ops c))=((true,some t),(true,some b)):=by kernel_rfl)(i:∀x y W,(dW [t,b] o,(UD (evo (evl [(t,x),(b,y)])) o).run P W)=(true,.ok (.enter f (args x y)) W):=by intro _ _ _;kernel_rfl):bK P Q G.flow ops a0 k o:=
 kH λa W d=>⟨[(t,a.eval (.tmp t)),(b,a.eval (.tmp b))],f,_,⟨rfl,rfl,yB5⟩,i _ _ W,g _ _ W (d.n j t (congrArg (·.1.1) hd) (congrArg (·.1.2) hd)) (d.n c b (congrArg (·.2.1) hd) (congrArg (·.2.2) hd)) d.b⟩
theorem tK(j:Nat)(t:Vn)(g:Nat)(d:Vn)(c:Nat)(b:Vn)(f:Xy)(args:TC->TC->TC->Array TC)(l:∀x y z W,G.R j x W->G.R g y W->G.R c z W->G.B W->TW P f (args x y z) W (rZ W λe W'=>G.R k e W'))(hd:((bR o j,aV ops j),(bR o g,aV ops g),(bR o c,aV ops c))=((true,some t),(true,some d),(true,some b)):=by kernel_rfl)(m:∀x y z W,(dW [t,d,b] o,(UD (evo (evl [(t,x),(d,y),(b,z)])) o).run P W)=(true,.ok (.enter f (args x y z)) W):=by intro _ _ _ _;kernel_rfl):bK P Q G.flow ops a0 k o:=
 kH λa W i=>⟨[(t,a.eval (.tmp t)),(d,a.eval (.tmp d)),(b,a.eval (.tmp b))],f,_,⟨rfl,rfl,rfl,yB5⟩,m _ _ _ W,l _ _ _ W (i.n j t (congrArg (·.1.1) hd) (congrArg (·.1.2) hd)) (i.n g d (congrArg (·.2.1.1) hd) (congrArg (·.2.1.2) hd)) (i.n c b (congrArg (·.2.2.1) hd) (congrArg (·.2.2.2) hd)) i.b⟩
theorem oV(T:Uw)(j:Nat)(t:Vn)(c:Nat)(b:Vn)(p:S1)(f:Xy)(i:∀x W,G.R j x W->(pI T p).p x W)(g:∀x y W,p.p x W->G.R c y W->G.B W->TW P f #[x,y] W (rZ W λe W'=>G.R k e W'))(hd:((bR o j,aV ops j),(bR o c,aV ops c))=((true,some t),(true,some b)):=by kernel_rfl)(l:∀x y W,(dW [t,b] o,(UD (evo (evl [(t,.iface T x),(b,y)])) o).run P W)=(true,.ok (.enter f #[x,y]) W):=by intro _ _ _;kernel_rfl):bK P Q G.flow ops a0 k o:=
 kH λa W d=>by
  obtain⟨x,e,m⟩:=i _ W (d.n j t (congrArg (·.1.1) hd) (congrArg (·.1.2) hd));exact⟨[(t,.iface T x),(b,a.eval (.tmp b))],f,_,⟨e,rfl,yB5⟩,l _ _ W,g _ _ W m (d.n c b (congrArg (·.2.1) hd) (congrArg (·.2.2) hd)) d.b⟩
end RG
namespace RG
open Go Go.RowKit
variable {P:Vd}{ops:Array UI}{Q:YJ->Act->TA->Prop}{w:TA}{a0:Act}{G:Gw}{k:Nat}{o:UI}{T:Uw}{g off:Nat}{cs:List TC}{v u v' z:TC}{I:Sem TC}{f:Xy}{t:Vn}
theorem gO(t:Vn)(v:TC)(b:a0.eval (.tmp t)=v:=by kernel_rfl)(d:∀W,G.R k v W:=by exact λ_=>rfl)(hf:oW ops k t=true:=by kernel_rfl)(c:∀W,(dW [t] o,(UD (evo (evl [(t,v)])) o).run P W)=(true,.ok (.value v) W):=by intro _;kernel_rfl):bK P Q G.flow ops a0 k o:=Rj t v v b d hf c
theorem gP(t:Vn)(v b:TC)(c:a0.eval (.tmp t)=v:=by kernel_rfl)(e:∀W,G.R k b W:=by exact λ_=>rfl)(hf:oW ops k t=true:=by kernel_rfl)(d:∀W,(dW [t] o,(UD (evo (evl [(t,v)])) o).run P W)=(true,.ok (.value b) W):=by intro _;kernel_rfl):bK P Q G.flow ops a0 k o:=Rj t v b c e hf d
theorem gLo(t:Vn)(b:∀W,G.B W->W.rangeAt g off cs)(c:(P.underlying T).map (·.isRow)=some true)(e:(P.info? T).map (·.size)=some cs.length)(d:a0.eval (.tmp t)=.pointer (some ⟨g,off,none⟩):=by kernel_rfl)(f:∀W,G.R k (.agg cs.toArray) W:=by exact λ_=>rfl)(hf:oW ops k t=true:=by kernel_rfl)(ho:o.op=.load T (.tmp t):=by rfl):bK P Q G.flow ops a0 k o:=iS T t g off cs c e d b f hf ho
theorem gLr(j:Nat)(t:Vn)(b:∀W,G.B W->W.rangeAt g off cs)(c:(P.underlying T).map (·.isRow)=some true)(e:(P.info? T).map (·.size)=some cs.length)(d:∀x W,G.R j x W->x=.pointer (some ⟨g,off,none⟩):=by exact λ_ _ h=>h)(f:∀W,G.R k (.agg cs.toArray) W:=by exact λ_=>rfl)(hd:(bR o j,aV ops j)=(true,some t):=by kernel_rfl)(ho:o.op=.load T (.tmp t):=by rfl):bK P Q G.flow ops a0 k o:=Rk T j t g off cs c e d b f hd ho
theorem gX(j:Nat)(t:Vn)(b:Nat)(c:Vn)(f:∀W,I.run P W=.ok v' W)(e:∀x W,G.R j x W->x=v:=by exact λ_ _ h=>h)(d:∀x W,G.R b x W->x=u:=by exact λ_ _ h=>h)(i:∀W,G.R k v' W:=by exact λ_=>rfl)(hd:((bR o j,aV ops j),(bR o b,aV ops b))=((true,some t),(true,some c)):=by kernel_rfl)(g:(dW [t,c] o,UD (evo (evl [(t,v),(c,u)])) o)=(true,I >>= λv=>pure (Ww v)):=by kernel_rfl):bK P Q G.flow ops a0 k o:=Ao j t b c v u v' I f e d i hd g
theorem gC2(j:Nat)(t:Vn)(b:Nat)(c:Vn)(g:∀W,TW P f #[v,u] W (rZ W λe W'=>e=v'))(l:∀x W,G.R j x W->x=v:=by exact λ_ _ h=>h)(d:∀x W,G.R b x W->x=u:=by exact λ_ _ h=>h)(q:∀W,G.R k v' W:=by exact λ_=>rfl)(hd:((bR o j,aV ops j),(bR o b,aV ops b))=((true,some t),(true,some c)):=by kernel_rfl)(n:∀x y W,(dW [t,c] o,(UD (evo (evl [(t,x),(c,y)])) o).run P W)=(true,.ok (.enter f #[x,y]) W):=by intro _ _ _;kernel_rfl):bK P Q G.flow ops a0 k o:=
 nD j t b c f (λx y=>#[x,y]) (λx y W p i _=>by
  rw[l x W p,d y W i];refine(g W).mono ?_;rintro e W' ⟨a,rfl,m,rfl⟩;exact⟨_,rfl,m,q W'⟩) hd n
theorem gC3(j:Nat)(t:Vn)(g:Nat)(i:Vn)(c:Nat)(b:Vn)(m:∀W,TW P f #[v,u,z] W (rZ W λe W'=>e=v'))(q:∀x W,G.R j x W->x=v:=by exact λ_ _ h=>h)(l:∀x W,G.R g x W->x=u:=by exact λ_ _ h=>h)(d:∀x W,G.R c x W->x=z:=by exact λ_ _ h=>h)(B:∀W,G.R k v' W:=by exact λ_=>rfl)(hd:((bR o j,aV ops j),(bR o g,aV ops g),(bR o c,aV ops c))=((true,some t),(true,some i),(true,some b)):=by kernel_rfl)(s:∀x y z W,(dW [t,i,b] o,(UD (evo (evl [(t,x),(i,y),(b,z)])) o).run P W)=(true,.ok (.enter f #[x,y,z]) W):=by intro _ _ _ _;kernel_rfl):bK P Q G.flow ops a0 k o:=
 tK j t g i c b f (λx y z=>#[x,y,z]) (λx y n W A p w _=>by
  rw[q x W A,l y W p,d n W w];refine(m W).mono ?_;rintro e W' ⟨a,rfl,r,rfl⟩;exact⟨_,rfl,r,B W'⟩) hd s
end RG
section
open Go.RowKit Go.Sort Go.Deep
variable {P:Nat}[NeZero P]{N:Nat}
theorem Ff(s:ByteArray)(w:TA):
 ∃cap w',(convert 9 23 (.string s)).run prog w=.ok (.slice (some ⟨w.heap.size,0,none⟩) s.size cap) w'/\s.size<=cap/\Below w.heap.size w w'/\Holds encB w' w.heap.size 0 s.data/\w.heap.size<w'.heap.size:=by
 have h:=Lib.run_convert_string_bytes (P:=prog) w 9 23 5 s str9 slice22 int5;have c:s.size<=grownCap w s.size 0 5:=by
  unfold grownCap Question.cut;exact Nat.le_add_right _ _
 have l:s.data.size=s.size:=rfl;refine⟨_,_,h,c,?_,?_,by rw[Zi];omega⟩
 ·refine⟨?_,?_,?_,?_,λk b=>Lib.bytesWorld_at_old w 5 s k b⟩
  ·unfold Yt YH;rw[yB4 dC];rfl
  ·unfold Yt YH;rw[yB4 dC];rfl
  ·unfold Yt YH;rw[yB4 dC];rfl
  ·rw[Zi];omega
 ·intro j f;have g:=Lib.bytesWorld_at_new w 5 s;have d:(WX w 5 s).size=grownCap w s.size 0 5:=by
   unfold WX;rw[UA,Array.size_map,TY];omega
  have i:(WX w 5 s)=(s.data++TP (grownCap w s.size 0 5-s.size) 0).map encB:=by
   unfold WX;rw[Array.map_append,Array.map_replicate];rfl
  have e:j<(s.data++TP (grownCap w s.size 0 5-s.size) 0).size:=by rw[UA,TY];omega
  have b:(s.data++TP (grownCap w s.size 0 5-s.size) 0)[j]=s.data[j]!:=by
   rw[Array.getElem_append_left f,getElem!_pos s.data j f]
  constructor
  ·unfold WN;rw[g];simp only[TO];rw[yB4 dC,i,Array.getElem?_map,Uj e,Option.map_some,b]
  ·unfold World.frozen?;rw[g];simp only[TO,d];simp;omega
end
section
open Go.RowKit Go.Sort Go.Deep
def hf(n:Nat):Nat:=2^Nat.log2 (n-1)
end
section
open Go.RowKit Go.Sort Go.Deep
variable {P:Nat}[NeZero P]{N:Nat}
def m7(n:Nat):Bs:=#[SP.aX n 16777216,SP.aX n 65536,SP.aX n 256,SP.aX n 1]
theorem OO{w:TA}{r n:Nat}(h:Holds encB w r 0 (m7 n)):SP.PartOk w (.slice (some (aZ r)) 4 4) (m7 n).toList:=
 ⟨_,r,0,4,m7 n,rfl,rfl,TG _,Va rfl,T8 ⟨rfl,h⟩⟩
theorem Mc:Gives 76 #[uZ 1] (nv 1):=by
 intro w;go_enter func76,ntmps76;refine RG.M.enter [(0,.v (uZ 1))] 6 kR ?_;intro a0 d;repeat refine TI ?_
 refine d.T [.m 0] [(0,RG.z 4)] [] [RG.z 4] [0,2] ⟨RG.mk 0 46,yB5⟩ ?_;intro k g f c;repeat refine TI ?_
 refine c.T [.x (uZ 1),.x (nv 1),.x (nv 1),.u 0] [] [(0,3,wn 1)] [wn 1] [2] ⟨RG.st,RG.st,RG.st,RG.pt i40,yB5⟩ ?_;intro e i b;refine UZ ?_;refine TM (v:=nv 1) (RG.aC b.st 2 46 rfl 0 _ rfl (b.at (s:=(.p 0 0))) u40 i40) b.sl.defers ?_;exact⟨_,rfl,b.st.bel.below,rfl⟩
def kG(a:Nat):Nat:=if a=0 then 1 else a
theorem L6(O:Ord N){a:Nat}(m:a<N):Gives 125 #[nv a] (nv (kG a)):=by
 intro w;have c:=TF m O.le;have g:∀w:TA,(binOp .eql 46 (nv a) (nv 0)).run prog w=.ok (.bool (decide (a=0))) w:=λw=>eqS c (show 0<top by unfold top;omega) w
 obtain⟨d,hd⟩:=hE (decide (a=0));rw[hd.out]at g;go_enter func125,ntmps125;refine RG.M.enter [(0,.v (nv a))] 8 kR ?_;intro a0 j;repeat refine TI ?_
 refine j.T [.m 0,.m 1] [(0,wn a),(1,RG.z 4)] [] [wn a,RG.z 4] [1,2] ⟨RG.mk 0 46,RG.mk 1 46,yB5⟩ ?_;intro p q t o l;repeat refine TI ?_
 refine l.U [.x (nv a),.x (nv 0),.x (.bool d)] [1,2,5] ⟨RG.ld u40 i40,RG.st,RG.aJ rfl .eql 46 46 3 4 (nv a) (nv 0) (.bool d) rfl rfl RG.sx RG.sx (λw=>kR) g,yB5⟩ ?_;intro r u b;cases d with
 | true =>
  refine UC b.ev ?_;have e:=of_decide_eq_true hd.out;have f:kG a=1:=by unfold kG;rw[yB3 e]
  rw[f];repeat refine TI ?_
  refine b.T [.c (nv 1),.u 1] [] [(1,1,wn 1)] [wn a,wn 1] [2] ⟨RG.cl Mc,RG.pt i40,yB5⟩ ?_;intro n i k;refine UZ ?_;refine TM (v:=nv 1) (RG.aC k.st 2 46 rfl 1 _ rfl (k.at (s:=(.p 1 0))) u40 i40) k.sl.defers ?_;exact⟨_,rfl,k.st.bel.below,rfl⟩
 | false =>
  refine UG b.ev ?_;have e:=of_decide_eq_false hd.out;have f:kG a=a:=by unfold kG;rw[yB4 e]
  rw[f];refine Vg ?_;repeat refine TI ?_
  refine b.T [.x (nv a),.u 1] [] [(1,1,wn a)] [wn a,wn a] [2] ⟨RG.ld u40 i40,RG.pt i40,yB5⟩ ?_;intro n i k;refine UZ ?_;refine TM (v:=nv a) (RG.aC k.st 2 46 rfl 1 _ rfl (k.at (s:=(.p 1 0))) u40 i40) k.sl.defers ?_;exact⟨_,rfl,k.st.bel.below,rfl⟩
end
section
open Go.RowKit Go.Sort Go.Deep
section
variable {P:Vd}{ops:Array UI}{rest:List UI}{op:UI}{a:Act}{w w':TA}{v:TC}{Q:YJ->Act->TA->Prop}
theorem gK(c:op.guard=none)(k:Uw)(x y:Operand)(ho:op.op=.store k x y)(b o:Nat)(v:TC)(f:a.eval x=.pointer (some ⟨b,o,none⟩))(l:a.eval y=v)(hv:v.cells=#[v])(m:v.oneCell'=true)(g:w.there b o 1)(d:(P.info? k).map (·.size)=some 1)
 (h:wpList P ops Q rest (a.put op.dst VU) (w.setCells b o [v])):wpList P ops Q (op :: rest) a w:=
 Xw c λ_ i=>by
  have j:=yAv (P:=P) w b o k #[v] g d (by simp[m]);have e:storeVar k ⟨b,o,none⟩ v=storeVar k ⟨b,o,none⟩ (.agg #[v]):=by
   unfold storeVar;rw[hv];rfl
  unfold Vp UD;simp only[ho,f,l,Yw,Yk,Ue,VA,UE,e,j];exact i _ _ h
theorem Gb(k:op.guard=none)(s t:Vn)(c:Array Uw)(ho:op.op=.call ⟨.value (.tmp s),#[.tmp t],c⟩)(f:Xy)(cap:Array TC)(x:TC)(d:a.eval (.tmp s)=.func (.func f) #[] cap)(g:a.eval (.tmp t)=x)(hf:∀args W,(callFunc f args).run P W=.ok (.enter f args) W)
 {R:TC->TA->Prop}(b:TW P f (#[x]++cap) w (Ret R)) (h:∀v w',R v w'->wpList P ops Q rest (a.put op.dst v) w'):wpList P ops Q (op :: rest) a w:=
 Xw k λK i=>by
  have j:(UD a.eval op).run P w=.ok (.enter f (#[x]++cap)) w:=by
   unfold UD;rw[ho];have e:(#[Operand.tmp t].map a.eval)=#[x]:=by simp[g]
   simp only[resolve,d,Deferred.ofValue,Ue,VA,UE,invoke,e];exact hf _ w
  unfold Vp;rw[j,Oper.upon_enter];refine b.mono ?_;rintro e w' ⟨v,rfl,l⟩;exact i _ _ (h v w' l)
end
end
section
open Go.RowKit Go.Sort Go.Deep
variable {P:Nat}[NeZero P]{N:Nat}
theorem Du(n:Nat)(l:n<4294967296)(w:TA):TW prog 74 #[iZ n] w (rZ w λe w'=>∃r,e=.slice (some (aZ r)) 4 4/\r<w'.heap.size/\Holds encB w' r 0 (m7 n)):=by
 have b:(n:Int)/16777216%256=SP.ub (SP.aX n 16777216):=SP.dT n 16777216;have b0:(n:Int)/16777216=SP.ub (SP.aX n 16777216):=oM;clear b;have b1:(n:Int)/65536%256=SP.ub (SP.aX n 65536):=SP.dT n 65536;have m:(n:Int)/256%256=SP.ub (SP.aX n 256):=SP.dT n 256;have o:(n:Int)%256=SP.ub (SP.aX n 1):=SP.qZ n;have c:=SP.l8 w (SP.aX n 16777216) (SP.aX n 65536) (SP.aX n 256) (SP.aX n 1);have j:Hid (m7 n=#[SP.aX n 16777216,SP.aX n 65536,SP.aX n 256,SP.aX n 1]):=rfl;generalize SP.aX n 16777216=i at *;generalize SP.aX n 65536=g at *;generalize SP.aX n 256=f at *;generalize SP.aX n 1=d at *;have k:Below w.heap.size w (w.alloc (.cells #[.int .u8 (SP.ub i),.int .u8 (SP.ub g),.int .u8 (SP.ub f),.int .u8 (SP.ub d)] 5)):=(TX _ _).alloc (TG _) _;go_enter func74,ntmps74;go_wp2;go_ret;refine⟨_,rfl,k,_,rfl,by rw[TQ];omega,?_⟩;rw[j.out];exact c
theorem ES(a:Bs)(j:a.size=33)(w:TA):TW prog 33 #[pvl a] w (rZ w λe w'=>Sm w.heap.size w' e [(1,a)]):=by
 have m:=Hid.mk' (xJ j w);obtain⟨g,f⟩:=hE (w.alloc (.cells (aA a).toArray 55));rw[f.out]at m;have K:Hid (Row g w.heap.size (aA a)/\Below w.heap.size w g):=by rw[<-f.out];exact⟨aE w _ _,aD w _⟩
 obtain⟨n,d⟩:=hE (pvl a);have i:Hid ((U6 55 n).run prog w=.ok (.pointer (some ⟨w.heap.size,0,none⟩)) g):=by rw[<-d.out];exact m
 rw[d.out];go_enter func33,ntmps33;go_wp2_with (first|(refine aM (u:=n) (v:=.pointer (some ⟨w.heap.size,0,none⟩)) (w':=g) rfl 55 (.tmp 0) rfl ?_ ?_ ?_;rfl;exact i.out)|fail)
 refine(RG.gwL [RG.pE (pvl a),RG.pE (nv 1),RG.pM (w.heap.size<=·) [(1,a)],RG.pM (w.heap.size<=·) [(1,a)]] (λW=>Row W w.heap.size (aA a)/\Below w.heap.size w W) (λW W' b h=>⟨h.1.below b,h.2.trans (b.mono h.2.size)⟩)).draws kR kR ⟨
  RG.iS 55 1 w.heap.size 0 (aA a) uCP (by rw[aK j];exact kN) rfl (λW c=>c.1.2.1) (λ_=>rfl),
  RG.Rm 76 #[uZ 1] λW c=>(QP W).mono (by
   rintro e W' ⟨u,rfl,b,rfl⟩;exact⟨_,rfl,b,rfl⟩),
  RG.nD 0 3 1 4 75 (λx y=>#[x,y]) λx y W o p c=>by
   obtain rfl:x=pvl a:=o;obtain rfl:y=nv 1:=p;refine(Gv a j 1 W).mono ?_;rintro e W' ⟨u,rfl,b,k,rfl,q,l⟩;exact⟨_,rfl,b,Sm.one l (TU c.2.size q) rfl⟩,
  RG.GM 2 5 id λx W h=>h,yB5⟩ ⟨K.1,K.2.drew⟩ ?_
 intro V q l c;have p:=mk1 (l 3 (V8 (Va kR)));have o:=mk1 (c.2);dsimp only[RG.bW,UJ];go_wp2;go_ret;exact⟨_,rfl,o.out,p.out⟩
theorem u9s:(prog.underlying 9).map (·.isRow)=some false:=kR
def RG.pH(n:Nat)(b:Bs):RG.S1:=⟨λv W=>∃r,v=.slice (some (aZ r)) n n/\r<W.heap.size/\Holds encB W r 0 b,λ_ _ _ c ⟨r,e,k,d⟩=>⟨r,e,TF k c.size,Holds.below d c k⟩⟩
noncomputable def hpN (P:Nat) [NeZero P] (lb:ByteArray) (i:Nat):Bs:=wr (.some (hpt P lb (m7 i).toList):EC.Pt P)
theorem I9(lb:ByteArray)(i:Nat):(hpN P lb i).size=33:=bX _
theorem OL(C:Fld P)(lb:ByteArray)(f:lb.size<=1000000)(i:Nat)(A:i<4294967296)(k:Nat)(w:TA)(G:k<w.heap.size)(z:w.cell? ⟨k,0,none⟩=some (.string lb)):
 TW prog 73 #[iZ i,pZ k] w (rZ w λe w'=>Sm w.heap.size w' e [(1,hpN P lb i)]):=by
 obtain⟨T,n⟩:=hE (hpN P lb i);have l:T.size=33:=by rw[<-n.out];exact I9 _ _
 rw[n.out];have q:=λ(W:TA) (o:Option V5) (t s:Nat) (D:SP.PartOk W (.slice o t s) (m7 i).toList)=>Fw C lb f o t s (m7 i).toList W D
 have B:wr (.some (hpt P lb (m7 i).toList):EC.Pt P)=T:=n.out;rw[B]at q;have a:=Hid.mk' q;have E:=mk1 (z);have m:=Hid.mk' (λW=>Du i A W);go_enter func73,ntmps73;go_wp2_with fail
 refine(RG.gwL [RG.pE (.string lb),RG.pE (iZ i),RG.pH 4 (m7 i),RG.pE (pvl T),RG.pM (w.heap.size<=·) [(1,T)],RG.pM (w.heap.size<=·) [(1,T)]] (λW=>W.cell? ⟨k,0,none⟩=some (.string lb)/\Below w.heap.size w W) (λW W' b h=>⟨by rw[b.cell (p:=⟨k,0,none⟩) (TF G h.2.size)];exact h.1,h.2.trans (b.mono h.2.size)⟩)).draws kR kR ⟨
  RG.PG 9 1 k 0 (.string lb) u9s rfl (λW c=>c.1) (λ_=>rfl),
  RG.gO 0 (iZ i),
  RG.wN 1 5 74 (λx=>#[x]) (λx W d c=>by
   obtain rfl:x=iZ i:=d;refine(m W).mono ?_;rintro e W' ⟨u,rfl,b,r,rfl,v,j⟩;exact⟨_,rfl,b,r,rfl,v,j⟩),
  RG.nD 0 4 2 6 34 (λx y=>#[x,y]) (λx y W d F c=>by
   obtain rfl:x=.string lb:=d;obtain⟨r,rfl,v,j⟩:=F;refine(a W _ _ _ (OO j)).mono ?_;rintro e W' ⟨u,rfl,b,rfl⟩;exact⟨_,rfl,b,rfl⟩),
  RG.wN 3 7 33 (λx=>#[x]) (λx W d c=>by
   obtain rfl:x=pvl T:=d;refine(ES T l W).mono ?_;rintro e W' ⟨u,rfl,b,j⟩;exact⟨_,rfl,b,j.q.mono λg v=>TU c.2.size v⟩),
  RG.GM 4 8 id (λx W h=>h),yB5⟩ ⟨E.out,(TX _ w).drew⟩ ?_
 intro V F v c;have j:=mk1 (v 5 (V8 (Va kR)));have d:=mk1 (c.2);dsimp only[RG.bW,UJ];simp only[Ug,TD,TK,TL];go_wp2;go_ret;exact⟨_,rfl,d.out,j.out⟩
theorem uSu:prog.underlying 48=some (.slice 50):=kR
theorem iSu:(prog.info? 50).map (λi=>(i.size,decide (i.bytes<=4000),i.zero.isSome))=some (1,true,true):=kR
theorem Ri:(prog.info? 50).map (·.size)=some 1:=kR
structure LsI(w W:TA)(K n i:Nat)(T:Nat->List (Nat × Bs)):Prop where
 bl:Below w.heap.size w W
 lt:K<W.heap.size
 th:W.there K 0 n
 ge:w.heap.size<=K
 el:∀j,j<i->∃x,W.cell? ⟨K,j,none⟩=some x/\SmQ (λg=>w.heap.size<=g/\g≠K) W x (T j)
theorem LsI.grow{w W W':TA}{K n i:Nat}{T:Nat->List (Nat × Bs)}(h:LsI w W K n i T)(k:Below W.heap.size W W'):LsI w W' K n i T:=
 ⟨h.bl.trans (k.mono h.bl.size),TF h.lt k.size,RG.eG h.th k h.lt,h.ge,λj c=>by
  obtain⟨x,d,b⟩:=h.el j c;exact⟨x,by rw[k.cell (p:=⟨K,j,none⟩) h.lt];exact d,b.keep (Kq.of_below k)⟩⟩
theorem Kq.set{Q:Nat->Prop}{W:TA}{K o:Nat}{vs:List TC}(b:∀g,Q g->g≠K):Kq Q W (W.setCells K o vs):=⟨by rw[RG.setCells_size];exact TG _,λg k _=>RG.aG K vs o W g (b g k)⟩
theorem LsI.put{w W:TA}{K n i:Nat}{T:Nat->List (Nat × Bs)}{x:TC}(h:LsI w W K n i T)(f:i<n)(l:SmQ (λg=>w.heap.size<=g/\g≠K) W x (T i)):LsI w (W.setCells K i [x]) K n (i+1) T:=by
 have c:Kq (λg=>w.heap.size<=g/\g≠K) W (W.setCells K i [x]):=Kq.set λg o=>o.2
 refine⟨RG.below_setCells h.ge _ _ _ h.bl,by rw[RG.setCells_size];exact h.lt,VM h.th _ _ _,h.ge,λj q=>?_⟩;by_cases e:j=i
 ·subst e;refine⟨x,?_,l.keep c⟩;have:=Vq W K j [x] (λt b=>by
   have k:t=0:=by simp at b;omega
   subst k;have:=h.th j f;rwa[TO]at this) 0 x rfl
  exact this
 ·obtain⟨y,p,d⟩:=h.el j oM;refine⟨y,?_,d.keep c⟩;have m:W.rangeAt K j [y]:=λt u b=>by
   have k:t=0:=by have:=(List.getElem?_eq_some_iff.1 b).1;simp at this;omega
   subst k;obtain rfl:y=u:=by simpa using b
   exact p
  exact UW m K i [x] (T8 (by simp;omega)) 0 y rfl
theorem LsI.gl{w W:TA}{K n:Nat}{T:Nat->List (Nat × Bs)}(h:LsI w W K n n T):GLq (w.heap.size<=·) W (.slice (some (aZ K)) n n) n T:=
 ⟨K,0,n,rfl,TG _,h.ge,h.lt,λj b=>by
  obtain⟨x,d,k⟩:=h.el j b;exact⟨x,by rw[TO];exact d,k.mono λg c=>c.1⟩⟩
theorem SmQ.one{Q:Nat->Prop}{W:TA}{v:TC}{l:List (Nat × Bs)}(h:SmQ Q W v l):v.cells=#[v]/\v.oneCell'=true:=by
 obtain⟨g,c,rfl,-⟩:=h;exact⟨rfl,rfl⟩
theorem GK(n:Nat)(D:n<=512)(f:Xy)(cap:Array TC)(hf:∀args W,(callFunc f args).run prog W=.ok (.enter f args) W)(T:Nat->List (Nat × Bs))(w:TA)
 (z:∀i W,i<n->Below w.heap.size w W->TW prog f (#[iZ i]++cap) W (rZ W λe W'=>Sm W.heap.size W' e (T i))) :
 TW prog 72 #[iZ n,.func (.func f) #[] cap] w (rZ w λe w'=>GLq (w.heap.size<=·) w' e n T):=by
 obtain⟨C0,q,p⟩:=I0 uSu iSu n D;have k:=p w;obtain⟨K,v⟩:∃K,Hid (w.heap.size=K):=⟨_,rfl⟩
 obtain⟨r,b⟩:∃r,Hid (w.alloc (.cells C0.toArray 50)=r):=⟨_,rfl⟩
 have u:Ar w r K 1 n 0 (λ_=>[]):=Ar.new _ q b.out v.out;rw[b.out,v.out]at k;have J:Hid (LsI w r K n 0 T):=⟨u.bl,u.lt,by have:=u.th;rwa[V4]at this,by rw[v.out];exact TG _,λj E=>absurd E (VC _)⟩
 have L:=Hid.mk' z;have H:=Hid.mk' hf;obtain⟨fv,d⟩:=hE (Value.func (.func f) #[] cap);rw[d.out];clear u q p z hf b v;go_enter func72,ntmps72;go_wp2;clear k;go_loopg [11] n (λm s11 W=>∃i:Nat,i+m=n/\s11=iZ i/\Hid (LsI w W K n i T))
 case atStart=>exact⟨0,oM,rfl,J⟩
 case round =>
  obtain⟨i,O,rfl,c⟩:=hrel;by_cases s:i<n
  ·have y:(i:Int)<(n:Int):=oM;have x:=atS K 0 n n i s;rw[show 0+1*i=i by omega]at x;have I:=Hid.mk' s;go_wp2_with (first|(refine Gb rfl 16 17 _ rfl f cap (iZ i) ?_ ?_ H.out (L i wr I.out c.bl) ?_;exact d.symm;rfl;intro e W' N;refine ZX ?_)|fail)
   obtain⟨G,F⟩:=N;have A:=c.grow G;have o:SmQ (λg=>w.heap.size<=g/\g≠K) W' e (T i):=F.q.mono λg M=>⟨TU (TU c.bl.size (TG _)) M,by have:=c.lt;omega⟩
   have B:=mk1 (A.put s o);have C:Hid (W'.there K i 1):=λt P=>by
    have l:t=0:=oM;subst l;have:=A.th i s;rwa[TO]at this
   have a:=Hid.mk' o.one;obtain⟨Q,l⟩:=hE (W'.setCells K i [e]);rw[l.out]at B;show wpList _ _ _ _ _ _;go_wp2_with (first|(refine gK rfl 50 _ _ rfl K i e ?_ ?_ a.1 a.2 C.out Ri ?_;rfl;rfl;rw[l.out])|fail)
   go_roundg (gk-1)
   case measure=>omega
   case rel=>exact⟨i+1,oM,rfl,B⟩
  ·have y:¬(i:Int)<(n:Int):=oM;obtain rfl:i=n:=oM;have l:=mk2 c.bl c.gl;go_wp2;go_ret;exact⟨_,rfl,l.1,l.2⟩
theorem tC(C:Fld P)(lb:ByteArray)(d:lb.size<=1000000)(n:Nat)(s:n<=512)(w:TA):
 TW prog 32 #[.string lb,iZ n] w (rZ w λe w'=>GLq (w.heap.size<=·) w' e n (λi=>[(1,hpN P lb i)])):=by
 obtain⟨c,b⟩:=hE (w.alloc (.cells #[.string lb] 9));obtain⟨k,o⟩:=hE (w.heap.size);have u:Below w.heap.size w c:=by rw[<-b.out];exact aD _ _
 have l:Row c k [.string lb]:=by rw[<-b.out,<-o.out];exact aE w _ _
 have q:=Hid.mk' (GK n s 73 #[pZ k] (λ_ _=>kR) (λi=>[(1,hpN P lb i)]) c (λi W y m=>OL C lb d i oM k W (TF l.1 m.size) (by rw[m.cell (p:=⟨k,0,none⟩) l.1];exact l.2.1 0 _ rfl)));have f:=Hid.mk' u;go_enter func32,ntmps32;go_wp2_with fail
 rw[b.out,o.out];refine q.mono ?_;rintro e z ⟨v,rfl,j,t⟩;have r:=mk2 (f.trans (j.mono f.size)) (t.mono λg x=>TU f.size x);go_wp2;go_ret;exact⟨_,rfl,r.out⟩
noncomputable def hpU (P:Nat) [NeZero P]:Bs:=wr (.some (hpt P ⟨#[105,110,110,101,114]⟩ []):EC.Pt P)
theorem iGr:(prog.info? 52).map (·.size)=some 3:=kR
theorem uGr:(prog.underlying 52).map (·.isRow)=some true:=kR
noncomputable def gGT (P:Nat) [NeZero P] (i:Nat):List (Nat × Bs):=[(1,hpN P ⟨#[108,101,102,116]⟩ i)]
noncomputable def hGT (P:Nat) [NeZero P] (i:Nat):List (Nat × Bs):=[(1,hpN P ⟨#[114,105,103,104,116]⟩ i)]
noncomputable def uGT (P:Nat) [NeZero P]:List (Nat × Bs):=[(1,hpU P)]
theorem DL(C:Fld P)(n:Nat)(T:n<=512)(w:TA):
 TW prog 13 #[iZ n] w (rZ w λe w'=>GRq (w.heap.size<=·) w' e n (gGT P) (hGT P) (uGT P)):=by
 have I:=λW=>tC C ⟨#[108,101,102,116]⟩ dC n T W
 have D:=λW=>tC C ⟨#[114,105,103,104,116]⟩ dC n T W
 have Q:=λW:TA=>Fw C ⟨#[105,110,110,101,114]⟩ dC none 0 0 [] W ⟨none,0,0,0,#[],rfl,rfl,TG _,VH _,Ub rfl⟩
 have e0:wr (.some (hpt P ⟨#[105,110,110,101,114]⟩ []):EC.Pt P)=hpU P:=rfl;rw[e0]at Q;have Z:=λW=>ES (hpU P) (bX _) W
 obtain⟨U,K⟩:∃U,Hid (hpU P=U):=⟨_,rfl⟩
 have e1:uGT P=[(1,U)]:=by unfold uGT;rw[K.out]
 rw[e1];rw[K.out]at Q Z;have u:=Hid.mk' (U8 I (U8 D (U8 Q Z)));have e2:(λi=>[(1,hpN P ⟨#[108,101,102,116]⟩ i)])=gGT P:=rfl;have e3:(λi=>[(1,hpN P ⟨#[114,105,103,104,116]⟩ i)])=hGT P:=rfl;rw[e2,e3]at u;generalize gGT P=G at u⊢;generalize hGT P=H at u⊢;clear I D Q Z e0 e1 e2 e3 C T;obtain⟨z,L⟩:∃z,Hid (w.alloc (.cells #[.slice none 0 0,.slice none 0 0,.slice none 0 0] 52)=z):=⟨_,rfl⟩
 obtain⟨k,S⟩:∃k,Hid (w.heap.size=k):=⟨_,rfl⟩
 have O:Hid (Below w.heap.size w z/\Row z k [.slice none 0 0,.slice none 0 0,.slice none 0 0]):=by rw[<-L.out,<-S.out];exact⟨aD _ _,aE w _ _⟩
 go_enter func13,ntmps13;go_wp2_with fail
 rw[L.out,S.out];refine(u.1 z).mono ?_;rintro e R ⟨v1,rfl,F,V⟩;have B:Hid (Below w.heap.size w R/\Row R k [.slice none 0 0,.slice none 0 0,.slice none 0 0]/\GLq (k < ·) R v1 n G):=⟨O.1.trans (F.mono O.1.size),O.2.below F,V.mono λg s=>TF O.2.1 s⟩
 go_wp2_with fail
 refine(u.2.1 R).mono ?_;rintro e a ⟨v2,rfl,y,V⟩;have A:Hid (Below w.heap.size w a/\Row a k [.slice none 0 0,.slice none 0 0,.slice none 0 0]/\GLq (k < ·) a v1 n G/\GLq (k < ·) a v2 n H):=⟨B.1.trans (y.mono B.1.size),B.2.1.below y,B.2.2.keep (Kq.of_below y),V.mono λg s=>TF B.2.1.1 s⟩
 go_wp2_with fail
 refine(u.2.2.1 a).mono ?_;rintro e J ⟨v,rfl,f,rfl⟩;have x:Hid (Below w.heap.size w J/\Row J k [.slice none 0 0,.slice none 0 0,.slice none 0 0]/\GLq (k < ·) J v1 n G/\GLq (k < ·) J v2 n H):=⟨A.1.trans (f.mono A.1.size),A.2.1.below f,A.2.2.1.keep (Kq.of_below f),A.2.2.2.keep (Kq.of_below f)⟩
 obtain⟨vu,E⟩:=hE (pvl U);have HO:Hid (∀W:TA,TW prog 33 #[vu] W (rZ W λe w'=>Sm W.heap.size w' e [(1,U)])):=by rw[<-E.out];exact u.2.2.2
 rw[E.out];go_wp2_with fail
 refine(HO J).mono ?_;rintro e c ⟨v3,rfl,b,hS⟩;have d:Hid (Below w.heap.size w c/\Row c k [.slice none 0 0,.slice none 0 0,.slice none 0 0]/\GLq (k < ·) c v1 n G/\GLq (k < ·) c v2 n H/\SmQ (k < ·) c v3 [(1,U)]):=⟨x.1.trans (b.mono x.1.size),x.2.1.below b,x.2.2.1.keep (Kq.of_below b),x.2.2.2.keep (Kq.of_below b),hS.q.mono λg s=>TF x.2.1.1 s⟩
 clear b hS x HO;obtain⟨j,m,t,rfl,-⟩:=d.2.2.1;obtain⟨o,r,q,rfl,-⟩:=d.2.2.2.1;obtain⟨p,l,rfl,-⟩:=d.2.2.2.2;obtain⟨N,M⟩:∃N,Hid (c.setCells k 0 [.slice (some ⟨j,m,none⟩) n t,.slice (some ⟨o,r,none⟩) n q,.slice (some (aZ p)) [(1,U)].length l]=N):=⟨_,Hid.mk' rfl⟩
 have K6:Hid (Below w.heap.size w N/\Row N k [.slice (some ⟨j,m,none⟩) n t,.slice (some ⟨o,r,none⟩) n q,.slice (some (aZ p)) [(1,U)].length l]/\GRq (w.heap.size<=·) N (.agg #[.slice (some ⟨j,m,none⟩) n t,.slice (some ⟨o,r,none⟩) n q,.slice (some (aZ p)) [(1,U)].length l]) n G H [(1,U)]):=by
  rw[<-M.out];have Y:∀g,k<g->w.heap.size<=g:=λg s=>by rw[S.out];omega
  have X:Kq (k < ·) c (c.setCells k 0 [.slice (some ⟨j,m,none⟩) n t,.slice (some ⟨o,r,none⟩) n q,.slice (some (aZ p)) [(1,U)].length l]):=Kq.set λg s=>Nat.ne_of_gt s
  exact⟨RG.below_setCells (by rw[S.out];exact TG _) _ _ _ d.1,d.2.1.put rfl,_,_,_,rfl,(d.2.2.1.keep X).mono Y,(d.2.2.2.1.keep X).mono Y,(d.2.2.2.2.keep X).mono Y⟩
 have X:=mk1 (d.2.1.2.2);go_wp2_with (refine cG (v:=.agg #[.slice (some ⟨j,m,none⟩) n t,.slice (some ⟨o,r,none⟩) n q,.slice (some (aZ p)) [(1,U)].length l]) (w':=c) rfl (.build 52 _) rfl ?_ ?_;kernel_rfl;refine ZX ?_)
 show wpList _ _ _ _ _ _;refine Ui rfl 52 _ _ rfl k 0 #[.slice (some ⟨j,m,none⟩) n t,.slice (some ⟨o,r,none⟩) n q,.slice (some (aZ p)) [(1,U)].length l] ?_ ?_ X.out iGr ?_ ?_
 ·kernel_rfl
 ·kernel_rfl
 ·kernel_rfl
 rw[show(#[.slice (some ⟨j,m,none⟩) n t,.slice (some ⟨o,r,none⟩) n q,.slice (some (aZ p)) [(1,U)].length l]:Array TC).toList=[.slice (some ⟨j,m,none⟩) n t,.slice (some ⟨o,r,none⟩) n q,.slice (some (aZ p)) [(1,U)].length l] from rfl,M.out];go_wp2;refine TM (aL 2 52 rfl K6.2.1 rfl uGr iGr) rfl ?_;exact⟨_,rfl,K6.1,K6.2.2⟩
theorem u22:(prog.underlying 23).map (·.isRow)=some false:=kR
theorem RR(k o n c i:Nat)(b:i<n)(w:TA):(UP 24 (.slice (some ⟨k,o,none⟩) n c) (iZ i)).run prog w=.ok (.pointer (some ⟨k,o+i,none⟩)) w:=by
 go_simp
theorem AK(k o n c i:Nat)(b:i<n)(w:TA):(UP 39 (.slice (some ⟨k,o,none⟩) n c) (iZ i)).run prog w=.ok (.pointer (some ⟨k,o+4*i,none⟩)) w:=by
 go_simp
theorem S2(N:Nat)(c:N<=512):∃C0:List TC,C0.length=4*N/\∀w:TA,(VI 39 (iZ N) (iZ N)).run prog w=.ok (.slice (some ⟨w.heap.size,0,none⟩) N N) (w.alloc (.cells C0.toArray 46)):=by
 have f:prog.underlying 39=some (.slice 46):=kR;have l:(prog.info? 46).map (λi=>(i.size,decide (i.bytes<=4000),i.zero.isSome))=some (4,true,true):=kR;obtain⟨i,b,k⟩:=TJ.1 l;simp only[Vz.injEq,decide_eq_true_eq]at k;obtain⟨j,d,e⟩:=k;obtain⟨z,n⟩:=UT.1 e;refine⟨(madeCells z.cells (N*4)).toList,by rw[TR,ZK,Ut],λw=>?_⟩;have g:(i.bytes:Int)*(N:Int)<=281474976710656:=by
  have:i.bytes*N<=4000*512:=VR d c;have m:((i.bytes*N:Nat):Int)<=281474976710656:=oM;rwa[V0]at m
 have:=run_make (P:=prog) w 39 46 i z f b n .i64 .i64 (N:Int) (N:Int) oM oM g oM;rw[YB,j]at this;rw[XT];exact this
def Ty(N:Nat)(w:TA)(n:Nat)(L:Nat->Bs)(e:TC)(w':TA):Prop:=
 ((∃j,j<n/\rq N (L j)=none)/\Below w.heap.size w w'/\e=.tuple #[.slice none 0 0,.bool false]) \/
 ((∀j,j<n->(rq N (L j)).isSome=true)/\∃k C,RG.Made w k C w'/\Rows 4 n (λj=>wn ((rq N (L j)).getD 0)) n C/\e=.tuple #[.slice (some (aZ k)) n n,.bool true])
theorem FK(O:Ord N)(n cap:Nat)(hn:n<=512)(q:Option V5)(L:Nat->Bs)(w:TA)(hA:Args w q n L):TW prog 11 #[(.func (.func 12) #[] #[]),.slice q n cap] w (Ret λe w'=>Ty N w n L e w'):=by
 obtain⟨C,V,M⟩:=S2 n hn;go_enter func11,ntmps11;refine RG.M.enter [(0,.v (.func (.func 12) #[] #[])),(1,.v (.slice q n cap))] 35 kR ?_;intro a0 M0;repeat refine TI ?_
 refine M0.U [.x (.slice none 0 0),.x (.bool false)] [0,1] ⟨RG.st,RG.st,yB5⟩ ?_;intro a1 w1 M1;repeat refine TI ?_
 refine M1.t [.x 11 [] (.slice q n cap),.x 12 [(11,0)] (iZ n),⟨some 13,[(12,1)],.s 0 n n,.make 0⟩,.s 6 [(13,2)] (.s 0 n n)] [(2,C)] [] [C] [(0,.v (.func (.func 12) #[] #[])),(1,.v (.slice q n cap)),(6,.s 0 n n)] ⟨RG.st,RG.st,RG.mB 0 rfl _ rfl 39 46 12 12 n rfl rfl RG.sx RG.sx M,RG.st,yB5⟩ ?_;intro j2 a2 w2 M2;repeat refine TI ?_
 refine M2.U [.x (.slice q n cap),.x (iZ n),.x (iZ 0)] [0,6,14,15,16] ⟨RG.st,RG.st,RG.st,yB5⟩ ?_;intro a3 w3 M3;repeat refine TI ?_
 refine V3 ?_;refine wp_loop_ghost (λm a wr=>∃(i:Nat) (C:List TC) (S:Nat),i+m=n/\(∀j,j<i->(rq N (L j)).isSome=true)/\Rows 4 n (λj=>wn ((rq N (L j)).getD 0)) i C/\RG.M w w.heap.size [] 35 [C] [S] [(0,.v (.func (.func 12) #[] #[])),(6,.s 0 n n),(14,.v (.slice q n cap)),(15,.v (iZ n)),(16,.v (iZ i))] a wr) n ⟨0,C,_,oM,λj hj=>oM,⟨V,λj r hj=>oM⟩,M3⟩ ?_;clear M;intro m' a wr;rintro⟨i,C,S,h9,o,T,B⟩;by_cases u:i<n
 ·obtain⟨y,Y,H,hc⟩:=hA oM;subst Y;obtain⟨v,hv,Q⟩:=hc i u;have l:w.cell? ⟨y,0+i,none⟩=some v:=by rw[TO];exact hv
  have z:=λw' (G:RG.BelX w.heap.size [] w w')=>KX O v (L i) w' (Q.below G.below)
  obtain⟨m,hm⟩:∃m,m=(rq N (L i)).getD 0:=⟨_,rfl⟩
  cases x:(rq N (L i)).isSome with
  | true =>
   have E:∀w',RG.BelX w.heap.size [] w w'->TW prog 12 #[v] w' (Ret λe A=>Below w'.heap.size w' A/\e=.tuple #[nv m,.bool true]):=λw' G=>by
    have h:=z w' G;rw[x,<-hm]at h;exact h
   have J:=T.len;have p:0+4*i+(wn m).length<=C.length:=by rw[J];show 0+4*i+4<=4*n;omega
   obtain⟨F,g⟩:∃c,RG.rep C (0+4*i) (wn m)=c:=⟨_,rfl⟩
   have h6:=g ▸ RG.rep_at p;have U:F.length=C.length:=g ▸ RG.dH p;have h4:Rows 4 n (λj=>wn ((rq N (L j)).getD 0)) (i+1) F:=by
    have:=T.next u rfl;rw[<-g,hm];exact this
   repeat refine TI ?_
   refine B.U [.x (.bool true)] [0,6,14,15,16,17] ⟨RG.aJ rfl .lss 3 3 16 15 (iZ i) (iZ n) (.bool true) rfl rfl RG.sx RG.sx (λw=>kR) (eY u),yB5⟩ ?_;intro K I d;repeat refine TI ?_
   refine UC d.ev ?_;refine Vg ?_;refine TI ?_;refine V3 ?_;repeat refine TI ?_
   refine d.U [.x (iZ i),.x (.pointer (some ⟨y,0+i,none⟩)),.x v,.x (iZ i),.x v] [0,6,7,8,14,15,16] ⟨RG.st,RG.aY rfl 24 14 16 rfl (.v (.slice (some (aZ y)) n cap)) (iZ i) RG.sx RG.sx (λμ w=>RR _ 0 _ _ i u w),RG.bJ rfl y (0+i) H Ud 23 19 rfl v rfl RG.sx l u22,RG.st,RG.st,yB5⟩ ?_;intro P R k;repeat refine TI ?_
   refine k.T [.x (.func (.func 12) #[] #[]),.x v,.c (.tuple #[nv m,.bool true]),.x (.tuple #[nv m,.bool true]),.x (nv m),.x (.bool true),.m 1,.u 1,.x (.bool true)] [(6,RG.z 4)] [(1,7,wn m)] [C,wn m] [0,6,7,9,10,14,15,16] ⟨RG.st,RG.st,RG.clB (λ_ _=>kR) E,RG.st,RG.st,RG.st,RG.mk 1 46,RG.pt i40,RG.st,yB5⟩ ?_;intro X Z h5 D;repeat refine TI ?_
   refine D.U [.x (.bool true),.x (.bool false)] [0,6,7,9,14,15,16,28] ⟨RG.st,RG.st,yB5⟩ ?_;intro h1 h7 t;repeat refine TI ?_
   refine UG t.ev ?_;refine Vg ?_;repeat refine TI ?_
   refine t.tx [.s 29 [] (.s 0 n n),.x 30 [] (iZ i),.x 31 [] (nv m),.s 32 [(29,0),(30,1)] (.p 0 (0+4*i)),.u [(32,3),(31,2)] 0] [] [(0,4,F)] [F,wn m] [(0,.v (.func (.func 12) #[] #[])),(6,.s 0 n n),(14,.v (.slice (some (aZ y)) n cap)),(15,.v (iZ n)),(16,.v (iZ i))] kR (congrArg (λn=>[n]) U) ⟨RG.st,RG.st,RG.ld u40 i40,RG.aY rfl 39 29 30 rfl (.s 0 n n) (iZ i) RG.sx RG.sx (λμ w=>AK _ 0 _ _ i u w),RG.fF 0 (0+4*i) rfl _ rfl 46 (.tmp 32) (.tmp 31) (wn m) rfl rfl RG.sx RG.sx p h6 i40 rfl,yB5⟩ ?_;intro h3 h0 f;repeat refine TI ?_
   refine f.U [.x (iZ ((i+1:Nat):Int)),.x (iZ ((i+1:Nat):Int))] [0,6,14,15,16] ⟨RG.aH rfl .add 3 3 16 (iZ i) (iZ 1) (iZ ((i+1:Nat):Int)) rfl rfl RG.sx (λw=>kR) (rK i 1 oM oM),RG.st,yB5⟩ ?_;intro ha h8 W;show ∃n',_;exact⟨m'-1,oM,i+1,F,S,oM,λj hj=>(by
    by_cases h2:j=i
    ·rw[h2];exact x
    ·exact o j oM),h4,RG.M.drop (cs:=[F]) (cs2:=[_]) (ks:=[S]) (ks2:=[_]) W rfl rfl⟩
  | false =>
   have E:∀w',RG.BelX w.heap.size [] w w'->TW prog 12 #[v] w' (Ret λe A=>Below w'.heap.size w' A/\e=.tuple #[nv m,.bool false]):=λw' G=>by
    have h:=z w' G;rw[x,<-hm]at h;exact h
   repeat refine TI ?_
   refine B.U [.x (.bool true)] [0,14,16,17] ⟨RG.aJ rfl .lss 3 3 16 15 (iZ i) (iZ n) (.bool true) rfl rfl RG.sx RG.sx (λw=>kR) (eY u),yB5⟩ ?_;intro K I d;repeat refine TI ?_
   refine UC d.ev ?_;refine Vg ?_;refine TI ?_;refine V3 ?_;repeat refine TI ?_
   refine d.U [.x (iZ i),.x (.pointer (some ⟨y,0+i,none⟩)),.x v,.x (iZ i),.x v] [0,8] ⟨RG.st,RG.aY rfl 24 14 16 rfl (.v (.slice (some (aZ y)) n cap)) (iZ i) RG.sx RG.sx (λμ w=>RR _ 0 _ _ i u w),RG.bJ rfl y (0+i) H Ud 23 19 rfl v rfl RG.sx l u22,RG.st,RG.st,yB5⟩ ?_;intro P R k;repeat refine TI ?_
   refine k.T [.x (.func (.func 12) #[] #[]),.x v,.c (.tuple #[nv m,.bool false]),.x (.tuple #[nv m,.bool false]),.x (nv m),.x (.bool false),.m 1,.u 1,.x (.bool false)] [(6,RG.z 4)] [(1,7,wn m)] [C,wn m] [10] ⟨RG.st,RG.st,RG.clB (λ_ _=>kR) E,RG.st,RG.st,RG.st,RG.mk 1 46,RG.pt i40,RG.st,yB5⟩ ?_;intro X Z h5 D;repeat refine TI ?_
   refine D.U [.x (.bool false),.x (.bool true)] [28] ⟨RG.st,RG.st,yB5⟩ ?_;intro h1 h7 t;repeat refine TI ?_
   refine UC t.ev ?_;repeat refine TI ?_
   refine t.U [.x (.slice none 0 0),.x (.bool false)] [4,5] ⟨RG.st,RG.st,yB5⟩ ?_;intro h3 h0 f;refine UZ ?_;refine TM (v:=.tuple #[.slice none 0 0,.bool false]) (RG.gV 4 5 rfl (.slice none 0 0) (.bool false) f.av f.av) f.sl.defers ?_;exact⟨_,rfl,Ub ⟨⟨i,u,by simpa using x⟩,f.st.bel.below,rfl⟩⟩
 ·have f:i=n:=oM;rw[f]at o T;repeat refine TI ?_
  refine B.U [.x (.bool false)] [6,17] ⟨RG.aJ rfl .lss 3 3 16 15 (iZ i) (iZ n) (.bool false) rfl rfl RG.sx RG.sx (λw=>kR) (l6 u),yB5⟩ ?_;intro K I d;repeat refine TI ?_
  refine UG d.ev ?_;refine wp_exit ?_;dsimp only[Exit.then,Exit.inBlock];rw[yB3 rfl];repeat refine TI ?_
  refine d.U [.s (.s 0 n n),.s (.s 0 n n),.x (.bool true)] [4,5] ⟨RG.st,RG.st,RG.st,yB5⟩ ?_;intro P R k;refine UZ ?_;refine TM (v:=_) (RG.gV 4 5 rfl _ (.bool true) (k.at (s:=.s 0 n n)) k.av) k.sl.defers ?_;exact⟨_,rfl,T8 ⟨o,_,C,k.st.made (b:=0) rfl,T,rfl⟩⟩
def prS(N:Nat)(a b:Nat->Nat):Nat->Nat
 | 0=>0
 | i+1=>sPl N (prS N a b i) (sTi N (b i) (a i))
theorem II(k:0<N)(a b:Nat->Nat):∀i,prS N a b i<N
 | 0=>k
 | _+1=>Vm _ k
structure CbS(w W:TA)(N k4 k5 i:Nat)(a b:Nat->Nat):Prop where
 bl:Below w.heap.size w W
 r4:Row W k4 [uZ 0,uZ 0,uZ 0,uZ 0]
 r5:Row W k5 (wn (prS N a b i))
theorem CbS.grow{w W W':TA}{c d i:Nat}{a b:Nat->Nat}(h:CbS w W N c d i a b)(k:Below W.heap.size W W'):CbS w W' N c d i a b:=
 ⟨h.bl.trans (k.mono h.bl.size),h.r4.below k,h.r5.below k⟩
theorem CbS.drew{w W:TA}{k c i:Nat}{a b:Nat->Nat}(h:CbS w W N k c i a b):CbS w W.drew N k c i a b:=⟨h.bl.drew,h.r4,h.r5⟩
theorem wn0:wn 0=[uZ 0,uZ 0,uZ 0,uZ 0]:=kR
theorem iG{W:TA}{k K o:Nat}{vs c:List TC}(h:Row W k vs)(b:k≠K):Row (W.setCells K o c) k vs:=aN h (by rw[RG.setCells_size];exact TG _) (RG.aG K c o W k b)
theorem CbS.put{w W:TA}{d k i:Nat}{a b:Nat->Nat}(h:CbS w W N d k i a b)(e:w.heap.size<=k)(c:d≠k):CbS w (W.setCells k 0 (wn (prS N a b (i+1)))) N d k (i+1) a b:=
 ⟨RG.below_setCells e _ _ _ h.bl,iG h.r4 c,h.r5.put rfl⟩
theorem PU(O:Ord N){Q:Nat->Prop}(n:Nat)(hn:n<=512)(a b:Nat->Nat)(ha:∀i,i<n->a i<N)(t:∀i,i<n->b i<N)(va vb:TC)(w:TA)(h1:SLq Q w va n a)(h2:SLq Q w vb n b):
 TW prog 38 #[va,vb] w (rZ w λe w'=>e=nv (prS N a b n)):=by
 obtain⟨T,o1,c1,rfl,-,-,U,h6⟩:=h1;obtain⟨r,C,c2,rfl,-,-,Z,Y⟩:=h2;obtain⟨c,A⟩:∃k,Hid (w.heap.size=k):=⟨_,rfl⟩
 obtain⟨w1,K⟩:∃w1,Hid ((w.alloc (.cells #[uZ 0,uZ 0,uZ 0,uZ 0] 46)).alloc (.cells #[uZ 0,uZ 0,uZ 0,uZ 0] 46)=w1):=⟨_,rfl⟩
 have K1:Hid (CbS w w1 N c (c+1) 0 a b):=by
  rw[<-K.out,<-A.out];have f:=aE (w.alloc (.cells #[uZ 0,uZ 0,uZ 0,uZ 0] 46)) [uZ 0,uZ 0,uZ 0,uZ 0] 46;rw[TQ]at f;exact⟨(aD w _).alloc (by rw[TQ];omega) _,(aE w _ _).alloc _,by show Row _ _ (wn 0);rw[wn0];exact f⟩
 have f:Hid (Ord N/\(∀i,i<n->a i<N)/\(∀i,i<n->b i<N)/\(∀j,j<n->w.rangeAt T (o1+4*j) (wn (a j)))/\(∀j,j<n->w.rangeAt r (C+4*j) (wn (b j)))/\T<w.heap.size/\r<w.heap.size/\w.heap.size<=c):=⟨O,ha,t,h6,Y,U,Z,by rw[A.out];exact TG _⟩
 obtain⟨d,S,h4⟩:=TJ.1 u40;have HD:Hid (prog.underlying 46=some d/\d.isRow=true):=⟨S,h4⟩
 clear O ha t h6 Y U Z S h4;go_enter func38,ntmps38;go_wp2;rw[K.out,A.out];clear K A;go_loopg [10] n (λm s10 W=>∃i:Nat,i+m=n/\s10=iZ i/\Hid (CbS w W N c (c+1) i a b))
 case atStart=>exact⟨0,oM,rfl,K1⟩
 case round =>
  clear K1;obtain⟨i,h9,rfl,D⟩:=hrel;by_cases P:i<n
  ·have h8:(i:Int)<(n:Int):=oM;have hc:(i:Int)<=600:=oM;have HL:=Hid.mk' P;have he:=AK T o1 n c1 i P;have B0:Hid (wr.rangeAt T (o1+4*i) (wn (a i))):=RG.range_below (f.2.2.2.1 i P) D.bl f.2.2.2.2.2.1;obtain⟨H,z⟩:∃k,Hid (wr.heap.size=k):=⟨_,rfl⟩
   obtain⟨R,F⟩:∃R,Hid (wr.alloc (.cells #[uZ 0,uZ 0,uZ 0,uZ 0] 46)=R):=⟨_,rfl⟩
   obtain⟨W2,M⟩:∃W2,Hid (R.setCells H 0 (wn (a i))=W2):=⟨_,rfl⟩
   have F1:Hid (Row R H [uZ 0,uZ 0,uZ 0,uZ 0]/\Below wr.heap.size wr R):=by rw[<-F.out,<-z.out];exact⟨aE wr _ _,aD wr _⟩
   have F2:Hid (Row W2 H (wn (a i))/\CbS w W2 N c (c+1) i a b):=by
    rw[<-M.out];exact⟨F1.1.put rfl,D.grow (RG.below_setCells (by rw[z.out];exact TG _) _ _ _ F1.2)⟩
   obtain⟨va,h7⟩:∃v,Hid (Um (wn (a i)).toArray=v):=⟨_,rfl⟩
   have HO:Hid ((wn (a i)).toArray.all (·.oneCell')=true):=bT _;clear D;go_wp2_with (first|(refine UL rfl 46 _ rfl T (o1+4*i) ?_ (wn (a i)) d ?_ ?_ ?_ ?_ ?_;rfl;exact B0.out;exact HD.1;exact HD.2;exact i40;rw[h7.out])|(refine cG (v:=pZ H) (w':=R) rfl (.alloc 46) rfl ?_ ?_;(rw[<-F.out,<-z.out];kernel_rfl))|(refine Ui rfl 46 _ _ rfl H 0 (wn (a i)).toArray ?_ ?_ ?_ ?_ ?_ ?_;rfl;exact h7.symm;exact F1.1.2.2;exact i40;exact HO.out;rw[show(wn (a i)).toArray.toList=wn (a i) from rfl,M.out])|fail)
   clear F M z F1 HO;obtain⟨s,G⟩:∃s,Hid (prS N a b i=s):=⟨_,rfl⟩
   have HN:Hid (s<N/\a i<N/\b i<N):=⟨by rw[<-G.out];exact II f.1.pos a b i,f.2.1 i P,f.2.2.1 i P⟩
   obtain⟨p,I⟩:∃p,Hid (sTi N (b i) (a i)=p):=⟨_,rfl⟩
   obtain⟨q,g⟩:∃q,Hid (sPl N s p=q):=⟨_,rfl⟩
   have HP:Hid (p<N):=by show p<N;rw[<-I.out];exact Vm _ f.1.pos
   have HQ:Hid (prS N a b (i+1)=q):=by show _=_;rw[<-g.out,<-I.out,<-G.out];rfl
   have hT:=λW=>zZ f.1 (b i) (a i) HN.2.2 HN.2.1 W
   have J:=λW=>CU f.1 s p HN.1 HP.out W
   rw[I.out]at hT;rw[g.out]at J;have h5:∀W,Below w.heap.size w W->W.rangeAt r (C+4*i) (wn (b i)):=λW B=>RG.range_below (f.2.2.2.2.1 i P) B f.2.2.2.2.2.2.1
   have X:∀W,CbS w W N c (c+1) i a b->W.rangeAt (c+1) 0 (wn s):=λW h=>by rw[<-G.out];exact h.r5.2.1
   refine(RG.gwL [RG.pE (nv s),RG.pE (.iface 46 (nv s)),RG.pE (.slice (some ⟨r,C,none⟩) n c2),RG.pE (iZ i),RG.pE (.pointer (some ⟨r,C+4*i,none⟩)),RG.pE (nv (b i)),RG.pE (.iface 46 (nv (b i))),RG.pE (nv (a i)),RG.pE (nv p),RG.pE (nv q)] (λW=>CbS w W N c (c+1) i a b/\Row W H (wn (a i))) (λW W' t h=>⟨h.1.grow t,h.2.below t⟩)).last 10 kR kR kR ⟨
    RG.iS 46 5 (c+1) 0 (wn s) u40 i40 rfl (λW B=>X W B.1) (λ_=>rfl),
    RG.pO 0 15 (nv s) (.iface 46 (nv s)) (λx W h=>h) (λ_=>rfl),
    RG.gO 1 (.slice (some ⟨r,C,none⟩) n c2),
    RG.gO 6 (iZ i),
    RG.Ao 2 17 3 18 (.slice (some ⟨r,C,none⟩) n c2) (iZ i) (.pointer (some ⟨r,C+4*i,none⟩)) (UP 39 (.slice (some ⟨r,C,none⟩) n c2) (iZ i)) (AK r C n c2 i HL.out) (λx W h=>h) (λx W h=>h) (λ_=>rfl),
    RG.gLr 4 19 (λW B=>h5 W B.1.bl) u40 i40,
    RG.pO 5 20 (nv (b i)) (.iface 46 (nv (b i))) (λx W h=>h) (λ_=>rfl),
    RG.iS 46 7 H 0 (wn (a i)) u40 i40 rfl (λW B=>B.2.2.1) (λ_=>rfl),
    RG.oV 46 6 21 7 22 (RG.pE (nv (b i))) 80 (λx W h=>⟨_,h,rfl⟩) (λx y W o l B=>by
     obtain rfl:x=nv (b i):=o;obtain rfl:y=nv (a i):=l;refine(hT W).mono ?_;rintro e W' ⟨u,rfl,t,rfl⟩;exact⟨_,rfl,t,rfl⟩),
    RG.oV 46 1 16 8 23 (RG.pE (nv s)) 81 (λx W h=>⟨_,h,rfl⟩) (λx y W o l B=>by
     obtain rfl:x=nv s:=o;obtain rfl:y=nv p:=l;refine(J W).mono ?_;rintro e W' ⟨u,rfl,t,rfl⟩;exact⟨_,rfl,t,rfl⟩),yB5⟩ ⟨F2.2.drew,F2.1⟩ ?_
   intro V W3 h3 L;have h0:V 9=nv q:=h3 9 dC;obtain⟨E,l⟩:∃E,Hid (W3.setCells (c+1) 0 (wn q)=E):=⟨_,rfl⟩
   have K4:Hid (CbS w E N c (c+1) (i+1) a b):=by
    have h:=L.1.put (by have:=f.2.2.2.2.2.2.2;omega) oM;rw[HQ.out,l.out]at h;exact h
   have HT:Hid (W3.there (c+1) 0 4):=L.1.r5.2.2;dsimp only[RG.bW,UJ,Vw,Vx];simp only[Ug,TD,TK,TL];obtain⟨vq,o⟩:∃v,Hid (nv q=v):=⟨_,rfl⟩
   rw[h0,o.out];clear h3 L h0 F2 hT J h5 X;generalize V 0=s0;generalize V 1=s1;generalize V 2=s2;generalize V 3=s3;generalize V 4=s4;generalize V 5=s5;generalize V 6=s6;generalize V 7=s7;generalize V 8=s8;go_wp2_with (first|(refine Ui rfl 46 _ _ rfl (c+1) 0 (wn q).toArray ?_ ?_ ?_ ?_ ?_ ?_;rfl;exact o.symm;exact HT.out;exact i40;exact bT q;rw[show(wn q).toArray.toList=wn q from rfl,l.out])|fail)
   go_roundg (gk-1)
   case measure=>omega
   case rel=>exact⟨i+1,oM,rfl,K4⟩
  ·have h8:¬(i:Int)<(n:Int):=oM;obtain rfl:i=n:=oM;obtain⟨q,g⟩:∃q,Hid (prS N a b i=q):=⟨_,rfl⟩
   obtain⟨E,l⟩:∃E,Hid (wr.setCells c 0 (wn q)=E):=⟨_,rfl⟩
   have R5:Hid (wr.rangeAt (c+1) 0 (wn q)/\wr.there c 0 4):=⟨by rw[<-g.out];exact D.r5.2.1,D.r4.2.2⟩
   have K4:Hid (Below w.heap.size w E/\Row E c (wn q)):=by
    rw[<-l.out];exact⟨RG.below_setCells f.2.2.2.2.2.2.2 _ _ _ D.bl,D.r4.put rfl⟩
   obtain⟨vq,o⟩:∃v,Hid (nv q=v):=⟨_,rfl⟩
   clear D;go_wp2_with (first|(refine UL rfl 46 _ rfl (c+1) 0 ?_ (wn q) d ?_ ?_ ?_ ?_ ?_;rfl;exact R5.1;exact HD.1;exact HD.2;exact i40;rw[show Um (wn q).toArray=vq from o.out])|(refine Ui rfl 46 _ _ rfl c 0 (wn q).toArray ?_ ?_ ?_ ?_ ?_ ?_;rfl;exact o.symm;exact R5.2;exact i40;exact bT q;rw[show(wn q).toArray.toList=wn q from rfl,l.out])|fail)
   refine TM (aL 4 46 rfl K4.2 rfl u40 i40) rfl ?_;exact⟨_,rfl,K4.1,by rw[g.out];rfl⟩
theorem Cz:(prog.underlying 50).map (·.isRow)=some false:=kR
structure CbM(w W:TA)(v:TC)(l:List (Nat × Bs)):Prop where
 bl:Below w.heap.size w W
 sm:SmZ w.heap.size W v l
theorem CbM.grow{w W W':TA}{v:TC}{l:List (Nat × Bs)}(h:CbM w W v l)(k:Below W.heap.size W W'):CbM w W' v l:=⟨h.bl.trans (k.mono h.bl.size),h.sm.grow k⟩
theorem CbM.drew{w W:TA}{v:TC}{l:List (Nat × Bs)}(h:CbM w W v l):CbM w W.drew v l:=⟨h.bl.drew,h.sm.grow ⟨rfl,rfl,rfl,TG _,λ_ _=>rfl⟩⟩
theorem H5{B:Nat}{W:TA}{v:TC}{l:List (Nat × Bs)}(h:SmZ B W v l):SmZ 0 W v l:=by
 rcases h with h|⟨g,c,d,k,-,b⟩
 ·exact Ub h
 ·exact T8 ⟨g,c,d,k,VH _,b⟩
theorem JH(O:Ord N){Q:Nat->Prop}(n c:Nat)(h4:0<n)(h7:0<c)(hn:n<=512)(P:c*n<=400)(a:Nat->Nat)(T:Nat->List (Nat × Bs))(ha:∀i,i<n->a i<N)(hT:∀i,i<n->TOk N (T i))(hl:∀i,i<n->(T i).length=c)(R vb:TC)(w:TA)(h1:SLq Q w R n a)(K:GLq Q w vb n T):
 TW prog 78 #[R,vb] w (rZ w λe w'=>Sm w.heap.size w' e (eW N a T n)):=by
 obtain⟨J,o1,c1,rfl,-,-,U,h6⟩:=h1;obtain⟨b,f,I,rfl,-,-,Z,X⟩:=K;have K1:Hid (CbM w w (.slice none 0 0) (eW N a T 0)):=⟨TX _ _,Ub ⟨rfl,rfl⟩⟩
 have k:Hid (Ord N/\(∀i,i<n->a i<N)/\(∀i,i<n->TOk N (T i))/\(∀i,i<n->(T i).length=c)/\(∀j,j<n->w.rangeAt J (o1+4*j) (wn (a j)))/\(∀j,j<n->∃x,w.cell? ⟨b,f+j,none⟩=some x/\SmQ Q w x (T j))/\J<w.heap.size/\b<w.heap.size/\0<c/\c*n<=400/\0<n):=⟨O,ha,hT,hl,h6,X,U,Z,h7,P,h4⟩
 obtain⟨d,S,h0⟩:=TJ.1 u40;have HD:Hid (prog.underlying 46=some d/\d.isRow=true):=⟨S,h0⟩
 go_enter func78,ntmps78;go_wp2;go_loopg [5,10] n (λm s5 s10 W=>∃i:Nat,i+m=n/\s10=iZ i/\Hid (CbM w W s5 (eW N a T i)))
 case atStart=>exact⟨0,oM,rfl,K1⟩
 case round =>
  obtain⟨i,he,rfl,L⟩:=hrel;by_cases r:i<n
  ·have h5:(i:Int)<(n:Int):=oM;have B:=Hid.mk' r;have hh:=AK J o1 n c1 i r;have B0:=mk1 (RG.range_below (k.2.2.2.2.1 i r) L.bl k.2.2.2.2.2.2.1);obtain⟨s,t⟩:=hE (wr.heap.size);obtain⟨M,D⟩:=hE (wr.alloc (.cells #[uZ 0,uZ 0,uZ 0,uZ 0] 46));obtain⟨W2,H⟩:=hE (M.setCells s 0 (wn (a i)));have F1:Hid (Row M s [uZ 0,uZ 0,uZ 0,uZ 0]/\Below wr.heap.size wr M):=by rw[<-D.out,<-t.out];exact⟨aE wr _ _,aD wr _⟩
   have Y:Hid (Row W2 s (wn (a i))/\CbM w W2 u5 (eW N a T i)):=by
    rw[<-H.out];exact⟨F1.1.put rfl,L.grow (RG.below_setCells (by rw[t.out];exact TG _) _ _ _ F1.2)⟩
   obtain⟨R,G⟩:=hE (Um (wn (a i)).toArray);have HO:Hid ((wn (a i)).toArray.all (·.oneCell')=true):=bT _;go_wp2_with (first|(refine UL rfl 46 _ rfl J (o1+4*i) ?_ (wn (a i)) d ?_ ?_ ?_ ?_ ?_;rfl;exact B0.out;exact HD.1;exact HD.2;exact i40;rw[G.out])|(refine cG (v:=pZ s) (w':=M) rfl (.alloc 46) rfl ?_ ?_;(rw[<-D.out,<-t.out];kernel_rfl))|(refine Ui rfl 46 _ _ rfl s 0 (wn (a i)).toArray ?_ ?_ ?_ ?_ ?_ ?_;rfl;exact G.symm;exact F1.1.2.2;exact i40;exact HO.out;rw[show(wn (a i)).toArray.toList=wn (a i) from rfl,H.out])|fail)
   obtain⟨x,h8,h9⟩:=k.2.2.2.2.2.1 i r;have HX:=mk2 h8 h9;obtain⟨l,o⟩:=hE (eW N a T i);have F:eW N a T (i+1)=l++(T i).map (tmT N (a i)):=by rw[<-o.out];rfl
   have hc:l.length=c*i:=by rw[<-o.out];exact fB N a i λj hj=>k.2.2.2.1 j oM
   have hk:c*i+c<=c*n:=by have:=WJ c (yAM r);rwa[XV]at this
   have C:Hid (l.length<=500/\(T i).length<=500/\0<(T i).length/\TOk N l):=⟨by have:=k.2.2.2.2.2.2.2.2.2.1;omega,by rw[k.2.2.2.1 i r];have:=k.2.2.2.2.2.2.2.2.2.1;omega,by rw[k.2.2.2.1 i r];exact k.2.2.2.2.2.2.2.2.1,by rw[<-o.out];exact oJ k.1.pos i λj hj=>k.2.2.1 j oM⟩
   have HE:Hid (eW N a T (i+1)=l++(T i).map (tmT N (a i))):=F;rw[o.out]at Y;refine(RG.gwL [RG.pE u5,RG.pE (.iface 50 u5),RG.pE (.slice (some ⟨b,f,none⟩) n I),RG.pE (iZ i),RG.pE (.pointer (some ⟨b,f+1*i,none⟩)),RG.pE x,RG.pE (.iface 50 x),RG.pE (nv (a i)),RG.pM (w.heap.size<=·) ((T i).map (tmT N (a i))),RG.pM (w.heap.size<=·) (l++(T i).map (tmT N (a i))),RG.pM (w.heap.size<=·) (l++(T i).map (tmT N (a i)))] (λW=>CbM w W u5 l/\Row W s (wn (a i))) (λW W' A h=>⟨h.1.grow A,h.2.below A⟩)).draws kR kR ⟨
    RG.gO 5 u5,
    RG.pO 0 15 u5 (.iface 50 u5) (λx W h=>h) (λ_=>rfl),
    RG.gO 1 (.slice (some ⟨b,f,none⟩) n I),
    RG.gO 6 (iZ i),
    RG.Ao 2 17 3 18 (.slice (some ⟨b,f,none⟩) n I) (iZ i) (.pointer (some ⟨b,f+1*i,none⟩)) (UP 48 (.slice (some ⟨b,f,none⟩) n I) (iZ i)) (atS b f n I i B.out) (λx W h=>h) (λx W h=>h) (λ_=>rfl),
    RG.gB 50 4 19 b (f+1*i) x Cz (λx W h=>h) (λW q=>by rw[V4,q.1.bl.cell (p:=⟨b,f+i,none⟩) k.2.2.2.2.2.2.2.1];exact HX.1) (λ_=>rfl),
    RG.pO 5 20 x (.iface 50 x) (λx W h=>h) (λ_=>rfl),
    RG.iS 46 7 s 0 (wn (a i)) u40 i40 rfl (λW q=>q.2.2.1) (λ_=>rfl),
    RG.oV 50 6 21 7 22 (RG.pE x) 37 (λx W h=>⟨_,h,rfl⟩) (λz y W hx E q=>by
     obtain rfl:z=x:=hx;obtain rfl:y=nv (a i):=E;refine(lM k.1 (k.2.1 i B.out) 0 z (T i) (by have:=C.2.1;omega) (k.2.2.1 i B.out).szm (k.2.2.1 i B.out).lt W (HX.2.sm.grow q.1.bl)).mono ?_;rintro e W' ⟨u,rfl,A,hs⟩;exact⟨_,rfl,A,hs.q.mono λg V=>TU q.1.bl.size V⟩),
    RG.oV 50 1 16 8 23 (RG.pE u5) 36 (λx W h=>⟨_,h,rfl⟩) (λz y W hx E q=>by
     obtain rfl:z=u5:=hx;have E:=E;refine(lN 0 z y l ((T i).map (tmT N (a i))) (by rw[TT,Uk];have:=C.2.2.1;omega) C.1 (by rw[Uk];exact C.2.1) C.2.2.2.sz ((k.2.2.1 i B.out).tm k.1.pos (a i)).sz W (H5 q.1.sm) (T8 E.sm)).mono ?_;rintro e W' ⟨u,rfl,A,hs⟩;exact⟨_,rfl,A,hs.q.mono λg V=>TU q.1.bl.size V⟩),
    RG.GM 9 24 id (λx W h=>h),yB5⟩ ⟨Y.2.drew,Y.1⟩ ?_
   intro V W3 E h3;have q:Hid (CbM w W3 (V 10) (eW N a T (i+1))):=⟨h3.1.bl,T8 (by rw[HE.out];exact E 10 (V8 (Va kR)))⟩
   dsimp only[RG.bW,UJ];go_wp2;go_roundg (gk-1)
   case measure=>omega
   case rel=>exact⟨i+1,oM,rfl,q⟩
  ·have h5:¬(i:Int)<(n:Int):=oM;obtain rfl:i=n:=oM;have q:Hid (Below w.heap.size w wr/\Sm w.heap.size wr u5 (eW N a T i)):=⟨L.bl,by
    rcases L.sm with⟨-,h⟩|h
    ·exfalso;have:=fB N a i k.2.2.2.1;rw[h]at this;have K:=yAm k.2.2.2.2.2.2.2.2.1 k.2.2.2.2.2.2.2.2.2.2;rw[<-this]at K;exact absurd K (Nat.lt_irrefl _)
    ·exact h⟩
   go_wp2;go_ret;exact⟨_,rfl,q.1,q.2⟩
theorem rSc:(prog.underlying 46).map (·.isRow)=some true:=u40
theorem nSc:(prog.info? 46).map (·.size)=some 4:=i40
def nE(N x y n:Nat)(a:Nat->Nat)(i:Nat):Nat:=sPl N (sTi N (a i) x) (sTi N (a (n+i)) y)
structure FdS(w W:TA)(K k4 k5 n i x y:Nat)(f:Nat->Nat):Prop where
 ar:Ar w W K 4 n i (λj=>wn (f j))
 r4:Row W k4 (wn x)
 r5:Row W k5 (wn y)
theorem FdS.grow{w W W':TA}{K b c n i x y:Nat}{f:Nat->Nat}(h:FdS w W K b c n i x y f)(k:Below W.heap.size W W'):FdS w W' K b c n i x y f:=⟨h.ar.grow k,h.r4.below k,h.r5.below k⟩
theorem FdS.drew{w W:TA}{K k b n i x y:Nat}{f:Nat->Nat}(h:FdS w W K k b n i x y f):FdS w W.drew K k b n i x y f:=h.grow ⟨rfl,rfl,rfl,TG _,λ_ _=>rfl⟩
theorem FdS.put{w W:TA}{K k b n i x y:Nat}{f:Nat->Nat}(h:FdS w W K k b n i x y f)(d:w.heap.size<=K)(e:i<n)(c:k≠K)(g:b≠K):FdS w (W.setCells K (4*i) (wn (f i))) K k b n (i+1) x y f:=
 ⟨h.ar.put d e (λ_ _=>rfl),iG h.r4 c,iG h.r5 g⟩
theorem NI(a b:Nat)(h:a+b<4611686018427387904)(w:TA):(binOp .add 3 (iZ a) (iZ b)).run prog w=.ok (iZ ((a+b:Nat):Int)) w:=by
 have d:(a:Int)+(b:Int)<4611686018427387904:=oM;have k:-4611686018427387904<(a:Int)+(b:Int):=oM;have c:UR.wrap ((a:Int)+(b:Int))=((a+b:Nat):Int):=by rw[IntKind.wrap_i64];omega
 go_simp
theorem RO(w:TA)(x y:Nat):∃k,Hid ((w.alloc (.cells (wn x).toArray 46)).alloc (.cells (wn y).toArray 46)=k)/\Below w.heap.size w k/\Row k w.heap.size (wn x)/\Row k (w.heap.size+1) (wn y)/\k.heap.size=w.heap.size+2:=by
 have b:=aE (w.alloc (.cells (wn x).toArray 46)) (wn y) 46;rw[TQ]at b;exact⟨_,Hid.mk' rfl,(aD w _).alloc (by rw[TQ];omega) _,(aE w _ _).alloc _,b,by rw[TQ,TQ]⟩
theorem Jm(O:Ord N){Q:Nat->Prop}(n:Nat)(hn:n<=500)(a:Nat->Nat)(x y:Nat)(C:x<N)(r:y<N)(ha:∀i,i<n+n->a i<N)(va:TC)(w:TA)(h1:SLq Q w va (n+n) a):
 TW prog 45 #[va,nv x,nv y] w (rZ w λe w'=>SLq (w.heap.size<=·) w' e n (nE N x y n a)):=by
 obtain⟨b,d,o,rfl,-,-,h3,hg⟩:=h1;obtain⟨m,hm⟩:∃m,Hid (n+n=m):=⟨_,rfl⟩
 have hq:(m:Int).tdiv 2=(n:Int):=by rw[<-hm.out,Wt oM];omega
 obtain⟨H,hc,X,Y,S,M⟩:=RO w x y;obtain⟨C0,h4,h8⟩:=I0 uS4 iS4 n oM;have B:=h8 H;obtain⟨K,hK⟩:∃K,Hid (H.heap.size=K):=⟨_,rfl⟩
 obtain⟨w3,F⟩:∃w3,Hid (H.alloc (.cells C0.toArray 46)=w3):=⟨_,rfl⟩
 have Z:Ar H w3 K 4 n 0 (λj=>wn (nE N x y n a j)):=Ar.new _ h4 F.out hK.out;rw[F.out,hK.out]at B;obtain⟨c,l⟩:∃k,Hid (w.heap.size=k):=⟨_,rfl⟩
 rw[l.out]at Y S M;have HK:Hid (K=c+2/\w.heap.size<=c):=⟨by rw[<-hK.out,M],by rw[l.out];exact TG _⟩
 have K1:Hid (FdS w w3 K c (c+1) n 0 x y (nE N x y n a)):=⟨⟨X.trans (Z.bl.mono X.size),Z.lt,Z.th,λj hj=>absurd hj (VC _)⟩,Y.below Z.bl,S.below Z.bl⟩
 have g:Hid (Ord N/\x<N/\y<N/\(∀i,i<n+n->a i<N)/\(∀j,j<n+n->w.rangeAt b (d+4*j) (wn (a j)))/\b<w.heap.size):=⟨O,C,r,ha,hg,h3⟩
 obtain⟨vx,h2⟩:∃v,Hid (nv x=v):=⟨_,rfl⟩
 obtain⟨vy,hh⟩:∃v,Hid (nv y=v):=⟨_,rfl⟩
 obtain⟨A,T⟩:∃A,Hid (w.alloc (.cells (wn x).toArray 46)=A):=⟨_,rfl⟩
 have B1:Hid ((U6 46 vx).run prog w=.ok (pZ c) A):=by rw[<-h2.out,<-T.out,<-l.out];exact boxS x w
 have B2:Hid ((U6 46 vy).run prog A=.ok (.pointer (some ⟨c+1,0,none⟩)) H):=by
  have h:=boxS y A;rw[show A.heap.size=c+1 by rw[<-T.out,TQ,l.out]]at h;have e:A.alloc (.cells (wn y).toArray 46)=H:=by rw[<-T.out];exact hc.out
  rw[e]at h;rw[<-hh.out];exact h
 rw[h2.out,hh.out,hm.out];clear O C r ha hg h3 X Y S M Z h4 h8 hK F l hc;go_enter func45,ntmps45;go_wp2_with (first|(refine aM (u:=vx) (v:=pZ c) (w':=A) rfl 46 (.tmp 1) rfl ?_ ?_ ?_;rfl;exact B1.out)|(refine aM (u:=vy) (v:=.pointer (some ⟨c+1,0,none⟩)) (w':=H) rfl 46 (.tmp 2) rfl ?_ ?_ ?_;rfl;exact B2.out)|fail)
 clear B B1 B2 hq;go_loopg [15] n (λm s15 W=>∃i:Nat,i+m=n/\s15=iZ i/\Hid (FdS w W K c (c+1) n i x y (nE N x y n a)))
 case atStart=>exact⟨0,oM,rfl,K1⟩
 case round =>
  clear K1;obtain⟨i,hr,rfl,KM⟩:=hrel;by_cases hi:i<n
  ·have hl:(i:Int)<(n:Int):=oM;have hs:(i:Int)<=600:=oM;have HL:=Hid.mk' hi;have KP:=KM;clear KM;go_wp2_with fail
   obtain⟨p1,G⟩:∃p,Hid (sTi N (a i) x=p):=⟨_,rfl⟩
   obtain⟨p2,I⟩:∃p,Hid (sTi N (a (n+i)) y=p):=⟨_,rfl⟩
   obtain⟨q,h5⟩:∃q,Hid (sPl N p1 p2=q):=⟨_,rfl⟩
   have HP:Hid (p1<N/\p2<N):=⟨by rw[<-G.out];exact Vm _ g.1.pos,by rw[<-I.out];exact Vm _ g.1.pos⟩
   have HQ:Hid (nE N x y n a i=q):=by show _=_;rw[<-h5.out,<-G.out,<-I.out];rfl
   have J:=λW=>zZ g.1 (a i) x (g.2.2.2.1 i oM) g.2.1 W
   have L:=λW=>zZ g.1 (a (n+i)) y (g.2.2.2.1 (n+i) oM) g.2.2.1 W
   have R:=λW=>CU g.1 p1 p2 HP.1 HP.2 W
   rw[G.out]at J;rw[I.out]at L;rw[h5.out]at R;have h0:∀W,Below w.heap.size w W->W.rangeAt b (d+4*i) (wn (a i)):=λW f=>RG.range_below (g.2.2.2.2.1 i oM) f g.2.2.2.2.2
   have he:∀W,Below w.heap.size w W->W.rangeAt b (d+4*(n+i)) (wn (a (n+i))):=λW f=>RG.range_below (g.2.2.2.2.1 (n+i) oM) f g.2.2.2.2.2
   have hk:i<m:=by rw[<-hm.out];omega
   have h7:n+i<m:=by rw[<-hm.out];omega
   refine(RG.gwL [RG.pE (.slice (some (aZ K)) n n),RG.pE (iZ i),RG.pE (.slice (some ⟨b,d,none⟩) m o),RG.pE (iZ i),RG.pE (.pointer (some ⟨b,d+4*i,none⟩)),RG.pE (nv (a i)),RG.pE (.iface 46 (nv (a i))),RG.pE (nv x),RG.pE (nv p1),RG.pE (.iface 46 (nv p1)),RG.pE (.slice (some ⟨b,d,none⟩) m o),RG.pE (.slice (some (aZ K)) n n),RG.pE (iZ n),RG.pE (iZ i),RG.pE (iZ ((n+i:Nat):Int)),RG.pE (.pointer (some ⟨b,d+4*(n+i),none⟩)),RG.pE (nv (a (n+i))),RG.pE (.iface 46 (nv (a (n+i)))),RG.pE (nv y),RG.pE (nv p2),RG.pE (nv q),RG.pE (.pointer (some ⟨K,0+4*i,none⟩))] (λW=>FdS w W K c (c+1) n i x y (nE N x y n a)) (λW W' E h=>h.grow E)).last 22 kR kR kR ⟨
    RG.gO 7 (.slice (some (aZ K)) n n),
    RG.gO 8 (iZ i),
    RG.gO 0 (.slice (some ⟨b,d,none⟩) m o),
    RG.gO 8 (iZ i),
    RG.Ao 2 20 3 21 (.slice (some ⟨b,d,none⟩) m o) (iZ i) (.pointer (some ⟨b,d+4*i,none⟩)) (UP 39 (.slice (some ⟨b,d,none⟩) m o) (iZ i)) (AK b d m o i hk) (λx W h=>h) (λx W h=>h) (λ_=>rfl),
    RG.gLr 4 22 (λW f=>h0 W f.ar.bl) rSc nSc,
    RG.pO 5 23 (nv (a i)) (.iface 46 (nv (a i))) (λx W h=>h) (λ_=>rfl),
    RG.iS 46 4 c 0 (wn x) rSc nSc rfl (λW f=>f.r4.2.1) (λ_=>rfl),
    RG.oV 46 6 24 7 25 (RG.pE (nv (a i))) 80 (λx W h=>⟨_,h,rfl⟩) (λz u W C r f=>by
     obtain rfl:z=nv (a i):=C;obtain rfl:u=nv x:=r;refine(J W).mono ?_;rintro e W' ⟨u,rfl,E,rfl⟩;exact⟨_,rfl,E,rfl⟩),
    RG.pO 8 26 (nv p1) (.iface 46 (nv p1)) (λx W h=>h) (λ_=>rfl),
    RG.gO 0 (.slice (some ⟨b,d,none⟩) m o),
    RG.gO 7 (.slice (some (aZ K)) n n),
    RG.pO 11 29 (.slice (some (aZ K)) n n) (iZ n) (λx W h=>h) (λ_=>rfl),
    RG.gO 8 (iZ i),
    RG.Jd .add 3 3 30 31 rfl (λa W s=>⟨_,_,iZ ((n+i:Nat):Int),s.n 12 30 kR kR,s.n 13 31 kR kR,kR,NI n i oM W,rfl⟩),
    RG.Ao 10 28 14 32 (.slice (some ⟨b,d,none⟩) m o) (iZ ((n+i:Nat):Int)) (.pointer (some ⟨b,d+4*(n+i),none⟩)) (UP 39 (.slice (some ⟨b,d,none⟩) m o) (iZ ((n+i:Nat):Int))) (AK b d m o (n+i) h7) (λx W h=>h) (λx W h=>h) (λ_=>rfl),
    RG.gLr 15 33 (λW f=>he W f.ar.bl) rSc nSc,
    RG.pO 16 34 (nv (a (n+i))) (.iface 46 (nv (a (n+i)))) (λx W h=>h) (λ_=>rfl),
    RG.iS 46 5 (c+1) 0 (wn y) rSc nSc rfl (λW f=>f.r5.2.1) (λ_=>rfl),
    RG.oV 46 17 35 18 36 (RG.pE (nv (a (n+i)))) 80 (λx W h=>⟨_,h,rfl⟩) (λz u W C r f=>by
     obtain rfl:z=nv (a (n+i)):=C;obtain rfl:u=nv y:=r;refine(L W).mono ?_;rintro e W' ⟨u,rfl,E,rfl⟩;exact⟨_,rfl,E,rfl⟩),
    RG.oV 46 9 27 19 37 (RG.pE (nv p1)) 81 (λx W h=>⟨_,h,rfl⟩) (λz u W C r f=>by
     obtain rfl:z=nv p1:=C;obtain rfl:u=nv p2:=r;refine(R W).mono ?_;rintro e W' ⟨u,rfl,E,rfl⟩;exact⟨_,rfl,E,rfl⟩),
    RG.Ao 0 18 1 19 (.slice (some (aZ K)) n n) (iZ i) (.pointer (some ⟨K,0+4*i,none⟩)) (UP 39 (.slice (some (aZ K)) n n) (iZ i)) (AK K 0 n n i HL.out) (λx W h=>h) (λx W h=>h) (λ_=>rfl),yB5⟩ KP.drew ?_
   intro V W3 P U;have s:V 20=nv q:=P 20 dC;have D:V 21=.pointer (some ⟨K,0+4*i,none⟩):=P 21 dC;obtain⟨W4,h6⟩:∃W4,Hid (W3.setCells K (4*i) (wn q)=W4):=⟨_,rfl⟩
   have K4:Hid (FdS w W4 K c (c+1) n (i+1) x y (nE N x y n a)):=by
    have h:=U.put (by have:=HK.out;omega) hi (by have:=HK.out;omega) (by have:=HK.out;omega);rw[HQ.out,h6.out]at h;exact h
   have HT:Hid (W3.there K (4*i) 4):=λt ht=>by
    have:=U.ar.th (4*i+t) oM;rwa[TO]at this
   dsimp only[RG.bW,UJ,Vw,Vx];simp only[Ug,TD,TK,TL];obtain⟨vq,h9⟩:∃v,Hid (nv q=v):=⟨_,rfl⟩
   rw[s,D,h9.out,TO];clear P U s D KP J L R he h0;generalize V 0=s0;generalize V 1=s1;generalize V 2=s2;generalize V 3=s3;generalize V 4=s4;generalize V 5=s5;generalize V 6=s6;generalize V 7=s7;generalize V 8=s8;generalize V 9=s9;generalize V 10=s10;generalize V 11=s11;generalize V 12=s12;generalize V 13=s13;generalize V 14=s14;generalize V 15=s15;generalize V 16=s16;generalize V 17=s17;generalize V 18=s18;generalize V 19=s19;go_wp2_with (first|(refine Ui rfl 46 _ _ rfl K (4*i) (wn q).toArray ?_ ?_ ?_ ?_ ?_ ?_;rfl;exact h9.symm;exact HT.out;exact i40;exact bT q;rw[show(wn q).toArray.toList=wn q from rfl,h6.out])|fail)
   go_roundg (gk-1)
   case measure=>omega
   case rel=>exact⟨i+1,oM,rfl,K4⟩
  ·have hl:¬(i:Int)<(n:Int):=oM;obtain rfl:i=n:=oM;have K4:Hid (Below w.heap.size w wr/\SLq (w.heap.size<=·) wr (.slice (some (aZ K)) i i) i (nE N x y i a)):=⟨KM.ar.bl,K,0,i,rfl,TG _,by have:=HK.out;omega,KM.ar.lt,λj hj=>by rw[TO];exact KM.ar.rw j hj⟩
   clear KM;go_wp2;go_ret;exact⟨_,rfl,K4.1,K4.2⟩
structure FdM(w W:TA)(K k4 k5 n i x y:Nat)(f:Nat->List (Nat × Bs)):Prop where
 ls:LsI w W K n i f
 r4:Row W k4 (wn x)
 r5:Row W k5 (wn y)
theorem FdM.grow{w W W':TA}{K b c n i x y:Nat}{f:Nat->List (Nat × Bs)}(h:FdM w W K b c n i x y f)(k:Below W.heap.size W W'):FdM w W' K b c n i x y f:=⟨h.ls.grow k,h.r4.below k,h.r5.below k⟩
theorem FdM.drew{w W:TA}{K k b n i x y:Nat}{f:Nat->List (Nat × Bs)}(h:FdM w W K k b n i x y f):FdM w W.drew K k b n i x y f:=h.grow ⟨rfl,rfl,rfl,TG _,λ_ _=>rfl⟩
theorem FdM.put{w W:TA}{K k b n i x y:Nat}{f:Nat->List (Nat × Bs)}{v:TC}(h:FdM w W K k b n i x y f)(d:i<n)(c:k≠K)(e:b≠K)(hv:SmQ (λg=>w.heap.size<=g/\g≠K) W v (f i)):FdM w (W.setCells K i [v]) K k b n (i+1) x y f:=
 ⟨h.ls.put d hv,iG h.r4 c,iG h.r5 e⟩
theorem Jn(O:Ord N){Q:Nat->Prop}(n:Nat)(hn:n<=500)(c:Nat)(hc:c<=200)(he:0<c)(a:Nat->List (Nat × Bs))(x y:Nat)(B:x<N)(r:y<N)(ha:∀i,i<n+n->TOk N (a i)/\(a i).length=c)(va:TC)(w:TA)(h1:GLq Q w va (n+n) a):
 TW prog 91 #[va,nv x,nv y] w (rZ w λe w'=>GLq (w.heap.size<=·) w' e n (lG N x y n a)):=by
 obtain⟨b,d,A,rfl,-,-,X,h9⟩:=h1;obtain⟨m,hm⟩:=hE (n+n);have hq:(m:Int).tdiv 2=(n:Int):=by rw[<-hm.out,Wt oM];omega
 obtain⟨I,h8,M,P,J,o⟩:=RO w x y;obtain⟨C0,h0,h5⟩:=I0 uSu iSu n oM;have Z:=h5 I;obtain⟨K,hK⟩:=hE (I.heap.size);obtain⟨w3,H⟩:=hE (I.alloc (.cells C0.toArray 50));have S:Ar I w3 K 1 n 0 (λ_=>[]):=Ar.new _ h0 H.out hK.out;rw[H.out,hK.out]at Z;obtain⟨f,q⟩:=hE (w.heap.size);rw[q.out]at P J o;have HK:Hid (K=f+2/\w.heap.size<=f):=⟨by rw[<-hK.out,o],by rw[q.out];exact TG _⟩
 have K1:Hid (FdM w w3 K f (f+1) n 0 x y (lG N x y n a)):=⟨⟨M.trans (S.bl.mono M.size),S.lt,by have:=S.th;rwa[V4]at this,by have:=HK.out;omega,λj hj=>absurd hj (VC _)⟩,P.below S.bl,J.below S.bl⟩
 have l:=mk8 O B r ha h9 X hc he;obtain⟨vx,T⟩:=hE (nv x);obtain⟨vy,hh⟩:=hE (nv y);obtain⟨R,L⟩:=hE (w.alloc (.cells (wn x).toArray 46));have B1:Hid ((U6 46 vx).run prog w=.ok (pZ f) R):=by rw[<-T.out,<-L.out,<-q.out];exact boxS x w
 have B2:Hid ((U6 46 vy).run prog R=.ok (.pointer (some ⟨f+1,0,none⟩)) I):=by
  have h:=boxS y R;rw[show R.heap.size=f+1 by rw[<-L.out,TQ,q.out]]at h;have e:R.alloc (.cells (wn y).toArray 46)=I:=by rw[<-L.out];exact h8.out
  rw[e]at h;rw[<-hh.out];exact h
 rw[T.out,hh.out,hm.out];clear O B r ha h9 X hc he M P J o S h0 h5 hK H q h8;go_enter func91,ntmps91;go_wp2_with (first|(refine aM (u:=vx) (v:=pZ f) (w':=R) rfl 46 (.tmp 1) rfl ?_ ?_ ?_;rfl;exact B1.out)|(refine aM (u:=vy) (v:=.pointer (some ⟨f+1,0,none⟩)) (w':=I) rfl 46 (.tmp 2) rfl ?_ ?_ ?_;rfl;exact B2.out)|fail)
 go_loopg [15] n (λm s15 W=>∃i:Nat,i+m=n/\s15=iZ i/\Hid (FdM w W K f (f+1) n i x y (lG N x y n a)))
 case atStart=>exact⟨0,oM,rfl,K1⟩
 case round =>
  obtain⟨i,k5,rfl,KM⟩:=hrel;by_cases hi:i<n
  ·have k0:(i:Int)<(n:Int):=oM;have HL:=Hid.mk' hi;have KP:=KM;go_wp2_with fail
   obtain⟨F,hr,k1⟩:=l.2.2.2.2.1 i oM;obtain⟨E,hl,o⟩:=l.2.2.2.2.1 (n+i) oM;have HX:=mk4 hr k1 hl o;have s:=mk2 (l.2.2.2.1 i oM) (l.2.2.2.1 (n+i) oM);have HZ:=mk1 (l.2.2.2.2.2.2);obtain⟨l1,C⟩:=hE ((a i).map (tmT N x));obtain⟨l2,D⟩:=hE ((a (n+i)).map (tmT N y));have HQ:Hid (lG N x y n a i=l1++l2):=by show _=_;rw[<-C.out,<-D.out];rfl
   have HY:Hid (l1.length=c/\l2.length=c/\TOk N l1/\TOk N l2):=⟨by rw[<-C.out,Uk];exact s.1.2,by rw[<-D.out,Uk];exact s.2.2,by rw[<-C.out];exact s.1.1.tm l.1.pos x,by rw[<-D.out];exact s.2.1.tm l.1.pos y⟩
   have U:=λ(W:TA) (k:Below w.heap.size w W)=>lM l.1 l.2.1 0 F (a i) (by rw[s.1.2];have:=HZ.out;omega) s.1.1.szm s.1.1.lt W (HX.2.1.sm.grow k)
   have Y:=λ(W:TA) (k:Below w.heap.size w W)=>lM l.1 l.2.2.1 0 E (a (n+i)) (by rw[s.2.2];have:=HZ.out;omega) s.2.1.szm s.2.1.lt W (HX.2.2.2.sm.grow k)
   have hz:=λ(W:TA) (u v:TC) (hu:Sm 0 W u l1) (hv:Sm 0 W v l2)=>lN 0 u v l1 l2 (by rw[TT];have:=HY.1;have:=HZ.out;omega) (by have:=HY.1;have:=HZ.out;omega) (by have:=HY.2.1;have:=HZ.out;omega) HY.2.2.1.sz HY.2.2.2.sz W (T8 hu) (T8 hv)
   rw[C.out]at U;rw[D.out]at Y;have hk:∀W,Below w.heap.size w W->W.cell? ⟨b,d+1*i,none⟩=some F:=λW k=>by rw[V4,k.cell (p:=⟨b,d+i,none⟩) l.2.2.2.2.2.1];exact HX.1
   have k2:∀W,Below w.heap.size w W->W.cell? ⟨b,d+1*(n+i),none⟩=some E:=λW k=>by rw[V4,k.cell (p:=⟨b,d+(n+i),none⟩) l.2.2.2.2.2.1];exact HX.2.2.1
   have hw:i<m:=by rw[<-hm.out];omega
   have h4:n+i<m:=by rw[<-hm.out];omega
   refine(RG.gwL [RG.pE (.slice (some (aZ K)) n n),RG.pE (iZ i),RG.pE (.slice (some ⟨b,d,none⟩) m A),RG.pE (iZ i),RG.pE (.pointer (some ⟨b,d+1*i,none⟩)),RG.pE F,RG.pE (.iface 50 F),RG.pE (nv x),RG.pM (λg=>w.heap.size<=g/\g≠K) l1,RG.pI 50 (RG.pM (λg=>w.heap.size<=g/\g≠K) l1),RG.pE (.slice (some ⟨b,d,none⟩) m A),RG.pE (.slice (some (aZ K)) n n),RG.pE (iZ n),RG.pE (iZ i),RG.pE (iZ ((n+i:Nat):Int)),RG.pE (.pointer (some ⟨b,d+1*(n+i),none⟩)),RG.pE E,RG.pE (.iface 50 E),RG.pE (nv y),RG.pM (λg=>w.heap.size<=g/\g≠K) l2,RG.pM (λg=>w.heap.size<=g/\g≠K) (l1++l2),RG.pE (.pointer (some ⟨K,0+1*i,none⟩))] (λW=>FdM w W K f (f+1) n i x y (lG N x y n a)) (λW W' G h=>h.grow G)).last 22 kR kR kR ⟨
    RG.gO 7 (.slice (some (aZ K)) n n),
    RG.gO 8 (iZ i),
    RG.gO 0 (.slice (some ⟨b,d,none⟩) m A),
    RG.gO 8 (iZ i),
    RG.Ao 2 20 3 21 (.slice (some ⟨b,d,none⟩) m A) (iZ i) (.pointer (some ⟨b,d+1*i,none⟩)) (UP 48 (.slice (some ⟨b,d,none⟩) m A) (iZ i)) (atS b d m A i hw) (λx W h=>h) (λx W h=>h) (λ_=>rfl),
    RG.gB 50 4 22 b (d+1*i) F Cz (λx W h=>h) (λW k=>hk W k.ls.bl) (λ_=>rfl),
    RG.pO 5 23 F (.iface 50 F) (λx W h=>h) (λ_=>rfl),
    RG.iS 46 4 f 0 (wn x) rSc nSc rfl (λW k=>k.r4.2.1) (λ_=>rfl),
    RG.oV 50 6 24 7 25 (RG.pE F) 37 (λx W h=>⟨_,h,rfl⟩) (λz u W B r k=>by
     obtain rfl:z=F:=B;obtain rfl:u=nv x:=r;refine(U W k.ls.bl).mono ?_;rintro e W' ⟨u,rfl,G,hs⟩;exact⟨_,rfl,G,hs.q.mono λg V=>⟨TU k.ls.bl.size V,by have:=k.ls.lt;omega⟩⟩),
    RG.GM 8 26 (λv=>.iface 50 v) (λx W h=>⟨x,rfl,h⟩),
    RG.gO 0 (.slice (some ⟨b,d,none⟩) m A),
    RG.gO 7 (.slice (some (aZ K)) n n),
    RG.pO 11 29 (.slice (some (aZ K)) n n) (iZ n) (λx W h=>h) (λ_=>rfl),
    RG.gO 8 (iZ i),
    RG.Jd .add 3 3 30 31 rfl (λa W hp=>⟨_,_,iZ ((n+i:Nat):Int),hp.n 12 30 kR kR,hp.n 13 31 kR kR,kR,NI n i oM W,rfl⟩),
    RG.Ao 10 28 14 32 (.slice (some ⟨b,d,none⟩) m A) (iZ ((n+i:Nat):Int)) (.pointer (some ⟨b,d+1*(n+i),none⟩)) (UP 48 (.slice (some ⟨b,d,none⟩) m A) (iZ ((n+i:Nat):Int))) (atS b d m A (n+i) h4) (λx W h=>h) (λx W h=>h) (λ_=>rfl),
    RG.gB 50 15 33 b (d+1*(n+i)) E Cz (λx W h=>h) (λW k=>k2 W k.ls.bl) (λ_=>rfl),
    RG.pO 16 34 E (.iface 50 E) (λx W h=>h) (λ_=>rfl),
    RG.iS 46 5 (f+1) 0 (wn y) rSc nSc rfl (λW k=>k.r5.2.1) (λ_=>rfl),
    RG.oV 50 17 35 18 36 (RG.pE E) 37 (λx W h=>⟨_,h,rfl⟩) (λz u W B r k=>by
     obtain rfl:z=E:=B;obtain rfl:u=nv y:=r;refine(Y W k.ls.bl).mono ?_;rintro e W' ⟨u,rfl,G,hs⟩;exact⟨_,rfl,G,hs.q.mono λg V=>⟨TU k.ls.bl.size V,by have:=k.ls.lt;omega⟩⟩),
    RG.oV 50 9 27 19 37 (RG.pM (λg=>w.heap.size<=g/\g≠K) l1) 36 (λx W h=>h) (λz u W B r k=>by
     have B:=B;have r:=r;refine(hz W z u B.sm r.sm).mono ?_;rintro e W' ⟨u,rfl,G,hs⟩;exact⟨_,rfl,G,hs.q.mono λg V=>⟨TU k.ls.bl.size V,by have:=k.ls.lt;omega⟩⟩),
    RG.Ao 0 18 1 19 (.slice (some (aZ K)) n n) (iZ i) (.pointer (some ⟨K,0+1*i,none⟩)) (UP 48 (.slice (some (aZ K)) n n) (iZ i)) (atS K 0 n n i HL.out) (λx W h=>h) (λx W h=>h) (λ_=>rfl),yB5⟩ KP.drew ?_
   intro V W3 h3 h6;have hS:=h3 20 dC;have h7:=h3 21 dC;dsimp only[RG.bW,UJ,Vw,Vx];simp only[Ug,TD,TK,TL];generalize V 20=vq at hS⊢;obtain⟨W4,h2⟩:=hE (W3.setCells K i [vq]);have K4:Hid (FdM w W4 K f (f+1) n (i+1) x y (lG N x y n a)):=by
    have h:=h6.put (v:=vq) hi (by have:=HK.out;omega) (by have:=HK.out;omega) (by rw[HQ.out];exact hS);rw[h2.out]at h;exact h
   have HT:Hid (W3.there K i 1):=λt ht=>by
    have k3:t=0:=oM;subst k3;have:=h6.ls.th i hi;rwa[TO]at this
   have HE:=Hid.mk' hS.one;rw[h7,TO,V4];go_wp2_with (first|(refine gK rfl 50 _ _ rfl K i vq ?_ ?_ HE.1 HE.2 HT.out Ri ?_;rfl;rfl;rw[h2.out])|fail)
   go_roundg (gk-1)
   case measure=>omega
   case rel=>exact⟨i+1,oM,rfl,K4⟩
  ·have k0:¬(i:Int)<(n:Int):=oM;obtain rfl:i=n:=oM;have K4:=mk2 KM.ls.bl KM.ls.gl;go_wp2;go_ret;exact⟨_,rfl,K4.1,K4.2⟩
structure GOk(N n c:Nat)(G H:Nat->List (Nat × Bs))(U:List (Nat × Bs)):Prop where
 n0:0<n
 c0:0<c
 cn:c*n<=64
 g:∀i,i<n->TOk N (G i)/\(G i).length=c
 h:∀i,i<n->TOk N (H i)/\(H i).length=c
 u:TOk N U
 u0:0<U.length
 u9:U.length<=16
theorem GOk.nle{n c:Nat}{G H:Nat->List (Nat × Bs)}{U:List (Nat × Bs)}(h:GOk N n c G H U):n<=64:=by
 have k:=h.cn;have:=Nat.mul_le_mul_right n h.c0;omega
theorem GOk.cle{n c:Nat}{G H:Nat->List (Nat × Bs)}{U:List (Nat × Bs)}(h:GOk N n c G H U):c<=64:=by
 have k:=h.cn;have:=WJ c h.n0;omega
theorem JR(k b c:TC)(w:TA):(U6 52 (.agg #[k,b,c])).run prog w=.ok (.pointer (some ⟨w.heap.size,0,none⟩)) (w.alloc (.cells #[k,b,c] 52)):=kR
theorem uGL:(prog.underlying 48).map (·.isRow)=some false:=kR
theorem I6(O:Ord N){Q:Nat->Prop}(n c:Nat)(G H:Nat->List (Nat × Bs))(U:List (Nat × Bs))(d:GOk N n c G H U)(a b:Nat->Nat)(ha:∀i,i<n->a i<N)(l:∀i,i<n->b i<N)(v s r:TC)(w:TA)(h0:GRq Q w v n G H U)(h1:SLq Q w s n a)(S:SLq Q w r n b):
 TW prog 35 #[v,s,r] w (rZ w λe w'=>Sm w.heap.size w' e (eW N a G n++eW N b H n)):=by
 obtain⟨m,o,J,rfl,Y,R,-⟩:=h0.ex;have t:=λ(W:TA) (f:Below w.heap.size w W)=>JH O n c d.n0 d.c0 (by have:=d.nle;omega) (by have:=d.cn;omega) a G ha (λi j=>(d.g i j).1) (λi j=>(d.g i j).2) s m W (h1.keep (Kq.of_below f)) (Y.keep (Kq.of_below f))
 have C:=λ(W:TA) (f:Below w.heap.size w W)=>JH O n c d.n0 d.c0 (by have:=d.nle;omega) (by have:=d.cn;omega) b H l (λi j=>(d.h i j).1) (λi j=>(d.h i j).2) r o W (S.keep (Kq.of_below f)) (R.keep (Kq.of_below f))
 have l1:(eW N a G n).length=c*n:=fB N a n λi j=>(d.g i j).2
 have l2:(eW N b H n).length=c*n:=fB N b n λi j=>(d.h i j).2
 have t1:TOk N (eW N a G n):=oJ O.pos n λi j=>(d.g i j).1
 have t2:TOk N (eW N b H n):=oJ O.pos n λi j=>(d.h i j).1
 have h6:=yAm d.c0 d.n0;have h5:=d.cn;generalize eW N a G n=A at t l1 t1⊢;generalize eW N b H n=lb at C l2 t2⊢;have L:=λ(W:TA) (u z:TC) (T:Sm 0 W u A) (X:Sm 0 W z lb)=>lN 0 u z A lb (by rw[TT];omega) oM oM t1.sz t2.sz W (T8 T) (T8 X)
 have K:=Hid.mk' (U8 t (U8 C L));obtain⟨I,F⟩:=hE (w.alloc (.cells #[m,o,J] 52));obtain⟨k,P⟩:=hE (w.heap.size);have M:Hid (Row I k [m,o,J]/\Below w.heap.size w I):=by rw[<-F.out,<-P.out];exact⟨aE w _ _,aD w _⟩
 obtain⟨v0,D⟩:=hE (Um #[m,o,J]);have Z:Hid ((U6 52 v0).run prog w=.ok (pZ k) I):=by rw[<-D.out,<-F.out,<-P.out];exact JR _ _ _ _
 rw[D.out];go_enter func35,ntmps35;go_wp2_with (first|(refine aM (u:=v0) (v:=pZ k) (w':=I) rfl 52 (.tmp 0) rfl ?_ ?_ ?_;rfl;exact Z.out)|fail)
 refine(RG.gwL [RG.pE s,RG.pE (pZ k),RG.pE m,RG.pM (w.heap.size<=·) A,RG.pE r,RG.pE (.pointer (some ⟨k,1,none⟩)),RG.pE o,RG.pM (w.heap.size<=·) lb,RG.pM (w.heap.size<=·) (A++lb),RG.pM (w.heap.size<=·) (A++lb)] (λW=>Row W k [m,o,J]/\Below w.heap.size w W) (λW W' l h=>⟨h.1.below l,h.2.trans (l.mono h.2.size)⟩)).draws kR kR ⟨
  RG.gO 1 s,
  RG.gO 3 (pZ k),
  RG.gB 48 1 8 k 0 m uGL (λx W h=>h) (λW f=>f.1.2.1 0 _ rfl) (λ_=>rfl),
  RG.nD 0 7 2 9 78 (λx y=>#[x,y]) (λx y W p q f=>by
   obtain rfl:x=s:=p;obtain rfl:y=m:=q;refine(K.1 W f.2).mono ?_;rintro e W' ⟨u,rfl,l,B⟩;exact⟨_,rfl,l,B.q.mono λg E=>TU f.2.size E⟩),
  RG.gO 2 r,
  RG.gP 3 (pZ k) (.pointer (some ⟨k,1,none⟩)),
  RG.gB 48 5 12 k 1 o uGL (λx W h=>h) (λW f=>f.1.2.1 1 _ rfl) (λ_=>rfl),
  RG.nD 4 11 6 13 78 (λx y=>#[x,y]) (λx y W p q f=>by
   obtain rfl:x=r:=p;obtain rfl:y=o:=q;refine(K.2.1 W f.2).mono ?_;rintro e W' ⟨u,rfl,l,B⟩;exact⟨_,rfl,l,B.q.mono λg E=>TU f.2.size E⟩),
  RG.nD 3 10 7 14 36 (λx y=>#[x,y]) (λx y W p q f=>by
   have p:=p;have q:=q;refine(K.2.2 W x y p.sm q.sm).mono ?_;rintro e W' ⟨u,rfl,l,B⟩;exact⟨_,rfl,l,B.q.mono λg E=>TU f.2.size E⟩),
  RG.GM 8 15 id (λx W h=>h),yB5⟩ ⟨M.1,M.2.drew⟩ ?_
 intro V E B f;have q:=mk1 (B 9 (V8 (Va kR)));have p:=mk1 (f.2);dsimp only[RG.bW,UJ];simp only[Ug,TD,TK,TL];go_wp2;go_ret;exact⟨_,rfl,p.out,q.out⟩
theorem Mn(O:Ord N){Q:Nat->Prop}(n c:Nat)(G H:Nat->List (Nat × Bs))(U:List (Nat × Bs))(f:GOk N n c G H U)(a b:Nat->Nat)(ha:∀i,i<n->a i<N)(j:∀i,i<n->b i<N)(v q o:TC)(w:TA)(h0:GRq Q w v n G H U)(h1:SLq Q w q n a)(X:SLq Q w o n b):
 TW prog 14 #[v,q,o] w (rZ w λe w'=>Sm w.heap.size w' e (Jb N a b (prS N a b n) G H U n)):=by
 have C:=λ(W:TA) (d:Below w.heap.size w W)=>I6 O n c G H U f a b ha j v q o W (h0.keep (Kq.of_below d)) (h1.keep (Kq.of_below d)) (X.keep (Kq.of_below d))
 have I:=λ(W:TA) (d:Below w.heap.size w W)=>PU O n (by have:=f.nle;omega) a b ha j q o W (h1.keep (Kq.of_below d)) (X.keep (Kq.of_below d))
 obtain⟨A,B,m,rfl,-,-,h5⟩:=h0.ex;have l1:(eW N a G n).length=c*n:=fB N a n λi t=>(f.g i t).2
 have l2:(eW N b H n).length=c*n:=fB N b n λi t=>(f.h i t).2
 have t1:TOk N (eW N a G n):=oJ O.pos n λi t=>(f.g i t).1
 have t2:TOk N (eW N b H n):=oJ O.pos n λi t=>(f.h i t).1
 have h4:=yAm f.c0 f.n0;have h3:=f.cn;unfold Jb;have pl:=II O.pos a b n;have T:=f.u.tm O.pos (prS N a b n);have l3:(U.map (tmT N (prS N a b n))).length<=16:=by rw[Uk];exact f.u9
 generalize prS N a b n=p at I pl T l3⊢;have K:=λ(W:TA) (d:Below w.heap.size w W)=>lM O pl 0 m U (by have:=f.u9;omega) f.u.szm f.u.lt W (h5.sm.grow d)
 generalize U.map (tmT N p)=E at K T l3⊢;have Y:=t1.app t2;have l4:(eW N a G n++eW N b H n).length=c*n+c*n:=by rw[TT,l1,l2]
 generalize eW N a G n++eW N b H n=l at C Y l4⊢;have S:=λ(W:TA) (u z:TC) (hu:Sm 0 W u l) (R:Sm 0 W z E)=>lN 0 u z l E (by rw[TT];omega) oM oM Y.sz T.sz W (T8 hu) (T8 R)
 have P:=Hid.mk' (U8 C (U8 I (U8 K S)));obtain⟨M,L⟩:=hE (w.alloc (.cells #[A,B,m] 52));obtain⟨k,hk⟩:=hE (w.heap.size);have Z:Hid (Row M k [A,B,m]/\Below w.heap.size w M):=by rw[<-L.out,<-hk.out];exact⟨aE w _ _,aD w _⟩
 obtain⟨v0,F⟩:=hE (Um #[A,B,m]);have B1:Hid ((U6 52 v0).run prog w=.ok (pZ k) M):=by rw[<-F.out,<-L.out,<-hk.out];exact JR _ _ _ _
 rw[F.out];go_enter func14,ntmps14;go_wp2_with (first|(refine aM (u:=v0) (v:=pZ k) (w':=M) rfl 52 (.tmp 0) rfl ?_ ?_ ?_;rfl;exact B1.out)|fail)
 refine(RG.gwL [RG.pE (.agg #[A,B,m]),RG.pE q,RG.pE o,RG.pM (w.heap.size<=·) l,RG.pE (.pointer (some ⟨k,2,none⟩)),RG.pE m,RG.pE q,RG.pE o,RG.pE (nv p),RG.pM (w.heap.size<=·) E,RG.pM (w.heap.size<=·) (l++E),RG.pM (w.heap.size<=·) (l++E)] (λW=>Row W k [A,B,m]/\Below w.heap.size w W) (λW W' j h=>⟨h.1.below j,h.2.trans (j.mono h.2.size)⟩)).draws kR kR ⟨
  RG.iS 52 3 k 0 [A,B,m] uGr iGr rfl (λW d=>d.1.2.1) (λ_=>rfl),
  RG.gO 1 q,
  RG.gO 2 o,
  RG.tK 0 7 1 8 2 9 35 (λx y z=>#[x,y,z]) (λx y z W r s R d=>by
   obtain rfl:x=.agg #[A,B,m]:=r;obtain rfl:y=q:=s;obtain rfl:z=o:=R;refine(P.1 W d.2).mono ?_;rintro e W' ⟨u,rfl,j,D⟩;exact⟨_,rfl,j,D.q.mono λg J=>TU d.2.size J⟩),
  RG.gP 3 (pZ k) (.pointer (some ⟨k,2,none⟩)),
  RG.gB 50 4 11 k 2 m Cz (λx W h=>h) (λW d=>d.1.2.1 2 _ rfl) (λ_=>rfl),
  RG.gO 1 q,
  RG.gO 2 o,
  RG.nD 6 13 7 14 38 (λx y=>#[x,y]) (λx y W r s d=>by
   obtain rfl:x=q:=r;obtain rfl:y=o:=s;refine(P.2.1 W d.2).mono ?_;rintro e W' ⟨u,rfl,j,rfl⟩;exact⟨_,rfl,j,rfl⟩),
  RG.nD 5 12 8 15 37 (λx y=>#[x,y]) (λx y W r s d=>by
   obtain rfl:x=m:=r;obtain rfl:y=nv p:=s;refine(P.2.2.1 W d.2).mono ?_;rintro e W' ⟨u,rfl,j,D⟩;exact⟨_,rfl,j,D.q.mono λg J=>TU d.2.size J⟩),
  RG.nD 3 10 9 16 36 (λx y=>#[x,y]) (λx y W r s d=>by
   have r:=r;have s:=s;refine(P.2.2.2 W x y r.sm s.sm).mono ?_;rintro e W' ⟨u,rfl,j,D⟩;exact⟨_,rfl,j,D.q.mono λg J=>TU d.2.size J⟩),
  RG.GM 10 17 id (λx W h=>h),yB5⟩ ⟨Z.1,Z.2.drew⟩ ?_
 intro V J D d;have s:=mk1 (D 11 (V8 (Va kR)));have r:=mk1 (d.2);dsimp only[RG.bW,UJ];simp only[Ug,TD,TK,TL];go_wp2;go_ret;exact⟨_,rfl,r.out,s.out⟩
end
namespace RG
open Go Go.RowKit
variable {P:Vd}{ops:Array UI}{Q:YJ->Act->TA->Prop}{w:TA}{a0:Act}{G:Gw}{S:TA->TA->Prop}{m k:Nat}{o:UI}
def Gw.st(G:Gw)(m:Nat)(S:TA->TA->Prop):Flow:=⟨G.R,λ_=>G.B,λi w w'=>(i=m/\S w w')\/Below w.heap.size w w',λ_=>[],λ_=>[]⟩
theorem jV(h:bK P Q G.flow ops a0 k o):bK P Q (G.st m S) ops a0 k o:=λa w K e c d b=>h a w K e c d λv w' hE f=>b v w' (T8 hE) f
theorem SC(h:∀(a:Act) (w:TA),PreG G ops a0 m o a w->∃w',(UD a.eval o).run P w=.ok .skip w'/\S w w'/\G.R m VU w'):bK P Q (G.st m S) ops a0 m o:=by
 intro a w K i b c e;obtain⟨w',f,g,l⟩:=h a w ⟨λj d k hd=>i j d k rfl hd,b,c 0 rfl⟩;unfold Vp;rw[f];exact e _ _ (Ub ⟨rfl,g⟩) l
theorem Gw.tailS{id:Nat}(G:Gw)(m:Nat)(S:TA->TA->Prop)(n:Nat)(d:∀j v w w',j≠m->S w w'->G.R j v w->G.R j v w')(f:∀w w',S w w'->G.B w->G.B w')(g:(decide (n<ops.size) && chain ops n)=true)(t:P.follows .mixedOrders=true)(q:D7 ops a0.tmps.size=true)(h:kQ P Q (G.st m S) ops a0 0 (ops.toList.take n))(k:G.B w.drew)
 (s:∀(V:Nat->TC) (w':TA),(∀i,i<n->G.R i (V i) w')->G.B w'->wpList P ops Q (ops.toList.drop n) (bW V (ops.toList.take n) 0 a0) w'):(Vj id ops true).wp P Q a0 w:=by
 rw[T0,decide_eq_true_eq]at g;refine GP (G.st m S) n g.1 g.2 t ⟨q,zA h,λi j _ _ c _ _ v w w' hE p=>?_,λi b _ _ w w' hE k=>?_⟩ (λ_=>k) λV w' u r=>s V w' (λi o=>u i o rfl) (r 0 rfl)
 ·rcases hE with⟨o,l⟩|hE
  ·exact d j v w w' (λe=>c (o.trans e.symm)) l p
  ·exact G.sR j v w w' hE p
 ·rcases hE with⟨-,l⟩|hE
  ·exact f w w' l k
  ·exact G.sB w w' hE k
end RG
section
open Go.RowKit Go.Sort Go.Deep
variable {P:Nat}[NeZero P]{N:Nat}
theorem CY{P:Vd}{n:Func}{tmps:Array TC}{W:TA}{k e:Nat}{vs f:List TC}(t m:Vn)(T c:Uw)(w:n.results=#[.cell t T,.cell m c])(h:Row W k vs)(v:Row W e f)(s:tmps[t]? = some (pZ k))(j:tmps[m]? = some (pZ e))
 (i:(P.underlying T).map (·.isRow)=some true) (q:(P.info? T).map (·.size)=some vs.length) (b:(P.underlying c).map (·.isRow)=some true) (g:(P.info? c).map (·.size)=some f.length):(results n tmps).run P W=.ok (.tuple #[.agg vs.toArray,.agg f.toArray]) W:=by
 obtain⟨d,i,hd⟩:=TJ.1 i;obtain⟨u,b,l⟩:=TJ.1 b;have x:=Z9 (P:=P) W k 0 T vs d h.2.1 i hd q;have r:=Z9 (P:=P) W e 0 c f u v.2.1 b l g;have p:tmps.getD t VU=pZ k:=by rw[TS,s];rfl
 have o:tmps.getD m VU=pZ e:=by rw[TS,j];rfl
 unfold results;rw[w];simp only[Array.mapM_eq_mapM_toList,List.mapM_cons,List.mapM_nil,p,o,asAddr];simp[Ue,x,r]
section
variable {P:Vd}{ops:Array UI}{rest:List UI}{op:UI}{a:Act}{w w':TA}{v:TC}{Q:YJ->Act->TA->Prop}
theorem eN(k:op.guard=none)(T:Uw)(t:Vn)(_:op.op=.alloc T)(_:op.dst=some t)(b:(UD a.eval op).run P w=.ok (.value v) w')(h:wpList P ops Q rest (a.put op.dst v) w'):wpList P ops Q (op :: rest) a w:=
 Xw k λK c=>by
  unfold Vp;rw[b];exact c _ _ h
end
theorem FN(g o j:Nat):(⟨g,o,none⟩:V5).add j=⟨g,o+j,none⟩:=by
 unfold XI;by_cases k:j=0
 ·subst k;rw[yB3 rfl];rfl
 ·rw[yB4 k]
theorem Ic(b o n c k:Nat)(f:k<=c)(w:TA):(VP 48 (.slice (some ⟨b,o,none⟩) n c) none (some (iZ k)) none).run prog w=.ok (.slice (some ⟨b,o,none⟩) k c) w:=by
 have e:¬(k:Int)<0:=oM;have d:(k:Int)<=(c:Int):=oM;go_simp
theorem Ib(b o n c k:Nat)(j:k<n)(d:n<=c)(w:TA):(VP 48 (.slice (some ⟨b,o,none⟩) n c) (some (iZ k)) none none).run prog w=.ok (.slice (some ⟨b,o+k,none⟩) (n-k) (c-k)) w:=by
 have i:¬(k:Int)<0:=oM;have f:(k:Int)<=(n:Int):=oM;have g:¬c=k:=oM;have e:=FN b o (1*k);rw[V4]at e;go_simp
theorem Ia(b o n c k:Nat)(f:k<=c)(w:TA):(VP 39 (.slice (some ⟨b,o,none⟩) n c) none (some (iZ k)) none).run prog w=.ok (.slice (some ⟨b,o,none⟩) k c) w:=by
 have e:¬(k:Int)<0:=oM;have d:(k:Int)<=(c:Int):=oM;go_simp
theorem H9(b o n c k:Nat)(j:k<n)(d:n<=c)(w:TA):(VP 39 (.slice (some ⟨b,o,none⟩) n c) (some (iZ k)) none none).run prog w=.ok (.slice (some ⟨b,o+k*4,none⟩) (n-k) (c-k)) w:=by
 have i:¬(k:Int)<0:=oM;have f:(k:Int)<=(n:Int):=oM;have g:¬c=k:=oM;have e:=FN b o (k*4);rw[Ut]at e;rw[Ut k 4];go_simp
theorem GLq.high{Q:Nat->Prop}{W:TA}{g o n c:Nat}{T:Nat->List (Nat × Bs)}(h:GLq Q W (.slice (some ⟨g,o,none⟩) (n+n) c) (n+n) T):GLq Q W (.slice (some ⟨g,o+n,none⟩) n (c-n)) n (λi=>T (n+i)):=by
 obtain⟨p,q,s,e,r,d,f,b⟩:=h;injection e with e1 e2 e3
 injection e1 with e1
 injection e1 with e1 e4
 subst e1 e3 e4;refine⟨g,o+n,c-n,rfl,oM,d,f,λj m=>?_⟩;obtain⟨x,k,l⟩:=b (n+j) oM;exact⟨x,by rw[Nat.add_assoc];exact k,l⟩
theorem GLq.low{Q:Nat->Prop}{W:TA}{g o n c:Nat}{T:Nat->List (Nat × Bs)}(h:GLq Q W (.slice (some ⟨g,o,none⟩) (n+n) c) (n+n) T):GLq Q W (.slice (some ⟨g,o,none⟩) n c) n T:=by
 obtain⟨l,f,p,e,m,b,d,k⟩:=h;injection e with e1 e2 e3
 injection e1 with e1
 injection e1 with e1 e4
 subst e1 e3 e4;exact⟨g,o,c,rfl,oM,b,d,λj i=>k j oM⟩
theorem SLq.high{Q:Nat->Prop}{W:TA}{g o n c:Nat}{T:Nat->Nat}(h:SLq Q W (.slice (some ⟨g,o,none⟩) (n+n) c) (n+n) T):SLq Q W (.slice (some ⟨g,o+n*4,none⟩) n (c-n)) n (λi=>T (n+i)):=by
 obtain⟨l,m,q,e,p,b,d,k⟩:=h;injection e with e1 e2 e3
 injection e1 with e1
 injection e1 with e1 e4
 subst e1 e3 e4;refine⟨g,o+n*4,c-n,rfl,oM,b,d,λj f=>?_⟩;have:=k (n+j) oM;rw[show o+4*(n+j)=o+n*4+4*j by omega]at this;exact this
theorem SLq.low{Q:Nat->Prop}{W:TA}{g o n c:Nat}{T:Nat->Nat}(h:SLq Q W (.slice (some ⟨g,o,none⟩) (n+n) c) (n+n) T):SLq Q W (.slice (some ⟨g,o,none⟩) n c) n T:=by
 obtain⟨l,f,p,e,m,b,d,k⟩:=h;injection e with e1 e2 e3
 injection e1 with e1
 injection e1 with e1 e4
 subst e1 e3 e4;exact⟨g,o,c,rfl,oM,b,d,λj i=>k j oM⟩
def CrR(Q:Nat->Prop)(w:TA)(n:Nat)(G H:Nat->List (Nat × Bs))(U:List (Nat × Bs))(e:TC)(w':TA):Prop:=Below w.heap.size w w'/\∃k b,e=.tuple #[.agg k,.agg b]/\k.size=3/\b.size=3/\k.all (·.oneCell')=true/\b.all (·.oneCell')=true/\GRq Q w' (.agg k) n (λi=>G (n+i)) H U/\GRq Q w' (.agg b) n G (λi=>H (n+i)) U
theorem GT{Q:Nat->Prop}(n:Nat)(hi:0<n)(hn:n<=500)(G H:Nat->List (Nat × Bs))(U:List (Nat × Bs))(v:TC)(w:TA)(h0:GRq Q w v (n+n) G H U):
 TW prog 42 #[v] w (Ret (CrR Q w n G H U)):=by
 obtain⟨vg,vh,g,rfl,h3,h4,h5⟩:=h0.ex;obtain⟨c,f,d,rfl,hc,-⟩:=id h3;obtain⟨l,o,p,rfl,h6,-⟩:=id h4;obtain⟨g3,c3,rfl,-⟩:=id h5;have N:Hid (GLq Q w (.slice (some ⟨c,f+n,none⟩) n (d-n)) n (λi=>G (n+i))/\GLq Q w (.slice (some ⟨l,o,none⟩) n p) n H/\GLq Q w (.slice (some ⟨c,f,none⟩) n d) n G/\GLq Q w (.slice (some ⟨l,o+n,none⟩) n (p-n)) n (λi=>H (n+i))/\SmQ Q w (.slice (some (aZ g3)) U.length c3) U):=⟨h3.high,h4.low,h3.low,h4.high,h5⟩
 have E:=Ib c f (n+n) d n oM hc;have I:=Ic l o (n+n) p n oM;have F:=Ic c f (n+n) d n oM;have D:=Ib l o (n+n) p n oM h6;rw[Nat.add_sub_cancel]at E D;obtain⟨m,hm⟩:∃m,Hid (n+n=m):=⟨_,rfl⟩
 have hq:(m:Int).tdiv 2=(n:Int):=by rw[<-hm.out,Wt oM];omega
 rw[hm.out]at E I F D;rw[hm.out];obtain⟨g,y⟩:∃v,Hid (V1 (some (aZ g3)) U.length c3=v):=⟨_,rfl⟩
 have h7:g.oneCell'=true:=by rw[<-y.out];rfl
 rw[y.out]at N;rw[y.out];obtain⟨k,Y⟩:∃k,Hid (w.heap.size=k):=⟨_,rfl⟩
 obtain⟨A,C⟩:∃A,Hid (w.alloc (.cells #[.slice (some ⟨c,f,none⟩) m d,.slice (some ⟨l,o,none⟩) m p,g] 52)=A):=⟨_,rfl⟩
 obtain⟨T,S⟩:∃T,Hid (A.alloc (.cells #[.slice none 0 0,.slice none 0 0,.slice none 0 0] 52)=T):=⟨_,rfl⟩
 obtain⟨L,he⟩:∃L,Hid (T.alloc (.cells #[.slice none 0 0,.slice none 0 0,.slice none 0 0] 52)=L):=⟨_,rfl⟩
 have h9:T.heap.size=k+2:=by rw[<-S.out,TQ,<-C.out,TQ,Y.out]
 have J:A.heap.size=k+1:=by rw[<-C.out,TQ,Y.out]
 have K:Hid (Below w.heap.size w L/\Row L k [.slice (some ⟨c,f,none⟩) m d,.slice (some ⟨l,o,none⟩) m p,g]/\Row L (k+1) [.slice none 0 0,.slice none 0 0,.slice none 0 0]/\Row L (k+2) [.slice none 0 0,.slice none 0 0,.slice none 0 0]):=by
  have b1:Below w.heap.size w A:=by rw[<-C.out];exact aD _ _
  have r:Row A k [.slice (some ⟨c,f,none⟩) m d,.slice (some ⟨l,o,none⟩) m p,g]:=by rw[<-C.out,<-Y.out];exact aE w _ _
  have q:=aE A [.slice none 0 0,.slice none 0 0,.slice none 0 0] 52;have b:=aE (A.alloc (.cells #[.slice none 0 0,.slice none 0 0,.slice none 0 0] 52)) [.slice none 0 0,.slice none 0 0,.slice none 0 0] 52;rw[TQ,J]at b;rw[J]at q;rw[<-he.out,<-S.out];exact⟨(b1.alloc b1.size _).alloc (by rw[TQ];have:=b1.size;omega) _,(r.alloc _).alloc _,q.alloc _,b⟩
 obtain⟨v0,ha⟩:∃v,Hid (Um #[.slice (some ⟨c,f,none⟩) m d,.slice (some ⟨l,o,none⟩) m p,g]=v):=⟨_,rfl⟩
 have B1:Hid ((U6 52 v0).run prog w=.ok (pZ k) A):=by rw[<-ha.out,<-C.out,<-Y.out];exact JR _ _ _ _
 rw[ha.out];have HK:Hid (w.heap.size=k):=Y;have HV:Hid (g.oneCell'=true):=h7;have HZ:Hid (A.heap.size=k+1/\T.heap.size=k+2):=⟨J,h9⟩
 have cK:L.cell? ⟨k,0,none⟩=some (.slice (some ⟨c,f,none⟩) m d):=K.2.1.2.1 0 _ rfl;clear h0 h3 h4 h5 hc h6 h7 Y J h9;go_enter func42,ntmps42;go_wp2_with (first|(refine aM (u:=v0) (v:=pZ k) (w':=A) rfl 52 (.tmp 0) rfl ?_ ?_ ?_;rfl;exact B1.out)|(refine eN (v:=.pointer (some ⟨k+1,0,none⟩)) (w':=T) rfl 52 2 rfl rfl ?_ ?_;(rw[<-S.out,<-HZ.1];kernel_rfl))|(refine eN (v:=.pointer (some ⟨k+2,0,none⟩)) (w':=L) rfl 52 3 rfl rfl ?_ ?_;(rw[<-he.out,<-HZ.2];kernel_rfl))|fail)
 clear cK hq;obtain⟨Z,hh⟩:∃s,Hid (V1 (some ⟨c,f,none⟩) m d=s):=⟨_,rfl⟩
 obtain⟨sh,hg⟩:∃s,Hid (V1 (some ⟨l,o,none⟩) m p=s):=⟨_,rfl⟩
 rw[hh.out]at E F K;rw[hg.out]at I D K;obtain⟨r,O⟩:∃e,Hid ((#[.slice (some ⟨c,f+n,none⟩) n (d-n),.slice (some ⟨l,o,none⟩) n p,g]:Array TC)=e):=⟨_,rfl⟩
 obtain⟨B,R⟩:∃e,Hid ((#[.slice (some ⟨c,f,none⟩) n d,.slice (some ⟨l,o+n,none⟩) n (p-n),g]:Array TC)=e):=⟨_,rfl⟩
 have z:Hid (r.size=3/\B.size=3/\r.all (·.oneCell')=true/\B.all (·.oneCell')=true):=by
  rw[<-O.out,<-R.out,<-y.out];exact⟨rfl,rfl,kR,kR⟩
 have HI:Hid ((prog.info? 52).map (·.size)=some r.size/\(prog.info? 52).map (·.size)=some B.size/\(prog.info? 52).map (·.size)=some r.toList.length/\(prog.info? 52).map (·.size)=some B.toList.length):=by
  rw[TR,TR,z.1,z.2.1];exact⟨iGr,iGr,iGr,iGr⟩
 refine(RG.gwL [RG.pE (pZ k),RG.pE Z,RG.pE (iZ n),RG.pE (.slice (some ⟨c,f+n,none⟩) n (d-n)),RG.pE (.pointer (some ⟨k,1,none⟩)),RG.pE sh,RG.pE (iZ n),RG.pE (.slice (some ⟨l,o,none⟩) n p),RG.pE (.pointer (some ⟨k,2,none⟩)),RG.pE g,RG.pE (.agg #[.slice (some ⟨c,f+n,none⟩) n (d-n),.slice (some ⟨l,o,none⟩) n p,g]),
  RG.pE (pZ k),RG.pE Z,RG.pE (iZ n),RG.pE (.slice (some ⟨c,f,none⟩) n d),RG.pE (.pointer (some ⟨k,1,none⟩)),RG.pE sh,RG.pE (iZ n),RG.pE (.slice (some ⟨l,o+n,none⟩) n (p-n)),RG.pE (.pointer (some ⟨k,2,none⟩)),RG.pE g,RG.pE (.agg #[.slice (some ⟨c,f,none⟩) n d,.slice (some ⟨l,o+n,none⟩) n (p-n),g]),⟨λ_ W=>Row W (k+1) r.toList,λ_ _ _ M h=>h.below M⟩] (λW=>Below w.heap.size w W/\Row W k [Z,sh,g]/\(k+1<W.heap.size/\W.there (k+1) 0 3)/\Row W (k+2) [.slice none 0 0,.slice none 0 0,.slice none 0 0]) (λW W' M h=>⟨h.1.trans (M.mono h.1.size),h.2.1.below M,⟨TF h.2.2.1.1 M.size,RG.eG h.2.2.1.2 M h.2.2.1.1⟩,h.2.2.2.below M⟩)).tailS 22 (λW W'=>W'=W.setCells (k+1) 0 r.toList) 23 (λj v W W' V P b=>by
  subst P;match j,b,V with
  | 0,b,_=>exact b
  | 1,b,_=>exact b
  | 2,b,_=>exact b
  | 3,b,_=>exact b
  | 4,b,_=>exact b
  | 5,b,_=>exact b
  | 6,b,_=>exact b
  | 7,b,_=>exact b
  | 8,b,_=>exact b
  | 9,b,_=>exact b
  | 10,b,_=>exact b
  | 11,b,_=>exact b
  | 12,b,_=>exact b
  | 13,b,_=>exact b
  | 14,b,_=>exact b
  | 15,b,_=>exact b
  | 16,b,_=>exact b
  | 17,b,_=>exact b
  | 18,b,_=>exact b
  | 19,b,_=>exact b
  | 20,b,_=>exact b
  | 21,b,_=>exact b
  | 22,_,V=>exact absurd rfl V
  | _+23,_,_=>trivial) (λW W' P h=>by subst P;exact⟨RG.below_setCells (by rw[HK.out];omega) _ _ _ h.1,iG h.2.1 oM,⟨by rw[RG.setCells_size];exact h.2.2.1.1,VM h.2.2.1.2 _ _ _⟩,iG h.2.2.2 oM⟩) kR kR kR ⟨
  RG.jV (RG.gO 1 (pZ k)),
  RG.jV (RG.gB 48 0 9 k 0 Z uGL (λx W h=>h) (λW q=>q.2.1.2.1 0 _ rfl) (λ_=>rfl)),
  RG.jV (RG.gO 4 (iZ n)),
  RG.jV (RG.gX 1 10 2 11 E),
  RG.jV (RG.gP 1 (pZ k) (.pointer (some ⟨k,1,none⟩))),
  RG.jV (RG.gB 48 4 13 k 1 sh uGL (λx W h=>h) (λW q=>q.2.1.2.1 1 _ rfl) (λ_=>rfl)),
  RG.jV (RG.gO 4 (iZ n)),
  RG.jV (RG.gX 5 14 6 15 I),
  RG.jV (RG.gP 1 (pZ k) (.pointer (some ⟨k,2,none⟩))),
  RG.jV (RG.gB 50 8 17 k 2 g Cz (λx W h=>h) (λW q=>q.2.1.2.1 2 _ rfl) (λ_=>rfl)),
  RG.jV (RG.Mp [(12,.slice (some ⟨c,f+n,none⟩) n (d-n)),(16,.slice (some ⟨l,o,none⟩) n p),(18,g)] (.agg #[.slice (some ⟨c,f+n,none⟩) n (d-n),.slice (some ⟨l,o,none⟩) n p,g]) (λa W t=>⟨t.n 3 12 kR kR,t.n 7 16 kR kR,t.n 9 18 kR kR,yB5⟩) (λ_=>rfl) (λW=>by
   rw[<-y.out];kernel_rfl)),
  RG.jV (RG.gO 1 (pZ k)),
  RG.jV (RG.gB 48 11 20 k 0 Z uGL (λx W h=>h) (λW q=>q.2.1.2.1 0 _ rfl) (λ_=>rfl)),
  RG.jV (RG.gO 4 (iZ n)),
  RG.jV (RG.gX 12 21 13 22 F),
  RG.jV (RG.gP 1 (pZ k) (.pointer (some ⟨k,1,none⟩))),
  RG.jV (RG.gB 48 15 24 k 1 sh uGL (λx W h=>h) (λW q=>q.2.1.2.1 1 _ rfl) (λ_=>rfl)),
  RG.jV (RG.gO 4 (iZ n)),
  RG.jV (RG.gX 16 25 17 26 D),
  RG.jV (RG.gP 1 (pZ k) (.pointer (some ⟨k,2,none⟩))),
  RG.jV (RG.gB 50 19 28 k 2 g Cz (λx W h=>h) (λW q=>q.2.1.2.1 2 _ rfl) (λ_=>rfl)),
  RG.jV (RG.Mp [(23,.slice (some ⟨c,f,none⟩) n d),(27,.slice (some ⟨l,o+n,none⟩) n (p-n)),(29,g)] (.agg #[.slice (some ⟨c,f,none⟩) n d,.slice (some ⟨l,o+n,none⟩) n (p-n),g]) (λa W t=>⟨t.n 14 23 kR kR,t.n 18 27 kR kR,t.n 20 29 kR kR,yB5⟩) (λ_=>rfl) (λW=>by
   rw[<-y.out];kernel_rfl)),
  RG.SC λa W t=>⟨_,by
   have X:a.eval (.tmp 19)=.agg r:=by
    have:=t.n 10 19 kR kR;rw[<-O.out];exact this
   have h2:a.eval (.tmp 2)=.pointer (some ⟨k+1,0,none⟩):=(t.o 2 kR).trans rfl;have hT:W.there (k+1) 0 r.size:=by rw[z.1];exact t.b.2.2.1.2
   unfold UD;simp only[X,h2,Yw,Yk,Ue,VA,UE,yAv W (k+1) 0 52 r hT HI.1 z.2.2.1],rfl,⟨by rw[RG.setCells_size];exact t.b.2.2.1.1,Vq W (k+1) 0 r.toList (by rw[TR,z.1];exact t.b.2.2.1.2),VM (by rw[TR,z.1];exact t.b.2.2.1.2) _ _ _⟩⟩,yB5⟩ ⟨K.1.drew,K.2.1,⟨K.2.2.1.1,K.2.2.1.2.2⟩,K.2.2.2⟩ ?_
 intro V w3 b q;have t:V 21=.agg #[.slice (some ⟨c,f,none⟩) n d,.slice (some ⟨l,o+n,none⟩) n (p-n),g]:=b 21 dC;have M:Row w3 (k+1) r.toList:=b 22 dC;rw[R.out]at t;obtain⟨P,h8⟩:∃P,Hid (w3.setCells (k+2) 0 B.toList=P):=⟨_,rfl⟩
 have K5:Hid (Row P (k+1) r.toList/\Row P (k+2) B.toList/\Below w.heap.size w P):=by
  rw[<-h8.out];exact⟨iG M oM,q.2.2.2.put (by rw[TR,z.2.1];rfl),RG.below_setCells (by rw[HK.out];omega) _ _ _ q.1⟩
 have HT:Hid (w3.there (k+2) 0 B.size):=by
  rw[z.2.1];exact q.2.2.2.2.2
 have HP:Hid (CrR Q w n G H U (.tuple #[.agg r.toList.toArray,.agg B.toList.toArray]) P):=by
  have X:∀ {Q:Nat->Prop},Kq Q w P:=Kq.of_below K5.2.2;refine⟨K5.2.2,r,B,rfl,z.1,z.2.1,z.2.2.1,z.2.2.2,?_,?_⟩
  ·rw[<-O.out];exact⟨_,_,_,rfl,N.1.keep X,N.2.1.keep X,N.2.2.2.2.keep X⟩
  ·rw[<-R.out];exact⟨_,_,_,rfl,N.2.2.1.keep X,N.2.2.2.1.keep X,N.2.2.2.2.keep X⟩
 dsimp only[RG.bW,UJ,Vw,Vx];simp only[Ug,TD,TK,TL];obtain⟨x2,X⟩:∃x,Hid (Um B=x):=⟨_,rfl⟩
 rw[t,X.out];clear b q t M E I F D;generalize V 0=s0;generalize V 1=s1;generalize V 2=s2;generalize V 3=s3;generalize V 4=s4;generalize V 5=s5;generalize V 6=s6;generalize V 7=s7;generalize V 8=s8;generalize V 9=s9;generalize V 10=s10;generalize V 11=s11;generalize V 12=s12;generalize V 13=s13;generalize V 14=s14;generalize V 15=s15;generalize V 16=s16;generalize V 17=s17;generalize V 18=s18;generalize V 19=s19;generalize V 20=s20;go_wp2_with (first|(refine Ui rfl 52 (.tmp 3) _ rfl (k+2) 0 B ?_ ?_ ?_ ?_ ?_ ?_;rfl;exact X.symm;exact HT.out;exact HI.2.1;exact z.2.2.2;rw[h8.out])|fail)
 refine TM (CY 2 3 52 52 rfl K5.1 K5.2.1 rfl rfl uGr HI.2.2.1 uGr HI.2.2.2) rfl ?_;exact⟨_,rfl,HP.out⟩
theorem GRq.ar{Q:Nat->Prop}{W:TA}{v:TC}{n:Nat}{G H:Nat->List (Nat × Bs)}{U:List (Nat × Bs)}(h:GRq Q W v n G H U):∃e:Array TC,v=.agg e/\e.size=3/\e.all (·.oneCell')=true:=by
 obtain⟨g,l,j,rfl,⟨k,b,m,rfl,-⟩,⟨c,i,f,rfl,-⟩,⟨d,o,rfl,-⟩⟩:=h.ex;exact⟨_,rfl,rfl,kR⟩
structure FgI(w W:TA)(k x xi:Nat)(vg vh vu:TC):Prop where
 bl:Below w.heap.size w W
 r2:Row W k [vg,vh,vu]
 r3:Row W (k+1) (wn x)
 r4:Row W (k+2) [.slice none 0 0,.slice none 0 0,.slice none 0 0]
theorem FgI.grow{w W W':TA}{k x e:Nat}{c d f:TC}(h:FgI w W k x e c d f)(b:Below W.heap.size W W'):FgI w W' k x e c d f:=⟨h.bl.trans (b.mono h.bl.size),h.r2.below b,h.r3.below b,h.r4.below b⟩
theorem FgI.drew{w W:TA}{k x d:Nat}{b c e:TC}(h:FgI w W k x d b c e):FgI w W.drew k x d b c e:=h.grow ⟨rfl,rfl,rfl,TG _,λ_ _=>rfl⟩
theorem My(O:Ord N){Q:Nat->Prop}(n c:Nat)(hu:0<n)(G H:Nat->List (Nat × Bs))(U:List (Nat × Bs))(D:GOk N (n+n) c G H U)(x:Nat)(hx:x<N)(v:TC)(w:TA)(hQ:∀g,w.heap.size<=g->Q g)(h0:GRq Q w v (n+n) G H U):
 TW prog 46 #[v,nv x] w (rZ w λe w'=>GRq Q w' e n (lG N (sIn N x) x n G) (lG N x (sIn N x) n H) U):=by
 obtain⟨r,q,i,rfl,h3,h4,h5⟩:=h0.ex;have hh:sIn N x<N:=Vm _ O.pos;have h6:=λW=>EE O x hx W
 have J:=λ(W:TA) (f:Below w.heap.size w W)=>Jn O n (by have:=D.nle;omega) c (by have:=D.cle;omega) D.c0 G (sIn N x) x hh hx D.g r W (h3.keep (Kq.of_below f))
 have L:=λ(W:TA) (f:Below w.heap.size w W)=>Jn O n (by have:=D.nle;omega) c (by have:=D.cle;omega) D.c0 H x (sIn N x) hx hh D.h q W (h4.keep (Kq.of_below f))
 generalize lG N (sIn N x) x n G=G' at J⊢;generalize lG N x (sIn N x) n H=Z at L⊢;generalize sIn N x=j at h6 J L;have HX:=mk3 h6 J L;have HU:=mk2 h5 hQ;obtain⟨k,hk⟩:=hE (w.heap.size);obtain⟨m,A⟩:=hE (w.alloc (.cells #[r,q,i] 52));obtain⟨s,C⟩:=hE (m.alloc (.cells (wn x).toArray 46));obtain⟨w3,E⟩:=hE (s.alloc (.cells #[.slice none 0 0,.slice none 0 0,.slice none 0 0] 52));have M:m.heap.size=k+1:=by rw[<-A.out,TQ,hk.out]
 have hi:s.heap.size=k+2:=by rw[<-C.out,TQ,M]
 have K3:Hid (FgI w w3 k x j r q i):=by
  have b1:Below w.heap.size w m:=by rw[<-A.out];exact aD _ _
  have o:Below m.heap.size m s:=by rw[<-C.out];exact aD _ _
  have l:Below s.heap.size s w3:=by rw[<-E.out];exact aD _ _
  have p:Row m k [r,q,i]:=by rw[<-A.out,<-hk.out];exact aE w _ _
  have B:Row s (k+1) (wn x):=by rw[<-C.out,<-M];exact aE m _ _
  have t:Row w3 (k+2) [.slice none 0 0,.slice none 0 0,.slice none 0 0]:=by rw[<-E.out,<-hi];exact aE s _ _
  exact⟨(b1.trans (o.mono b1.size)).trans (l.mono (TU b1.size o.size)),(p.below o).below l,B.below l,t⟩
 obtain⟨v0,h7⟩:=hE (Um #[r,q,i]);obtain⟨vx,t⟩:=hE (nv x);have B1:Hid ((U6 52 v0).run prog w=.ok (pZ k) m):=by rw[<-h7.out,<-A.out,<-hk.out];exact JR _ _ _ _
 have B2:Hid ((U6 46 vx).run prog m=.ok (.pointer (some ⟨k+1,0,none⟩)) s):=by rw[<-t.out,<-C.out,<-M];exact boxS x m
 have HZ:=mk1 (hi);obtain⟨d,hl,hm⟩:=TJ.1 u40;have HD:=mk2 hl hm;rw[h7.out,t.out];go_enter func46,ntmps46;go_wp2_with (first|(refine aM (u:=v0) (v:=pZ k) (w':=m) rfl 52 (.tmp 0) rfl ?_ ?_ ?_;rfl;exact B1.out)|(refine aM (u:=vx) (v:=.pointer (some ⟨k+1,0,none⟩)) (w':=s) rfl 46 (.tmp 1) rfl ?_ ?_ ?_;rfl;exact B2.out)|(refine eN (v:=.pointer (some ⟨k+2,0,none⟩)) (w':=w3) rfl 52 4 rfl rfl ?_ ?_;(rw[<-E.out,<-HZ.out];kernel_rfl))|(refine ldR 3 K3.r3.2.1 t u40 nSc ?_)|fail)
 rw[<-t.out];refine(HX.1 w3).mono ?_;rintro e Y ⟨u,rfl,hn,rfl⟩;obtain⟨P,K⟩:=hE (Y.heap.size);obtain⟨w5,T⟩:=hE (Y.alloc (.cells #[uZ 0,uZ 0,uZ 0,uZ 0] 46));obtain⟨w6,h8⟩:=hE (w5.setCells P 0 (wn j));have F5:Hid (Row w5 P [uZ 0,uZ 0,uZ 0,uZ 0]/\Below Y.heap.size Y w5):=by rw[<-T.out,<-K.out];exact⟨aE Y _ _,aD _ _⟩
 have K6:Hid (FgI w w6 k x j r q i/\Row w6 P (wn j)):=by
  rw[<-h8.out];exact⟨(K3.grow hn).grow (RG.below_setCells (by rw[K.out];exact TG _) _ _ _ F5.2),F5.1.put rfl⟩
 obtain⟨vi,h9⟩:=hE (nv j);rw[h9.out];go_wp2_with (first|(refine alR 5 K T ?_)|(refine stR 5 h8 h9 F5.1.2.2 nSc (bT j) ?_)|fail)
 refine(RG.gwL [RG.pE (pZ k),RG.pE r,RG.pE (nv j),RG.pE (nv x),RG.pG (λg=>w.heap.size<=g/\g≠k+2) n G',RG.pE (.pointer (some ⟨k,1,none⟩)),RG.pE q,RG.pE (nv x),RG.pE (nv j),RG.pG (λg=>w.heap.size<=g/\g≠k+2) n Z,RG.pE (.pointer (some ⟨k,2,none⟩)),RG.pE i,⟨λv W=>∃x y,v=.agg #[x,y,i]/\GLq (λg=>w.heap.size<=g/\g≠k+2) W x n G'/\GLq (λg=>w.heap.size<=g/\g≠k+2) W y n Z,λ_ _ _ l ⟨x,y,h1,h2,h3⟩=>⟨x,y,h1,h2.keep (Kq.of_below l),h3.keep (Kq.of_below l)⟩⟩] (λW=>FgI w W k x j r q i/\Row W P (wn j)) (λW W' l h=>⟨h.1.grow l,h.2.below l⟩)).last 13 kR kR kR ⟨
  RG.gO 2 (pZ k),
  RG.gB 48 0 8 k 0 r uGL (λx W h=>h) (λW f=>f.1.r2.2.1 0 _ rfl) (λ_=>rfl),
  RG.iS 46 5 P 0 (wn j) rSc nSc rfl (λW f=>f.2.2.1) (λ_=>rfl),
  RG.iS 46 3 (k+1) 0 (wn x) rSc nSc rfl (λW f=>f.1.r3.2.1) (λ_=>rfl),
  RG.tK 1 9 2 10 3 11 91 (λx y z=>#[x,y,z]) (λa b c W o l p f=>by
   obtain rfl:a=r:=o;obtain rfl:b=nv j:=l;obtain rfl:c=nv x:=p;refine(HX.2.1 W f.1.bl).mono ?_;rintro e W' ⟨u,rfl,l,B⟩;exact⟨_,rfl,l,B.mono λg I=>⟨TU f.1.bl.size I,by have:=f.1.r4.1;omega⟩⟩),
  RG.gP 2 (pZ k) (.pointer (some ⟨k,1,none⟩)),
  RG.gB 48 5 13 k 1 q uGL (λx W h=>h) (λW f=>f.1.r2.2.1 1 _ rfl) (λ_=>rfl),
  RG.iS 46 3 (k+1) 0 (wn x) rSc nSc rfl (λW f=>f.1.r3.2.1) (λ_=>rfl),
  RG.iS 46 5 P 0 (wn j) rSc nSc rfl (λW f=>f.2.2.1) (λ_=>rfl),
  RG.tK 6 14 7 15 8 16 91 (λx y z=>#[x,y,z]) (λa b c W o l p f=>by
   obtain rfl:a=q:=o;obtain rfl:b=nv x:=l;obtain rfl:c=nv j:=p;refine(HX.2.2 W f.1.bl).mono ?_;rintro e W' ⟨u,rfl,l,B⟩;exact⟨_,rfl,l,B.mono λg I=>⟨TU f.1.bl.size I,by have:=f.1.r4.1;omega⟩⟩),
  RG.gP 2 (pZ k) (.pointer (some ⟨k,2,none⟩)),
  RG.gB 50 10 18 k 2 i Cz (λx W h=>h) (λW f=>f.1.r2.2.1 2 _ rfl) (λ_=>rfl),
  RG.dM (λa W B=>by
   have h1:=B.n 4 12 kR kR;have h2:=B.n 9 17 kR kR;have h3:=B.n 11 19 kR kR;obtain⟨R,o1,X,F,-⟩:=id h1;obtain⟨S,o2,c2,V,-⟩:=id h2;obtain⟨g3,c3,e3,-⟩:=HU.1;rw[F]at h1;rw[V]at h2;refine⟨[(12,.slice (some ⟨R,o1,none⟩) n X),(17,.slice (some ⟨S,o2,none⟩) n c2),(19,i)],.agg #[.slice (some ⟨R,o1,none⟩) n X,.slice (some ⟨S,o2,none⟩) n c2,i],W,⟨F,V,h3,yB5⟩,?_,TX _ _,⟨_,_,rfl,h1,h2⟩⟩;rw[e3];kernel_rfl),yB5⟩ ⟨K6.1.drew,K6.2⟩ ?_
 intro V F hR f;obtain⟨p,o,hV,X,R⟩:∃x y,V 12=.agg #[x,y,i]/\GLq (λg=>w.heap.size<=g/\g≠k+2) F x n G'/\GLq (λg=>w.heap.size<=g/\g≠k+2) F y n Z:=hR 12 dC;have hr:=HU.1.keep (Kq.of_below f.1.bl);have B:∀g,w.heap.size<=g/\g≠k+2->Q g:=λg I=>HU.2 g I.1
 have gr:GRq Q F (.agg #[p,o,i]) n G' Z U:=⟨_,_,_,rfl,X.mono B,R.mono B,hr⟩
 obtain⟨e,he,ht,hq⟩:=gr.ar;obtain rfl:#[p,o,i]=e:=by injection he
 obtain⟨w8,hj⟩:=hE (F.setCells (k+2) 0 [p,o,i]);have K8:Hid (Below w.heap.size w w8/\Row w8 (k+2) [p,o,i]/\GRq Q w8 (.agg #[p,o,i]) n G' Z U):=by
  rw[<-hj.out];have kq:Kq (λg=>w.heap.size<=g/\g≠k+2) F (F.setCells (k+2) 0 [p,o,i]):=Kq.set λg I=>I.2
  have S:Below w.heap.size w (F.setCells (k+2) 0 [p,o,i]):=RG.below_setCells (by rw[hk.out];omega) _ _ _ f.1.bl;exact⟨S,f.1.r4.put rfl,_,_,_,rfl,(X.keep kq).mono B,(R.keep kq).mono B,HU.1.keep (Kq.of_below S)⟩
 have HT:=mk2 f.1.r4.2.2 hq;dsimp only[RG.bW,UJ,Vw,Vx];simp only[Ug,TD,TK,TL];obtain⟨ve,S⟩:=hE (Um #[p,o,i]);rw[hV,S.out];go_wp2_with (first|(refine Ui rfl 52 (.tmp 4) _ rfl (k+2) 0 #[p,o,i] ?_ ?_ ?_ ?_ ?_ ?_;rfl;exact S.symm;exact HT.1;exact iGr;exact HT.2;rw[show(#[p,o,i]:Array TC).toList=[p,o,i] from rfl,hj.out])|fail)
 refine TM (aL 4 52 rfl K8.2.1 rfl uGr iGr) rfl ?_;exact⟨_,rfl,K8.1,K8.2.2⟩
def lgV(r:Nat):TC:=.agg #[pZ r]
theorem uLg:(prog.underlying 64).map (·.isRow)=some true:=kR
theorem iLg:(prog.info? 64).map (·.size)=some 1:=kR
theorem uLp:(prog.underlying 60).map (·.isRow)=some false:=kR
theorem RN(r:Nat)(w:TA):(U6 64 (lgV r)).run prog w=.ok (.pointer (some ⟨w.heap.size,0,none⟩)) (w.alloc (.cells #[pZ r] 64)):=kR
theorem lE{W:TA}{r K o:Nat}{vs:List TC}{L:Bs}(h:Holds encB W r 0 L)(k:r≠K):Holds encB (W.setCells K o vs) r 0 L:=λj b=>by
 have e:=RG.aG K vs o W r k;rw[Ua (a:=⟨r,0+j,none⟩) e,UY (a:=⟨r,0+j,none⟩) e];exact h j b
theorem GF(k:ByteArray)(w:TA)(f:k.size<=1048576):TW prog 47 #[.string k] w (rZ w λe w'=>∃r,e=lgV r/\w.heap.size<=r/\r<w'.heap.size/\Holds encB w' r 0 (SP.newL k.data.toList)):=by
 obtain⟨L,q⟩:=hE (SP.newL k.data.toList);rw[q.out];obtain⟨n,i⟩:=hE (w.alloc (.cells #[.pointer none] 64));have m:Hid (Row n w.heap.size [.pointer none]/\Below w.heap.size w n):=by rw[<-i.out];exact⟨aE w _ _,aD w _⟩
 go_enter func47,ntmps47;go_wp2_with fail
 rw[i.out];refine(Gj k n f).mono ?_;rintro e s ⟨u,rfl,g,r,rfl,o,p,b⟩;rw[q.out]at b;have t:=TF m.1.1 o;have c:=mk4 (m.1.below g) (m.2.trans (g.mono m.2.size)) b p;obtain⟨j,d⟩:=hE (s.setCells w.heap.size 0 [pZ r]);have l:Hid (Row j w.heap.size [pZ r]/\Below w.heap.size w j/\Holds encB j r 0 L/\r<j.heap.size):=by
  rw[<-d.out];exact⟨c.1.put rfl,RG.below_setCells (TG _) _ _ _ c.2.1,lE c.2.2.1 oM,by rw[RG.setCells_size];exact c.2.2.2⟩
 go_wp2_with (refine cG (v:=.agg #[pZ r]) (w':=s) rfl (.build 64 _) rfl ?_ ?_;kernel_rfl;refine ZX ?_)
 show wpList _ _ _ _ _ _;refine Ui rfl 64 _ _ rfl w.heap.size 0 #[pZ r] ?_ ?_ ?_ ?_ ?_ ?_
 ·kernel_rfl
 ·kernel_rfl
 ·exact c.1.2.2
 ·exact iLg
 ·kernel_rfl
 rw[show(#[pZ r]).toList=[pZ r] from rfl,d.out];go_wp2;refine TM (aL 2 64 rfl l.1 rfl uLg iLg) rfl ?_;exact⟨_,rfl,l.2.1,r,rfl,oM,l.2.2.2,l.2.2.1⟩
theorem xT(O:Ord N)(r:Nat)(L:Bs)(w:TA)(q:Holds encB w r 0 L)(G:L.size=32):
 TW prog 124 #[.agg #[pZ r]] w (Ret λe w'=>SP.Only r 0 32 w w'/\Holds encB w' r 0 (iK L)/\e=nv (cha N L)):=by
 have x:=Holds.lt q oM;obtain⟨k,c⟩:∃k,Hid ((w.alloc (.cells #[pZ r] 62)).alloc (.cells #[uZ 0,uZ 0,uZ 0,uZ 0] 46)=k):=⟨_,rfl⟩
 have p:Hid (Row k (w.heap.size+1) [uZ 0,uZ 0,uZ 0,uZ 0]/\Below w.heap.size w k/\Holds encB k r 0 L/\k.rangeAt w.heap.size 0 [pZ r]):=by
  rw[<-c.out];have b:Below w.heap.size w ((w.alloc (.cells #[pZ r] 62)).alloc (.cells #[uZ 0,uZ 0,uZ 0,uZ 0] 46)):=(aD w _).alloc (by rw[TQ];omega) _;have f:=aE (w.alloc (.cells #[pZ r] 62)) [uZ 0,uZ 0,uZ 0,uZ 0] 46;rw[TQ]at f;exact⟨f,b,Holds.below q b x,((aE w [pZ r] 62).alloc _).2.1⟩
 clear q;obtain⟨d,n,j⟩:=TJ.1 u124;have C:Hid (prog.underlying 62=some d/\d.isRow=true):=⟨n,j⟩
 clear n j;have z:=CS O r L ⟨#[99,104,97,108,108,101,110,103,101]⟩ k dC p.2.2.1 G;have g:qO N (SP.t7 L (⟨#[99,104,97,108,108,101,110,103,101]⟩:ByteArray).data.toList 64)=cha N L:=rfl;have f:SP.mD L (⟨#[99,104,97,108,108,101,110,103,101]⟩:ByteArray).data.toList=iK L:=rfl;rw[g,f]at z;have u:(iK L).size=32:=SP.fR _ _;have A:=Hid.mk' z;obtain⟨m,B⟩:=hE (cha N L);obtain⟨E,b⟩:=hE (iK L);rw[B.out,b.out]at A;rw[b.out]at u;rw[B.out,b.out];go_enter func124,ntmps124;go_wp2_with (refine UL rfl 62 _ rfl w.heap.size 0 ?_ [pZ r] d ?_ ?_ ?_ ?_ ?_;kernel_rfl;(rw[c.out];exact p.2.2.2);exact C.1;exact C.2;exact i124;rw[c.out])
 refine A.mono ?_;rintro e F ⟨v,rfl,a,y,rfl⟩;have D:=Holds.lt y oM;have o:=mk3 (p.1.only a oM) ((SP.Only.of_below p.2.1 rfl x).trans a) y;obtain⟨s,i⟩:=hE (F.setCells (w.heap.size+1) 0 (wn m));have t:Hid (Row s (w.heap.size+1) (wn m)/\SP.Only r 0 32 w s/\Holds encB s r 0 E):=by rw[<-i.out];exact⟨o.1.put rfl,cE o.2.1 x oM _,lE o.2.2 oM⟩
 obtain⟨H,l⟩:=hE (nv m);rw[l.out];go_wp2_with (refine Ui rfl 46 _ _ rfl (w.heap.size+1) 0 (wn m).toArray ?_ ?_ ?_ ?_ ?_ ?_;rfl;exact l.symm;exact o.1.2.2;exact i40;exact bT m;rw[show(wn m).toArray.toList=wn m from rfl,i.out])
 refine TM (aL 2 46 rfl t.1 rfl u40 i40) rfl ?_;exact⟨_,rfl,t.2.1,t.2.2,rfl⟩
def chS(N:Nat)(L:Bs):Nat:=kG (cha N L)
theorem Fq[NeZero N](d:1<N)(L:Bs)(b:cha N L<N):chS N L=(J3 N L).val:=by
 unfold chS J3 QN kG;generalize cha N L=c at b;have hv:(ofF N c).val=c:=Uf b;by_cases k:c=0
 ·subst k;rw[yB3 rfl,yB3 IV];exact(Uf d).symm
 ·rw[yB4 k,yB4 (λe=>k (by rw[<-hv,e];exact Nat.zero_mod N)),hv]
theorem JI(O:Ord N)(r:Nat)(L:Bs)(w:TA)(u:Holds encB w r 0 L)(P:L.size=32):
 TW prog 89 #[lgV r] w (Ret λe w'=>SP.Only r 0 32 w w'/\Holds encB w' r 0 (iK L)/\e=nv (chS N L)):=by
 have B:=Holds.lt u oM;obtain⟨k,c⟩:∃k,Hid ((w.alloc (.cells #[pZ r] 64)).alloc (.cells #[uZ 0,uZ 0,uZ 0,uZ 0] 46)=k):=⟨_,rfl⟩
 have s:Hid (Row k (w.heap.size+1) [uZ 0,uZ 0,uZ 0,uZ 0]/\Below w.heap.size w k/\Holds encB k r 0 L/\k.rangeAt w.heap.size 0 [pZ r]):=by
  rw[<-c.out];have b:Below w.heap.size w ((w.alloc (.cells #[pZ r] 64)).alloc (.cells #[uZ 0,uZ 0,uZ 0,uZ 0] 46)):=(aD w _).alloc (by rw[TQ];omega) _;have f:=aE (w.alloc (.cells #[pZ r] 64)) [uZ 0,uZ 0,uZ 0,uZ 0] 46;rw[TQ]at f;exact⟨f,b,Holds.below u b B,((aE w [pZ r] 64).alloc _).2.1⟩
 clear u;obtain⟨d,o,j⟩:=TJ.1 u124;have I:Hid (prog.underlying 62=some d/\d.isRow=true):=⟨o,j⟩
 clear o j;have J:=xT O r L k s.2.2.1 P;have t:cha N L<N:=uC O _;have l:=λW=>L6 O t W
 have z:kG (cha N L)=chS N L:=rfl;rw[z]at l;have A:(iK L).size=32:=SP.fR _ _;obtain⟨m,H⟩:=hE (cha N L);obtain⟨q,E⟩:=hE (chS N L);obtain⟨K,b⟩:=hE (iK L);have G:=Hid.mk' J;have C:=Hid.mk' l;rw[H.out,b.out]at G;rw[H.out,E.out]at C;rw[b.out]at A;rw[E.out,b.out];unfold lgV;go_enter func89,ntmps89;go_wp2_with (refine UL rfl 62 _ rfl w.heap.size 0 ?_ [pZ r] d ?_ ?_ ?_ ?_ ?_;kernel_rfl;(rw[c.out];exact s.2.2.2);exact I.1;exact I.2;exact i124;rw[c.out])
 refine G.mono ?_;rintro e M ⟨v,rfl,F,D,rfl⟩;have g:=Holds.lt D oM;have a:=mk3 (s.1.only F oM) ((SP.Only.of_below s.2.1 rfl B).trans F) D;go_wp2_with fail
 refine(C M).mono ?_;rintro e Q ⟨R,rfl,f,rfl⟩;have p:=mk3 (a.1.below f) (a.2.1.trans (SP.Only.of_below f rfl g)) (Holds.below a.2.2 f g);obtain⟨x,i⟩:=hE (Q.setCells (w.heap.size+1) 0 (wn q));have y:Hid (Row x (w.heap.size+1) (wn q)/\SP.Only r 0 32 w x/\Holds encB x r 0 K):=by rw[<-i.out];exact⟨p.1.put rfl,cE p.2.1 B oM _,lE p.2.2 oM⟩
 obtain⟨S,n⟩:=hE (nv q);rw[n.out];go_wp2_with (refine Ui rfl 46 _ _ rfl (w.heap.size+1) 0 (wn q).toArray ?_ ?_ ?_ ?_ ?_ ?_;rfl;exact n.symm;exact p.1.2.2;exact i40;exact bT q;rw[show(wn q).toArray.toList=wn q from rfl,i.out])
 refine TM (aL 2 46 rfl y.1 rfl u40 i40) rfl ?_;exact⟨_,rfl,y.2.1,y.2.2,rfl⟩
end
namespace RG
open Go Go.RowKit
variable {P:Vd}{ops:Array UI}{Q:YJ->Act->TA->Prop}{w:TA}{a0:Act}{F:Flow}
def rT(k:Array UI):Nat->Nat->Nat->Bool
 | 0,i,j=>depOn k i j
 | f+1,i,j=>depOn k i j || (US i).any (λx=>depOn k i x && rT k f x j)
def sM(k:Array UI)(n:Nat):Bool:=(US n).all (λj=>rT k 5 n j) && (US k.size).all (λi=>decide (i<=n) || depOn k i (i-1))
theorem xB{n i:Nat}(h:sM ops n=true)(c:n<i)(b:i<ops.size):depOn ops i (i-1)=true:=by
 unfold sM at h;rw[T0]at h;have k:=Uo.1 h.2 i (U4.2 b);rw[Wu,decide_eq_true_eq]at k;rcases k with k|k
 ·omega
 ·exact k
theorem Bq{L:Array Bool}{a:Act}(d:InvF F ops a0 L a w):∀(f i j:Nat),i<ops.size->on L i=true->rT ops f i j=true->on L j=true
 | 0,i,j,his,hi,h=>by
  have k:=Uj his;unfold rT depOn at h;rw[k]at h;exact Ax (ho:=k) d h hi
 | f+1,i,j,his,hi,h=>by
  have k:=Uj his;unfold rT at h;rw[Wu]at h;have hd:∀x,depOn ops i x=true->on L x=true:=λx b=>by
   unfold depOn at b;rw[k]at b;exact Ax (ho:=k) d b hi
  rcases h with h|h
  ·exact hd j h
  ·obtain⟨x,b,c⟩:=yAU.1 h;rw[T0]at c;exact Bq d f x j (by have:=U4.1 b;omega) (hd x c.1) c.2
theorem Gg{n:Nat}(B:sM ops n=true)(v:∀(i:Nat) (o:UI),ops[i]? = some o->∀e∈o.after,U7 .any e=true->e.on<i):∀(c:Nat) (L:Array Bool) (a:Act) (w:TA) (m:Nat),n<=m->m<=ops.size->L.size=ops.size->(∀j,on L j=true↔j<m)->unl L=c->wpList P ops Q (ops.toList.drop m) a w->wpAny P .any ops Q c L a w:=by
 intro c;induction c with
 | zero =>
  intro L a w m x u t k A h;have q:m=ops.size:=by
   rcases Vo m ops.size with d|d
   ·have:=jJ A m oM;rw[k]at this;omega
   ·omega
  rw[q,<-TR,Yy]at h;refine⟨?_,h⟩;apply XN.2;intro i r;obtain⟨d,o,ho,-⟩:=mem_ready.1 r;have f:=(k i).2 (by rw[q];exact(Uh.1 ho).1);unfold on at f;rw[TS]at d f;cases l:L[i]? with
  | none=>rw[l]at d;cases d
  | some b=>rw[l]at d f;rw[show b=false from d]at f;cases f
 | succ c ih =>
  intro L a w m x u t k A h;have s:∀i,i∈UN .any ops L->i=m:=λi r=>by
   obtain⟨d,o,ho,p⟩:=mem_ready.1 r;have g:on L i=false:=by
    unfold on;rw[TS]at d⊢;cases l:L[i]? with
    | none=>rfl
    | some b=>rw[l]at d;exact d
   have l:=(Uh.1 ho).1;rcases yAP i m with f|f|f
   ·rw[(k i).2 f]at g;cases g
   ·exact f
   ·have:=(k (i-1)).1 (jF ho p (xB B oM l));omega
  refine⟨λD=>?_,λi r=>?_⟩
  ·rcases Vo m ops.size with d|d
   ·exfalso;have ho:ops[m]? = some ops[m]:=Uj _;have g:on L m=false:=by
     cases y:on L m with
     | false=>rfl
     | true=>have:=(k m).1 y;omega
    have:m∈UN .any ops L:=mem_ready.2 ⟨?_,_,ho,λe z y=>(k e.on).2 (v m _ ho e z y)⟩
    ·rw[D]at this;cases this
    ·unfold on at g;rw[TS,Uj (by rw[t];exact d)]at g⊢;exact g
   ·have q:m=ops.size:=oM;rw[q,<-TR,Yy]at h;exact h
  ·obtain rfl:=s i r;obtain⟨d,o,ho,p⟩:=mem_ready.1 r;have l:=(Uh.1 ho).1;have q:ops.toList.drop i=o :: ops.toList.drop (i+1):=by
    rw[Yi (by rw[TR];exact l)];have:ops.toList[i]? = some o:=by rw[UF];exact ho
    rw[TZ (by rw[TR];exact l)]at this;rw[Uc.inj this]
   rw[q]at h;have y:wpOp P ops Q i (λz w'=>wpList P ops Q (ops.toList.drop (i+1)) z w') a w:=by
    unfold wpOp;rw[ho];exact h
   refine Zh (λz w' C=>ih _ z w' (i+1) oM oM (by rw[Up];exact t) (λj=>?_) (by have:=lK d;omega) C) y;rw[eI (by rw[t];omega)];constructor
   ·intro g;rw[Wu]at g;rcases g with g|g
    ·have:=(k j).1 g;omega
    ·have:i=j:=by simpa using g
     omega
   ·intro g;by_cases f:j<i
    ·rw[(k j).2 f,Wz]
    ·rw[show j=i by omega];simp
theorem DU{id:Nat}(F:Flow)(n:Nat)(I:n<ops.size)(r:sM ops n=true)(G:P.follows .mixedOrders=true)(R:RegF P Q F ops a0 n)(D:∀b,F.B b w.drew)
 (B:∀(V:Nat->TC) (w':TA),(∀i,i<n->F.kill i=[]->F.R i (V i) w')->(∀b,F.killB b=[]->F.B b w')->wpList P ops Q (ops.toList.drop n) (bW V (ops.toList.take n) 0 a0) w'):(Vj id ops true).wp P Q a0 w:=by
 have v:∀(i:Nat) (o:UI),ops[i]? = some o->∀e∈o.after,U7 .any e=true->e.on<i:=λi o ho=>(R.of ho).1
 have key:∀(c:Nat) (L:Array Bool) (a:Act) (w:TA),unl L=c->(∀j,n<=j->on L j=false)->InvF F ops a0 L a w->wpAny P .any ops Q c L a w:=by
  intro c;induction c with
  | zero =>
   intro L a w A k p;have:=jJ A n (by rw[p.size];omega);rw[k n (TG _)]at this;cases this
  | succ c ih =>
   intro L a w A k p;by_cases f:∀j,j<n->on L j=true
   ·have g:∀j,on L j=true↔j<n:=λj=>⟨λm=>(by
     rcases Vo j n with h|h
     ·exact h
     ·rw[k j h]at m;cases m),f j⟩
    obtain⟨V,y,u⟩:=p.all;have C:=p.act R oM g y;have s:∀l:List Nat,l=[]->∀x∈l,on L x=false:=λl E x t=>by rw[E]at t;cases t
    have q:=B V w (λj m H=>u j (f j m) (s _ H)) (λb z=>p.base b (s _ z));rw[<-C]at q;exact Gg r v _ L a w n (TG _) oM p.size g A q
   ·refine⟨λH=>?_,λi E=>?_⟩
    ·exact absurd (λj m=>p.full R H j oM) f
    ·obtain⟨u,o,ho,g⟩:=mem_ready.1 E;have s:=(Uh.1 ho).1;have y:on L i=false:=by
      unfold on;rw[TS]at u⊢;cases q:L[i]? with
      | none=>rfl
      | some b=>rw[q]at u;exact u
     have B:i<n:=by
      rcases Vo i n with h|h
      ·exact h
      ·exfalso;rcases Vo n i with C|C
       ·have:=jF ho g (xB r C s);rw[k (i-1) oM]at this;cases this
       ·obtain rfl:i=n:=oM;refine f λj m=>?_
        unfold sM at r;rw[T0]at r;have q:=Uo.1 r.1 j (U4.2 m);unfold rT at q;rw[Wu]at q;rcases q with q|q
        ·exact jF ho g q
        ·obtain⟨x,t,z⟩:=yAU.1 q;rw[T0]at z;exact Bq p 4 x j (by have:=U4.1 t;omega) (jF ho g z.1) z.2
     refine Zh (λt w' q=>ih _ t w' (by have:=lK u;omega) (λj m=>?_) q) (A9 R B (λj m=>?_) ho y g p)
     ·rw[eI (by rw[p.size];exact s),k j m];simp only[yBs,beq_eq_false_iff_ne];omega
     ·rcases Vo j n with h|h
      ·exact h
      ·rw[k j h]at m;cases m
 have k:∀i,on (TP ops.size false) i=false:=λi=>by
  unfold on;rw[TS,VZ];by_cases h:i<ops.size
  ·rw[yB3 h];rfl
  ·rw[yB4 h];rfl
 refine yBw G (key _ _ a0 _ ?_ (λj _=>k j) ⟨TY,(λi o _ h=>by rw[k]at h;cases h),rfl,rfl,λ_ _=>rfl,⟨λ_=>VU,λi d h=>(by rw[k]at h;cases h),λi h=>(by rw[k]at h;cases h)⟩,λb _=>D b⟩);unfold unl;rw[YK,YR];simp
theorem Gw.tail2{id:Nat}(G:Gw)(n:Nat)(k:(decide (n<ops.size) && sM ops n)=true)(j:P.follows .mixedOrders=true)(b:D7 ops a0.tmps.size=true)(h:kQ P Q G.flow ops a0 0 (ops.toList.take n))(d:G.B w.drew)
 (g:∀(V:Nat->TC) (w':TA),(∀i,i<n->G.R i (V i) w')->G.B w'->wpList P ops Q (ops.toList.drop n) (bW V (ops.toList.take n) 0 a0) w'):(Vj id ops true).wp P Q a0 w:=by
 rw[T0,decide_eq_true_eq]at k;exact DU G.flow n k.1 k.2 j (Gw.reg b h) (λ_=>d) λV w' e c=>g V w' (λi f=>e i f rfl) (c 0 rfl)
end RG
section
open Go.RowKit Go.Sort Go.Deep
variable {P:Nat}[NeZero P]{N:Nat}
structure CaI(w W:TA)(k r:Nat)(X Y L:Bs):Prop where
 on:SP.Only r 0 32 w W
 r0:Row W k [pZ r]
 r1:Row W (k+1) (aA X)
 r2:Row W (k+2) (aA Y)
 r3:Row W (k+3) [uZ 0,uZ 0,uZ 0,uZ 0]
 lg:Holds encB W r 0 L
theorem CaI.grow{w W W':TA}{k r:Nat}{X Y L:Bs}(h:CaI w W k r X Y L)(d:L.size=32)(b:Below W.heap.size W W'):CaI w W' k r X Y L:=
 have c:=Holds.lt h.lg oM
 ⟨h.on.trans (SP.Only.of_below b rfl c),h.r0.below b,h.r1.below b,h.r2.below b,h.r3.below b,Holds.below h.lg b c⟩
theorem CaI.say{w W W':TA}{k r:Nat}{X Y L c:Bs}(h:CaI w W k r X Y L)(e:r<k)(b:SP.Only r 0 32 W W')(d:Holds encB W' r 0 c):CaI w W' k r X Y c:=
 ⟨h.on.trans b,h.r0.only b oM,h.r1.only b oM,h.r2.only b oM,h.r3.only b oM,d⟩
theorem GV(O:Ord N)(r:Nat)(L X Y:Bs)(l1 l2:ByteArray)(h1:l1.size<=1048576)(h2:l2.size<=1048576)(hX:X.size=33)(hY:Y.size=33)(w:TA)(hL:Holds encB w r 0 L)(hl:L.size=32):
 TW prog 43 #[lgV r,.string l1,pvl X,.string l2,pvl Y] w (Ret λe w'=>SP.Only r 0 32 w w'/\Holds encB w' r 0 (iK (mR l1.data.toList l2.data.toList L X Y))/\e=nv (chS N (mR l1.data.toList l2.data.toList L X Y))):=by
 have hr:=Holds.lt hL oM;obtain⟨F,D⟩:∃F,Hid (SP.kU L l1.data.toList X.toList=F):=⟨_,rfl⟩
 have s1:F.size=32:=by rw[<-D.out];exact SP.fL _ _ _
 obtain⟨s,G⟩:∃s,Hid (SP.kU F l2.data.toList Y.toList=s):=⟨_,rfl⟩
 have s2:s.size=32:=by rw[<-G.out];exact SP.fL _ _ _
 have e2:mR l1.data.toList l2.data.toList L X Y=s:=by unfold mR;rw[D.out,G.out]
 rw[e2];obtain⟨k,H⟩:∃k,Hid (w.heap.size=k):=⟨_,rfl⟩
 obtain⟨c,l⟩:∃c,Hid (w.alloc (.cells #[pZ r] 64)=c):=⟨_,rfl⟩
 obtain⟨b,o⟩:∃b,Hid (c.alloc (.cells (aA X).toArray 55)=b):=⟨_,rfl⟩
 obtain⟨f,g⟩:∃f,Hid (b.alloc (.cells (aA Y).toArray 55)=f):=⟨_,rfl⟩
 obtain⟨B,E⟩:∃B,Hid (f.alloc (.cells #[uZ 0,uZ 0,uZ 0,uZ 0] 46)=B):=⟨_,rfl⟩
 have U:c.heap.size=k+1:=by rw[<-l.out,TQ,H.out]
 have z2:b.heap.size=k+2:=by rw[<-o.out,TQ,U]
 have z3:f.heap.size=k+3:=by rw[<-g.out,TQ,z2]
 have C:r<k:=by rw[<-H.out];exact hr
 have HK:Hid (w.heap.size<=k):=by show _<=_;rw[H.out];exact TG _
 have K4:Hid (CaI w B k r X Y L):=by
  have b1:Below w.heap.size w c:=by rw[<-l.out];exact aD _ _
  have n:Below c.heap.size c b:=by rw[<-o.out];exact aD _ _
  have j:Below b.heap.size b f:=by rw[<-g.out];exact aD _ _
  have i:Below f.heap.size f B:=by rw[<-E.out];exact aD _ _
  have t:Row c k [pZ r]:=by rw[<-l.out,<-H.out];exact aE w _ _
  have z:Row b (k+1) (aA X):=by rw[<-o.out,<-U];exact aE c _ _
  have y:Row f (k+2) (aA Y):=by rw[<-g.out,<-z2];exact aE b _ _
  have a:Row B (k+3) [uZ 0,uZ 0,uZ 0,uZ 0]:=by rw[<-E.out,<-z3];exact aE f _ _
  have p:Below w.heap.size w B:=((b1.trans (n.mono b1.size)).trans (j.mono (TU b1.size n.size))).trans (i.mono (TU b1.size (TU n.size j.size)));exact⟨SP.Only.of_below p rfl hr,((t.below n).below j).below i,(z.below j).below i,y.below i,a,Holds.below hL p hr⟩
 obtain⟨vl,J⟩:∃v,Hid (lgV r=v):=⟨_,rfl⟩
 obtain⟨vX,Q⟩:∃v,Hid (pvl X=v):=⟨_,rfl⟩
 obtain⟨vY,P⟩:∃v,Hid (pvl Y=v):=⟨_,rfl⟩
 have B1:Hid ((U6 64 vl).run prog w=.ok (pZ k) c):=by rw[<-J.out,<-l.out,<-H.out];exact RN r w
 have B2:Hid ((U6 55 vX).run prog c=.ok (.pointer (some ⟨k+1,0,none⟩)) b):=by rw[<-Q.out,<-o.out,<-U];exact xJ hX c
 have B3:Hid ((U6 55 vY).run prog b=.ok (.pointer (some ⟨k+2,0,none⟩)) f):=by rw[<-P.out,<-g.out,<-z2];exact xJ hY b
 have HZ:Hid (f.heap.size=k+3):=z3;rw[J.out,Q.out,P.out];have K:Hid (Ord N/\l1.size<=1048576/\l2.size<=1048576/\X.size=33/\Y.size=33):=⟨O,h1,h2,hX,hY⟩
 clear hL U z2 z3 l o g H e2 O h1 h2 hX hY;go_enter func43,ntmps43;go_wp2_with (first|(refine aM (u:=vl) (v:=pZ k) (w':=c) rfl 64 (.tmp 0) rfl ?_ ?_ ?_;rfl;exact B1.out)|(refine aM (u:=vX) (v:=.pointer (some ⟨k+1,0,none⟩)) (w':=b) rfl 55 (.tmp 2) rfl ?_ ?_ ?_;rfl;exact B2.out)|(refine aM (u:=vY) (v:=.pointer (some ⟨k+2,0,none⟩)) (w':=f) rfl 55 (.tmp 4) rfl ?_ ?_ ?_;rfl;exact B3.out)|(refine eN (v:=.pointer (some ⟨k+3,0,none⟩)) (w':=B) rfl 46 10 rfl rfl ?_ ?_;(rw[<-E.out,<-HZ.out];kernel_rfl))|fail)
 refine(RG.gwL [RG.pE (pZ k),RG.pE (pZ k),RG.pE (pZ r),RG.pE (.string l1),RG.pE (.slice (some ⟨k+1,0,none⟩) 33 33)] (λW=>CaI w W k r X Y L) (λW W' hb h=>h.grow hl hb)).tail2 5 kR kR kR ⟨
  RG.gO 5 (pZ k),
  RG.pO 0 11 (pZ k) (pZ k) (λx W h=>h) (λ_=>rfl),
  RG.gB 60 1 12 k 0 (pZ r) uLp (λx W h=>h) (λW t=>t.r0.2.1 0 _ rfl) (λ_=>rfl),
  RG.gO 1 (.string l1),
  RG.gP 7 (.pointer (some ⟨k+1,0,none⟩)) (.slice (some ⟨k+1,0,none⟩) 33 33),yB5⟩ (K4.grow hl ⟨rfl,rfl,rfl,TG _,λ_ _=>rfl⟩) ?_
 intro V w5 y t;have i:V 2=pZ r:=y 2 dC;have n:V 3=.string l1:=y 3 dC;have j:V 4=.slice (some ⟨k+1,0,none⟩) 33 33:=y 4 dC;dsimp only[RG.bW,UJ,Vw,Vx];simp only[Ug,TD,TK,TL];rw[i,n,j];have z:=Hid.mk' t;clear y t i n j K4;generalize V 0=s0;generalize V 1=h4;go_wp2_with fail
 refine(SP.uL r L l1 (some ⟨k+1,0,none⟩) 33 33 X.toList w5 K.2.1 (Ld z.lg) hl (vF K.2.2.2.1 z.r1)).mono ?_;rintro e w6 ⟨rfl,a,p⟩;rw[D.out]at p;have K6:Hid (CaI w w6 k r X Y F):=z.say C a (Lc p);clear a p z;go_wp2_with fail
 refine(RG.gwL [RG.pE (pZ k),RG.pE (pZ k),RG.pE (pZ r),RG.pE (.string l2),RG.pE (.slice (some ⟨k+2,0,none⟩) 33 33)] (λW=>CaI w W k r X Y F) (λW W' hb h=>h.grow s1 hb)).tail2 5 kR kR kR ⟨
  RG.gO 5 (pZ k),
  RG.pO 0 17 (pZ k) (pZ k) (λx W h=>h) (λ_=>rfl),
  RG.gB 60 1 18 k 0 (pZ r) uLp (λx W h=>h) (λW t=>t.r0.2.1 0 _ rfl) (λ_=>rfl),
  RG.gO 3 (.string l2),
  RG.gP 9 (.pointer (some ⟨k+2,0,none⟩)) (.slice (some ⟨k+2,0,none⟩) 33 33),yB5⟩ (K6.grow s1 ⟨rfl,rfl,rfl,TG _,λ_ _=>rfl⟩) ?_
 intro V w7 y t;have i:V 2=pZ r:=y 2 dC;have n:V 3=.string l2:=y 3 dC;have j:V 4=.slice (some ⟨k+2,0,none⟩) 33 33:=y 4 dC;dsimp only[RG.bW,UJ,Vw,Vx];simp only[Ug,TD,TK,TL];rw[i,n,j];have z:=Hid.mk' t;clear y t i n j K6;generalize V 0=h3;generalize V 1=s3;go_wp2_with fail
 refine(SP.uL r F l2 (some ⟨k+2,0,none⟩) 33 33 Y.toList w7 K.2.2.1 (Ld z.lg) s1 (vF K.2.2.2.2 z.r2)).mono ?_;rintro e w8 ⟨rfl,a,p⟩;rw[G.out]at p;have Z:Hid (CaI w w8 k r X Y s):=z.say C a (Lc p);clear a p z;have HS:=Hid.mk' (JI K.1 r s w8 Z.lg s2);have h0:(iK s).size=32:=SP.fR _ _;obtain⟨q,hq⟩:∃m,Hid (chS N s=m):=⟨_,rfl⟩
 obtain⟨L3,A⟩:∃m,Hid (iK s=m):=⟨_,rfl⟩
 rw[hq.out,A.out]at HS;rw[A.out]at h0;obtain⟨d,M,R⟩:=TJ.1 uLg;have HD:Hid (prog.underlying 64=some d/\d.isRow=true):=⟨M,R⟩
 clear M R;go_wp2_with (first|(refine UL rfl 64 (.tmp 5) rfl k 0 ?_ [pZ r] d ?_ ?_ ?_ ?_ ?_;rfl;exact Z.r0.2.1;exact HD.1;exact HD.2;exact iLg;skip)|fail)
 refine HS.mono ?_;rintro e w9 ⟨v,rfl,a,p,rfl⟩;have K9:Hid (CaI w w9 k r X Y L3):=Z.say C a p;clear a p Z HS;obtain⟨I,T⟩:∃I,Hid (w9.setCells (k+3) 0 (wn q)=I):=⟨_,rfl⟩
 have KA:Hid (Row I (k+3) (wn q)/\SP.Only r 0 32 w I/\Holds encB I r 0 L3):=by
  have S:=HZ.out;rw[<-T.out];exact⟨K9.r3.put rfl,cE K9.on hr (by have:=HK.out;omega) _,lE K9.lg oM⟩
 obtain⟨vm,S⟩:∃vm,Hid (nv q=vm):=⟨_,rfl⟩
 rw[S.out];go_wp2_with (refine Ui rfl 46 _ _ rfl (k+3) 0 (wn q).toArray ?_ ?_ ?_ ?_ ?_ ?_;rfl;exact S.symm;exact K9.r3.2.2;exact nSc;exact bT q;rw[show(wn q).toArray.toList=wn q from rfl,T.out])
 refine TM (aL 10 46 rfl KA.1 rfl rSc nSc) rfl ?_;exact⟨_,rfl,KA.2.1,by rw[A.out];exact KA.2.2,by rw[hq.out];rfl⟩
def vV(k:List UInt8)(X:Bs):Bs:=SP.kU (SP.kU (SP.newL [112,114,111,100,117,99,116]) [108,97,98,101,108] k) [112,111,105,110,116] X.toList
theorem yR(k:List UInt8)(X:Bs):(vV k X).size=32:=SP.fL _ _ _
structure PlI(w W:TA)(k k5 r:Nat)(X L:Bs):Prop where
 bl:Below w.heap.size w W
 r3:Row W k (aA X)
 r4:Row W (k+1) [.pointer none]
 r5:Row W k5 [pZ r]
 lg:Holds encB W r 0 L
structure PlN(w:TA)(k k5 r:Nat):Prop where
 lr:w.heap.size<=r
 n3:k≠r
 n4:k+1≠r
 n5:k5≠r
theorem PlI.grow{w W W':TA}{k c r:Nat}{X L:Bs}(h:PlI w W k c r X L)(d:L.size=32)(b:Below W.heap.size W W'):PlI w W' k c r X L:=
 ⟨h.bl.trans (b.mono h.bl.size),h.r3.below b,h.r4.below b,h.r5.below b,Holds.below h.lg b (Holds.lt h.lg oM)⟩
theorem PlI.say{w W W':TA}{k c r:Nat}{X L d:Bs}(h:PlI w W k c r X L)(n:PlN w k c r)(b:SP.Only r 0 32 W W')(e:Holds encB W' r 0 d):PlI w W' k c r X d:=
 ⟨h.bl.trans (b.below h.bl.size n.lr),h.r3.only b n.n3,h.r4.only b n.n4,h.r5.only b n.n5,e⟩
def RG.pP(x:List UInt8):RG.S1:=⟨λv W=>∃q l c,v=.slice q l c/\SP.PartOk W v x,λ_ _ _ b ⟨q,l,c,d,k⟩=>⟨q,l,c,d,k.below b⟩⟩
theorem OQ(b:ByteArray)(E:b.size<=1000000)(X:Bs)(hX:X.size=33)(w:TA):
 TW prog 18 #[.string b,pvl X] w (rZ w λe w'=>∃r,e=lgV r/\w.heap.size<=r/\r<w'.heap.size/\Holds encB w' r 0 (vV b.data.toList X)):=by
 have U:=λW=>GF ⟨#[112,114,111,100,117,99,116]⟩ W dC
 obtain⟨y,A⟩:∃L,L=SP.newL (⟨#[112,114,111,100,117,99,116]⟩:ByteArray).data.toList:=⟨_,rfl⟩
 have s0:y.size=32:=by rw[A];exact SP.sF _
 rw[<-A]at U;have HN:=Hid.mk' U;have K:=λ(r:Nat) (W:TA) (ta:Option V5) (tl tc:Nat) (hL:Holds SP.encB W r 0 y) (hT:SP.PartOk W (.slice ta tl tc) b.data.toList)=>SP.uL r y ⟨#[108,97,98,101,108]⟩ ta tl tc b.data.toList W dC hL s0 hT
 obtain⟨M,s⟩:∃L,L=SP.kU y (⟨#[108,97,98,101,108]⟩:ByteArray).data.toList b.data.toList:=⟨_,rfl⟩
 have s1:M.size=32:=by rw[s];exact SP.fL _ _ _
 rw[<-s]at K;have I:=λ(r:Nat) (W:TA) (ta:Option V5) (tl tc:Nat) (hL:Holds SP.encB W r 0 M) (hT:SP.PartOk W (.slice ta tl tc) X.toList)=>SP.uL r M ⟨#[112,111,105,110,116]⟩ ta tl tc X.toList W dC hL s1 hT
 obtain⟨L2,D⟩:∃L,L=SP.kU M (⟨#[112,111,105,110,116]⟩:ByteArray).data.toList X.toList:=⟨_,rfl⟩
 have s2:L2.size=32:=by rw[D];exact SP.fL _ _ _
 rw[<-D]at I;have e2:vV b.data.toList X=L2:=by
  have g:SP.newL [112,114,111,100,117,99,116]=y:=A.symm;have f:SP.kU y [108,97,98,101,108] b.data.toList=M:=s.symm;unfold vV;rw[g,f];exact D.symm
 rw[e2];have HS:=Hid.mk' (U8 K I);clear e2 A s D K I;obtain⟨k,hk⟩:∃k,Hid (w.heap.size=k):=⟨_,rfl⟩
 obtain⟨g,n⟩:∃g,Hid (w.alloc (.cells (aA X).toArray 55)=g):=⟨_,rfl⟩
 obtain⟨i,C⟩:∃i,Hid (g.alloc (.cells #[.pointer none] 64)=i):=⟨_,rfl⟩
 have z1:g.heap.size=k+1:=by rw[<-n.out,TQ,hk.out]
 have z2:i.heap.size=k+2:=by rw[<-C.out,TQ,z1]
 have Q:Hid (Below w.heap.size w i/\Row i k (aA X)/\Row i (k+1) [.pointer none]):=by
  have b1:Below w.heap.size w g:=by rw[<-n.out];exact aD _ _
  have f:Below g.heap.size g i:=by rw[<-C.out];exact aD _ _
  have j:Row g k (aA X):=by rw[<-n.out,<-hk.out];exact aE w _ _
  have m:Row i (k+1) [.pointer none]:=by rw[<-C.out,<-z1];exact aE g _ _
  exact⟨b1.trans (f.mono b1.size),j.below f,m⟩
 obtain⟨vX,h0⟩:∃v,Hid (pvl X=v):=⟨_,rfl⟩
 have B1:Hid ((U6 55 vX).run prog w=.ok (pZ k) g):=by rw[<-h0.out,<-n.out,<-hk.out];exact xJ hX w
 have HZ:Hid (g.heap.size=k+1/\i.heap.size=k+2/\w.heap.size=k):=⟨z1,z2,hk.out⟩
 have HC:Hid (b.size<=1000000/\X.size=33):=⟨E,hX⟩
 rw[h0.out];clear z1 z2 n hk E hX;go_enter func18,ntmps18;go_wp2_with (first|(refine aM (u:=vX) (v:=pZ k) (w':=g) rfl 55 (.tmp 1) rfl ?_ ?_ ?_;rfl;exact B1.out)|(refine eN (v:=.pointer (some ⟨k+1,0,none⟩)) (w':=i) rfl 64 4 rfl rfl ?_ ?_;(rw[<-C.out,<-HZ.1];kernel_rfl))|fail)
 refine(HN i).mono ?_;rintro e H ⟨v3,rfl,t,r,rfl,h5,Z,R⟩;clear HN;obtain⟨f,m⟩:∃k,Hid (H.heap.size=k):=⟨_,rfl⟩
 obtain⟨T,F⟩:∃T,Hid (H.alloc (.cells #[.pointer none] 64)=T):=⟨_,rfl⟩
 obtain⟨w5,o⟩:∃w5,Hid (T.setCells f 0 [pZ r]=w5):=⟨_,rfl⟩
 have F4:Hid (Row T f [.pointer none]/\Below H.heap.size H T):=by rw[<-F.out,<-m.out];exact⟨aE H _ _,aD _ _⟩
 have PN:Hid (PlN w k f r):=⟨by have:=HZ.out;omega,by have:=HZ.out;omega,by have:=HZ.out;omega,by rw[<-m.out];omega⟩
 have K5:Hid (PlI w w5 k f r X y):=by
  have j:Below H.heap.size H w5:=by rw[<-o.out];exact RG.below_setCells (by rw[m.out];exact TG _) _ _ _ F4.2
  have p:=Q.1.trans (t.mono Q.1.size);exact⟨p.trans (j.mono p.size),(Q.2.1.below t).below j,(Q.2.2.below t).below j,by rw[<-o.out];exact F4.1.put rfl,Holds.below R j Z⟩
 obtain⟨vl,p⟩:∃v,Hid (lgV r=v):=⟨_,rfl⟩
 rw[p.out];clear t R Q h5 Z
 go_upto_region 2 with(first|(refine alR 5 m F ?_)|(refine Ui rfl 64 (.tmp 5) _ rfl f 0 #[pZ r] ?_ ?_ ?_ ?_ ?_ ?_;rfl;exact p.symm;exact F4.1.2.2;exact iLg;kernel_rfl;rw[show(#[pZ r]:Array TC).toList=[pZ r] from rfl,o.out])|fail)
 clear F4 F o m;simp only[Ug,TD,TK,TL];refine(RG.gwL [RG.pE (pZ f),RG.pE (pZ f),RG.pE (pZ r),RG.pE (.string b),RG.pP b.data.toList] (λW=>PlI w W k f r X y) (λW W' hb h=>h.grow s0 hb)).plain 5 kR ⟨
  RG.gO 5 (pZ f),
  RG.pO 0 7 (pZ f) (pZ f) (λx W h=>h) (λ_=>rfl),
  RG.gB 60 1 8 f 0 (pZ r) uLp (λx W h=>h) (λW z=>z.r5.2.1 0 _ rfl) (λ_=>rfl),
  RG.gO 0 (.string b),
  RG.sO (λa W B=>by
   have V:=RG.pD B;have P:a.eval (.tmp 10)=.string b:=V.n 3 10 kR kR;obtain⟨c,S,j,Y,O,J,G,N⟩:=SP.lH b W (by have:=HC.1;omega);refine⟨_,S,?_,G,_,_,_,rfl,J⟩;unfold UD;dsimp only;rw[P,Ue,j];rfl),yB5⟩ K5.out ?_
 intro V w6 N z;have j:V 2=pZ r:=N 2 dC;obtain⟨q4,l4,c4,J,G⟩:∃q l c,V 4=.slice q l c/\SP.PartOk w6 (V 4) b.data.toList:=N 4 dC;rw[J]at G;dsimp only[RG.bW,UJ,Vw,Vx];simp only[Ug,TD,TK,TL];rw[j,J];have B:Hid (PlI w w6 k f r X y/\SP.PartOk w6 (.slice q4 l4 c4) b.data.toList):=⟨z,G⟩
 clear N z j J G K5;generalize V 0=h6;generalize V 1=ha;generalize V 3=h9;go_wp2_with fail
 refine(HS.1 r w6 q4 l4 c4 (Ld B.1.lg) B.2).mono ?_;rintro e w7 ⟨rfl,S,hH⟩;have K7:Hid (PlI w w7 k f r X M):=B.1.say PN.out S (Lc hH);clear S hH B;go_wp2_with fail
 refine(RG.gwL [RG.pE (pZ f),RG.pE (pZ f),RG.pE (pZ r),RG.pE (.slice (some (aZ k)) 33 33)] (λW=>PlI w W k f r X M) (λW W' hb h=>h.grow s1 hb)).tail2 4 kR kR kR ⟨
  RG.gO 5 (pZ f),
  RG.pO 0 13 (pZ f) (pZ f) (λx W h=>h) (λ_=>rfl),
  RG.gB 60 1 14 f 0 (pZ r) uLp (λx W h=>h) (λW z=>z.r5.2.1 0 _ rfl) (λ_=>rfl),
  RG.gP 3 (pZ k) (.slice (some (aZ k)) 33 33),yB5⟩ (K7.grow s1 ⟨rfl,rfl,rfl,TG _,λ_ _=>rfl⟩) ?_
 intro V w8 N z;have j:V 2=pZ r:=N 2 dC;have h3:V 3=.slice (some (aZ k)) 33 33:=N 3 dC;dsimp only[RG.bW,UJ,Vw,Vx];simp only[Ug,TD,TK,TL];rw[j,h3];have B:=Hid.mk' z;clear N z j h3 K7;generalize V 0=h8;generalize V 1=h7;go_wp2_with fail
 refine(HS.2 r w8 (some (aZ k)) 33 33 (Ld B.lg) (vF HC.2 B.r3)).mono ?_;rintro e w9 ⟨rfl,S,hH⟩;have P:Hid (PlI w w9 k f r X L2):=B.say PN.out S (Lc hH);clear S hH B;obtain⟨d,Y,h2⟩:=TJ.1 uLg;have HD:Hid (prog.underlying 64=some d/\d.isRow=true):=⟨Y,h2⟩
 clear Y h2;obtain⟨O,h4⟩:∃O,Hid (w9.setCells (k+1) 0 [pZ r]=O):=⟨_,rfl⟩
 have KA:Hid (Below w.heap.size w O/\Row O (k+1) [pZ r]/\r<O.heap.size/\Holds encB O r 0 L2):=by
  rw[<-h4.out];exact⟨RG.below_setCells (by have:=HZ.out;omega) _ _ _ P.bl,P.r4.put rfl,by rw[RG.setCells_size];exact Holds.lt P.lg oM,lE P.lg (by have:=PN.n4;omega)⟩
 have R9:=mk2 P.r5.2.1 P.r4.2.2;go_wp2_with (first|(refine UL rfl 64 (.tmp 5) rfl f 0 ?_ [pZ r] d ?_ ?_ ?_ ?_ ?_;rfl;exact R9.1;exact HD.1;exact HD.2;exact iLg;rw[show Um [pZ r].toArray=vl from p.out])|(refine Ui rfl 64 (.tmp 4) _ rfl (k+1) 0 #[pZ r] ?_ ?_ ?_ ?_ ?_ ?_;rfl;exact p.symm;exact R9.2;exact iLg;kernel_rfl;rw[show(#[pZ r]:Array TC).toList=[pZ r] from rfl,h4.out])|fail)
 refine TM (aL 4 64 rfl KA.2.1 rfl uLg iLg) rfl ?_;exact⟨_,rfl,KA.1,r,rfl,PN.lr,KA.2.2.1,KA.2.2.2⟩
theorem uQ:prog.underlying 24=some (.slice 23):=kR
theorem DC:(prog.info? 23).map (λi=>(i.size,i.bytes,i.zero.map λz=>z.cells.size))=some (1,24,some 1):=kR
theorem mF(g o j:Nat):(⟨g,o,none⟩:V5).add j=⟨g,o+j,none⟩:=by
 unfold XI;by_cases k:j=0
 ·subst k;rw[yB3 rfl];rfl
 ·rw[yB4 k]
structure VL(w:TA)(q:Option V5)(m:Nat)(ys:List TC):Prop where
 len:ys.length=m
 nil:q=none->m=0
 cells:ys=[]\/∃b o,q=some ⟨b,o,none⟩/\b<w.heap.size/\∀(j:Nat) u,ys[j]? = some u->w.cell? ⟨b,o+j,none⟩=some u
 one:∀u∈ys,u.oneCell'=true
theorem VL.below{w w':TA}{q:Option V5}{m:Nat}{ys:List TC}(h:VL w q m ys)(c:Below w.heap.size w w'):VL w' q m ys:=
 ⟨h.len,h.nil,by
  rcases h.cells with e|⟨b,o,g,k,f⟩
  ·exact Ub e
  ·exact T8 ⟨b,o,g,TF k c.size,λj u d=>by rw[c.cell (p:=⟨b,o+j,none⟩) k];exact f j u d⟩,h.one⟩
structure GLs(w W:TA)(v:TC)(xs:List TC):Prop where
 bl:Below w.heap.size w W
 ow:W.ownsRow w.heap.size 23 1 v xs.length xs
 nn:v.ownBlock≠none
theorem GLs.lt{w W:TA}{v:TC}{xs:List TC}(h:GLs w W v xs):∃g cap,v=.slice (some (aZ g)) xs.length cap/\w.heap.size<=g/\g<W.heap.size:=by
 rcases id h.ow with⟨-,⟨rfl,d⟩|⟨g,cap,cur,rfl,c,k,-⟩⟩
 ·exact absurd rfl h.nn
 ·refine⟨g,cap,rfl,c,?_⟩;by_cases b:g<W.heap.size
  ·exact b
  ·rw[XD oM]at k;cases k
theorem GLs.below{w W W':TA}{v:TC}{xs:List TC}(h:GLs w W v xs)(d:Below W.heap.size W W'):GLs w W' v xs:=by
 refine⟨h.bl.trans (d.mono h.bl.size),?_,h.nn⟩;rcases h.ow with⟨c,b|⟨g,cap,cur,b,f,k,e⟩⟩
 ·exact⟨c,Ub b⟩
 ·refine⟨c,T8 ⟨g,cap,cur,b,f,?_,e⟩⟩;rw[d.block g (by
   by_cases i:g<W.heap.size
   ·exact i
   ·rw[XD oM]at k;cases k)]
  exact k
theorem GLs.app2{w W:TA}{v:TC}{xs ys:List TC}{q:Option V5}{m c:Nat}(h:GLs w W v xs)(f:VL W q m ys)(K:xs.length+m<=1000000):
 ∃p W',(Ur #[24,24] 24 #[v,.slice q m c]).run prog W=.ok p W'/\GLs w W' p (xs++ys)/\W.heap.size<=W'.heap.size:=by
 obtain⟨i,t,x⟩:=TJ.1 DC;simp only[Vz.injEq]at x;obtain⟨J,D,H⟩:=x;obtain⟨z,G,s⟩:=TJ.1 H;obtain⟨g,cap,rfl,B,A⟩:=h.lt;cases q with
 | none =>
  have C:=f.nil rfl;subst C;obtain rfl:ys=[]:=List.length_eq_zero_iff.1 f.len;rcases id h.ow with⟨-,⟨d,-⟩|⟨E,n,cur,d,F,I,y,L⟩⟩
  ·cases d
  ·injection d with d _ h0'
   injection d with d
   injection d with d
   subst d h0';have r:=run_append_room_src (P:=prog) W 24 24 24 23 i uQ t g 0 xs.length cap (.slice none 0 c) 0 [] (Src.ofNil (e':=23) _ uQ c) y (λj e=>by cases e) (λj e=>by cases e);refine⟨_,_,r,?_,TG _⟩;rw[List.append_nil];exact h
 | some a =>
  obtain⟨p,W',I,r,d,C⟩:=run_append_own (P:=prog) W w.heap.size 24 24 23 i z 1 24 uQ t G J D s dC _ xs.length xs h.ow a m c ys (by rw[f.len];omega)
   (λj u e=>by
    rcases f.cells with rfl|⟨b,o,F,-,y⟩
    ·cases e
    ·obtain rfl:=Uc.inj F;rw[mF];exact y j u e) f.one (by unfold maxLen;omega) oM h.bl.size
  refine⟨p,W',I,⟨⟨by rw[d.os,h.bl.os],by rw[d.tape,h.bl.tape],by rw[d.output,h.bl.output],TU h.bl.size d.size,λk e=>?_⟩,?_,?_⟩,d.size⟩
  ·rw[d.block k (TF e h.bl.size) (by simp[VO];omega)];exact h.bl.block k e
  ·rw[TT,f.len];exact r
  ·rcases r.2 with⟨y,-⟩|⟨E,n,cur,rfl,-⟩
   ·have:=(C.1 y).1;exact absurd this (by simp)
   ·simp[VO]
theorem GLs.app{w W:TA}{v:TC}{xs ys:List TC}{q:Option V5}{m c:Nat}(h:GLs w W v xs)(f:VL W q m ys)(b:xs.length+m<=1000000):
 ∃k W',(Ur #[24,24] 24 #[v,.slice q m c]).run prog W=.ok k W'/\GLs w W' k (xs++ys):=by
 obtain⟨k,W',e,d,-⟩:=h.app2 (c:=c) f b;exact⟨k,W',e,d⟩
end
section
open Go.RowKit Go.Sort Go.Deep
theorem Hid.mkP{p:Prop}(h:p):Hid p:=h
section
variable {P:Vd}{ops:Array UI}{rest:List UI}{op:UI}{a:Act}{w w':TA}{v:TC}{Q:YJ->Act->TA->Prop}
theorem gQ(k:op.guard=none)(X:Op)(_:op.op=X)(b:(UD a.eval op).run P w=.ok (.value v) w')(h:wpList P ops Q rest (a.put op.dst v) w'):wpList P ops Q (op :: rest) a w:=
 Xw k λK c=>by
  unfold Vp;rw[b];exact c _ _ h
end
theorem bU(w:TA)(o:Obj):Below w.heap.size w (w.alloc o):=(TX _ _).alloc (TG _) _
theorem iC(w:TA)(cs:Array TC)(T:Uw)(j:Nat)(v:TC)(h:cs[j]? = some v):(w.alloc (.cells cs T)).cell? ⟨w.heap.size,j,none⟩=some v:=by
 unfold World.alloc WN;simp[h]
theorem Mr(w:TA):GLs w (w.alloc (.cells #[] 23)) (.slice (some ⟨w.heap.size,0,none⟩) 0 0) []:=
 ⟨bU w _,⟨rfl,.inr ⟨w.heap.size,0,#[],rfl,TG _,Array.getElem?_push_size,TG _,VH _,rfl,rfl⟩⟩,by simp[VO]⟩
theorem Hk(w:TA)(ys:List TC)(T:Uw)(b:∀u∈ys,u.oneCell'=true):VL (w.alloc (.cells ys.toArray T)) (some ⟨w.heap.size,0,none⟩) ys.length ys:=
 ⟨rfl,λh=>by(cases h),T8 ⟨w.heap.size,0,rfl,by rw[TQ];omega,λj u k=>by rw[TO];exact iC w _ T j u (by simpa using k)⟩,b⟩
theorem Ak{H F l t:Option V5}{E I B J s r o u:Nat}{k f:List TC}(w:TA)(K:VL w H E k)(N:VL w F B f)(h1:E<=1000)(h2:B<=1000):
 TW prog 9 #[.agg #[.slice H E I,.slice F B J,.slice l s r,.slice t o u]] w λe w'=>∃v,e=.returned v/\GLs w w' v (k++f++[.slice l s r,.slice t o u]):=by
 obtain⟨n,x⟩:=hE (w.alloc (.cells #[.slice H E I,.slice F B J,.slice l s r,.slice t o u] 26));obtain⟨G,a⟩:=hE (n.alloc (.cells #[] 23));have X:n.heap.size=w.heap.size+1:=by rw[<-x.out,TQ]
 have b1:Below w.heap.size w n:=by rw[<-x.out];exact bU _ _
 have L:GLs n G (.slice (some ⟨n.heap.size,0,none⟩) 0 0) []:=by rw[<-a.out];exact Mr n
 have l1:=K.len;have l2:=N.len;obtain⟨v3,Q,i,A⟩:=L.app (c:=I) ((K.below b1).below (by rw[<-a.out];exact bU _ _)) (by rw[List.length_nil];omega);rw[List.nil_append]at A;obtain⟨v4,y,d,D⟩:=A.app (c:=J) ((N.below b1).below A.bl) oM;obtain⟨M,z⟩:=hE (y.alloc (.cells #[.slice l s r,.slice t o u] 23));have P:Below y.heap.size y M:=by rw[<-z.out];exact bU _ _
 obtain⟨v6,V,b,C⟩:=(D.below P).app (c:=2) (q:=some ⟨y.heap.size,0,none⟩) (m:=2) (ys:=[.slice l s r,.slice t o u]) (by
  rw[<-z.out];exact Hk y [.slice l s r,.slice t o u] 23 (by simp[Value.oneCell'])) (by rw[TT];omega)
 have cell:∀(W:TA) (j:Nat) v,Below n.heap.size n W->(#[.slice H E I,.slice F B J,.slice l s r,.slice t o u]:Array TC)[j]? = some v->W.cell? ⟨w.heap.size,j,none⟩=some v:=λW j v T hj=>by
  rw[T.cell (p:=⟨w.heap.size,j,none⟩) (by show w.heap.size<_;omega),<-x.out];exact iC w _ _ j v hj
 have k0:=cell G 0 _ L.bl rfl;have k1:=cell Q 1 _ A.bl rfl;have k2:=cell y 2 _ D.bl rfl;have k3:=cell y 3 _ D.bl rfl;obtain⟨a3,p3,rfl,-⟩:=A.lt;obtain⟨a4,p4,rfl,-⟩:=D.lt;obtain⟨U,Y,rfl,-⟩:=C.lt;have R:Hid (GLs w V (.slice (some (aZ U)) (k++f++[V1 l s r,V1 t o u]).length Y) (k++f++[.slice l s r,.slice t o u])):=by
  refine⟨b1.trans (C.bl.mono b1.size),?_,C.nn⟩;rcases C.ow with⟨S,O|⟨g,cap,cur,O,x2,Z⟩⟩
  ·exact⟨S,Ub O⟩
  ·exact⟨S,T8 ⟨g,cap,cur,O,oM,Z⟩⟩
 generalize S:(k++f++[V1 l s r,V1 t o u]).length=N6 at b R;generalize h3:(k++f).length=N4 at d b;generalize h0:k.length=N3 at i d;have H1:=Hid.mkP i;have O:=Hid.mkP d;have Z:=Hid.mkP b;clear i d b cell L A D C b1 P K N X;go_enter func9,ntmps9;go_wp2_with (first|(refine gQ (v:=.pointer (some ⟨w.heap.size,0,none⟩)) (w':=n) rfl (.box 26 (.tmp 0)) rfl ?_ ?_;(rw[<-x.out];kernel_rfl))|(refine gQ (v:=.slice (some ⟨n.heap.size,0,none⟩) 0 0) (w':=G) rfl (.buildSlice 24 0 #[]) rfl ?_ ?_;(rw[<-a.out];kernel_rfl))|(refine gQ (v:=.slice (some ⟨y.heap.size,0,none⟩) 2 2) (w':=M) rfl (.buildSlice 24 2 #[(0,.tmp 14),(1,.tmp 16)]) rfl ?_ ?_;(rw[<-z.out];kernel_rfl))|(at_builtin;refine Vi G rfl _ _ _ _ rfl _ _ rfl rfl _ _ H1.out ?_)|(at_builtin;refine Vi Q rfl _ _ _ _ rfl _ _ rfl rfl _ _ O.out ?_)|(at_builtin;refine Vi M rfl _ _ _ _ rfl _ _ rfl rfl _ _ Z.out ?_)|fail)
 go_ret;exact⟨_,rfl,R.out⟩
end
section
open Go.RowKit Go.Sort Go.Deep
variable {P:Nat}[NeZero P]{N:Nat}
structure Sv where
 q:Option V5
 n:Nat
 c:Nat
def Sv.v(s:Sv):TC:=.slice s.q s.n s.c
theorem uIn:(prog.underlying 26).map (·.isRow)=some true:=kR
theorem iIn:(prog.info? 26).map (·.size)=some 4:=kR
theorem GLs.cell{w W:TA}{g n c:Nat}{xs:List TC}(h:GLs w W (.slice (some (aZ g)) n c) xs)(j:Nat)(u:TC)(k:xs[j]? = some u):W.cell? ⟨g,j,none⟩=some u:=by
 have:=h.ow.cells (g:=g) rfl j u k;rw[mF,TO]at this;exact this
theorem Rh(g n c i:Nat)(k:i<n)(w:TA):(UP 24 (.slice (some (aZ g)) n c) (iZ i)).run prog w=.ok (.pointer (some ⟨g,i,none⟩)) w:=by
 go_simp
def Pt(W:TA)(u:TC)(b:SP.Bs):Prop:=∃q c,u=.slice q (ZQ b) c/\(b.size=0\/∃g o,q=some ⟨g,o,none⟩/\g<W.heap.size/\Holds SP.encB W g o b)
theorem Pt.below{W W':TA}{u:TC}{b:SP.Bs}(h:Pt W u b)(d:Below W.heap.size W W'):Pt W' u b:=by
 obtain⟨q,c,e,f|⟨g,o,i,k,j⟩⟩:=h
 ·exact⟨q,c,e,Ub f⟩
 ·exact⟨q,c,e,T8 ⟨g,o,i,TF k d.size,SP.Holds.below j d k⟩⟩
theorem Pt.conv{W:TA}{u:TC}{b:SP.Bs}(h:Pt W u b):(convert 23 9 u).run prog W=.ok (.string ⟨b⟩) W:=by
 obtain⟨q,c,rfl,k|⟨g,o,rfl,f,e⟩⟩:=h
 ·obtain rfl:b=#[]:=Array.eq_empty_of_size_eq_zero k;cases q with
  | none=>exact run_convert_bytes_nil (P:=prog) (w:=W) 23 5 SP.slice22 SP.int5 0 c 9 SP.str9
  | some a=>exact run_convert_bytes_back (P:=prog) W 23 9 5 a c [] SP.slice22 SP.int5 SP.str9 (λj d=>by cases d)
 ·exact SP.conv_str prog 23 9 5 SP.slice22 SP.int5 SP.str9 W g o _ c b e rfl
def inV(l r x y:Sv):List TC:=[l.v,r.v,x.v,y.v]
theorem tU(w:TA)(cs:List TC)(T:Uw):(w.alloc (.cells cs.toArray T)).rangeAt w.heap.size 0 cs:=λj u k=>by rw[TO];exact iC w _ _ j u (by simpa using k)
theorem range_below{w w':TA}{b o:Nat}{cs:List TC}(h:w.rangeAt b o cs)(d:Below w.heap.size w w')(k:b<w.heap.size):w'.rangeAt b o cs:=λj u c=>by rw[d.cell (p:=⟨b,o+j,none⟩) k];exact h j u c
theorem Be(l r x y G I J K:Sv){z s p t:List TC}(w:TA)(hL:VL w l.q l.n z)(hR:VL w r.q r.n s)(D:VL w G.q G.n p)(F:VL w I.q I.n t)(h1:l.n<=1000)(h2:r.n<=1000)(hl:G.n=l.n)(hr:I.n=r.n)
 (hE:∀(j:Nat),j<l.n+r.n+2->∃u v b,(z++s++[x.v,y.v])[j]? = some u/\(p++t++[J.v,K.v])[j]? = some v/\Pt w u b/\Pt w v b) :
 TW prog 7 #[.agg (inV l r x y).toArray,.agg (inV G I J K).toArray] w λe' w'=>e'=.returned (.bool true)/\Below w.heap.size w w':=by
 obtain⟨cs,o⟩:∃cs:List TC,Hid (inV l r x y=cs):=⟨_,rfl⟩
 obtain⟨A,m⟩:∃A:List TC,Hid (inV G I J K=A):=⟨_,rfl⟩
 obtain⟨c,B⟩:∃c,Hid (w.alloc (.cells cs.toArray 26)=c):=⟨_,rfl⟩
 obtain⟨k,C⟩:∃k,Hid (c.alloc (.cells A.toArray 26)=k):=⟨_,rfl⟩
 have e1:c.heap.size=w.heap.size+1:=by rw[<-B.out,TQ]
 have e2:k.heap.size=c.heap.size+1:=by rw[<-C.out,TQ]
 have b1:Below w.heap.size w c:=by rw[<-B.out];exact bU _ _
 have b2:Below c.heap.size c k:=by rw[<-C.out];exact bU _ _
 have f:Below w.heap.size w k:=b1.trans (b2.mono b1.size);have V:k.rangeAt w.heap.size 0 cs:=range_below (w:=c) (by rw[<-B.out];exact tU w cs _) b2 oM;have Y:k.rangeAt c.heap.size 0 A:=by rw[<-C.out];exact tU c A _
 have c0:=V 0 l.v (by rw[<-o.out];rfl);have c1:=V 1 r.v (by rw[<-o.out];rfl);have d0:=Y 0 G.v (by rw[<-m.out];rfl);have d1:=Y 1 I.v (by rw[<-m.out];rfl);rw[TO]at c0 c1 d0 d1;have len1:Hid (cs.length=4):=by rw[<-o.out];rfl
 have len2:Hid (A.length=4):=by rw[<-m.out];rfl
 have hA:Hid (TW prog 9 #[.agg cs.toArray] k λe w'=>∃v,e=.returned v/\GLs k w' v (z++s++[x.v,y.v])):=by
  rw[<-o.out];exact Ak k (hL.below f) (hR.below f) h1 h2
 have hB:Hid (∀d,Below k.heap.size k d->TW prog 9 #[.agg A.toArray] d λe w'=>∃v,e=.returned v/\GLs d w' v (p++t++[J.v,K.v])):=λd U=>by
  rw[<-m.out];exact Ak d ((D.below f).below U) ((F.below f).below U) oM oM
 have E:Hid ((z++s++[x.v,y.v]).length=l.n+r.n+2):=by
  show _=_;rw[TT,TT,hL.len,hR.len];rfl
 have a:Hid ((p++t++[J.v,K.v]).length=l.n+r.n+2):=by
  show _=_;rw[TT,TT,D.len,F.len,hl,hr];rfl
 have HE:=Hid.mkP hE;generalize z++s++[x.v,y.v]=XS at hA E HE;generalize p++t++[J.v,K.v]=ZS at hB a HE;have HB:=Hid.mkP f;have P:Hid (∀d,Below k.heap.size k d->d.rangeAt c.heap.size 0 A):=λd U=>range_below Y U oM
 have h0:=Hid.mkP V;rw[o.out,m.out];obtain⟨ql,nl,cl⟩:=l;obtain⟨qr,nr,cr⟩:=r;obtain⟨h5,h3,h6⟩:=G;obtain⟨h7,h4,h9⟩:=I
 dsimp only[Sv.v]at *;subst hl hr;obtain⟨dI,R,Q⟩:=TJ.1 uIn;obtain⟨M,hM⟩:∃M,Hid (h3+h4+2=M):=⟨_,rfl⟩
 rw[hM.out]at E a HE;have h8:M<=2002:=by have:=hM.out;omega
 clear e1 e2 b1 b2 f V Y hL hR D F hE;go_enter func7,ntmps7;go_wp2_with (first|(refine gQ (v:=.pointer (some ⟨w.heap.size,0,none⟩)) (w':=c) rfl (.box 26 (.tmp 0)) rfl ?_ ?_;(rw[<-B.out,<-o.out];kernel_rfl))|(refine gQ (v:=.pointer (some ⟨c.heap.size,0,none⟩)) (w':=k) rfl (.box 26 (.tmp 1)) rfl ?_ ?_;(rw[<-C.out,<-m.out];kernel_rfl))|(refine UL rfl 26 _ rfl w.heap.size 0 ?_ cs dI ?_ ?_ ?_ ?_ ?_;rfl;exact h0.out;exact R;exact Q;(rw[len1.out];exact iIn);skip)|fail)
 refine hA.mono ?_;rintro e' d ⟨v3,rfl,S⟩;have T:=Hid.mkP (P d S.bl);have O:=Hid.mkP (hB d S.bl);obtain⟨Z,X,rfl,-⟩:=S.lt;have K3:=Hid.mkP S;clear S hA hB P c0 c1 d0 d1;rw[E.out]at K3⊢;go_wp2_with (first|(refine UL rfl 26 _ rfl c.heap.size 0 ?_ A dI ?_ ?_ ?_ ?_ ?_;rfl;exact T.out;exact R;exact Q;(rw[len2.out];exact iIn);skip)|fail)
 refine O.mono ?_;rintro e' w4 ⟨v4,rfl,N⟩;obtain⟨W,p4,rfl,-⟩:=N.lt;have g:Hid (GLs k w4 (.slice (some ⟨Z,0,none⟩) M X) XS/\GLs d w4 (.slice (some ⟨W,0,none⟩) M p4) ZS/\Below w.heap.size w w4):=by
  rw[a.out]at N;have n:=K3.below N.bl;exact⟨n,N,HB.trans (n.bl.mono HB.size)⟩
 clear N O K3 T;rw[a.out];go_wp2;go_loopg [7] M (λgk s7 wr=>∃i:Nat,i+gk=M/\s7=.int .i64 i/\Hid (GLs k wr (.slice (some ⟨Z,0,none⟩) M X) XS/\GLs d wr (.slice (some ⟨W,0,none⟩) M p4) ZS/\Below w.heap.size w wr))
 case atStart=>exact⟨0,oM,rfl,g⟩
 case round =>
  clear g;obtain⟨i,hi,rfl,g⟩:=hrel;by_cases H:i<M
  ·have L:(i:Int)<(M:Int):=oM;obtain⟨u,v,b,hu,hv,pu,pv⟩:=HE.out i H;have n:∀q,Below wr.heap.size wr (wr.drewN q):=λq=>⟨rfl,rfl,rfl,TG _,λ_ _=>rfl⟩
   have k1:=λq=>((pu.below g.2.2).below (n q)).conv
   have k2:=λq=>((pv.below g.2.2).below (n q)).conv
   have x1:=g.1.cell i u hu;have x2:=g.2.1.cell i v hv;have K5:Hid (∀q,GLs k (wr.drewN q) (.slice (some ⟨Z,0,none⟩) M X) XS/\GLs d (wr.drewN q) (.slice (some ⟨W,0,none⟩) M p4) ZS/\Below w.heap.size w (wr.drewN q)):=λq=>⟨g.1.below (n q),g.2.1.below (n q),g.2.2.trans ((n q).mono g.2.2.size)⟩
   obtain⟨qu,cu,rfl,-⟩:=pu;obtain⟨qv,cv,rfl,-⟩:=pv;generalize ZQ b=nb at k1 k2 x1 x2;have j1:=Rh Z M X i H;have j2:=Rh W M p4 i H;clear hu hv n g;go_wp2;go_quiet (fail);go_wp2;go_roundg (gk-1)
   case measure=>omega
   case rel=>exact⟨i+1,oM,rfl,K5.out _⟩
  ·have L:¬(i:Int)<(M:Int):=oM;go_wp2;go_ret;exact⟨rfl,g.2.2⟩
theorem BM(n c:Nat)(h:c<n):YC n c<=2*n+768:=by
 unfold YC;split
 ·omega
 ·split
  ·omega
  ·simp only[Builtin.growBy];repeat' split
   all_goals omega
theorem I8:(prog.info? 5).map (λi=>(i.size,i.bytes,i.zero.map λz=>z.cells.size))=some (1,1,some 1):=kR
def bC(b:SP.Bs):List TC:=b.toList.map SP.encB
theorem JX(b:SP.Bs):(bC b).length=b.size:=by unfold bC;simp
theorem P6(a b:SP.Bs):bC (a++b)=bC a++bC b:=by unfold bC;simp
end
end Go.Proofs.YtjnchldodncnbaaGreat
