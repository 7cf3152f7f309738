import Derived.Great.BuildSlice
import Derived.Test.YtdoammpgchejcaaGreatrp4
set_option linter.unusedVariables false
set_option linter.defProp false
set_option linter.constructorNameAsVariable false
set_option linter.unusedSimpArgs false
set_option maxRecDepth 1000000
set_option maxHeartbeats 4000000
namespace Go.Proofs.YtdoammpgchejcaaGreat
open _root_ renaming Array->yt,Bool->zk,ByteArray->R,Fin->B,Int->Y,List->H,Nat->I,Option->zb,UInt8->yv,rfl->Z
open Go.Proofs.YtdoammpgchejcaaGreat renaming Fld->At,Four->zh,Gives->yy,Row->yz,i40->zy,oM->S,uZ->U,yFU->zd,yFV->zi,yFW->yw
open Go.RowKit renaming Hid->E
open Go.Sort renaming Holds->yx
open _root_.Bool renaming false->D,true->J
open _root_.Option renaming none->G,some->F
open EC NT RG SP
open _root_.Array renaming all_eq_true'->oT,getD_eq_getD_getElem?->YG,getElem?_eq_getElem->Y0,getElem?_eq_some_iff->YX,getElem?_toList->Zz,length_toList->YM,size_append->Zi,toArray_toList->yCf
open _root_.ByteArray renaming data_append->xu,size_append->yDg
open _root_.Classical renaming byContradiction->Z1
open _root_.Fin renaming ext->pw,ext_iff->yEP,ofNat->aj,val_add->yFH,val_mul->qy
open _root_.Go renaming Addr->ai,Calls->Zl,Oper->Y9,Operand->am,Program->Zw,TypeId->YW,Value->Yq,World->Yp,bodyPost_ret->YB,execOp->Za,run_append_own->xj,run_loadVar_mid->oX,run_underlying->uh,wpList_load_mid->Zu,wpList_plain->gH,wpList_store_mid->ZJ,wp_block->ZR,wp_cond_false->YY,wp_cond_true->Y5,wp_loop_ghost->yh,wp_ret->Zr,wp_seq->Yt,wp_skip->ZK
open _root_.Go.Act renaming put->Zo
open _root_.Go.Addr renaming add->oB
open _root_.Go.Builtin renaming append_->Zn,clear_->yEm,zeroCells->Z7
open _root_.Go.Exit renaming inBlock->ri
open _root_.Go.Instr renaming box->ZM,build->yCw,buildSlice->Z0,findAsking->yEw,findKey->yE8,indexAt->ZW,lookup->yDU,makeSlice->pq,mapUpdate->yCN,sliceAt->gS
open _root_.Go.IntKind renaming i64->YQ,u64->Zk,wrap_i64->Zy
open _root_.Go.IntWalk renaming i64_in->ZG
open _root_.Go.Lib renaming run_append_nil_zeros->yDT,wpList_append_run->Z9
open _root_.Go.Next renaming value->fI
open _root_.Go.Oper renaming semAt_some->yDG,wp->ZY
open _root_.Go.Result renaming andThen_ok->Zp
open _root_.Go.RowKit.Below renaming heap_alloc->yEv,refl->YH
open _root_.Go.RowKit.Hid renaming out->ru
open _root_.Go.Sem renaming run->yFv,run_bind->YU,run_pure->gM
open _root_.Go.Value renaming agg->Y8,int->ZO
open _root_.Go.World renaming alloc->Z4,cell?->pn,cell?_of_block->Y1,frozen?->ut,frozen?_of_block->ZZ,ownsRow_made->yEf,ownsRow_nil->yDa,putObj->yDR,rangeAt_setCells_apart->Zv,rangeAt_setCells_same->sg,size_alloc->YE,there->yFj,there_setCells->tS
open _root_.Int renaming natCast_add->yE5,natCast_mul->py,toNat_natCast->yCJ
open _root_.List renaming getElem?_cons_zero->YS,getElem?_cons_succ->YP,foldl_nil->yE4,foldl_cons->yDE,map_nil->xo,nil_append->ZQ,append_nil->po,cons_append->ZI,drop->qg,ext_getElem?->vj,filter_sublist->yEd,finRange->yFa,flatMap_append->yo,flatMap_cons->yDe,getElem?_append_left->Zc,getElem?_append_right->Zx,getElem?_eq_getElem->YC,getElem?_eq_none->qz,getElem?_eq_some_iff->YF,getElem?_map->ZE,getElem?_of_mem->rm,getElem?_range->uy,getElem?_take->qk,getElem?_toArray->YV,getElem_cons_succ->yDZ,getElem_mem->ZC,length_append->Yx,length_cons->Y2,length_filter_le->yD6,length_map->YO,length_range->xk,length_take->sj,map_append->pe,map_cons->pg,mem_append->ZN,mem_cons->Zb,mem_cons_of_mem->Zd,mem_cons_self->Zm,mem_filter->yCO,mem_finRange->yEs,mem_flatMap->yDo,mem_map->YT,mem_of_mem_take->yCY,mem_range->Z6,mem_singleton->ZX,mem_toArray->yp,nodup_cons->rx,nodup_finRange->yCX,not_mem_nil->YI,pairwise_map->yEr,prefix_rfl->yEQ,range->ZD,range_succ->xm,setIfInBounds_toArray->Yw,set_cons_succ->Yy,set_cons_zero->Yz,size_toArray->Zq,take->gD,take_add_one->yEq,take_length->yDn
open _root_.List.Pairwise renaming imp->yDF
open _root_.Nat renaming add_mod->rh,div_add_mod->yDz,le_add_right->xt,le_of_ble_eq_true->Zh,le_refl->Ys,le_trans->YA,lt_of_lt_of_le->Yr,lt_of_succ_le->rn,lt_or_ge->iB,lt_succ_self->um,mod_eq_of_lt->YL,mod_lt->ZL,mul_comm->Ze,mul_le_mul->lp,mul_le_mul_right->te,mul_mod->mi,mul_succ->ty,mul_zero->qo,pos_of_neZero->xe,pow_succ->Z5,reduceAdd->Zs,sub_self->oF,sub_zero->qp,zero_add->Yv,zero_le->aw
open _root_.Option renaming isSome_iff_exists->ZT,map_eq_some_iff->Yu,some->YR
open _root_.Or renaming inl->Y3,inr->YZ
open _root_.Prod renaming mk->ZV
open _root_.Subtype renaming ext->yq
open _root_.UInt8 renaming ofNat->YK
open Go.Proofs.Tryz
open Go.RowKit Go.Sort Go.Deep
variable {P:Nat}[NeZero P]{N:Nat}
variable {C0 vs xs ys:List Yq}{K base c cap d g i j m n o r s:Nat}{T:Nat->LB}{W W' w w':Yp}{b:List UInt8}{e:YW}{l:LB}{p:Option ai}{rs:List (Nat × List Yq)}{tmps:Array Yq}{u:Yq}{z:Nat × Nat}
def xG{k p b p0 p1 p2 e f c1 c2 l:I}(h:Kept w k [⟨k,0,p0,p1,p2,e⟩,⟨k,4,f,c1,c2,m⟩,⟨b,0,o,g,l,c⟩,⟨b,4,j,i,d,n⟩,⟨p,0,0,0,0,0⟩] W):W.cell? ⟨k,0,G⟩=F (U p0)/\W.cell? ⟨k,1,G⟩=F (U p1)/\W.cell? ⟨k,2,G⟩=F (U p2)/\W.cell? ⟨k,3,G⟩=F (U e)/\W.cell? ⟨k,4,G⟩=F (U f)/\W.cell? ⟨k,5,G⟩=F (U c1)/\W.cell? ⟨k,6,G⟩=F (U c2)/\W.cell? ⟨k,7,G⟩=F (U m)/\W.cell? ⟨b,0,G⟩=F (U o)/\W.cell? ⟨b,1,G⟩=F (U g)/\W.cell? ⟨b,2,G⟩=F (U l)/\W.cell? ⟨b,3,G⟩=F (U c)/\W.cell? ⟨b,4,G⟩=F (U j)/\W.cell? ⟨b,5,G⟩=F (U i)/\W.cell? ⟨b,6,G⟩=F (U d)/\W.cell? ⟨b,7,G⟩=F (U n)/\Kept w k [⟨k,0,p0,p1,p2,e⟩,⟨k,4,f,c1,c2,m⟩,⟨b,0,o,g,l,c⟩,⟨b,4,j,i,d,n⟩,⟨p,0,0,0,0,0⟩] W:=
 ⟨h.head.c0,h.head.c1,h.head.c2,h.head.c3,h.tail.head.c0,h.tail.head.c1,h.tail.head.c2,h.tail.head.c3,h.tail.tail.head.c0,h.tail.tail.head.c1,h.tail.tail.head.c2,h.tail.tail.head.c3,h.tail.tail.tail.head.c0,h.tail.tail.tail.head.c1,h.tail.tail.tail.head.c2,h.tail.tail.tail.head.c3,h⟩
def J4{v:Yq}{B:I}(k:zh v n)(e:B<256):n*val 256 0 0 0+(val B 0 0 0+top*val 0 0 0 0)<top*top:=by
 have h1:=k.lt;have c:val 256 0 0 0=256:=rfl;have b:val B 0 0 0=B:=by unfold val;omega
 have e3:val 0 0 0 0=0:=rfl;have d:(top-1)*256+256<=top*top:=by unfold top;decide
 rw[c,b,e3];omega
def MY{k:I}{s:R}(b:k<s.size):
 (beV (s.data.extract 0 k).toList%P*val 256 0 0 0+(val s[k].toNat 0 0 0+top*val 0 0 0 0))%P=beV (s.data.extract 0 (k+1)).toList%P:=by
 have e:(s.data.extract 0 (k+1)).toList=(s.data.extract 0 k).toList++[s[k]]:=by
  rw[yt.extract_succ_right S b,yt.toList_push];rfl
 have d:val 256 0 0 0=256:=rfl;have c:val s[k].toNat 0 0 0=s[k].toNat:=by unfold val;omega
 have e3:val 0 0 0 0=0:=rfl;rw[e,fK,d,c,e3,qo,I.add_zero,rh,mi,I.mod_mod,<-mi,<-rh];simp[beV]
theorem Mz(p0 p1 p2 i j c1 c2 l P:I)(s:R)(hR:RefP p0 p1 p2 i j c1 c2 l P)(hs:s.size<=1048576)(w:Yp):
 Zl prog 88 #[.agg #[.int .u64 p0,.int .u64 p1,.int .u64 p2,.int .u64 i,.int .u64 j,.int .u64 c1,.int .u64 c2,.int .u64 l],.string s] w (Ret λe w'=>Below w.heap.size w w'/\zh e (beV s.data.toList%P)):=by
 have p:E (RefP p0 p1 p2 i j c1 c2 l P):=hR;clear hR;go_enter func88,ntmps88;go_wp2;have FR:=((At8.made w 58 p0 p1 p2 i j c1 c2 l Z).alloc (.cells #[.int .u64 0,.int .u64 0,.int .u64 0,.int .u64 0] 54)).alloc (.cells #[.int .u64 0,.int .u64 0,.int .u64 0,.int .u64 0] 54);have RE:=(At4.made (w.alloc (.cells #[.int .u64 p0,.int .u64 p1,.int .u64 p2,.int .u64 i,.int .u64 j,.int .u64 c1,.int .u64 c2,.int .u64 l] 58)) 54 0 0 0 0 (YE _ _)).alloc (.cells #[.int .u64 0,.int .u64 0,.int .u64 0,.int .u64 0] 54);have NN:=At4.made ((w.alloc (.cells #[.int .u64 p0,.int .u64 p1,.int .u64 p2,.int .u64 i,.int .u64 j,.int .u64 c1,.int .u64 c2,.int .u64 l] 58)).alloc (.cells #[.int .u64 0,.int .u64 0,.int .u64 0,.int .u64 0] 54)) 54 0 0 0 0 (k:=w.heap.size+1+1) (by simp);have f:=((((Kept.mk1 (below3 (w:=w) (.cells #[.int .u64 p0,.int .u64 p1,.int .u64 p2,.int .u64 i,.int .u64 j,.int .u64 c1,.int .u64 c2,.int .u64 l] 58) (.cells #[.int .u64 0,.int .u64 0,.int .u64 0,.int .u64 0] 54) (.cells #[.int .u64 0,.int .u64 0,.int .u64 0,.int .u64 0] 54)) (below3 (w:=w) (.cells #[.int .u64 p0,.int .u64 p1,.int .u64 p2,.int .u64 i,.int .u64 j,.int .u64 c1,.int .u64 c2,.int .u64 l] 58) (.cells #[.int .u64 0,.int .u64 0,.int .u64 0,.int .u64 0] 54) (.cells #[.int .u64 0,.int .u64 0,.int .u64 0,.int .u64 0] 54)).size).cons RE.blk).cons NN.blk).cons (x:=⟨w.heap.size,4,j,c1,c2,l⟩) ⟨FR.c4,FR.c5,FR.c6,FR.c7,FR.fz⟩).cons (x:=⟨w.heap.size,0,p0,p1,p2,i⟩) ⟨FR.c0,FR.c1,FR.c2,FR.c3,FR.fz⟩;clear FR RE NN;generalize Z4 _ _=W0 at f⊢;go_loopg [6] s.size (λgk s6 wr=>∃(k a b c d:I),k+gk=s.size/\s6=.int .i64 k/\Kept w w.heap.size [⟨w.heap.size,0,p0,p1,p2,i⟩,⟨w.heap.size,4,j,c1,c2,l⟩,⟨w.heap.size+1+1,0,a,b,c,d⟩,⟨w.heap.size+1,0,0,0,0,0⟩] wr /\
  E (zh (.agg #[.int .u64 a,.int .u64 b,.int .u64 c,.int .u64 d]) (beV (s.data.extract 0 k).toList%P)))
 case atStart =>
  refine⟨0,0,0,0,0,Yv _,Z,f,?_⟩;have:beV (s.data.extract 0 0).toList=0:=by simp[beV]
  rw[this,I.zero_mod];exact Four.mk dC dC dC dC Z
 case round =>
  clear f;obtain⟨k,a,b,c,d,hk,rfl,f,HF⟩:=hrel;generalize h2:w.heap.size+1+1=k2 at f⊢;generalize h1:w.heap.size+1=k1 at f⊢;have H:E (w.heap.size+1=k1/\w.heap.size+1+1=k2):=⟨h1,h2⟩
  have Q1:E (w.heap.size<=k1):=by unfold E;omega
  have Q2:E (w.heap.size<=k2):=by unfold E;omega
  have n12:k2≠k1:=S;have W:k2≠w.heap.size:=S;generalize h0:w.heap.size=g at f Q1 Q2 W⊢;have H0:E (w.heap.size=g):=h0;clear h0 h1 h2;obtain⟨hc,hp,hi,hg,nf⟩:=f.tail.tail.head.at4;have z2:=f.tail.tail.head.lt;by_cases hm:k<s.size
  .have hr:(k:Y)<(s.size:Y):=S;go_wp2_with fail
   apply(mD _ _ _ _ HF (Four.mk (a:=256) (b:=0) (c:=0) (d:=0) dC dC dC dC Z) _).mono;rintro r w1 ⟨v,rfl,h9,y⟩;obtain⟨K,L,A,V,t,q,u,N,rfl,k5,ki,k9,kj,ht,hy,k8,kd,hq⟩:=id y;clear hq hc hp hi hg nf z2;replace f:=f.call h9;clear h9;have o:=At8.made w1 176 K L A V t q u N Z;have m:=f.tail.tail.head.at4.alloc (.cells #[.int .u64 K,.int .u64 L,.int .u64 A,.int .u64 V,.int .u64 t,.int .u64 q,.int .u64 u,.int .u64 N] 176);have h7:Kept w g [⟨g,0,p0,p1,p2,i⟩,⟨g,4,j,c1,c2,l⟩,⟨w1.heap.size,0,K,L,A,V⟩,⟨w1.heap.size,4,t,q,u,N⟩,⟨k1,0,0,0,0,0⟩] _:=
    ((((f.alloc _).tail.tail.tail.cons (x:=⟨w1.heap.size,4,t,q,u,N⟩) ⟨o.c4,o.c5,o.c6,o.c7,o.fz⟩).cons (x:=⟨w1.heap.size,0,K,L,A,V⟩) ⟨o.c0,o.c1,o.c2,o.c3,o.fz⟩).cons (x:=⟨g,4,j,c1,c2,l⟩) (f.alloc _).tail.head).cons (x:=⟨g,0,p0,p1,p2,i⟩) (f.alloc _).head
   have T:k2≠w1.heap.size:=I.ne_of_lt f.tail.tail.head.lt;clear o f;have f:=h7;clear h7;have z0:=f.head.lt;go_wp2_with fail
   generalize Z4 _ _=W7 at f m⊢;generalize w1.heap.size=n at f T⊢;have X:∀x∈([⟨g,0,p0,p1,p2,i⟩,⟨g,4,j,c1,c2,l⟩,⟨n,0,K,L,A,V⟩,⟨n,4,t,q,u,N⟩,⟨k1,0,0,0,0,0⟩]:List Blk),k2≠x.k:=by simp only[Zb,YI,or_false];rintro x (rfl|rfl|rfl|rfl|rfl);exact W;exact W;exact T;exact T;exact n12
   have he:E (nD _ _):=y;obtain⟨B,hB⟩:=vH (s[k].toNat);have C:B<256:=hB ▸ s[k].toNat_lt;have kc:Zk.wrap (s[k].toNat:Y)=(B:Y):=by rw[hB];exact wrapN S
   have h6:E _:=MY (P:=P) (s:=s) (k:=k) hm;have HB:E (s[k].toNat=B):=hB;clear y hB z0;obtain⟨h4,h8,h5,h3,tf⟩:=id m;have zt:=m.lt;go_region_held3 (λw'=>w'.cell? ⟨g,0,G⟩=F (.int .u64 p0)/\w'.cell? ⟨g,1,G⟩=F (.int .u64 p1)/\w'.cell? ⟨g,2,G⟩=F (.int .u64 p2)/\w'.cell? ⟨g,3,G⟩=F (.int .u64 i)/\w'.cell? ⟨g,4,G⟩=F (.int .u64 j)/\w'.cell? ⟨g,5,G⟩=F (.int .u64 c1)/\w'.cell? ⟨g,6,G⟩=F (.int .u64 c2)/\w'.cell? ⟨g,7,G⟩=F (.int .u64 l)/\w'.cell? ⟨n,0,G⟩=F (.int .u64 K)/\w'.cell? ⟨n,1,G⟩=F (.int .u64 L)/\w'.cell? ⟨n,2,G⟩=F (.int .u64 A)/\w'.cell? ⟨n,3,G⟩=F (.int .u64 V)/\w'.cell? ⟨n,4,G⟩=F (.int .u64 t)/\w'.cell? ⟨n,5,G⟩=F (.int .u64 q)/\w'.cell? ⟨n,6,G⟩=F (.int .u64 u)/\w'.cell? ⟨n,7,G⟩=F (.int .u64 N)/\Kept w g [⟨g,0,p0,p1,p2,i⟩,⟨g,4,j,c1,c2,l⟩,⟨n,0,K,L,A,V⟩,⟨n,4,t,q,u,N⟩,⟨k1,0,0,0,0,0⟩] w') (first|exact xG f|exact xG f.drew|exact xG (f.set4' Q2 X _ _ _ _)|exact xG (f.set4' Q2 X _ _ _ _).drew) (first|(go_at_call 103;apply(uM _ _ _ _ he ⟨B,0,0,0,0,0,0,0,Z,S,dC,dC,dC,dC,dC,dC,dC,Z⟩ (J4 HF C) _).mono;rintro r w2 ⟨v,rfl,M,Q⟩;obtain⟨y0,y1,y2,y3,y4,y5,y6,y7,rfl,kh,hw,k3,hu,kg,kf,k6,hz,hj⟩:=id Q;clear hj;have hb:E (nD _ _):=Q;clear Q;replace f:=f.cl M;replace m:=m.cl M;clear M;obtain⟨h4,h8,h5,h3,tf⟩:=id m;have zt:=m.lt)|(go_at_call 101;apply(uQ p0 p1 p2 i j c1 c2 l P _ _ p.hp0 p.hp1 p.hp2 p.hp3 p.hc0 p.hc1 p.hc2 p.hc3 p.eP p.hP p.hP2 hb _).mono;rintro r w3 ⟨v,rfl,z,O⟩;obtain⟨a',b',c',d',rfl,ka,kb,k4,ke,ha⟩:=id O;clear ha;have hn:E (zh _ _):=O;clear O;replace f:=f.cl z;replace m:=m.cl z;clear z;obtain⟨h4,h8,h5,h3,tf⟩:=id m;have zt:=m.lt))
   go_wp2;obtain⟨q1,q2⟩:=H;have q0:=H0;subst q1 q2 q0;go_roundg (gk-1)
   case measure=>omega
   case rel =>
    refine⟨k+1,a',b',c',d',S,Z,?_,?_⟩
    .have K3:=f.set4' Q2 X (.int .u64 a') (.int .u64 b') (.int .u64 c') (.int .u64 d');exact(((K3.tail.tail.tail.tail).cons (m.self4 a' b' c' d').blk).cons K3.tail.head).cons K3.head
    .have h1:=hn;rw[HB.out]at h6;rw[E,<-h6.out];exact h1
  .have m:k=s.size:=S;have q:¬((k:Y)<(s.size:Y)):=S;obtain⟨u,z,o,y,C⟩:=f.tail.tail.tail.head.at4;have A:=f.tail.tail.tail.head.lt;have t:E (k=s.size):=m;clear m;go_wp2;have n:=f.tail.tail.tail.head.at4.self4 a b c d;unfold set4 at n;refine YB (by simp[results,Tryz.results88,go_sem,n.c0,n.c1,n.c2,n.c3];rfl) Z ?_;refine⟨_,Z,?_,?_⟩
   .rw[H0.out];exact aE f.bl Q1
   .have:=HF;rw[t.out,show s.size=s.data.size from Z,yt.extract_size]at this;exact this
def rl0:H Yq:=[U 18446744069414583343,U 18446744073709551615,U 18446744073709551615,U 18446744073709551615,U 4294968273,U 0,U 0,U 0]
def rv0:Yq:=.agg rl0.toArray
structure Fl3(P:I)[NeZero P]:Prop extends At P where
 ref:RefP 18446744069414583343 18446744073709551615 18446744073709551615 18446744073709551615 4294968273 0 0 0 P
def PG:yy 86 #[iZ 0] rv0:=λw=>(Tv w).mono (by rintro e w' ⟨v,rfl,k,rfl⟩;exact⟨_,Z,k,Z⟩)
def rP{x y:B P}(h:Fl3 P):yy 35 #[rv0,fv x,fv y] (fv (x+y)):=λw =>
 (Gi h.ref (h.four x) (h.four y)).mono (by rintro e w' ⟨v,rfl,b,k⟩;exact⟨_,Z,b,k.nv⟩)
def bD{x y:B P}(h:Fl3 P):yy 33 #[rv0,fv x,fv y] (fv (x*y)):=λw =>
 (uP h.ref (h.four x) (h.four y)).mono (by rintro e w' ⟨v,rfl,b,k⟩;exact⟨_,Z,b,k.nv⟩)
def mJ{x y:B P}(h:Fl3 P):yy 23 #[rv0,fv x,fv y] (fv (x-y)):=λw =>
 (D7 _ _ _ _ _ _ _ _ P _ _ x.val y.val h.ref (h.four x) (h.four y) y.isLt w).mono (by rintro e w' ⟨v,rfl,b,k⟩;rw[xC]at k;exact⟨_,Z,b,k.nv⟩)
def MC{x:B P}(h:Fl3 P):yy 98 #[rv0,fv x] (fv (inv x)):=λw =>
 (Ea _ _ _ _ _ _ _ _ P _ x.val h.ref (h.four x) w).mono (by rintro e w' ⟨v,rfl,b,k⟩;exact⟨_,Z,b,k.nv⟩)
def Pw(h:Fl3 P){x:B P}(e:x=0):yy 94 #[fv x] tZ:=λw =>
 (pU _ _ (h.four x) w).mono (by
  rintro e w' ⟨v,rfl,k,rfl⟩;refine⟨_,Z,k,?_⟩;rw[decide_eq_true (by rw[e,val_zero])])
def Iw(h:Fl3 P){x:B P}(e:¬x=0):yy 94 #[fv x] fZ:=λw =>
 (pU _ _ (h.four x) w).mono (by
  rintro e w' ⟨v,rfl,k,rfl⟩;refine⟨_,Z,k,?_⟩;rw[decide_eq_false (λh=>e (pw (by rw[val_zero];exact h)))])
def uO(h:Fl3 P):yy 22 #[U 1] (fv (1:B P)):=λw =>
 (kG dC).mono (by rintro e w' ⟨v,rfl,k,rfl⟩;exact⟨_,Z,k,CE h.toFld⟩)
def BC(h:Fl3 P):yy 22 #[U 7] (fv (7:B P)):=λw =>
 (kG dC).mono (by rintro e w' ⟨v,rfl,k,rfl⟩;exact⟨_,Z,k,yL h.toFld⟩)
def eqR(h:At P)(x y:B P)(w:Yp):(binOp .eql 54 (fv x) (fv y)).run prog w=.ok (.bool (decide (x=y))) w:=by
 have h1:(binOp .eql 54 (fv x) (fv y)).run prog w=.ok (.bool (decide (x.val%18446744073709551616=y.val%18446744073709551616/\x.val/18446744073709551616%18446744073709551616=y.val/18446744073709551616%18446744073709551616/\x.val/340282366920938463463374607431768211456%18446744073709551616=y.val/340282366920938463463374607431768211456%18446744073709551616/\x.val/6277101735386680763835789423207666416102355444464034512896%18446744073709551616=y.val/6277101735386680763835789423207666416102355444464034512896%18446744073709551616))) w:=by
  show(binOp .eql 54 (.agg _) (.agg _)).run prog w=_;rw[run_eql_struct];have k:=RY 9998 (x.val%18446744073709551616) (x.val/18446744073709551616%18446744073709551616) (x.val/340282366920938463463374607431768211456%18446744073709551616) (x.val/6277101735386680763835789423207666416102355444464034512896%18446744073709551616) (y.val%18446744073709551616) (y.val/18446744073709551616%18446744073709551616) (y.val/340282366920938463463374607431768211456%18446744073709551616) (y.val/6277101735386680763835789423207666416102355444464034512896%18446744073709551616) w;unfold wn;rw[k,Zp]
 rw[h1];simp only[uJ (h.top x) (h.top y),<-yEP]
def WB(h:At P){x y:B P}(e:x=y)(w:Yp):(binOp .eql 54 (fv x) (fv y)).run prog w=.ok tZ w:=by rw[eqR h,decide_eq_true e]
def WC(h:At P){x y:B P}(e:¬x=y)(w:Yp):(binOp .eql 54 (fv x) (fv y)).run prog w=.ok fZ w:=by rw[eqR h,decide_eq_false e]
def neR(h:At P)(x y:B P)(w:Yp):(binOp .neq 54 (fv x) (fv y)).run prog w=.ok (.bool (!decide (x=y))) w:=by
 have h1:(binOp .neq 54 (fv x) (fv y)).run prog w=.ok (.bool (!decide (x.val%18446744073709551616=y.val%18446744073709551616/\x.val/18446744073709551616%18446744073709551616=y.val/18446744073709551616%18446744073709551616/\x.val/340282366920938463463374607431768211456%18446744073709551616=y.val/340282366920938463463374607431768211456%18446744073709551616/\x.val/6277101735386680763835789423207666416102355444464034512896%18446744073709551616=y.val/6277101735386680763835789423207666416102355444464034512896%18446744073709551616))) w:=TX;rw[h1];simp only[uJ (h.top x) (h.top y),<-yEP]
def V2(h:At P){x y:B P}(e:x=y)(w:Yp):(binOp .neq 54 (fv x) (fv y)).run prog w=.ok fZ w:=by rw[neR h,decide_eq_true e];rfl
def V1(h:At P){x y:B P}(e:¬x=y)(w:Yp):(binOp .neq 54 (fv x) (fv y)).run prog w=.ok tZ w:=by rw[neR h,decide_eq_false e];rfl
def OR:Y8 #[U 0,U 0,U 0,U 0,U 1,U 0,U 0,U 0,U 0,U 0,U 0,U 0]=.agg (([U 0,U 0,U 0,U 0]:H Yq)++(([U 1,U 0,U 0,U 0]:H Yq)++([U 0,U 0,U 0,U 0]:H Yq))).toArray:=rfl
def Hu(h:At P)(w:Yp):(yCw 68 #[(1,fv (1:B P))]).run prog w=.ok (rv (0:B P) 1 0) w:=by
 rw[rv,<-xB,<-SB h,<-CE h,<-OR];kernel_rfl
def PC(h:Fl3 P){m y:B P}(e:rt m=F y):yy 219 #[rv0,fv m] (.tuple #[fv y,tZ]):=λw =>
 (BA _ _ _ _ _ _ _ _ P _ m.val h.ref h.p4 (h.four m) w).mono (by rintro e' w' ⟨v,rfl,b,k⟩;exact⟨_,Z,b,k.val.1 y e⟩)
def PD(h:Fl3 P){m:B P}(e:rt m=G):yy 219 #[rv0,fv m] (.tuple #[fv (0:B P),fZ]):=λw =>
 (BA _ _ _ _ _ _ _ _ P _ m.val h.ref h.p4 (h.four m) w).mono (by rintro e' w' ⟨v,rfl,b,k⟩;exact⟨_,Z,b,k.val.2 e⟩)
def u33:yZ 54:=yQ
def i33:gZ 54 4:=gQ
def u56:yZ 68:=yQ
def i56:gZ 68 12:=gQ
def u35:yZ 58:=yQ
def i35:gZ 58 8:=gQ
def bR:yy 93 #[] rv0:=by
 intro w;go_enter func93,ntmps93;refine RG.M.enter [] 2 kR λa0 k=>?_
 refine Yt <| k.T [.m 0] [(0,RG.z 8)] [] [0] ⟨mk 0 58,yw⟩ λe i g c=>?_
 refine Yt <| c.T [.c rv0,.u 0] [] [(0,1,rl0)] [0] ⟨cl PG,RG.pt i35,yw⟩ λd f b=>?_
 exact Zr (b.rr 0 Z u35 i35)
def Ia(C:Fl3 P):yy 95 #[] (rv (0:B P) 1 0):=by
 intro w;go_enter func95,ntmps95;refine RG.M.enter [] 3 kR λa0 k=>?_
 refine Yt <| k.T [.m 0] [(0,RG.z 12)] [] [0] ⟨mk 0 68,yw⟩ λe i g c=>?_
 refine Yt <| c.T [.c (fv (1:B P)),.x (rv (0:B P) (1:B P) (0:B P)),.u 0] [] [(0,2,ws (0:B P)++(ws (1:B P)++(ws (0:B P))))] [0] ⟨cl (uO C),EU Z Z Z sx (Hu C.toFld),RG.pt i56,yw⟩ λd f b=>?_
 exact Zr (b.rr 0 Z u56 i56)
def Ic(C:Fl3 P)(x y z:B P)(b:z=0):yy 92 #[(rv x y z)] tZ:=by
 intro w;go_enter func92,ntmps92;refine RG.M.enter [(0,.v (rv x y z))] 6 kR λa0 k=>?_
 refine Yt <| k.T [.m 0,.x fZ] [(0,ws x++(ws y++(ws z)))] [] [1,2] ⟨mk 0 68,st,yw⟩ λf j i d=>?_
 refine Yt <| d.U [.s (.p 0 8),.x (fv z),.c tZ,.x tZ] [2] ⟨st,ld u33 i33,cl (Pw C b),st,yw⟩ λe g c=>?_
 exact Zr c.rt
def Do(C:Fl3 P)(x y z:B P)(b:¬z=0):yy 92 #[(rv x y z)] fZ:=by
 intro w;go_enter func92,ntmps92;refine RG.M.enter [(0,.v (rv x y z))] 6 kR λa0 k=>?_
 refine Yt <| k.T [.m 0,.x fZ] [(0,ws x++(ws y++(ws z)))] [] [1,2] ⟨mk 0 68,st,yw⟩ λf j i d=>?_
 refine Yt <| d.U [.s (.p 0 8),.x (fv z),.c fZ,.x fZ] [2] ⟨st,ld u33 i33,cl (Iw C b),st,yw⟩ λe g c=>?_
 exact Zr c.rt
def JM(C:Fl3 P)(x y z:B P):yy 96 #[(rv x y z)] (rv ((fdE y z)*(fdT x y z)) ((fdD x)*(x*((fdE y z)*(fdE y z))-(fdT x y z))-y*((fdE y z)*(fdE y z)*(fdE y z))) ((fdE y z)*(fdE y z)*(fdE y z)*z)):=by
 intro w;let⟨c1,h5⟩:∃c,c=x*x:=⟨_,Z⟩
 let⟨c2,O⟩:∃c,c=c1+c1:=⟨_,Z⟩
 let⟨e,h4⟩:∃c,c=c2+c1:=⟨_,Z⟩
 let⟨T,h0⟩:∃c,c=y+y:=⟨_,Z⟩
 let⟨b,X⟩:∃c,c=T*z:=⟨_,Z⟩
 let⟨d,V⟩:∃c,c=b*b:=⟨_,Z⟩
 let⟨i,Q⟩:∃c,c=d*b:=⟨_,Z⟩
 let⟨N,h3⟩:∃c,c=e*e:=⟨_,Z⟩
 let⟨c9,h2⟩:∃c,c=N*z:=⟨_,Z⟩
 let⟨p,K⟩:∃c,c=x+x:=⟨_,Z⟩
 let⟨m,t⟩:∃c,c=p*d:=⟨_,Z⟩
 let⟨k,a⟩:∃c,c=c9-m:=⟨_,Z⟩
 let⟨g,v⟩:∃c,c=b*k:=⟨_,Z⟩
 let⟨n,M⟩:∃c,c=x*d:=⟨_,Z⟩
 let⟨q,u⟩:∃c,c=n-k:=⟨_,Z⟩
 let⟨j,A⟩:∃c,c=e*q:=⟨_,Z⟩
 let⟨l,r⟩:∃c,c=y*i:=⟨_,Z⟩
 let⟨f,L⟩:∃c,c=j-l:=⟨_,Z⟩
 let⟨o,s⟩:∃c,c=i*z:=⟨_,Z⟩
 go_enter func96,ntmps96;refine RG.M.enter [(0,.v (rv x y z))] 91 kR λa0 M0=>?_
 refine Yt <| M0.T [.m 0,.m 1] [(0,ws x++(ws y++(ws z))),(1,RG.z 12)] [] [1,2] ⟨mk 0 68,mk 1 68,yw⟩ λj1 i1 a1 w1 M1=>?_
 refine Yt <| M1.D [.c rv0,.s (.p 0 0),.x (fv x),.s (.p 0 0),.x (fv x),.c (fv c1),.m 2,.u 2] [(6,RG.z 4)] [(2,7,ws c1)] [1,2,3] ⟨cl bR,st,ld u33 i33,st,ld u33 i33,cl ((bD C).e h5),mk 2 54,RG.pt i33,yw⟩ λj2 a2 w2 M2=>?_
 refine Yt <| M2.D [.c rv0,.c rv0,.x (fv c1),.x (fv c1),.c (fv c2),.x (fv c1),.c (fv e),.m 3,.u 3] [(7,RG.z 4)] [(3,8,ws e)] [1,2,4] ⟨cl bR,cl bR,ld u33 i33,ld u33 i33,cl ((rP C).e O),ld u33 i33,cl ((rP C).e h4),mk 3 54,RG.pt i33,yw⟩ λj3 a3 w3 M3=>?_
 refine Yt <| M3.D [.c rv0,.c rv0,.s (.p 0 4),.x (fv y),.s (.p 0 4),.x (fv y),.c (fv T),.s (.p 0 8),.x (fv z),.c (fv b),.m 4,.u 4] [(10,RG.z 4)] [(4,11,ws b)] [1,2,4,5] ⟨cl bR,cl bR,st,ld u33 i33,st,ld u33 i33,cl ((rP C).e h0),st,ld u33 i33,cl ((bD C).e X),mk 4 54,RG.pt i33,yw⟩ λj4 a4 w4 M4=>?_
 refine Yt <| M4.D [.c rv0,.x (fv b),.x (fv b),.c (fv d),.m 5,.u 5] [(4,RG.z 4)] [(5,5,ws d)] [1,2,4,5,6] ⟨cl bR,ld u33 i33,ld u33 i33,cl ((bD C).e V),mk 5 54,RG.pt i33,yw⟩ λj5 a5 w5 M5=>?_
 refine Yt <| M5.D [.c rv0,.x (fv d),.x (fv b),.c (fv i),.m 6,.u 6] [(4,RG.z 4)] [(6,5,ws i)] [1,2,4,5,6,7] ⟨cl bR,ld u33 i33,ld u33 i33,cl ((bD C).e Q),mk 6 54,RG.pt i33,yw⟩ λj6 a6 w6 M6=>?_
 refine Yt <| M6.D [.c rv0,.c rv0,.c rv0,.x (fv e),.x (fv e),.c (fv N),.s (.p 0 8),.x (fv z),.c (fv c9),.c rv0,.c rv0,.s (.p 0 0),.x (fv x),.s (.p 0 0),.x (fv x),.c (fv p),.x (fv d),.c (fv m),.c (fv k),.m 7,.u 7] [(19,RG.z 4)] [(7,20,ws k)] [1,2,4,5,6,7,8] ⟨cl bR,cl bR,cl bR,ld u33 i33,ld u33 i33,cl ((bD C).e h3),st,ld u33 i33,cl ((bD C).e h2),cl bR,cl bR,st,ld u33 i33,st,ld u33 i33,cl ((rP C).e K),ld u33 i33,cl ((bD C).e t),cl ((mJ C).e a),mk 7 54,RG.pt i33,yw⟩ λj7 a7 w7 M7=>?_
 refine Yt <| M7.D [.c rv0,.x (fv b),.x (fv k),.c (fv g),.m 8,.u 8] [(4,RG.z 4)] [(8,5,ws g)] [1,2,4,6,7,8,9] ⟨cl bR,ld u33 i33,ld u33 i33,cl ((bD C).e v),mk 8 54,RG.pt i33,yw⟩ λj8 a8 w8 M8=>?_
 refine Yt <| M8.D [.c rv0,.c rv0,.x (fv e),.c rv0,.c rv0,.s (.p 0 0),.x (fv x),.x (fv d),.c (fv n),.x (fv k),.c (fv q),.c (fv j),.c rv0,.s (.p 0 4),.x (fv y),.x (fv i),.c (fv l),.c (fv f),.m 9,.u 9] [(18,RG.z 4)] [(9,19,ws f)] [1,2,7,9,10] ⟨cl bR,cl bR,ld u33 i33,cl bR,cl bR,st,ld u33 i33,ld u33 i33,cl ((bD C).e M),ld u33 i33,cl ((mJ C).e u),cl ((bD C).e A),cl bR,st,ld u33 i33,ld u33 i33,cl ((bD C).e r),cl ((mJ C).e L),mk 9 54,RG.pt i33,yw⟩ λj9 a9 w9 M9=>?_
 refine Yt <| M9.D [.x (fv g),.x (fv f),.c rv0,.x (fv i),.s (.p 0 8),.x (fv z),.c (fv o),.x (rv g f o),.u 1] [] [(1,8,ws g++(ws f++(ws o)))] [2] ⟨ld u33 i33,ld u33 i33,cl bR,ld u33 i33,st,ld u33 i33,cl ((bD C).e s),st,RG.pt i56,yw⟩ λh6 h7 W=>?_
 exact Zr (W.rr 1 Z u56 i56)
theorem Gg(C:Fl3 P)(e d k g i b:B P)(R:Yq)(ha:k=0->R=(rv g i b))(hb:¬k=0->b=0->R=(rv e d k))(hd:¬k=0->¬b=0->g*k=e*b->(¬i*k=d*b/\R=(rv (0:B P) 1 0))\/(i*k=d*b/\¬i*k=0/\R=(rv ((fdE d k)*(fdT e d k)) ((fdD e)*(e*((fdE d k)*(fdE d k))-(fdT e d k))-d*((fdE d k)*(fdE d k)*(fdE d k))) ((fdE d k)*(fdE d k)*(fdE d k)*k))))(he:¬k=0->¬b=0->¬g*k=e*b->R=(rv ((g*k-e*b)*frT (i*k-d*b) (g*k-e*b) (k*b) (e*b)) ((i*k-d*b)*(e*b*((g*k-e*b)*(g*k-e*b))-frT (i*k-d*b) (g*k-e*b) (k*b) (e*b))-d*b*((g*k-e*b)*(g*k-e*b)*(g*k-e*b))) ((g*k-e*b)*(g*k-e*b)*(g*k-e*b)*(k*b)))):yy 27 #[(rv e d k),(rv g i b)] R:=by
 intro w;obtain⟨c1,k8⟩:∃c,c=i*k:=⟨_,Z⟩
 obtain⟨c2,hw⟩:∃c,c=g*k:=⟨_,Z⟩
 obtain⟨s,k6⟩:∃c,c=d*b:=⟨_,Z⟩
 obtain⟨j,k3⟩:∃c,c=e*b:=⟨_,Z⟩
 go_enter func27,ntmps27;refine RG.M.enter [(0,.v (rv e d k)),(1,.v (rv g i b))] 127 kR λa0 M0=>?_
 refine Yt <| M0.T [.m 0,.m 1,.m 2] [(0,ws e++(ws d++(ws k))),(1,ws g++(ws i++(ws b))),(2,RG.z 12)] [] [2,3,4] ⟨mk 0 68,mk 1 68,mk 2 68,yw⟩ λj1 i1 m1 a1 w1 M1=>?_
 repeat refine Yt ?_
 by_cases p:k=0
 .obtain rfl:=ha p;refine M1.U [.x (rv e d k),.c (.bool J),.x (.bool J)] [3,4,5] ⟨ld u56 i56,cl (Ic C e d k p),st,yw⟩ λa2 w2 M2=>?_
  refine Yt <| Yt <| M2.U [.x (.bool J)] [3,4,18] ⟨st,yw⟩ λa3 w3 M3=>?_
  refine Y5 M3.ev ?_;refine Yt <| M3.T [.x (rv g i b),.u 2] [] [(2,1,ws g++(ws i++(ws b)))] [4] ⟨ld u56 i56,RG.pt i56,yw⟩ λa4 w4 M4=>?_
  exact Zr (M4.rr 2 Z u56 i56)
 refine M1.U [.x (rv e d k),.c (.bool D),.x (.bool D)] [2,3,4,5] ⟨ld u56 i56,cl (Do C e d k p),st,yw⟩ λa2 w2 M2=>?_
 refine Yt <| Yt <| M2.U [.x (.bool D)] [2,3,4,5,18] ⟨st,yw⟩ λa3 w3 M3=>?_
 refine YY M3.ev ?_;refine ZK ?_;repeat refine Yt ?_
 by_cases y:b=0
 .obtain rfl:=hb p y;refine M3.U [.x (rv g i b),.c (.bool J),.x (.bool J)] [2,4,5] ⟨ld u56 i56,cl (Ic C g i b y),st,yw⟩ λa4 w4 M4=>?_
  refine Yt <| Yt <| M4.U [.x (.bool J)] [2,4,22] ⟨st,yw⟩ λa5 w5 M5=>?_
  refine Y5 M5.ev ?_;refine Yt <| M5.T [.x (rv e d k),.u 2] [] [(2,1,ws e++(ws d++(ws k)))] [4] ⟨ld u56 i56,RG.pt i56,yw⟩ λa6 w6 M6=>?_
  exact Zr (M6.rr 2 Z u56 i56)
 refine M3.U [.x (rv g i b),.c (.bool D),.x (.bool D)] [2,3,4,5] ⟨ld u56 i56,cl (Do C g i b y),st,yw⟩ λa4 w4 M4=>?_
 refine Yt <| Yt <| M4.U [.x (.bool D)] [2,3,4,22] ⟨st,yw⟩ λa5 w5 M5=>?_
 refine YY M5.ev ?_;refine ZK ?_;refine Yt <| M5.D [.c rv0,.s (.p 1 4),.x (fv i),.s (.p 0 8),.x (fv k),.c (fv c1),.m 3,.u 3] [(6,RG.z 4)] [(3,7,ws c1)] [2,3,4,6] ⟨cl bR,st,ld u33 i33,st,ld u33 i33,cl ((bD C (x:=i) (y:=k)).e k8),mk 3 54,RG.pt i33,yw⟩ λj6 a6 w6 M6=>?_
 refine Yt <| M6.D [.c rv0,.s (.p 1 0),.x (fv g),.s (.p 0 8),.x (fv k),.c (fv c2),.m 4,.u 4] [(6,RG.z 4)] [(4,7,ws c2)] [2,3,4,6,7] ⟨cl bR,st,ld u33 i33,st,ld u33 i33,cl ((bD C (x:=g) (y:=k)).e hw),mk 4 54,RG.pt i33,yw⟩ λj7 a7 w7 M7=>?_
 refine Yt <| M7.D [.c rv0,.s (.p 0 4),.x (fv d),.s (.p 1 8),.x (fv b),.c (fv s),.m 5,.u 5] [(6,RG.z 4)] [(5,7,ws s)] [2,3,4,6,7,8] ⟨cl bR,st,ld u33 i33,st,ld u33 i33,cl ((bD C (x:=d) (y:=b)).e k6),mk 5 54,RG.pt i33,yw⟩ λj8 a8 w8 M8=>?_
 refine Yt <| M8.D [.c rv0,.s (.p 0 0),.x (fv e),.s (.p 1 8),.x (fv b),.c (fv j),.m 6,.u 6] [(6,RG.z 4)] [(6,7,ws j)] [2,3,4,6,7,8,9] ⟨cl bR,st,ld u33 i33,st,ld u33 i33,cl ((bD C (x:=e) (y:=b)).e k3),mk 6 54,RG.pt i33,yw⟩ λj9 a9 w9 M9=>?_
 repeat refine Yt ?_
 by_cases hv:g*k=e*b
 .have hR:=hd p y hv;refine M9.U [.x (fv c2),.x (fv j),.x (.bool J)] [2,4,6,8,50] ⟨ld u33 i33,ld u33 i33,aQ Z .eql (T:=54) 54 (t1:=48) (t2:=49) (v1:=(fv c2)) (v2:=(fv j)) (v:=(.bool J)) Z Z sx sx (λw=>kR) (WB C.toFld (by subst_vars;exact hv)),yw⟩ λk0 k9 q=>?_
  refine Y5 q.ev ?_;repeat refine Yt ?_
  rcases hR with⟨m,rfl⟩|⟨m,t,hR⟩
  .refine q.u [.x 51 [] (fv c1),.x 52 [] (fv s),.x 53 [(51,0),(52,1)] (.bool J),.x 54 [(53,2)] (.bool J),⟨F 55,[],.v undef,.pass⟩,⟨F 56,[],.v undef,.pass⟩,.x 57 [(54,3),(56,5)] (.bool J)] [(4,.p 2 0),(57,.v (.bool J))] ⟨ld u33 i33,ld u33 i33,aQ Z .neq (T:=54) 54 (t1:=51) (t2:=52) (v1:=(fv c1)) (v2:=(fv s)) (v:=(.bool J)) Z Z sx sx (λw=>kR) (V1 C.toFld (by subst_vars;exact m)),st,cD Z Z,cD Z Z,st,yw⟩ ?_;intro ht hi o;refine Y5 o.ev ?_;refine Yt <| o.T [.c (rv (0:B P) (1:B P) (0:B P)),.u 2] [] [(2,1,ws (0:B P)++(ws (1:B P)++(ws (0:B P))))] [4] ⟨cl (Ia C),RG.pt i56,yw⟩ λh5 hc u=>?_
   exact Zr (u.rr 2 Z u56 i56)
  obtain⟨n,h0⟩:∃c,c=(fdE d k)*(fdT e d k):=⟨_,Z⟩
  obtain⟨l,Q⟩:∃c,c=(fdD e)*(e*((fdE d k)*(fdE d k))-(fdT e d k))-d*((fdE d k)*(fdE d k)*(fdE d k)):=⟨_,Z⟩
  obtain⟨r,L⟩:∃c,c=(fdE d k)*(fdE d k)*(fdE d k)*k:=⟨_,Z⟩
  obtain rfl:R=rv n l r:=hR.trans (by subst_vars;rfl);refine q.U [.x (fv c1),.x (fv s),.x (.bool D),.x (.bool D),.x (fv c1),.c (.bool D),.x (.bool D)] [2,4,57] ⟨ld u33 i33,ld u33 i33,aQ Z .neq (T:=54) 54 (t1:=51) (t2:=52) (v1:=(fv c1)) (v2:=(fv s)) (v:=(.bool D)) Z Z sx sx (λw=>kR) (V2 C.toFld (by subst_vars;exact m)),st,ld u33 i33,cl (f:=94) (args:=#[fv c1]) (v:=(.bool D)) (Iw C (by subst_vars;exact t)),st,yw⟩ λht hi o=>?_
  refine YY o.ev ?_;refine ZK ?_;refine Yt <| o.T [.x (rv e d k),.c (rv n l r),.u 2] [] [(2,2,ws n++(ws l++(ws r)))] [4] ⟨ld u56 i56,cl ((JM C e d k).e3 h0 Q L),RG.pt i56,yw⟩ λh5 hc u=>?_
  exact Zr (u.rr 2 Z u56 i56)
 have hR:=he p y hv;obtain⟨n,h0⟩:∃c,c=c1-s:=⟨_,Z⟩
 obtain⟨l,Q⟩:∃c,c=c2-j:=⟨_,Z⟩
 obtain⟨r,L⟩:∃c,c=k*b:=⟨_,Z⟩
 obtain⟨t,k5⟩:∃c,c=l*l:=⟨_,Z⟩
 obtain⟨x,k4⟩:∃c,c=t*l:=⟨_,Z⟩
 obtain⟨X,hp⟩:∃c,c=n*n:=⟨_,Z⟩
 obtain⟨N,h6⟩:∃c,c=X*r:=⟨_,Z⟩
 obtain⟨K,hk⟩:∃c,c=N-x:=⟨_,Z⟩
 obtain⟨h2,h8⟩:∃c,c=j+j:=⟨_,Z⟩
 obtain⟨O,hr⟩:∃c,c=h2*t:=⟨_,Z⟩
 obtain⟨m,h7⟩:∃c,c=K-O:=⟨_,Z⟩
 obtain⟨z,hm⟩:∃c,c=l*m:=⟨_,Z⟩
 obtain⟨M,h3⟩:∃c,c=j*t:=⟨_,Z⟩
 obtain⟨T,hq⟩:∃c,c=M-m:=⟨_,Z⟩
 obtain⟨V,h4⟩:∃c,c=n*T:=⟨_,Z⟩
 obtain⟨W,hj⟩:∃c,c=s*x:=⟨_,Z⟩
 obtain⟨A,hg⟩:∃c,c=V-W:=⟨_,Z⟩
 obtain⟨a,h9⟩:∃c,c=x*r:=⟨_,Z⟩
 obtain rfl:R=rv z A a:=hR.trans (by subst_vars;rfl);refine M9.U [.x (fv c2),.x (fv j),.x (.bool D)] [2,3,4,6,7,8,9,50] ⟨ld u33 i33,ld u33 i33,aQ Z .eql (T:=54) 54 (t1:=48) (t2:=49) (v1:=(fv c2)) (v2:=(fv j)) (v:=(.bool D)) Z Z sx sx (λw=>kR) (WC C.toFld (by subst_vars;exact hv)),yw⟩ λk0 k9 q=>?_
 refine YY q.ev ?_;refine ZK ?_;refine Yt <| q.D [.c rv0,.x (fv c1),.x (fv s),.c (fv n),.m 7,.u 7] [(4,RG.z 4)] [(7,5,ws n)] [2,3,4,7,8,9,10] ⟨cl bR,ld u33 i33,ld u33 i33,cl ((mJ C (x:=c1) (y:=s)).e h0),mk 7 54,RG.pt i33,yw⟩ λkn ht hi o=>?_
 refine Yt <| o.D [.c rv0,.x (fv c2),.x (fv j),.c (fv l),.m 8,.u 8] [(4,RG.z 4)] [(8,5,ws l)] [2,3,4,8,9,10,11] ⟨cl bR,ld u33 i33,ld u33 i33,cl ((mJ C (x:=c2) (y:=j)).e Q),mk 8 54,RG.pt i33,yw⟩ λkf h5 hc u=>?_
 refine Yt <| u.D [.c rv0,.s (.p 0 8),.x (fv k),.s (.p 1 8),.x (fv b),.c (fv r),.m 9,.u 9] [(6,RG.z 4)] [(9,7,ws r)] [4,8,9,10,11,12] ⟨cl bR,st,ld u33 i33,st,ld u33 i33,cl ((bD C (x:=k) (y:=b)).e L),mk 9 54,RG.pt i33,yw⟩ λkh kl kd hy=>?_
 refine Yt <| hy.D [.c rv0,.x (fv l),.x (fv l),.c (fv t),.m 10,.u 10] [(4,RG.z 4)] [(10,5,ws t)] [4,8,9,10,11,12,13] ⟨cl bR,ld u33 i33,ld u33 i33,cl ((bD C (x:=l) (y:=l)).e k5),mk 10 54,RG.pt i33,yw⟩ λkp kj km k2=>?_
 refine Yt <| k2.D [.c rv0,.x (fv t),.x (fv l),.c (fv x),.m 11,.u 11] [(4,RG.z 4)] [(11,5,ws x)] [4,8,9,10,11,12,13,14] ⟨cl bR,ld u33 i33,ld u33 i33,cl ((bD C (x:=t) (y:=l)).e k4),mk 11 54,RG.pt i33,yw⟩ λko kb ka k1=>?_
 refine Yt <| k1.D [.c rv0,.c rv0,.c rv0,.c rv0,.x (fv n),.x (fv n),.c (fv X),.x (fv r),.c (fv N),.x (fv x),.c (fv K),.c rv0,.c rv0,.x (fv j),.x (fv j),.c (fv h2),.x (fv t),.c (fv O),.c (fv m),.m 12,.u 12] [(19,RG.z 4)] [(12,20,ws m)] [4,8,9,10,11,12,13,14,15] ⟨cl bR,cl bR,cl bR,cl bR,ld u33 i33,ld u33 i33,cl ((bD C (x:=n) (y:=n)).e hp),ld u33 i33,cl ((bD C (x:=X) (y:=r)).e h6),ld u33 i33,cl ((mJ C (x:=N) (y:=x)).e hk),cl bR,cl bR,ld u33 i33,ld u33 i33,cl ((rP C (x:=j) (y:=j)).e h8),ld u33 i33,cl ((bD C (x:=h2) (y:=t)).e hr),cl ((mJ C (x:=K) (y:=O)).e h7),mk 12 54,RG.pt i33,yw⟩ λkc ke ki hz=>?_
 refine Yt <| hz.D [.c rv0,.x (fv l),.x (fv m),.c (fv z),.c rv0,.c rv0,.x (fv n),.c rv0,.c rv0,.x (fv j),.x (fv t),.c (fv M),.x (fv m),.c (fv T),.c (fv V),.c rv0,.x (fv s),.x (fv x),.c (fv W),.c (fv A),.c rv0,.x (fv x),.x (fv r),.c (fv a),.x (rv z A a),.u 2] [] [(2,25,ws z++(ws A++(ws a)))] [4] ⟨cl bR,ld u33 i33,ld u33 i33,cl ((bD C (x:=l) (y:=m)).e hm),cl bR,cl bR,ld u33 i33,cl bR,cl bR,ld u33 i33,ld u33 i33,cl ((bD C (x:=j) (y:=t)).e h3),ld u33 i33,cl ((mJ C (x:=M) (y:=m)).e hq),cl ((bD C (x:=n) (y:=T)).e h4),cl bR,ld u33 i33,ld u33 i33,cl ((bD C (x:=s) (y:=x)).e hj),cl ((mJ C (x:=V) (y:=W)).e hg),cl bR,ld u33 i33,ld u33 i33,cl ((bD C (x:=x) (y:=r)).e h9),st,RG.pt i56,yw⟩ λkg kk k7=>?_
 exact Zr (k7.rr 2 Z u56 i56)
theorem Iu(C:Fl3 P)(x y:B P)(i:rt (x*x*x+7)=F y):yy 172 #[(fv x)] (.tuple #[rv x y 1,tZ]):=by
 intro w;let⟨c1,d⟩:∃c,c=x*x:=⟨_,Z⟩
 let⟨c2,k⟩:∃c,c=c1*x:=⟨_,Z⟩
 let⟨e,b⟩:∃c,c=c2+(7:B P):=⟨_,Z⟩
 go_enter func172,ntmps172;refine RG.M.enter [(0,.v (fv x))] 26 kR λa0 g=>?_
 refine Yt <| g.T [.m 0,.m 1,.x fZ] [(0,ws x),(1,RG.z 12)] [] [1,2,3] ⟨mk 0 54,mk 1 68,st,yw⟩ λt s o q l=>?_
 refine Yt <| l.D [.c rv0,.c rv0,.c rv0,.c rv0,.x (fv x),.x (fv x),.c (fv c1),.x (fv x),.c (fv c2),.c (fv (7:B P)),.c (fv e),.c (.tuple #[fv y,tZ]),.x (.tuple #[fv y,tZ]),.x (fv y),.x tZ,.m 2,.u 2,.x tZ] [(15,RG.z 4)] [(2,16,ws y)] [1,2,3,4,5] ⟨cl bR,cl bR,cl bR,cl bR,ld u33 i33,ld u33 i33,cl ((bD C).e d),ld u33 i33,cl ((bD C).e k),cl (BC C),cl ((rP C).e b),cl (f:=219) (args:=#[rv0,fv e]) (v:=(.tuple #[fv y,tZ])) (PC C (by subst_vars;exact i)),st,st,st,mk 2 54,RG.pt i33,st,yw⟩ λr p n j=>?_
 refine Yt <| j.D [.x (fv x),.x (fv y),.c (fv (1:B P)),.x (rv x y (1:B P)),.x tZ,.u 1,.x tZ] [] [(1,5,ws x++(ws y++(ws (1:B P))))] [2,3] ⟨ld u33 i33,ld u33 i33,cl (uO C),st,st,RG.pt i56,st,yw⟩ λu z m=>?_
 exact Zr (m.r2 1 Z u56 i56)
theorem Pv(C:Fl3 P)(x:B P)(i:rt (x*x*x+7)=G):yy 172 #[(fv x)] (.tuple #[rv x 0 1,fZ]):=by
 intro w;let⟨c1,d⟩:∃c,c=x*x:=⟨_,Z⟩
 let⟨c2,k⟩:∃c,c=c1*x:=⟨_,Z⟩
 let⟨e,b⟩:∃c,c=c2+(7:B P):=⟨_,Z⟩
 go_enter func172,ntmps172;refine RG.M.enter [(0,.v (fv x))] 26 kR λa0 g=>?_
 refine Yt <| g.T [.m 0,.m 1,.x fZ] [(0,ws x),(1,RG.z 12)] [] [1,2,3] ⟨mk 0 54,mk 1 68,st,yw⟩ λt s o q l=>?_
 refine Yt <| l.D [.c rv0,.c rv0,.c rv0,.c rv0,.x (fv x),.x (fv x),.c (fv c1),.x (fv x),.c (fv c2),.c (fv (7:B P)),.c (fv e),.c (.tuple #[fv (0:B P),fZ]),.x (.tuple #[fv (0:B P),fZ]),.x (fv (0:B P)),.x fZ,.m 2,.u 2,.x fZ] [(15,RG.z 4)] [(2,16,ws (0:B P))] [1,2,3,4,5] ⟨cl bR,cl bR,cl bR,cl bR,ld u33 i33,ld u33 i33,cl ((bD C).e d),ld u33 i33,cl ((bD C).e k),cl (BC C),cl ((rP C).e b),cl (f:=219) (args:=#[rv0,fv e]) (v:=(.tuple #[fv (0:B P),fZ])) (PD C (by subst_vars;exact i)),st,st,st,mk 2 54,RG.pt i33,st,yw⟩ λr p n j=>?_
 refine Yt <| j.D [.x (fv x),.x (fv (0:B P)),.c (fv (1:B P)),.x (rv x (0:B P) (1:B P)),.x fZ,.u 1,.x fZ] [] [(1,5,ws x++(ws (0:B P)++(ws (1:B P))))] [2,3] ⟨ld u33 i33,ld u33 i33,cl (uO C),st,st,RG.pt i56,st,yw⟩ λu y m=>?_
 exact Zr (m.r2 1 Z u56 i56)
def ME(O:Ord N)(s:Bs)(hs:s.size<=1048576):yy 88 #[rv1,.string ⟨s⟩] (nv (mG N s)):=λw =>
 (Mz _ _ _ _ _ _ _ _ N ⟨s⟩ O.ref hs w).mono (by rintro e w' ⟨v,rfl,b,k⟩;exact⟨_,Z,b,k.nv⟩)
def TD(O:Ord N){a b:I}(c:a<N)(k:b<N):yy 35 #[rv1,nv a,nv b] (nv (sPl N a b)):=λw =>
 (Gi O.ref (O.four c) (O.four k)).mono (by rintro e w' ⟨v,rfl,k,d⟩;exact⟨_,Z,k,d.nv⟩)
def BE(O:Ord N)(k:R)(i:zb ai)(cap:I)(ps:H R)(w:Yp)(b:k.size<=1048576)(l:ps.length<=1048576)
 (t:ps.length=0\/∃g m,i=F ⟨g,m,G⟩/\∀j,j<ps.length->w.cell? ⟨g,m+j,G⟩=F (.string ps[j]!)) (q:∀j,j<ps.length->(ps[j]!).size<=1048576)
 (c:(bL k.data.toList (ps.map λs=>s.data.toList)).length<=1048576) :
 Zl prog 24 #[.string k,.slice i ps.length cap] w (rZ w λe w'=>e=nv (chL N k.data.toList (ps.map λs=>s.data.toList))):=by
 have d:∀w',BelX w.heap.size [] w w'->Zl prog 90 #[.string k,.slice i ps.length cap] w' (Ret λe f=>kZ w' f/\e=.string ⟨jE k.data.toList (ps.map λs=>s.data.toList)⟩):=λw' o=>by
  refine(rN k i cap ps w' b l ?_ q c).mono ?_
  .rcases t with h|⟨g,m,h1,u⟩
   .exact Y3 h
   .exact YZ ⟨g,m,h1,λj r=>by rw[o.below.cell (p:=⟨g,m+j,G⟩) (World.block_lt_of_cell? _ _ (u j r))];exact u j r⟩
  .rintro e f ⟨rfl,o⟩;exact⟨_,Z,o,Z⟩
 unfold chL;have g:=dD (k:=k.data.toList) (ps:=(ps.map λs=>s.data.toList));generalize jE k.data.toList (ps.map λs=>s.data.toList)=T at d g⊢;have m:yy 89 #[.string ⟨T⟩,iZ 64] (.string ⟨kU T.toList 64⟩):=λw'=>by
  refine(qW ⟨T⟩ 64 w' (by show T.size<=_;omega) dC).mono ?_;rintro e f ⟨rfl,o⟩;exact⟨_,Z,o,Z⟩
 have r:=ME O (kU T.toList 64) (by rw[uL];decide);generalize kU T.toList 64=S at m r⊢;generalize mG N S=n at r⊢;generalize hv:Value.slice i ps.length cap=v at d⊢;clear g t q c l b hv;go_enter func24,ntmps24;refine RG.M.enter [(0,.v (.string k)),(1,.v v)] 11 kR λa0 u=>?_
 refine Yt <| u.T [.m 0] [(0,RG.z 4)] [] [0,1,4] ⟨mk 0 54,yw⟩ λK a C y=>?_
 refine Yt <| y.T [.c rv1,.x (.string k),.x v,.c (.string ⟨T⟩),.c (.string ⟨S⟩),.c (nv n),.u 0] [] [(0,6,wn n)] [4] ⟨cl Dm,st,st,clB (λ_ _=>kR) d,cl m,cl r,RG.pt i33,yw⟩ λA z x=>?_
 exact Zr (x.rr 0 Z u33 i33)
def JR{bs:Bs}(C:Fl3 P)(hs:bs.size=32){x:B P}(hx:beV bs.toList=x.val):yy 85 #[rv0,.string ⟨bs⟩] (.tuple #[fv x,tZ]):=λw =>
 (nS _ _ _ _ _ _ _ _ P ⟨bs⟩ C.ref w).mono (by
  rintro e w' ⟨v,rfl,f,a,b,c,d,ok,rfl,h1,g,i,-⟩;cases ok with
  | false=>exact absurd ⟨hs,by rw[hx];exact x.isLt⟩ (g Z)
  | true =>
   have k:=(h1 Z).2;rw[hx]at k;refine⟨_,Z,f,?_⟩;rw[C.toFld.four x |>.inj k])
def JS{bs:Bs}(C:Fl3 P)(hs:bs.size=32)(hx:¬beV bs.toList<P):yy 85 #[rv0,.string ⟨bs⟩] (.tuple #[nv (beV bs.toList),fZ]):=λw =>
 (nS _ _ _ _ _ _ _ _ P ⟨bs⟩ C.ref w).mono (by
  rintro e w' ⟨v,rfl,f,a,b,c,d,ok,rfl,h1,g,k,-⟩;cases ok with
  | true=>exact absurd (h1 Z).1.2 hx
  | false =>
   refine⟨_,Z,f,?_⟩;rw[(k hs).nv])
def FracT(t:T3 P)(p:EC.Pt P):Prop:=Frac t.1 t.2.1 t.2.2 p/\On p
def dbF(t:T3 P):T3 P:=(fdE t.2.1 t.2.2*fdT t.1 t.2.1 t.2.2,fdD t.1*(t.1*(fdE t.2.1 t.2.2*fdE t.2.1 t.2.2)-fdT t.1 t.2.1 t.2.2)-t.2.1*(fdE t.2.1 t.2.2*fdE t.2.1 t.2.2*fdE t.2.1 t.2.2),fdE t.2.1 t.2.2*fdE t.2.1 t.2.2*fdE t.2.1 t.2.2*t.2.2)
def plF(a b : T3 P): T3 P :=
  if a.2.2 = 0 then b else if b.2.2 = 0 then a else
  if b.1 * a.2.2 = a.1 * b.2.2 then(if b.2.1 * a.2.2 = a.2.1 * b.2.2 then dbF a else(0, 1, 0)) else
  ((b.1 * a.2.2 - a.1 * b.2.2) * frT (b.2.1 * a.2.2 - a.2.1 * b.2.2) (b.1 * a.2.2 - a.1 * b.2.2) (a.2.2 * b.2.2) (a.1 * b.2.2),
   (b.2.1 * a.2.2 - a.2.1 * b.2.2) * (a.1 * b.2.2 * ((b.1 * a.2.2 - a.1 * b.2.2) * (b.1 * a.2.2 - a.1 * b.2.2)) - frT (b.2.1 * a.2.2 - a.2.1 * b.2.2) (b.1 * a.2.2 - a.1 * b.2.2) (a.2.2 * b.2.2) (a.1 * b.2.2)) - a.2.1 * b.2.2 * ((b.1 * a.2.2 - a.1 * b.2.2) * (b.1 * a.2.2 - a.1 * b.2.2) * (b.1 * a.2.2 - a.1 * b.2.2)),
   (b.1 * a.2.2 - a.1 * b.2.2) * (b.1 * a.2.2 - a.1 * b.2.2) * (b.1 * a.2.2 - a.1 * b.2.2) * (a.2.2 * b.2.2))
def FracT.plus(C:Fl3 P){a b:T3 P}{p q:EC.Pt P}(h:FracT a p)(g:FracT b q):yy 27 #[tv a,tv b] (tv (plF a b))/\FracT (plF a b) (EC.add p q):=by
 have ho:=C.cur.on h.2 g.2;let⟨n,r,l⟩:=a
 let⟨o,m,i⟩:=b
 refine⟨Gg C n r l o m i _ (λk=>by unfold plF;rw[zd k]) (λk f=>by unfold plF;rw[zi k,zd f]) (λk f e=>?_) (λk f c=>by unfold plF;rw[zi k,zi f,zi c]),?_⟩
 .rcases h.1.plus C.cur h.2 g.1 g.2 k f with⟨c,d,e3⟩|⟨c,d,e3,j⟩|⟨c,d⟩
  .exact .inl ⟨d,by unfold plF;rw[zi k,zi f,zd c,zi d]⟩
  .exact .inr ⟨d,e3,by unfold plF;rw[zi k,zi f,zd c,zd d];rfl⟩
  exact absurd e c
 unfold plF;by_cases k:l=0
 .rw[zd k];obtain rfl:=h.1.zero k;exact g
 rw[zi k];by_cases f:i=0
 .rw[zd f];obtain rfl:=g.1.zero f;rw[bF];exact h
 rw[zi f];rcases h.1.plus C.cur h.2 g.1 g.2 k f with⟨c,d,e3⟩|⟨c,d,e3,j⟩|⟨c,d⟩
 .rw[zd c,zi d];refine⟨?_,ho⟩;rw[e3];exact Z
 .rw[zd c,zd d];refine⟨?_,ho⟩;rw[j];exact h.1.double C.cur h.2 k
 rw[zi c];exact⟨d,ho⟩
def FracT.none:FracT ((0,1,0):T3 P) .none:=⟨Z,jU⟩
def tmF(n:I)(t:T3 P):I->T3 P
 | 0=>(0,1,0)
 | m+1=>if n/2^(255-m)%2=1 then plF (plF (tmF n t m) (tmF n t m)) t else plF (tmF n t m) (tmF n t m)
def yE(C:Fl3 P){n:I}{t:T3 P}{p:EC.Pt P}(d:n<2^256)(h:FracT t p):∀m,m<=256->FracT (tmF n t m) (mul (n/2^(256-m)) p)
 | 0,_=>by
  rw[qp,I.div_eq_of_lt d];exact FracT.none
 | m+1,hm=>by
  have c:=yE C d h m S;have e:256-m=255-m+1:=S;rw[show 256-(m+1)=255-m by omega,CY n (255-m),<-e];unfold tmF;have k:=(FracT.plus C c c).2;rw[<-mul_add C.cur h.2,<-I.two_mul]at k;by_cases b:n/2^(255-m)%2=1
  .rw[zd b,b];exact(FracT.plus C k h).2
  rw[zi b,show n/2^(255-m)%2=0 by omega];exact k
def tU{x y:B P}(C:At P):Frac x y 1 (.some (x,y):EC.Pt P):=⟨λh=>C.cur.two (by grobner),by grobner,by grobner⟩
def gxB:Bs:=#[121,190,102,126,249,220,187,172,85,160,98,149,206,135,11,7,2,155,252,219,45,206,40,217,89,242,129,91,22,248,23,152]
def XH(C:At P):yy 165 #[.string ⟨gxB⟩] (fv (gX P)):=λw=>(Ix ⟨gxB⟩ Z w).mono (by
 rintro e w' ⟨v,rfl,b,k⟩;refine⟨_,Z,b,?_⟩;rw[k.nv];show nv _=nv _;rw[GV C];exact congrArg nv (by decide +kernel:beV gxB.toList=55066263022277343669578718895168534326250603453777594175500187360389116729240))
def Uv(C:At P):rt (gX P*gX P*gX P+7)=F (gY P):=by
 have h:=Ae C;have h1:gY P^2=gX P^3+7:=h;have k:gY P*gY P=gX P*gX P*gX P+7:=by
  generalize gX P=x at *;generalize gY P=y at *;clear h C
  grobner
 rw[Rj C k,zi];rw[GU C];decide
def gT(P:I)[NeZero P]:T3 P:=(gX P,gY P,1)
def CU(C:At P):FracT (gT P) (gG P):=⟨tU C,Ae C⟩
def Tw(C:Fl3 P):yy 97 #[] (tv (gT P)):=by
 intro w;go_enter func97,ntmps97;refine RG.M.enter [] 11 kR λa0 k=>?_
 refine Yt <| k.T [.m 0] [(0,RG.z 12)] [] [0] ⟨mk 0 68,yw⟩ λp i n c=>?_
 refine Yt <| c.T [.c (fv (gX P)),.m 1,.u 1] [(1,RG.z 4)] [(1,2,ws (gX P))] [0,1] ⟨cl (XH C.toFld),mk 1 54,RG.pt i33,yw⟩ λo j g b=>?_
 refine Yt <| b.T [.x (fv (gX P)),.c (.tuple #[rv (gX P) (gY P) (1:B P),tZ]),.x (.tuple #[rv (gX P) (gY P) (1:B P),tZ]),.x (rv (gX P) (gY P) (1:B P)),.x tZ,.m 2,.u 2,.x tZ] [(5,RG.z 12)] [(2,6,ws (gX P)++(ws (gY P)++(ws (1:B P))))] [0,2] ⟨ld u33 i33,cl (Iu C (gX P) (gY P) (Uv C.toFld)),st,st,st,mk 2 68,RG.pt i56,st,yw⟩ λl q r d=>?_
 refine Yt <| d.T [.x (rv (gX P) (gY P) (1:B P)),.u 0] [] [(0,1,ws (gX P)++(ws (gY P)++(ws (1:B P))))] [0] ⟨ld u56 i56,RG.pt i56,yw⟩ λm f e=>?_
 exact Zr (e.rr 0 Z u56 i56)
def Wt(w:Yp):(binOp .geq 3 (iZ i) (iZ 0)).run prog w=.ok tZ w:=by
 go_simp
def Vq(k:i<1000)(w:Yp):(binOp .sub 3 (iZ i) (iZ 1)).run prog w=.ok (iZ ((i:Y)-1)) w:=by
 have h:=ZG ((i:Y)-1) S;go_simp
def Tx(k:n<top)(b:i<256)(h:n/2^i%2=1):yy 106 #[nv n,iZ i] (U 1):=λw =>
 (tC _ n i (fD k) b w).mono (by rintro e w' ⟨v,rfl,c,t,rfl,d⟩;exact⟨_,Z,c,by rw[d,h];rfl⟩)
def Ty(k:n<top)(b:i<256)(h:¬n/2^i%2=1):yy 106 #[nv n,iZ i] (U 0):=λw =>
 (tC _ n i (fD k) b w).mono (by rintro e w' ⟨v,rfl,c,t,rfl,d⟩;exact⟨_,Z,c,by rw[d,show n/2^i%2=0 by omega];rfl⟩)
def lQ(C:Fl3 P)(n:I)(u:n<top)(t:T3 P){p:EC.Pt P}(h:FracT t p):yy 43 #[nv n,tv t] (tv (tmF n t 256)):=by
 intro w;go_enter func43,ntmps43;refine RG.M.enter [(0,.v (nv n)),(1,.v (tv t))] 23 kR λa0 b=>?_
 refine Yt <| b.T [.m 0,.m 1,.m 2] [(0,wn n),(1,tw t),(2,RG.z 12)] [] [2,3,4] ⟨mk 0 54,mk 1 68,mk 2 68,yw⟩ λO N L y A c=>?_
 refine Yt <| c.T [.c (tv ((0,1,0):T3 P)),.m 3,.u 3] [(1,RG.z 12)] [(3,2,tw ((0,1,0):T3 P))] [2,3,4,5] ⟨cl (Ia C),mk 3 68,RG.pt i56,yw⟩ λM z x d=>?_
 refine Yt <| Yt <| d.U [.x (iZ 255)] [2,3,4,5,6] ⟨st,yw⟩ λT V f=>?_
 repeat apply Yt
 apply ZR;refine yh (λm a wr=>m<=256/\RG.M w w.heap.size [] 23 [wn n,tw t,RG.z 12,tw (tmF n t (256-m))] [O,N,L,M] [(2,.p 0 0),(3,.p 1 0),(4,.p 2 0),(5,.p 3 0),(6,.v (iZ ((m:Y)-1)))] a wr) 256 ⟨Ys _,?_⟩ ?_
 .rw[oF,tmF];exact f.cv
 intro m a wr;rintro⟨hm,b⟩;have v:n<2^256:=u;generalize O=k2 at b;generalize N=k3 at b;generalize L=k4 at b;generalize M=k5 at b;by_cases hz:m=0
 .subst hz;have k:tmF n t (256-0)=tmF n t 256:=rfl;rw[k]at b;obtain⟨s,hs⟩:=vH (tmF n t 256);rw[hs]at b⊢;refine Yt <| Yt <| b.U [.x (iZ (-1)),.x fZ] [4,5,9] ⟨st,st,yw⟩ λy A c=>?_
  refine YY c.ev<|wp_exit ?_
  dsimp only[Exit.then,ri];rw[zd Z];refine Yt <| c.T [.x (tv s),.u 2] [] [(2,1,tw s)] [4] ⟨ld u56 i56,RG.pt i56,yw⟩ λz x d=>?_
  exact Zr (d.rr 2 Z u56 i56)
 obtain⟨i,rfl⟩:∃i,m=i+1:=⟨m-1,S⟩
 have Q:i<256:=S;rw[show((i+1:I):Y)-1=i by omega]at b;have l:=yE C v h (256-(i+1)) S;obtain⟨s,hs⟩:=vH (tmF n t (256-(i+1)));rw[hs]at b l;obtain⟨s2,q⟩:∃s2,s2=plF s s:=⟨_,Z⟩
 have e:=(l.plus C l).1;have j:=(l.plus C l).2;rw[<-q]at e j;obtain⟨s3,g⟩:∃s3,s3=plF s2 t:=⟨_,Z⟩
 have o:=(j.plus C h).1;rw[<-g]at o;have k:tmF n t (256-i)=if n/2^i%2=1 then s3 else s2:=by
  rw[show 256-i=256-(i+1)+1 by omega];show(if n/2^(255-(256-(i+1)))%2=1 then plF (plF (tmF n t (256-(i+1))) (tmF n t (256-(i+1)))) t else plF (tmF n t (256-(i+1))) (tmF n t (256-(i+1))))=_;rw[show 255-(256-(i+1))=i by omega,hs,<-q,<-g]
 by_cases r:n/2^i%2=1
 .rw[zd r]at k;refine Yt <| Yt <| b.U [.x (iZ i),.x tZ] [2,3,4,5,6,9] ⟨st,aH Z .geq (T:=3) 3 (t1:=8) (v1:=(iZ i)) (v2:=(iZ 0)) (v:=tZ) Z Z sx (λw=>kR) (Wt (i:=i)),yw⟩ λy A c=>?_
  refine Y5 c.ev<|ZK<|Yt<|ZR<|Yt <| c.T [.x (tv s),.x (tv s),.c (tv s2),.u 3] [] [(3,3,tw s2)] [2,3,4,5,6] ⟨ld u56 i56,ld u56 i56,cl e,RG.pt i56,yw⟩ λz x d=>?_
  refine Yt <| d.U [.x (nv n),.x (iZ i),.c (U 1),.x tZ] [2,3,4,5,6,18] ⟨ld u33 i33,st,cl (Tx u Q r),st,yw⟩ λT V f=>?_
  refine Y5 f.ev<|f.T [.x (tv s2),.x (tv t),.c (tv s3),.u 3] [] [(3,3,tw s3)] [2,3,4,5,6] ⟨ld u56 i56,ld u56 i56,cl o,RG.pt i56,yw⟩ λX W K=>?_
  refine K.U [.x (iZ i),.x (iZ ((i:Y)-1)),.x (iZ ((i:Y)-1))] [2,3,4,5,6] ⟨st,aH Z .sub (T:=3) 3 (t1:=10) (v1:=(iZ i)) (v2:=(iZ 1)) (v:=(iZ ((i:Y)-1))) Z Z sx (λw=>kR) (Vq (i:=i) S),st,yw⟩ λa5 w5 M5=>?_
  show ∃n',_;exact⟨i,um i,S,by rw[k];exact M5.cv⟩
 rw[zi r]at k;refine Yt <| Yt <| b.U [.x (iZ i),.x tZ] [2,3,4,5,6,9] ⟨st,aH Z .geq (T:=3) 3 (t1:=8) (v1:=(iZ i)) (v2:=(iZ 0)) (v:=tZ) Z Z sx (λw=>kR) (Wt (i:=i)),yw⟩ λy A c=>?_
 refine Y5 c.ev<|ZK<|Yt<|ZR<|Yt <| c.T [.x (tv s),.x (tv s),.c (tv s2),.u 3] [] [(3,3,tw s2)] [2,3,4,5,6] ⟨ld u56 i56,ld u56 i56,cl e,RG.pt i56,yw⟩ λz x d=>?_
 refine Yt <| d.U [.x (nv n),.x (iZ i),.c (U 0),.x fZ] [2,3,4,5,6,18] ⟨ld u33 i33,st,cl (Ty u Q r),st,yw⟩ λT V f=>?_
 refine YY f.ev<|ZK<|f.U [.x (iZ i),.x (iZ ((i:Y)-1)),.x (iZ ((i:Y)-1))] [2,3,4,5,6] ⟨st,aH Z .sub (T:=3) 3 (t1:=10) (v1:=(iZ i)) (v2:=(iZ 1)) (v:=(iZ ((i:Y)-1))) Z Z sx (λw=>kR) (Vq (i:=i) S),st,yw⟩ λX W K=>?_
 show ∃n',_;exact⟨i,um i,S,by rw[k];exact K.cv⟩
def Yn(n:I):H It:=[.x 3 [] (nv n),.c 4 [] (tv (gT P)),.c 5 [(3,0),(4,1)] (tv (tmF n (gT P) 256)),.u [(5,2)] 1]
def PH(C:Fl3 P)(n:I)(c:n<top):yy 28 #[nv n] (tv (tmF n (gT P) 256)):=by
 intro w;go_enter func28,ntmps28;refine RG.M.enter [(0,.v (nv n))] 6 kR λa0 k=>?_
 refine Yt <| k.T [.m 0,.m 1] [(0,wn n),(1,RG.z 12)] [] [1,2] ⟨mk 0 54,mk 1 68,yw⟩ λg e i l d=>?_
 refine Yt <| d.d (Yn (P:=P) n) [] [(1,3,tw (tmF n (gT P) 256))] [wn n,tw (tmF n (gT P) 256)] [(2,.p 1 0)] ⟨ld u33 i33,cl (Tw C),cl (lQ C n c (gT P) (CU C.toFld)),RG.pt i56,yw⟩ λf j b=>?_
 exact Zr (b.rr 1 Z u56 i56)
def Eb{x:B P}(C:At P):yy 40 #[fv x] (.string ⟨bx x.val⟩):=λw =>
 (yT _ _ w (C.four x)).mono (by
  rintro e w' ⟨v,rfl,g,a,b,c,d,k,rfl⟩;refine⟨_,Z,g,?_⟩;have f:fv x=.agg #[U ((x.val%18446744073709551616:I):Y),U ((x.val/18446744073709551616%18446744073709551616:I):Y),U ((x.val/340282366920938463463374607431768211456%18446744073709551616:I):Y),U ((x.val/6277101735386680763835789423207666416102355444464034512896%18446744073709551616:I):Y)]:=rfl;rw[f]at k;simp only[Y8.injEq,yt.mk.injEq,H.cons.injEq,ZO.injEq,true_and,and_true,Y.ofNat_inj]at k;obtain⟨rfl,rfl,rfl,rfl⟩:=k;rfl)
def u31:wZ 22:=wQ
def and1(b:n%2=r)(w:Yp):(binOp .and 22 (U ((n%18446744073709551616:I):Y)) (U 1)).run prog w=.ok (U r) w:=by
 have h:=and_one (v:=(n%18446744073709551616)) (ZL _ dC);rw[show n%18446744073709551616%2=r by omega]at h;generalize n%18446744073709551616=k at h⊢;go_simp
def cat{m:yv}(w:Yp):(binOp .add 9 (.string ⟨#[m]⟩) (.string ⟨bx n⟩)).run prog w=.ok (.string ⟨#[m]++bx n⟩) w:=by
 have h:=bP n;generalize bx n=b at h⊢;have k:(⟨#[m]⟩:R)++⟨b⟩=⟨#[m]++b⟩:=by
  rw[<-xu]
 go_simp
def bs1(m:Y)(w:Yp):(Z0 23 1 #[(0,.int .u8 m)]).run prog w=.ok (sZ w.heap.size 1 1) (w.alloc (.cells #[.int .u8 m] 5)):=by
 let⟨d,k,c⟩:=Yu.1 GN
 simp only[ZV.injEq]at c;obtain⟨h1,b,-⟩:=c;exact run_buildSlice w 23 5 1 _ #[.int .u8 m] d (.int .u8 0) LG k h1 (by rw[b];omega) (by rw[b];omega) (by rw[b];kernel_rfl)
def str1(m:yv)(w:Yp)(k:I)(h:w.rangeAt k 0 [.int .u8 (ub m)]):(convert 23 9 (sZ k 1 1)).run prog w=.ok (.string ⟨#[m]⟩) w:=by
 have d:=run_convert_bytes_back (P:=prog) w 23 9 5 (aZ k) 1 [m] slice22 int5 str9 (λj e=>by
  obtain rfl:j=0:=by simpa using e
  have b:=h 0 _ Z;have c:(⟨k,0,G⟩:ai).add 0=⟨k,0,G⟩:=rfl;rw[c,b];simp[ub])
 simpa using d
omit [NeZero P] in
theorem SC(x y z:B P):∃j b1 c1 g b c c2 k f i d e:I,rv x y z=.agg #[U j,U b1,U c1,U g,U b,U c,U c2,U k,U f,U i,U d,U e]:=
 ⟨_,_,_,_,_,_,_,_,_,_,_,_,Z⟩
def VI(C:Fl3 P)(x y z:B P)(i:z=0):yy 30 #[rv x y z] (.string ⟨Jz⟩):=by
 intro w;have c:=Ic C x y z i;let⟨m,b1,c1,o,n,p,c2,q,s,l,r,j,e⟩:=SC x y z
 rw[e]at c⊢;have g:=V6;go_enter func30,ntmps30;go_wp2_with fail
 apply(c _).mono;rintro e k ⟨v,rfl,b,rfl⟩;have d:E (kZ w k):=(aD _).trans (b.mono (by simp));have f:(convert 23 9 (sZ k.heap.size 33 33)).run prog (k.alloc (.cells (madeCells #[.int .u8 0] 33) 5))=.ok (.string ⟨Jz⟩) (k.alloc (.cells (madeCells #[.int .u8 0] 33) 5)):=
  conv_str prog 23 9 5 slice22 int5 str9 _ _ 0 33 33 _ (Holds.made (enc:=encB) k 5 33 (0:yv)) dC
 clear b c;go_wp2;go_ret;exact⟨_,Z,d.trans ((aD _).mono d.size),Z⟩
theorem Py(C:Fl3 P)(x y z:B P)(r:¬z=0)(d:(y*inv z).val%2=0):yy 30 #[(rv x y z)] (.string ⟨#[2]++bx (x*inv z).val⟩):=by
 intro w;obtain⟨c1,g⟩:∃c,c=inv z:=⟨_,Z⟩
 obtain⟨c2,e⟩:∃c,c=x*c1:=⟨_,Z⟩
 obtain⟨b,f⟩:∃c,c=y*c1:=⟨_,Z⟩
 go_enter func30,ntmps30;refine RG.M.enter [(0,.v (rv x y z))] 36 kR λa0 j=>?_
 refine Yt <| j.T [.m 0,.x (.string ⟨#[]⟩)] [(0,ws x++(ws y++(ws z)))] [] [1,2] ⟨mk 0 68,st,yw⟩ λW u T m=>?_
 refine Yt <| m.U [.x (rv x y z),.c (.bool D),.x (.bool D)] [1,2,3] ⟨ld u56 i56,cl (Do C x y z r),st,yw⟩ λa t l=>?_
 refine Yt <| Yt <| l.U [.x (.bool D)] [1,2,9] ⟨st,yw⟩ λX w3 i=>?_
 refine YY i.ev ?_;refine ZK ?_;refine Yt <| i.D [.c rv0,.s (.p 0 8),.x (fv z),.c (fv c1),.m 1,.u 1] [(4,RG.z 4)] [(1,5,ws c1)] [1,2,4] ⟨cl bR,st,ld u33 i33,cl ((MC C (x:=z)).e g),mk 1 54,RG.pt i33,yw⟩ λA L s p=>?_
 refine Yt <| p.D [.c rv0,.s (.p 0 0),.x (fv x),.x (fv c1),.c (fv c2),.m 2,.u 2] [(5,RG.z 4)] [(2,6,ws c2)] [1,2,4,5] ⟨cl bR,st,ld u33 i33,ld u33 i33,cl ((bD C (x:=x) (y:=c1)).e e),mk 2 54,RG.pt i33,yw⟩ λN V v q=>?_
 refine Yt <| q.D [.c rv0,.s (.p 0 4),.x (fv y),.x (fv c1),.c (fv b),.m 3,.u 3] [(5,RG.z 4)] [(3,6,ws b)] [2,5,6] ⟨cl bR,st,ld u33 i33,ld u33 i33,cl ((bD C (x:=y) (y:=c1)).e f),mk 3 54,RG.pt i33,yw⟩ λQ K M n=>?_
 refine Yt <| n.d [.s 26 [] (.p 3 0),.x 27 [(26,0)] (U ((b.val%18446744073709551616:I):Y)),.x 28 [(27,1)] (U 0),.x 29 [(28,2)] (.int .u8 0),.x 30 [(29,3)] (.int .u8 2),⟨F 31,[(30,4)],.s 4 1 1,.make 4⟩,.x 32 [(31,5)] (.string ⟨#[2]⟩),.x 33 [] (fv c2),.c 34 [(33,7)] (.string ⟨bx c2.val⟩),.x 35 [(32,6),(34,8)] (.string ⟨#[2]++bx c2.val⟩),.x 2 [(35,9)] (.string ⟨#[2]++bx c2.val⟩)] [(5,[.int .u8 2])] [] [ws x++(ws y++(ws z)),ws c1,ws c2,ws b,[.int .u8 2]] [(2,.v (.string ⟨#[2]++bx c2.val⟩))] ⟨dH Z 54 (t:=6) (iZ 0) Z (.p 3 0) sx (λμ w=>kR),mV Z (b:=3) (off:=0) Z Z kR (T:=22) (t:=26) Z (v:=(U ((b.val%18446744073709551616:I):Y))) Z sx Z u31,aH Z .and (T:=22) 22 (t1:=27) (v1:=(U ((b.val%18446744073709551616:I):Y))) (v2:=(U 1)) (v:=(U 0)) Z Z sx (λw=>kR) (and1 (n:=b.val) (r:=0) (by subst_vars;exact d)),qM Z 22 5 (t:=28) (v:=(U 0)) (b:=(.int .u8 0)) Z Z sx (λw=>kR),st,AK 4 Z Z (T:=23) (E:=5) (t:=30) (v:=(.int .u8 2)) Z Z sx (bs1 2),AE Z (b:=4) 5 Z Z Z kR kR 23 9 (t:=31) (n:=1) (.string ⟨#[2]⟩) Z Z sx (λw k h=>str1 2 w k h),ld u33 i33,cl (Eb C.toFld (x:=c2)),aQ Z .add (T:=9) 9 (t1:=32) (t2:=34) (v1:=(.string ⟨#[2]⟩)) (v2:=(.string ⟨bx c2.val⟩)) (v:=(.string ⟨#[2]++bx c2.val⟩)) Z Z sx sx (λw=>kR) (cat (m:=2)),st,yw⟩ λj7 a7 O o=>?_
 subst_vars
 exact Zr o.rt
theorem Px(C:Fl3 P)(x y z:B P)(r:¬z=0)(d:(y*inv z).val%2=1):yy 30 #[(rv x y z)] (.string ⟨#[3]++bx (x*inv z).val⟩):=by
 intro w;obtain⟨c1,g⟩:∃c,c=inv z:=⟨_,Z⟩
 obtain⟨c2,e⟩:∃c,c=x*c1:=⟨_,Z⟩
 obtain⟨b,f⟩:∃c,c=y*c1:=⟨_,Z⟩
 go_enter func30,ntmps30;refine RG.M.enter [(0,.v (rv x y z))] 36 kR λa0 j=>?_
 refine Yt <| j.T [.m 0,.x (.string ⟨#[]⟩)] [(0,ws x++(ws y++(ws z)))] [] [1,2] ⟨mk 0 68,st,yw⟩ λW u T m=>?_
 refine Yt <| m.U [.x (rv x y z),.c (.bool D),.x (.bool D)] [1,2,3] ⟨ld u56 i56,cl (Do C x y z r),st,yw⟩ λa t l=>?_
 refine Yt <| Yt <| l.U [.x (.bool D)] [1,2,9] ⟨st,yw⟩ λX w3 i=>?_
 refine YY i.ev ?_;refine ZK ?_;refine Yt <| i.D [.c rv0,.s (.p 0 8),.x (fv z),.c (fv c1),.m 1,.u 1] [(4,RG.z 4)] [(1,5,ws c1)] [1,2,4] ⟨cl bR,st,ld u33 i33,cl ((MC C (x:=z)).e g),mk 1 54,RG.pt i33,yw⟩ λA L s p=>?_
 refine Yt <| p.D [.c rv0,.s (.p 0 0),.x (fv x),.x (fv c1),.c (fv c2),.m 2,.u 2] [(5,RG.z 4)] [(2,6,ws c2)] [1,2,4,5] ⟨cl bR,st,ld u33 i33,ld u33 i33,cl ((bD C (x:=x) (y:=c1)).e e),mk 2 54,RG.pt i33,yw⟩ λN V v q=>?_
 refine Yt <| q.D [.c rv0,.s (.p 0 4),.x (fv y),.x (fv c1),.c (fv b),.m 3,.u 3] [(5,RG.z 4)] [(3,6,ws b)] [2,5,6] ⟨cl bR,st,ld u33 i33,ld u33 i33,cl ((bD C (x:=y) (y:=c1)).e f),mk 3 54,RG.pt i33,yw⟩ λQ K M n=>?_
 refine Yt <| n.d [.s 26 [] (.p 3 0),.x 27 [(26,0)] (U ((b.val%18446744073709551616:I):Y)),.x 28 [(27,1)] (U 1),.x 29 [(28,2)] (.int .u8 1),.x 30 [(29,3)] (.int .u8 3),⟨F 31,[(30,4)],.s 4 1 1,.make 4⟩,.x 32 [(31,5)] (.string ⟨#[3]⟩),.x 33 [] (fv c2),.c 34 [(33,7)] (.string ⟨bx c2.val⟩),.x 35 [(32,6),(34,8)] (.string ⟨#[3]++bx c2.val⟩),.x 2 [(35,9)] (.string ⟨#[3]++bx c2.val⟩)] [(5,[.int .u8 3])] [] [ws x++(ws y++(ws z)),ws c1,ws c2,ws b,[.int .u8 3]] [(2,.v (.string ⟨#[3]++bx c2.val⟩))] ⟨dH Z 54 (t:=6) (iZ 0) Z (.p 3 0) sx (λμ w=>kR),mV Z (b:=3) (off:=0) Z Z kR (T:=22) (t:=26) Z (v:=(U ((b.val%18446744073709551616:I):Y))) Z sx Z u31,aH Z .and (T:=22) 22 (t1:=27) (v1:=(U ((b.val%18446744073709551616:I):Y))) (v2:=(U 1)) (v:=(U 1)) Z Z sx (λw=>kR) (and1 (n:=b.val) (r:=1) (by subst_vars;exact d)),qM Z 22 5 (t:=28) (v:=(U 1)) (b:=(.int .u8 1)) Z Z sx (λw=>kR),st,AK 4 Z Z (T:=23) (E:=5) (t:=30) (v:=(.int .u8 3)) Z Z sx (bs1 3),AE Z (b:=4) 5 Z Z Z kR kR 23 9 (t:=31) (n:=1) (.string ⟨#[3]⟩) Z Z sx (λw k h=>str1 3 w k h),ld u33 i33,cl (Eb C.toFld (x:=c2)),aQ Z .add (T:=9) 9 (t1:=32) (t2:=34) (v1:=(.string ⟨#[3]⟩)) (v2:=(.string ⟨bx c2.val⟩)) (v:=(.string ⟨#[3]++bx c2.val⟩)) Z Z sx sx (λw=>kR) (cat (m:=3)),st,yw⟩ λj7 a7 O o=>?_
 subst_vars
 exact Zr o.rt
def mI(C:Fl3 P){t:T3 P}{p:EC.Pt P}(h:FracT t p):yy 30 #[tv t] (.string ⟨wr p⟩):=by
 let⟨x,y,z⟩:=t
 match p,h with
 | none,h=>exact VI C x y z h.1
 | some (a,b),h =>
  let⟨⟨c,hx,d⟩,ho⟩:=h
  have g:=inv_mul C.toFld.cur.pr c;have f:x*inv z=a:=by
   have hx:x=a*z:=hx;rw[hx]
   grobner
  have e:y*inv z=b:=by
   have d:y=b*z:=d;rw[d]
   grobner
  show yy _ #[rv x y z] (.string ⟨#[mark b.val]++bx a.val⟩);rw[<-f,<-e];unfold mark;by_cases k:(y*inv z).val%2=1
  .rw[zd k];exact Px C x y z c k
  rw[zi k];exact Py C x y z c S
def Ob(l:H yv):beV l<256^l.length:=by
 induction l with
 | nil=>decide
 | cons x r ih =>
  have h:=fK [x] r;rw[show [x]++r=x :: r from Z]at h;have hx:beV [x]=x.toNat:=by simp[beV]
  have k:=x.toNat_lt;rw[h,hx,Y2,Z5,Ze (256^r.length)];have:=te (256^r.length) (show x.toNat+1<=256 by omega);rw[I.add_mul,I.one_mul]at this;omega
def Q5:prog.underlying 103=F (.array 33 5):=kR
def gU{b:Bs}(h:b.size=33):aA b=[.int .u8 (ub b[0]!),.int .u8 (ub b[1]!),.int .u8 (ub b[2]!),.int .u8 (ub b[3]!),.int .u8 (ub b[4]!),.int .u8 (ub b[5]!),.int .u8 (ub b[6]!),.int .u8 (ub b[7]!),.int .u8 (ub b[8]!),.int .u8 (ub b[9]!),.int .u8 (ub b[10]!),.int .u8 (ub b[11]!),.int .u8 (ub b[12]!),.int .u8 (ub b[13]!),.int .u8 (ub b[14]!),.int .u8 (ub b[15]!),.int .u8 (ub b[16]!),.int .u8 (ub b[17]!),.int .u8 (ub b[18]!),.int .u8 (ub b[19]!),.int .u8 (ub b[20]!),.int .u8 (ub b[21]!),.int .u8 (ub b[22]!),.int .u8 (ub b[23]!),.int .u8 (ub b[24]!),.int .u8 (ub b[25]!),.int .u8 (ub b[26]!),.int .u8 (ub b[27]!),.int .u8 (ub b[28]!),.int .u8 (ub b[29]!),.int .u8 (ub b[30]!),.int .u8 (ub b[31]!),.int .u8 (ub b[32]!)]:=by
 apply vj;intro i;by_cases k:i<33
 .rw[uB (bs:=b) (i:=i) S];match i,k with
  | 0,_=>rfl
  | 1,_=>rfl
  | 2,_=>rfl
  | 3,_=>rfl
  | 4,_=>rfl
  | 5,_=>rfl
  | 6,_=>rfl
  | 7,_=>rfl
  | 8,_=>rfl
  | 9,_=>rfl
  | 10,_=>rfl
  | 11,_=>rfl
  | 12,_=>rfl
  | 13,_=>rfl
  | 14,_=>rfl
  | 15,_=>rfl
  | 16,_=>rfl
  | 17,_=>rfl
  | 18,_=>rfl
  | 19,_=>rfl
  | 20,_=>rfl
  | 21,_=>rfl
  | 22,_=>rfl
  | 23,_=>rfl
  | 24,_=>rfl
  | 25,_=>rfl
  | 26,_=>rfl
  | 27,_=>rfl
  | 28,_=>rfl
  | 29,_=>rfl
  | 30,_=>rfl
  | 31,_=>rfl
  | 32,_=>rfl
  | n+33,h=>exact absurd h S
 rw[qz (by rw[aB h];omega),qz (by show 33<=i;omega)]
def bytes_eq{a b:Bs}(c:a.size=33)(f:b.size=33):(∀i∈ZD 33,ub a[i]! = ub b[i]!)↔a=b:=by
 constructor
 .intro h;apply yt.ext (by rw[c,f]);intro i h1 e;have k:=h i (Z6.2 S);rw[getElem!_pos a i h1,getElem!_pos b i e]at k;have d:a[i].toNat=b[i].toNat:=by unfold ub at k;omega
  exact yv.toNat_inj.1 d
 rintro rfl i _;rfl
def X0{a b:Bs}(d:a.size=33)(e:b.size=33)(w:Yp):(Op.equal 103 (.agg (aA a).toArray) (.agg (aA b).toArray)).run prog w=.ok (decide (a=b)) w:=by
 have c:(prog.info? 5).isSome=J:=kR;let⟨f,k⟩:=ZT.1 c
 show(Op.equalIn 10000 103 _ _).run prog w=_;rw[run_equalIn_array w 9999 _ _ Q5 k,cells5,
  eqI _ _ w (ZD 33) (λi c=>by
   rw[YV];exact uB (by rw[d];exact Z6.1 c)) (λi c=>by
   rw[YV];exact uB (by rw[e];exact Z6.1 c))]
 rw[decide_eq_decide.2 (bytes_eq d e)]
def Jc{b:Bs}(k:b.size=33)(e:zk)(w:Yp):(Instr.checkKey e 10000 103 (.agg (aA b).toArray)).run prog w=.ok () w:=by
 rw[gU k];kernel_rfl
def at?(b:Bs):H Bs->I->zb I
 | [],_=>G
 | k :: r,i=>if b=k then F i else at? b r (i+1)
def ents:H Bs->I->H MapEntry
 | [],_=>[]
 | k :: r,i=>{ key:=.agg (aA k).toArray,val:=iZ i,born:=i } :: ents r (i+1)
def EJ{b:Bs}(d:b.size=33)(w:Yp):∀(D:H Bs) (i:I),(∀k∈D,k.size=33)->(yEw 103 (.agg (aA b).toArray) (ents D i) i).run prog w=.ok ((at? b D i).map λj=>(j,iZ j)) w
 | [],i,_=>rfl
 | k :: r,i,h=>by
  have e:=EJ d w r (i+1) (λx hx=>h x (Zd _ hx));have f:=X0 d (h k Zm) w;unfold ents yEw at?;simp only[YU,f,Zp];by_cases c:b=k
  .simp only[c,decide_true,if_true,gM,zb.map_some]
  simp only[c,decide_false,zk.false_eq_true,if_false,e]
def IQ{D:H Bs}{b:Bs}(c:b.size=33)(h:∀k∈D,k.size=33)(w:Yp):(yE8 103 (.agg (aA b).toArray) (ents D 0)).run prog w=.ok ((at? b D 0).map λj=>(j,iZ j)) w:=by
 rw[yE8,YU,uh Q5 w,Zp];cases D with
 | nil=>rfl
 | cons k r =>
  have h1:Instr.findNow (.array 33 5) (.agg (aA b).toArray) (ents (k :: r) 0) 0=G:=rfl;simp only[h1];exact EJ c w (k :: r) 0 h
def at?_none{b:Bs}:∀ {D:H Bs}{i:I},at? b D i=G↔b ∉ D
 | [],i=>by simp[at?]
 | k :: r,i=>by
  unfold at?;by_cases h:b=k
  .simp[h]
  simp[h,at?_none (D:=r) (i:=i+1)]
section
section
variable {P:Zw}{ops:Array Y9}{rest:List Y9}{op:Y9}{a:Act}{w w':Yp}{v u:Yq}{Q:Exit->Act->Yp->Prop}
def aG(k:op.guard=G)(T:YW)(x:am)(ho:op.op=.box T x)(hx:a.eval x=u)(b:(ZM T u).run P w=.ok v w')(h:wpList P ops Q rest (a.put op.dst v) w'):wpList P ops Q (op :: rest) a w:=
 gH k λK c=>by
  unfold ZY Za;simp only[ho,hx,YU,b,Zp,gM];exact c _ _ h
end
variable {N:Nat}
def gI:gZ 103 33:=gQ
def uCP:yZ 103:=yQ
def AP{a:Bs}(k:a.size=33)(w:Yp):(ZM 103 (.agg (aA a).toArray)).run prog w=.ok (jZ w.heap.size) (w.alloc (.cells (aA a).toArray 103)):=by
 rw[gU k];kernel_rfl
def Vr(k:I)(w:Yp):(gS 103 (jZ k) G G G).run prog w=.ok (sZ k 33 33) w:=kR
theorem row_holds{k:I}{a:Bs}(h:yz W k (aA a)):hZ W k 0 a:=cb_holds h.2.1 h.2.2
def yO{k:I}{a:Bs}(b:a.size=33)(h:yz W k (aA a)):PartOk W (sZ k 33 33) a.toList:=
 ⟨_,k,0,33,a,by rw[b],Z,S,S,YZ ⟨Z,row_holds h⟩⟩
def SU{L:Bs}(h:hZ W r 0 L):yx SP.encB W r 0 L:=h
def SS{L:Bs}(h:yx SP.encB W r 0 L):hZ W r 0 L:=h
end
def Jp(g k:I)(w:Yp):(Instr.arrayAt 103 (sZ g 33 k)).run prog w=.ok (jZ g) w:=kR
def nQ{k:I}{a:Bs}(b:hZ W k 0 a)(c:k<W.heap.size):yz W k (aA a):=⟨c,(uA b).1,(uA b).2⟩
def eH{a:Bs}:(aA a).toArray.all (·.oneCell')=J:=by
 rw[oT];intro v hv;obtain⟨x,-,rfl⟩:=YT.1 (yp.1 hv);rfl
def pvl(a:Bs):Yq:=.agg (aA a).toArray
def Ww(C:At P):yy 63 #[] (pvl (wr (gG P))):=by
 intro w;let⟨T,hT⟩:∃T,E (wr (gG P)=T):=⟨_,Z⟩
 have s:T.size=33:=hT.out▸aY _;rw[hT.out];let⟨f,c⟩:∃f,E (w.alloc (.cells z33.toArray 103)=f):=⟨_,Z⟩
 have p:E (yz f w.heap.size z33/\kZ w f):=by rw[<-c.out];exact⟨aF,aD _⟩
 let⟨d,n,m⟩:=Yu.1 uCP
 have z:E (prog.underlying 103=F d/\d.isRow=J):=⟨n,m⟩
 clear n m;go_enter func63,ntmps63;go_wp2_with (refine bY (v:=jZ w.heap.size) (w':=f) Z (.alloc 103) Z ?_ ?_;(rw[<-c.out];kernel_rfl))
 apply(U8 C f).mono;rintro e l ⟨L,rfl,b,g,K,rfl,-,A,u,t⟩;rw[hT.out]at t;have q:E (yz l w.heap.size z33/\kZ w l/\yz l g (aA T)):=⟨p.1.below b,p.2.trans (b.mono p.2.size),nQ t u⟩
 clear b A u t p c;have a:=Jp g K;let⟨r,i⟩:∃r,E (l.setCells w.heap.size 0 (aA T)=r):=⟨_,Z⟩
 have k:(aA T).length=33:=aB s;have x:E (yz r w.heap.size (aA T)/\kZ w r):=by rw[<-i.out];exact⟨q.1.put (by rw[k];rfl),RG.below_setCells (Ys _) _ _ _ q.2.1⟩
 let⟨y,j⟩:∃y,E (Y8 (aA T).toArray=y):=⟨_,Z⟩
 have o:E (gZ 103 (aA T).length/\l.there w.heap.size 0 (aA T).toArray.size/\gZ 103 (aA T).toArray.size):=by
  have e:(aA T).toArray.size=33:=by rw[Zq];exact k
  refine⟨by rw[k];exact gI,by rw[e];exact q.1.2.2,by rw[e];exact gI⟩
 clear k;go_wp2_with (first|(refine Zu Z 103 _ Z g 0 ?_ (aA T) d ?_ ?_ ?_ ?_ ?_;rfl;exact q.2.2.2.1;exact z.1;exact z.2;exact o.1;rw[j.out])|(refine ZJ Z 103 _ _ Z w.heap.size 0 (aA T).toArray ?_ ?_ ?_ ?_ ?_ ?_;rfl;exact j.symm;exact o.2.1;exact o.2.2;exact eH;rw[show(aA T).toArray.toList=aA T from Z,i.out]))
 refine YB (aC 0 Z x.1 Z uCP o.1) Z ?_;exact⟨_,Z,x.2,Z⟩
section
section
variable {P:Zw}{ops:Array Y9}{rest:List Y9}{op:Y9}{a:Act}{w w':Yp}{v:Yq}{Q:Exit->Act->Yp->Prop}
def xY(b:op.guard=G)(T:YW)(k:yt (I × am))(ho:op.op=.build T k)(vs:yt (I × Yq))(hx:(k.map λ(i,x)=>(i,a.eval x))=vs)(c:(yCw T vs).run P w=.ok v w')(h:wpList P ops Q rest (a.put op.dst v) w'):wpList P ops Q (op :: rest) a w:=
 gH b λK d=>by
  unfold ZY Za;simp only[ho,hx,YU,c,Zp,gM];exact d _ _ h
def xX(b:op.guard=G)(T:YW)(n:I)(k:yt (I × am))(ho:op.op=.buildSlice T n k)(vs:yt (I × Yq))(hx:(k.map λ(i,x)=>(i,a.eval x))=vs)(c:(Z0 T n vs).run P w=.ok v w')(h:wpList P ops Q rest (a.put op.dst v) w'):wpList P ops Q (op :: rest) a w:=
 gH b λK d=>by
  unfold ZY Za;simp only[ho,hx,YU,c,Zp,gM];exact d _ _ h
end
def WT{a:Bs}(k:a.size=33)(n:I)(w:Yp):(yCw 226 #[(0,nv n),(1,pvl a)]).run prog w=.ok (.agg (wn n++aA a).toArray) w:=by
 rw[pvl,gU k];kernel_rfl
def WO{a:Bs}(k:a.size=33)(n:I)(w:Yp):(Z0 131 1 #[(0,.agg (wn n++aA a).toArray)]).run prog w=.ok (sZ w.heap.size 1 1) (w.alloc (.cells (wn n++aA a).toArray 226)):=by
 rw[gU k];kernel_rfl
def boxS(n:I)(w:Yp):(ZM 49 (nv n)).run prog w=.ok (jZ w.heap.size) (w.alloc (.cells (wn n).toArray 49)):=kR
def BG(a:Bs)(p:a.size=33)(n:I)(w:Yp):Zl prog 64 #[pvl a,nv n] w (rZ w λe w'=>∃k,e=sZ k 1 1/\w.heap.size<=k/\yz w' k (wn n++aA a)):=by
 have Q:=Hid.mk' (AP p w);obtain⟨c,j⟩:=hE (w.alloc (.cells (aA a).toArray 103));rw[j.out]at Q;have t:c.heap.size=w.heap.size+1:=by rw[<-j.out,YE]
 have y:=Hid.mk' (boxS n c);obtain⟨b,f⟩:=hE (c.alloc (.cells (wn n).toArray 49));rw[f.out,t]at y;have N:b.heap.size=w.heap.size+2:=by rw[<-f.out,YE,t]
 have P:=Hid.mk' (WT p n b);have s:=Hid.mk' (WO p n b);obtain⟨o,l⟩:=hE (b.alloc (.cells (wn n++aA a).toArray 226));rw[l.out,N]at s;have K:E (yz b w.heap.size (aA a)/\yz b (w.heap.size+1) (wn n)/\kZ w o/\yz o (w.heap.size+2) (wn n++aA a)):=by
  have m:yz c w.heap.size (aA a):=by rw[<-j.out];exact aF (w:=w)
  have q:yz b (w.heap.size+1) (wn n):=by rw[<-f.out,<-t];exact aF (w:=c)
  have r:yz o (w.heap.size+2) (wn n++aA a):=by rw[<-l.out,<-N];exact aF (w:=b)
  have b1:kZ w c:=by rw[<-j.out];exact aD (w:=w) _
  have g:kZ c b:=by rw[<-f.out];exact aD (w:=c) _
  have i:kZ b o:=by rw[<-l.out];exact aD (w:=b) _
  exact⟨m.below g,q,(b1.trans (g.mono S)).trans (i.mono S),r⟩
 have T:E ((prog.info? 103).map (·.size)=F (aA a).length):=by show _=_;rw[aB p];exact gI
 obtain⟨d,A,x⟩:=Yu.1 uCP;obtain⟨L,r,C⟩:=Yu.1 u40;have q:E ((prog.underlying 103=F d/\d.isRow=J)/\prog.underlying 49=F L/\L.isRow=J):=⟨⟨A,x⟩,r,C⟩
 obtain⟨va,i⟩:=hE (pvl a);obtain⟨z,g⟩:=hE (nv n);obtain⟨O,m⟩:=hE (Y8 (wn n++aA a).toArray);have M:E ((ZM 103 va).run prog w=.ok (jZ w.heap.size) c):=by rw[<-i.out];exact Q
 rw[g.out]at y;rw[i.out,g.out,m.out]at P;rw[m.out]at s;rw[i.out,g.out];go_enter func64,ntmps64;go_wp2_with (first|(refine aG (u:=va) (v:=jZ w.heap.size) (w':=c) Z 103 (.tmp 0) Z ?_ ?_ ?_;rfl;exact M)|(refine aG (u:=z) (v:=jZ (w.heap.size+1)) (w':=b) Z 49 (.tmp 1) Z ?_ ?_ ?_;rfl;exact y)|(refine Zu Z 49 _ Z (w.heap.size+1) 0 ?_ (wn n) L ?_ ?_ ?_ ?_ ?_;rfl;exact K.2.1.2.1;exact q.2.1;exact q.2.2;exact zy;rw[show Y8 (wn n).toArray=z from g.out])|(refine Zu Z 103 _ Z w.heap.size 0 ?_ (aA a) d ?_ ?_ ?_ ?_ ?_;rfl;exact K.1.2.1;exact q.1.1;exact q.1.2;exact T;rw[show Y8 (aA a).toArray=va from i.out])|(refine xY (v:=O) (w':=b) Z 226 _ Z #[(0,z),(1,va)] ?_ ?_ ?_;kernel_rfl;exact P)|(refine xX (v:=sZ (w.heap.size+2) 1 1) (w':=o) Z 131 1 _ Z #[(0,O)] ?_ ?_ ?_;kernel_rfl;exact s))
 go_ret;exact⟨_,Z,K.2.2.1,w.heap.size+2,Z,S,K.2.2.2⟩
end
def Yb{a:Bs}(k:a.size=33)(n:I)(w:Yp):(ZM 226 (.agg (wn n++aA a).toArray)).run prog w=.ok (jZ w.heap.size) (w.alloc (.cells (wn n++aA a).toArray 226)):=by
 rw[gU k];kernel_rfl
def Yc:(yCw 49 #[]).run prog w=.ok (nv 0) w:=kR
def tvl(n:I)(a:Bs):Yq:=.agg (wn n++aA a).toArray
def kY{k:I}(h:W.rangeAt k 0 (xs++ys)):W.rangeAt k 0 xs:=λj v b=>h j v (by rw[Zc (YF.1 b).1];exact b)
def mH{k:I}(h:W.rangeAt k 0 (xs++ys)):W.rangeAt k xs.length ys:=λj v b=>by
 have:=h (xs.length+j) v (by rw[Zx (xt _ _),I.add_sub_cancel_left];exact b);rwa[Yv]at this
def MV(q:n<top){a:Bs}(s:a.size=33):yy 205 #[tvl n a] (.bool (decide (n=0))):=by
 intro w;have l:=Hid.mk' (Yb s n w);obtain⟨k,e⟩:=hE (w.alloc (.cells (wn n++aA a).toArray 226));rw[e.out]at l;have K:E (yz k w.heap.size (wn n++aA a)/\kZ w k):=by rw[<-e.out];exact⟨aF (w:=w),aD (w:=w) _⟩
 obtain⟨t,f,g⟩:=Yu.1 u40;have p:=mk2 f g;obtain⟨va,d⟩:=hE (tvl n a);obtain⟨m,c⟩:=hE (nv n);obtain⟨v0,b⟩:=hE (nv 0);have i:E ((ZM 226 va).run prog w=.ok (jZ w.heap.size) k):=by rw[<-d.out];exact l
 have r:E ((yCw 49 #[]).run prog k=.ok v0 k):=by rw[<-b.out];exact Yc (w:=k)
 have j:=Hid.mk' (eqS q (show 0<top by unfold top;omega) (w:=k));rw[c.out,b.out]at j;have x:=j.out;obtain⟨z,o⟩:=hE (decide (n=0));rw[o.out]at x;have y:(eqGuard .eql 49 (.tmp 4) (.tmp 5) m v0).run prog k=.ok () k:=by rw[<-c.out,<-b.out];kernel_rfl
 rw[d.out,o.out];clear l j;go_enter func205,ntmps205;go_wp2_with (first|(refine aG (u:=va) (v:=jZ w.heap.size) (w':=k) Z 226 (.tmp 0) Z ?_ ?_ ?_;rfl;exact i.out)|(refine Zu Z 49 _ Z w.heap.size 0 ?_ (wn n) t ?_ ?_ ?_ ?_ ?_;rfl;exact kY K.1.2.1;exact p.1;exact p.2;exact zy;rw[show Y8 (wn n).toArray=m from c.out])|(refine xY (v:=v0) (w':=k) Z 49 _ Z #[] ?_ ?_ ?_;kernel_rfl;exact r.out))
 go_wp2;go_ret;exact⟨_,Z,K.2,Z⟩
def uT:yZ 226:=yQ
def iT:gZ 226 37:=gQ
def atT(k o c:I)(b:i<n)(w:Yp):(ZW 131 (qZ k o n c) (iZ i)).run prog w=.ok (oZ k (o+37*i)) w:=by
 go_simp
def lJ(ns:I->I):I->I->Y
 | _,0=>-1
 | i,m+1=>if ns i=0 then(i:Y) else lJ ns (i+1) m
def Sy(b:zk):H It:=[.x 9 [] (.bool b)]
def Sx(g k c i n:I)(a:Bs)(z:zk):H It:=[.x 11 [] (.func (.func 205) #[] #[]),.x 12 [] (sZ g k c),.x 13 [] (iZ i),.x 14 [(12,1),(13,2)] (oZ g (0+37*i)),.x 15 [(14,3)] (tvl n a),.c 16 [(11,0),(15,4)] (.bool z)]
def IU(g k c:I)(hk:k<=1000000)(ns:I->I)(P:I->Bs)(hn:∀j,j<k->ns j<top)(ha:∀j,j<k->(P j).size=33)(w:Yp)(hg:g<w.heap.size)(hr:∀j,j<k->w.rangeAt g (37*j) (wn (ns j)++aA (P j))):
 eZ 230 #[sZ g k c,.func (.func 205) #[] #[]] w (iZ (lJ ns 0 k)):=by
 obtain⟨R,hR⟩:=vH (lJ ns 0 k);rw[hR];go_enter func230,ntmps230;refine RG.M.enter [(0,.v (sZ g k c)),(1,.v (.func (.func 205) #[] #[]))] 19 kR λa0 M0=>?_
 refine Yt <| M0.U [.x (iZ 0)] [0,1] ⟨st,yw⟩ λa1 w1 M1=>?_
 refine Yt <| Yt <| M1.U [.x (sZ g k c),.x (iZ k),.x (iZ 0)] [0,1,7,8] ⟨st,st,st,yw⟩ λa2 w2 M2=>?_
 repeat apply Yt
 refine ZR<|yh (λm a wr=>∃i:I,i+m=k/\lJ ns i m=R/\RG.M w w.heap.size [] 19 [] [] [(0,.v (sZ g k c)),(1,.v (.func (.func 205) #[] #[])),(7,.v (iZ k)),(8,.v (iZ i))] a wr) k ⟨0,S,hR,M2⟩ ?_
 intro X a wr;rintro⟨i,h2,hf,u⟩;by_cases t:i<k
 .obtain⟨n,y⟩:=vH (ns i);obtain⟨b,N⟩:=vH (P i);have x:=hn i t;have r:=ha i t;have s:=hr i t;rw[y]at x s;rw[N]at r s;have q:w.rangeAt g (0+37*i) (wn n++aA b):=by rw[Yv];exact s
  have p:gZ 226 (wn n++aA b).length:=by rw[Yx,aB r];exact iT
  have A:=MV x r;obtain⟨C,rfl⟩:∃C,X=C+1:=⟨X-1,S⟩
  unfold lJ at hf;rw[y]at hf;refine Yt <| u.u (Sy J) [(0,.v (sZ g k c)),(1,.v (.func (.func 205) #[] #[])),(7,.v (iZ k)),(8,.v (iZ i)),(9,.v tZ)] ⟨aQ Z .lss (T:=3) 3 (t1:=8) (t2:=7) (v1:=(iZ i)) (v2:=(iZ k)) (v:=tZ) Z Z sx sx (λw=>kR) (oG t),yw⟩ λQ L f=>?_
  refine Yt <| Y5 f.ev ?_
  refine ZK<|Yt<|ZR<|Yt <| f.U [.x (iZ i),.x (iZ i)] [0,1,7,8,5] ⟨st,st,yw⟩ λW M d=>?_
  repeat apply Yt
  by_cases z:n=0
  .rw[decide_eq_true z]at A;rw[zd z]at hf;refine d.u (Sx g k c i n b J) [(0,.v (sZ g k c)),(1,.v (.func (.func 205) #[] #[])),(7,.v (iZ k)),(8,.v (iZ i)),(5,.v (iZ i)),(16,.v tZ)] ⟨st,st,st,cH Z 131 (t:=12) (u:=13) Z (.v (sZ g k c)) (iv:=(iZ i)) sx sx (λμ w=>atT _ 0 _ (i:=i) t w),eF Z (k:=g) (off:=(0+37*i)) hg YI (T:=226) (t:=14) Z (cs:=(wn n++aA b)) Z sx q uT p,clB (λ_ _=>kR) (λw' _=>A w'),yw⟩ λK O l=>?_
   refine Y5 l.ev<|Yt <| l.U [.x (iZ i),.x (iZ i)] [4] ⟨st,st,yw⟩ λT V o=>?_
   refine Zr<|YB (v:=iZ i) (lN (t:=4) Z (v:=(iZ i)) o.av) o.sl.defers ?_
   exact⟨_,Z,o.st.bel.below,by rw[hf]⟩
  rw[decide_eq_false z]at A;rw[zi z]at hf;refine d.u (Sx g k c i n b D) [(0,.v (sZ g k c)),(1,.v (.func (.func 205) #[] #[])),(7,.v (iZ k)),(8,.v (iZ i)),(16,.v fZ)] ⟨st,st,st,cH Z 131 (t:=12) (u:=13) Z (.v (sZ g k c)) (iv:=(iZ i)) sx sx (λμ w=>atT _ 0 _ (i:=i) t w),eF Z (k:=g) (off:=(0+37*i)) hg YI (T:=226) (t:=14) Z (cs:=(wn n++aA b)) Z sx q uT p,clB (λ_ _=>kR) (λw' _=>A w'),yw⟩ λK O l=>?_
  refine YY l.ev<|ZK<|l.U [.x (iZ ((i+1:I):Y)),.x (iZ ((i+1:I):Y))] [0,1,7,8] ⟨aH Z .add (T:=3) 3 (t1:=8) (v1:=(iZ i)) (v2:=(iZ 1)) (v:=(iZ ((i+1:I):Y))) Z Z sx (λw=>kR) (AY (a:=i) (b:=1) S S),st,yw⟩ λT V o=>?_
  show ∃n',_;exact⟨C,S,i+1,S,hf,o⟩
 have l:X=0:=S;rw[l]at hf;unfold lJ at hf;refine Yt <| u.u (Sy D) [(9,.v fZ)] ⟨aQ Z .lss (T:=3) 3 (t1:=8) (t2:=7) (v1:=(iZ i)) (v2:=(iZ k)) (v:=fZ) Z Z sx sx (λw=>kR) (vF t),yw⟩ λQ L f=>?_
 refine Yt <| YY f.ev ?_
 apply wp_exit;dsimp only[Exit.then,ri];rw[zd Z];refine Yt <| f.U [.x (iZ (-1))] [4] ⟨st,yw⟩ λW M d=>?_
 refine Zr<|YB (v:=iZ (-1)) (lN (t:=4) Z (v:=(iZ (-1))) d.av) d.sl.defers ?_
 exact⟨_,Z,d.st.bel.below,by rw[<-hf]⟩
def wL{ns:I->I}:∀(m i:I),(∀j,i<=j->j<i+m->ns j≠0)->lJ ns i m = -1
 | 0,_,_=>rfl
 | m+1,i,h=>by
  rw[lJ,zi (h i (Ys _) S)];exact wL m (i+1) (λj h1 k=>h j S S)
def EL(g k c:I)(q:k<=1000000)(ns:I->I)(d:I->Bs)(p:∀j,j<k->ns j<top)(b:∀j,j<k->ns j≠0)(u:∀j,j<k->(d j).size=33)(w:Yp)(l:g<w.heap.size)(r:∀j,j<k->w.rangeAt g (37*j) (wn (ns j)++aA (d j))):
 eZ 204 #[sZ g k c,.func (.func 205) #[] #[]] w (sZ g k c):=by
 have x:∀w',BelX w.heap.size [] w w'->cZ 230 #[sZ g k c,.func (.func 205) #[] #[]] w' (Ret λe f=>kZ w' f/\e=iZ (-1)):=λw' m=>by
  have h:=IU g k c q ns d p u w' (Yr l m.below.size) (λj i=>RG.range_below (r j i) m.below l);rw[wL k 0 (λj _ n=>b j S)]at h;exact h
 go_enter func204,ntmps204;refine RG.M.enter [(0,.v (sZ g k c)),(1,.v (.func (.func 205) #[] #[]))] 42 kR λa0 o=>?_
 refine Yt <| o.U [.x nZ] [0,1] ⟨st,yw⟩ λa K t=>Yt <| t.U [.x (sZ g k c),.x (.func (.func 205) #[] #[]),.c (iZ (-1)),.x (iZ (-1))] [0,5] ⟨st,st,clB (λ_ _=>kR) x,st,yw⟩ λA z s=>Yt <| Yt <| s.U [.x (iZ (-1)),.x tZ] [0,12] ⟨st,st,yw⟩ λL M n=>Y5 n.ev<|Yt <| n.U [.x (sZ g k c),.x (sZ g k c)] [4] ⟨st,st,yw⟩ λC y i=>Zr<|YB (v:=(sZ g k c)) (lN Z i.av) i.sl.defers ?_
 exact⟨_,Z,i.st.bel.below,Z⟩
def Vg:prog.underlying 278=F (.map 103 3):=kR
def zero3(w:Yp):(zeroValue 3).run prog w=.ok (iZ 0) w:=kR
def BV(b:Bs):∀(D:H Bs) (i:I),ents (D++[b]) i=ents D i++[{ key:=.agg (aA b).toArray,val:=iZ ((i+D.length:I):Y),born:=i+D.length }]
 | [],i=>rfl
 | k :: r,i=>by
  rw[ZI];rw[ents,BV b r (i+1),Y2,show i+1+r.length=i+(r.length+1) by omega];rfl
def Er{b:Bs}(d:b.size=33)(D:H Bs)(i:∀k∈D,k.size=33)(m c:I)(w:Yp)(n:w.heap[m]? = F (.map (ents D 0).toArray c)):
 (yDU 278 (.map (F m)) (.agg (aA b).toArray) J).run prog w=.ok (.tuple #[.int .i64 (((at? b D 0).getD 0:I):Y),.bool (at? b D 0).isSome]) w:=by
 have h1:=uh Vg w;have l:=λe=>Jc d e w
 have f:=IQ d (D:=D) i w;have g:(getObj m).run prog w=.ok (.map (ents D 0).toArray c) w:=by
  simp[getObj,yFv,n]
 unfold yDU;simp only[YU,h1,Zp,g,gM,l,f];cases h:at? b D 0 with
 | none=>simp[YU,zero3]
 | some j=>simp
def OX{D:H Bs}{b:Bs}(d:b.size=33)(i:∀k∈D,k.size=33)(m:I)(w:Yp)(f:w.heap[m]? = F (.map (ents D 0).toArray D.length))(j:at? b D 0=G):
 (yCN 278 (.map (F m)) (.agg (aA b).toArray) (iZ (D.length:Y))).run prog w=.ok () (w.putObj m (.map (ents (D++[b]) 0).toArray (D.length+1))):=by
 have h1:=uh Vg w;have l:=λe=>Jc d e w
 have c:=IQ d i w;rw[j]at c;have g:(getObj m).run prog w=.ok (.map (ents D 0).toArray D.length) w:=by
  simp[getObj,yFv,f]
 unfold yCN;simp only[YU,h1,Zp,g,gM,l,c];rw[BV,Yv];simp[setObj,yFv,f,yDR]
def Ft:prog.underlying 131=F (.slice 226):=kR
def Wi:(prog.info? 226).map (λi=>(i.size,i.bytes,i.zero.map λz=>z.cells.size))=F (37,72,F 37):=kR
def cells_one{a:Bs}:∀u∈wn n++aA a,u.oneCell'=J:=by
 intro u k;rcases ZN.1 k with h|h
 .unfold wn at h;simp only[Zb,YI,or_false]at h;rcases h with rfl|rfl|rfl|rfl<;>rfl
 obtain⟨x,-,rfl⟩:=YT.1 h;rfl
theorem Om{k:I}{v:Yq}{a:Bs}(o:a.size=33)(b:W.ownsRow base 226 37 v k xs)(hR:yz W g (wn n++aA a))(w:k<=1000000)(f:base<=W.heap.size):
 ∃c W',(Zn #[131,131] 131 #[v,sZ g 1 1]).run prog W=.ok c W'/\W'.ownsRow base 226 37 c (k+1) (xs++(wn n++aA a))/\W.grownBy W' v.ownBlock:=by
 let⟨i,s,e⟩:=Yu.1 Wi
 simp only[ZV.injEq]at e;let⟨h1,r,p⟩:=e
 let⟨z,q,d⟩:=Yu.1 p
 obtain⟨c,W',t,r2,m,-⟩:=xj (P:=prog) W base 131 131 226 i z 37 72 Ft s q h1 r d dC v k xs b (aZ g) 1 1 (wn n++aA a) (by rw[Yx,aB o];rfl)
  (λj u l=>by
   have:=hR.2.1 j u l;rw[Yv]at this;rw[show(⟨g,0,G⟩:ai).add j=⟨g,j,G⟩ by unfold oB;split<;>simp_all];exact this) cells_one (by unfold maxLen;omega) S f
 exact⟨c,W',t,r2,m⟩
def fL(N:I):LB->I->Bs->LB
 | [],n,p=>[(n,p)]
 | (s,q) :: r,n,p=>if p=q then(sPl N s n,q) :: r else(s,q) :: fL N r n p
def mrg(N:I)(ns:I->I)(k:I->Bs):I->LB
 | 0=>[]
 | i+1=>fL N (mrg N ns k i) (ns i) (k i)
def aV(l:LB):H Yq:=l.flatMap λx=>wn x.1++aA x.2
def EZ{N n:I}{p:Bs}:∀ {l:LB},at? p (l.map (·.2)) 0=G->fL N l n p=l++[(n,p)]
 | [],_=>rfl
 | (s,q) :: r,h=>by
  have k:=at?_none.1 h;rw[pg,Zb,not_or]at k;rw[fL,zi k.1,EZ (l:=r) (at?_none.2 k.2)];rfl
def EV(l:LB)(n:I)(p:Bs):aV (l++[(n,p)])=aV l++(wn n++aA p):=by
 unfold aV;rw[yo];simp
structure Mx(w W:Yp)(m:I)(l:LB)(v:Yq):Prop where
 bl:kZ w W
 mp:W.heap[m]? = F (.map (ents (l.map (·.2)) 0).toArray l.length)
 lm:w.heap.size<=m
 ow:W.ownsRow w.heap.size 226 37 v l.length (aV l)
def Mx.own_ne{v:Yq}(h:Mx w W m l v)(b:v.ownBlock=F g):g≠m/\w.heap.size<=g/\g<W.heap.size:=by
 rcases h.ow.2 with⟨rfl,-⟩|⟨c,cap,cur,rfl,h1,k,-⟩
 .cases b
 obtain rfl:c=g:=by simpa[Value.ownBlock]using b
 refine⟨λe=>?_,h1,(YX.1 k).1⟩;have:=h.mp;rw[<-e,k]at this;cases this
def uX{k:I}{v:Yq}(h:W.ownsRow base e s v k xs)(c:∀g,v.ownBlock=F g->W'.heap[g]? = W.heap[g]?):W'.ownsRow base e s v k xs:=by
 refine⟨h.1,?_⟩;rcases h.2 with b|⟨g,cap,cur,rfl,h1,b,d⟩
 .exact Y3 b
 exact YZ ⟨g,cap,cur,Z,h1,by rw[c g Z];exact b,d⟩
def Mx.kept{v:Yq}(h:Mx w W m l v)(k:kZ W W'):Mx w W' m l v:=
 ⟨h.bl.trans (k.mono h.bl.size),by rw[k.block m (YX.1 h.mp).1];exact h.mp,h.lm,uX h.ow λg b=>k.block g (h.own_ne b).2.2⟩
def NJ(l:LB)(n:I)(p:Bs):(l++[(n,p)]).map (·.2)=l.map (·.2)++[p]:=by simp
def Mx.push{v:Yq}(h:Mx w W m l v){p:Bs}(a:p.size=33)(C:l.length<=1000000)(n:I):
 ∃i b,(Zn #[131,131] 131 #[v,sZ W.heap.size 1 1]).run prog ((W.putObj m (.map (ents (l.map (·.2)++[p]) 0).toArray (l.length+1))).alloc (.cells (wn n++aA p).toArray 226))=.ok i b/\Mx w b m (l++[(n,p)]) i/\W.heap.size<b.heap.size/\∀j,j<W.heap.size->w.heap.size<=j->j≠m->F j≠v.ownBlock->b.heap[j]? = W.heap[j]?:=by
 let⟨c,d⟩:∃c,W.putObj m (.map (ents (l.map (·.2)++[p]) 0).toArray (l.length+1))=c:=⟨_,Z⟩
 have s3:c.heap.size=W.heap.size:=by rw[<-d];simp[yDR]
 have x:=(YX.1 h.mp).1;have r:∀j,j≠m->c.heap[j]? = W.heap[j]?:=λj z=>by rw[<-d];exact World.putObj_heap_other z
 have f:=h.bl.trans ⟨by rw[<-d];rfl,by rw[<-d];rfl,by rw[<-d];rfl,S,λj z=>r j (oN h.lm)⟩;have M:=uX h.ow λg s=>r g (h.own_ne s).1
 have K:c.heap[m]? = F (.map (ents (l.map (·.2)++[p]) 0).toArray (l.length+1)):=by rw[<-d];exact World.putObj_heap_same x
 rw[d];have R4:=aF (w:=c) (c:=(wn n++aA p)) (T:=226);have o:=aD (w:=c) (.cells (wn n++aA p).toArray 226);have s4:(c.alloc (.cells (wn n++aA p).toArray 226)).heap.size=W.heap.size+1:=by rw[YE,s3]
 have A:=uX M λg s=>o.block g (oN ((h.own_ne s).2.2))
 rw[s3]at R4;let⟨i,b,L,r2,q⟩:=Om a A R4 C (oN f.size)
 have u:F m≠v.ownBlock:=λe=>(h.own_ne e.symm).1 Z
 refine⟨i,b,L,⟨?_,?_,h.lm,?_⟩,oN q.size,λj z _ t y=>?_⟩
 .exact(f.trans (o.mono f.size)).grown q (oN f.size) (λk e=>(h.own_ne e).2.1)
 .rw[q.block m S u,o.block m S,K,NJ,Yx];rfl
 .rw[EV,Yx];exact r2
 rw[q.block j S y,o.block j S,r j t]
section
variable {P:Zw}{ops:Array Y9}{rest:List Y9}{op:Y9}{a:Act}{w w':Yp}{v x y z:Yq}{Q:Exit->Act->Yp->Prop}
def Bm(b:op.guard=G)(T:YW)(m k:am)(ok:zk)(ho:op.op=.lookup T m k ok)(e:a.eval m=x)(c:a.eval k=y)(d:(yDU T x y ok).run P w=.ok v w')(h:wpList P ops Q rest (a.put op.dst v) w'):wpList P ops Q (op :: rest) a w:=
 gH b λK f=>by
  unfold ZY Za;simp only[ho,e,c,YU,d,Zp,gM];exact f _ _ h
def JB(b:op.guard=G)(T:YW)(m k u:am)(ho:op.op=.mapUpdate T m k u)(f:a.eval m=x)(c:a.eval k=y)(e:a.eval u=z)(d:(yCN T x y z).run P w=.ok () w')(h:wpList P ops Q rest (a.put op.dst undef) w'):wpList P ops Q (op :: rest) a w:=
 gH b λK g=>by
  unfold ZY Za;simp only[ho,f,c,e,YU,d,Zp,gM];exact g _ _ h
def kC(k:op.guard=G)(s u:am)(t:YW)(ho:op.op=.call { callee:=.builtin .append,args:=#[s,u],argTypes:=#[t,t] })(hs:a.eval s=x)(c:a.eval u=y)(b:(Zn #[t,t] op.type #[x,y]).run P w=.ok v w')(h:wpList P ops Q rest (a.put op.dst v) w'):wpList P ops Q (op :: rest) a w:=
 gH k λK d=>by
  unfold ZY Za;simp only[ho,resolve,invoke,builtin,YU,gM,Zp,H.map_toArray,pg,H.map_nil,hs,c,b];exact d _ _ h
end
def zT:H Yq:=[U 0,U 0,U 0,U 0]++z33
def JZ{k:I}{v:Yq}(h:W.ownsRow base e s v k xs):∃q cap,v=.slice q k cap:=by
 rcases h.2 with⟨rfl,rfl⟩|⟨g,cap,cur,rfl,-⟩
 .exact⟨G,0,Z⟩
 exact⟨F (aZ g),cap,Z⟩
def CL(ns:I->I)(k:I->Bs):∀i,(mrg N ns k i).length<=i
 | 0=>Ys _
 | i+1=>by
  have b:=CL ns k i;have h:∀(l:LB) n p,(fL N l n p).length<=l.length+1:=by
   intro l n p;induction l with
   | nil=>exact Ys _
   | cons x r ihr =>
    unfold fL;split
    .simp
    simp only[Y2];omega
  exact YA (h _ _ _) S
def zN(ns:I->I)(b:I->Bs){k:I}(c:∀j,j<k->(b j).size=33):∀i,i<=k->∀x∈(mrg N ns b i).map (·.2),x.size=33
 | 0,_=>λx hx=>by cases hx
 | i+1,hi=>by
  have h:∀(l:LB) n p,p.size=33->(∀x∈l.map (·.2),x.size=33)->∀x∈(fL N l n p).map (·.2),x.size=33:=by
   intro l n p d;induction l with
   | nil=>intro _ x hx;simp[fL]at hx;rw[hx];exact d
   | cons y r ihr =>
    intro hl x hx;unfold fL at hx;split at hx
    .exact hl x (by simpa using hx)
    rw[pg,Zb]at hx;rcases hx with hx|hx
    .exact hl x (by rw[hx];simp)
    exact ihr (λz e=>hl z (Zd _ e)) x hx
  exact h _ _ _ (c i S) (zN ns b c i S)
def lV:∀(l:LB),(∀x∈l.map (·.2),x.size=33)->∀(j:I) (k:j<l.length) (t:I),t<37->(aV l)[37*j+t]? = (wn (l[j]).1++aA (l[j]).2)[t]?
 | [],_,j,k,_,_=>by cases k
 | x :: r,hs,j,k,t,ht=>by
  have hx:(wn x.1++aA x.2).length=37:=by rw[Yx,aB (hs x.2 (by simp))];rfl
  have e:aV (x :: r)=(wn x.1++aA x.2)++aV r:=by unfold aV;rw[yDe]
  rw[e];cases j with
  | zero =>
   rw[qo,Yv,Zc S];rfl
  | succ j =>
   rw[Zx S,hx,show 37*(j+1)+t-37=37*j+t by omega,lV r (λy b=>hs y (Zd _ b)) j (by simpa using k) t ht];rfl
def uW{v:Yq}(h:W.ownsRow base 226 37 v l.length (aV l))(hs:∀x∈l.map (·.2),x.size=33)(hl:0<l.length):
 ∃g cap,v=sZ g l.length cap/\base<=g/\g<W.heap.size/\∀j (k:j<l.length),W.rangeAt g (37*j) (wn (l[j]).1++aA (l[j]).2):=by
 rcases h.2 with⟨-,d⟩|⟨g,cap,cur,rfl,h1,d,i⟩
 .omega
 refine⟨g,cap,Z,h1,(YX.1 d).1,λj k t u b=>?_⟩;have f:t<37:=by
  have:=(YF.1 b).1;rw[Yx,aB (hs _ (YT.2 ⟨_,ZC k,Z⟩))]at this;exact this
 have c:=h.cells (g:=g) Z (37*j+t) u (by rw[lV l hs j k t f];exact b);have e:(⟨g,0,G⟩:ai).add (37*j+t)=⟨g,37*j+t,G⟩:=by
  unfold oB;split
  .rename_i h;rw[h]
  simp
 rw[e]at c;exact c
def Sz(w:Yp):(zeroValue 226).run prog w=.ok (.agg zT.toArray) w:=kR
def SA:∀v∈zT,v.oneCell'=J:=by
 intro v hv;unfold zT z33 at hv;rcases ZN.1 hv with h|h
 .simp only[Zb,YI,or_false]at h;rcases h with rfl|rfl|rfl|rfl<;>rfl
 rw[(H.mem_replicate.1 h).2];rfl
def DF{v:Yq}{cur:yt Yq}(h:w.heap[g]? = F (.cells cur e z)):∃k:yt Yq,(w.setCell ⟨g,o,G⟩ v).heap[g]? = F (.cells k e z)/\k.size=cur.size:=by
 have b:=(YX.1 h).1;refine⟨cur.setIfInBounds o v,?_,yt.size_setIfInBounds ..⟩;have c:w.heap[g]=.cells cur e z:=by rw[Y0 b]at h;exact YR.inj h
 simp[World.setCell,yt.getElem_modify,b,c]
def sJ{g:I}{e:YW}{z:I × I}:∀(vs:H Yq) (o:I) (w:Yp) (cur:yt Yq),w.heap[g]? = F (.cells cur e z)->∃k:yt Yq,(w.setCells g o vs).heap[g]? = F (.cells k e z)/\k.size=cur.size
 | [],_,_,cur,h=>⟨cur,h,Z⟩
 | v :: r,o,w,cur,h=>by
  let⟨c1,h1,d⟩:=DF (o:=o) (v:=v) h
  let⟨c2,b,c⟩:=sJ r (o+1) _ c1 h1
  exact⟨c2,b,c.trans d⟩
def ML(h:W.ownsRow base e s (sZ g n cap) n xs)(hl:o+vs.length<=n*s):(W.setCells g o vs).ownsRow base e s (sZ g n cap) n (rep xs o vs):=by
 have hx:o+vs.length<=xs.length:=by rw[h.1];exact hl
 refine⟨by rw[fE hx];exact h.1,?_⟩;rcases h.2 with⟨h1,-⟩|⟨x,q,cur,h1,w,m,d,r,p,v⟩
 .cases h1
 injection h1 with e1 e2 e3
 injection e1 with e1
 injection e1 with e1
 subst e1;subst e3;let⟨c2,f,t⟩:=sJ vs o W cur m
 refine YZ ⟨g,cap,c2,Z,w,f,d,r,by rw[t];exact p,?_⟩;have u:n*s<=cur.size:=by rw[p];exact te s d
 apply vj;intro i;rw[RG.rep_at hx,qk,<-v];have c1:∀i,W.cell? ⟨g,i,G⟩=cur[i]?:=λi=>cell_of_row W g i cur e (0,0) m
 have l:(W.setCells g o vs).cell? ⟨g,i,G⟩=c2[i]?:=cell_of_row _ g i c2 e (0,0) f;by_cases b:i<n*s
 .rw[zd b];by_cases k:o<=i/\i<o+vs.length
  .rw[zd k];have c:i-o<vs.length:=S;have:=World.cell?_setCells_in g vs o W (λj c=>by rw[c1 (o+j),Y0 S];rfl) (i-o) c;rw[show o+(i-o)=i by omega,l]at this;rw[Zz,this,YC c]
  rw[zi k,qk,zd b,Zz,Zz,<-l,<-c1 i];exact World.cell?_setCells_out g vs o W ⟨g,i,G⟩ (λ_ _=>by show i<o\/o+vs.length<=i;omega)
 rw[zi b,zi S,qk,zi b]
def Pp:rep (xs++ys) (xs.length+o) vs=xs++rep ys o vs:=by
 unfold rep;rw[H.take_length_add_append,I.add_assoc,H.drop_length_add_append,H.append_assoc]
def iW{p:Bs}(k:p.size=33):(wn n++aA p).length=37:=by rw[Yx,aB k];rfl
def fO(x:I × Bs)(r:LB):aV (x :: r)=(wn x.1++aA x.2)++aV r:=by unfold aV;rw[yDe]
def AL(s:I):∀(l:LB) (j:I) (k:j<l.length),(∀x∈l.map (·.2),x.size=33)->aV (l.set j (s,(l[j]).2))=rep (aV l) (37*j) (wn s)
 | [],j,k,_=>by cases k
 | x :: r,0,_,_=>by
  show aV ((s,x.2) :: r)=_;rw[fO,fO];rfl
 | x :: r,j+1,k,hs=>by
  show aV (x :: r.set j (s,(r[j]'(by simpa using k)).2))=_;rw[fO,fO,AL s r j (by simpa using k) (λy b=>hs y (Zd _ b)),show 37*(j+1)=(wn x.1++aA x.2).length+37*j by rw[iW (n:=x.1) (hs x.2 (by simp))];omega,Pp]
def at?_some{p:Bs}:∀ {l:LB}{i j:I},at? p (l.map (·.2)) i=F j->i<=j/\∃h:j-i<l.length,(l[j-i]).2=p/\∀n,fL N l n p=l.set (j-i) (sPl N (l[j-i]).1 n,p)
 | [],i,j,h=>by cases h
 | (s,q) :: r,i,j,h=>by
  rw[pg]at h;unfold at? at h;by_cases k:p=q
  .rw[zd k]at h;obtain rfl:=YR.inj h;refine⟨Ys _,by simp,?_,λn=>?_⟩
   .simp[k]
   rw[fL,zd k];simp[k]
  rw[zi k]at h;let⟨h1,d,b,c⟩:=at?_some h
  have e:j-i=(j-(i+1))+1:=S;refine⟨S,by simp;omega,?_,λn=>?_⟩
  .simp only[e,yDZ];exact b
  rw[fL,zi k,c n];simp only[e,yDZ,Yy]
def Ov{p:Bs}(h:at? p (l.map (·.2)) 0=F j):(fL N l n p).map (·.2)=l.map (·.2)/\(fL N l n p).length=l.length:=by
 obtain⟨-,k,c,d⟩:=at?_some (N:=N) h;rw[d n];refine⟨?_,H.length_set ..⟩;rw[H.map_set];apply vj;intro i;rw[H.getElem?_set];by_cases b:j-0=i
 .subst b;rw[zd Z,zd (by rw[YO];exact k),ZE,YC k];exact congrArg F c.symm
 rw[zi b]
def Mx.again{p:Bs}(h:Mx w W m l (sZ g l.length cap))(hs:∀x∈l.map (·.2),x.size=33)(c:at? p (l.map (·.2)) 0=F j)(hl:j<l.length)(n:I):
 Mx w (W.setCells g (37*j) (wn (sPl N (l[j]).1 n))) m (fL N l n p) (sZ g l.length cap):=by
 have k:=h.own_ne (g:=g) Z;let⟨e,b⟩:=Ov (N:=N) (n:=n) c
 refine⟨RG.below_setCells k.2.1 _ _ _ h.bl,?_,h.lm,?_⟩
 .rw[aL _ _ _ _ _ (Ne.symm k.1),e,b];exact h.mp
 obtain⟨-,i,d,f⟩:=at?_some (N:=N) c;have e3:fL N l n p=l.set j (sPl N (l[j]).1 n,(l[j]).2):=by rw[f n];simp only[qp]at d⊢;rw[d]
 rw[b,e3,AL _ l j hl hs];exact ML h.ow (by show 37*j+4<=_;omega)
def GH{ns:I->I}(O:Ord N)(c:I->Bs){k:I}(b:∀j,j<k->ns j<N):∀i,i<=k->∀x∈mrg N ns c i,x.1<N
 | 0,_=>λx hx=>by cases hx
 | i+1,hi=>by
  have h:∀(l:LB) n p,n<N->(∀x∈l,x.1<N)->∀x∈fL N l n p,x.1<N:=by
   intro l n p d;induction l with
   | nil=>intro _ x hx;simp[fL]at hx;rw[hx];exact d
   | cons y r ihr =>
    intro hl x hx;unfold fL at hx;split at hx
    .rcases Zb.1 hx with rfl|hx
     .exact ZL _ O.pos
     exact hl x (Zd _ hx)
    rcases Zb.1 hx with rfl|hx
    .exact hl _ Zm
    exact ihr (λz e=>hl z (Zd _ e)) x hx
  exact h _ _ _ (b i S) (GH O c b i S)
section
variable (w:Yp) (m g4 cap k6 j s n z:Nat) (l:List (Nat × Bs)) (p:Bs)
def Ra:I->Yq->Yp->Prop
 | 0,v,_=>v=sZ g4 l.length cap
 | 1,v,_=>v=iZ j
 | 2,v,_=>v=sZ g4 l.length cap
 | 3,v,_=>v=iZ j
 | 4,v,_=>v=oZ g4 (0+37*j)
 | 5,v,_=>v=oZ g4 (0+37*j)
 | 6,v,_=>v=nv s
 | 7,v,_=>v=jZ k6
 | 8,v,_=>v=nv n
 | 9,v,_=>v=nv z
 | 10,v,_=>v=oZ g4 (0+37*j)
 | 11,v,_=>v=oZ g4 (0+37*j)
 | _,_,_=>True
def U5{v:Yq}(h:Ra g4 cap k6 j s n z l i v W):Ra g4 cap k6 j s n z l i v W':=by
 match i,h with
 | 0,h=>exact h
 | 1,h=>exact h
 | 2,h=>exact h
 | 3,h=>exact h
 | 4,h=>exact h
 | 5,h=>exact h
 | 6,h=>exact h
 | 7,h=>exact h
 | 8,h=>exact h
 | 9,h=>exact h
 | 10,h=>exact h
 | 11,h=>exact h
 | _+12,_=>trivial
def Ga:Gw:=⟨Ra g4 cap k6 j s n z l,λW=>Mx w W m l (sZ g4 l.length cap)/\yz W k6 (wn n++aA p),λ_ _ _ _ _ h=>U5 g4 cap k6 j s n z l h,λ_ _ k h=>⟨h.1.kept k,h.2.below k⟩⟩
end
def range_front'{k:I}(h:W.rangeAt k o (xs++ys)):W.rangeAt k o xs:=λj v b=>h j v (by rw[Zc (YF.1 b).1];exact b)
def Mx.drew{v:Yq}(h:Mx w W m l v):Mx w W.drew m l v:=⟨h.bl.drew,h.mp,h.lm,h.ow⟩
def Nh(O:Ord N)(R:Yq->Yp->Prop)(g k c:I)(hk:k<=1000)(ns:I->I)(o:I->Bs)(ha:∀j,j<k->(o j).size=33)(hn:∀j,j<k->ns j<N)(w:Yp)(hg:g<w.heap.size)(hr:∀j,j<k->w.rangeAt g (37*j) (wn (ns j)++aA (o j)))
 (h8:∀W v,Mx w W w.heap.size (mrg N ns o k) v->Zl prog 204 #[v,.func (.func 205) #[] #[]] W (Ret R)) :
 Zl prog 140 #[sZ g k c] w (Ret R):=by
 have h7:=Hid.mk' h8;have k9:(Instr.makeMap 278 G).run prog w=.ok (.map (F w.heap.size)) (w.alloc (.map #[] 0)):=kR;obtain⟨w1,hm⟩:=hE (w.alloc (.map #[] 0));rw[hm.out]at k9;have M1:E (Mx w w1 w.heap.size (mrg N ns o 0) (.slice G 0 0)):=by
  rw[<-hm.out];exact⟨aD (w:=w) _,by show(w.heap.push (.map #[] 0))[w.heap.size]? = _;rw[yt.getElem?_push_size];rfl,Ys _,Z,Y3 ⟨Z,Z⟩⟩
 have HH:=mk5 O ha hn hg hr;obtain⟨d,ki,ka⟩:=Yu.1 uCP;obtain⟨d',k5,kc⟩:=Yu.1 uT;have HD:E ((prog.underlying 103=F d/\d.isRow=J)/\prog.underlying 226=F d'/\d'.isRow=J):=⟨⟨ki,ka⟩,k5,kc⟩
 go_enter func140,ntmps140;go_wp2;go_loopg [4,12] k (λq s4 s12 W=>∃i:I,i+q=k/\s12=iZ i/\E (Mx w W w.heap.size (mrg N ns o i) s4))
 case atStart=>exact⟨0,S,Z,M1⟩
 case round =>
  obtain⟨i,km,rfl,KM⟩:=hrel;by_cases hi:i<k
  .have kb:(i:Y)<(k:Y):=S;obtain⟨n,Q⟩:=hE (ns i);obtain⟨p,L⟩:=hE (o i);obtain⟨l,hl⟩:=hE (mrg N ns o i);rw[hl.out]at KM;have r:E (p.size=33):=by have:=HH.2.1 i hi;rw[L.out]at this;exact this
   have kj:E (l.length<=i):=by have:=CL (N:=N) ns o i;rw[hl.out]at this;exact this
   obtain⟨q,cap,rfl⟩:=JZ KM.ow;obtain⟨W1,h3⟩:=hE (wr.alloc (.cells zT.toArray 226));obtain⟨P,h6⟩:=hE (W1.setCells wr.heap.size 0 (wn n++aA p));have m:(wn n++aA p).length=37:=by rw[Yx,aB r.out];rfl
   have F1:E (yz W1 wr.heap.size zT/\kZ wr W1/\W1.heap.size=wr.heap.size+1):=by rw[<-h3.out];exact⟨aF (w:=wr),aD (w:=wr) _,YE _ _⟩
   have F2:E (yz P wr.heap.size (wn n++aA p)/\kZ wr P/\P.heap.size=wr.heap.size+1):=by rw[<-h6.out];exact⟨F1.1.put (by rw[m];rfl),RG.below_setCells (Ys _) _ _ _ F1.2.1,by rw[setCells_size];exact F1.2.2⟩
   have K2:=mk1 (KM.kept F2.2.1);have K:∀x∈l.map (·.2),x.size=33:=by have:=zN (N:=N) ns o HH.2.1 i S;rw[hl.out]at this;exact this
   cases X:at? p (l.map (·.2)) 0 with
   | none =>
    have b:=mk1 (X);have B1:=Hid.mk' (Er r.out (l.map (·.2)) K w.heap.size l.length P K2.mp);rw[b.out]at B1;have B2:E ((yCN 278 (.map (F w.heap.size)) (.agg (aA p).toArray) (iZ (l.length:Y))).run prog P=.ok () (P.putObj w.heap.size (.map (ents (l.map (·.2)++[p]) 0).toArray (l.length+1)))):=by
     have h:=OX r.out (D:=(l.map (·.2))) K w.heap.size P (by rw[YO];exact K2.mp) b.out;rw[YO]at h;exact h
    obtain⟨v',W5,f,K5,kn,-⟩:=K2.push r.out (oN kj.out) n;obtain⟨W3,C⟩:=hE (P.putObj w.heap.size (.map (ents (l.map (·.2)++[p]) 0).toArray (l.length+1)));have F3:E (yz W3 wr.heap.size (wn n++aA p)/\W3.heap.size=wr.heap.size+1):=by rw[<-C.out];exact⟨F2.1.putObj K2.mp Z _,by simp[yDR];exact F2.2.2⟩
    have V:=Hid.mk' (WO r.out n W3);obtain⟨W4,h2⟩:=hE (W3.alloc (.cells (wn n++aA p).toArray 226));rw[C.out]at B2 f;rw[h2.out]at V f;rw[F3.2]at V;rw[F2.2.2]at f;have k6:E (Mx w W5 w.heap.size (mrg N ns o (i+1)) v'):=by
     have e:mrg N ns o (i+1)=l++[(n,p)]:=by
      show fL N (mrg N ns o i) (ns i) (o i)=_;rw[hl.out,Q.out,L.out];exact EZ b.out
     rw[e];exact K5
    have B0:E (wr.rangeAt g (37*i) (wn n++aA p)):=by
     have h:=RG.range_below (HH.2.2.2.2 i hi) KM.bl HH.2.2.2.1;rw[Q.out,L.out]at h;exact h
    have h0:E ((prog.info? 226).map (·.size)=F (wn n++aA p).length):=by show _=_;rw[m];exact iT
    have T:E ((prog.info? 226).map (·.size)=F (wn n++aA p).toArray.size/\W1.there wr.heap.size 0 (wn n++aA p).toArray.size):=by
     have e:(wn n++aA p).toArray.size=37:=by rw[Zq];exact m
     rw[e];exact⟨iT,F1.1.2.2⟩
    have h4:E ((prog.info? 103).map (·.size)=F (aA p).length):=by show _=_;rw[aB r.out];exact gI
    have HB:=mk1 (mH (xs:=wn n) F2.1.2.1);have h5:E ((wn n++aA p).toArray.all (·.oneCell')=J):=by
     show _=_;rw[oT];intro u hu;exact cells_one (n:=n) (a:=p) u (yp.1 hu)
    have k1:=atT g 0 (n:=k) c (i:=i) hi;have k2:=Hid.mk' f;obtain⟨vt,A⟩:=hE (Y8 (wn n++aA p).toArray);obtain⟨vp,M⟩:=hE (Y8 (aA p).toArray);rw[M.out]at B1 B2;rw[A.out]at V;go_wp2_with (first|(refine Zu Z 226 _ Z g (37*i) ?_ (wn n++aA p) d' ?_ ?_ ?_ ?_ ?_;rfl;exact B0.out;exact HD.2.1;exact HD.2.2;exact h0.out;rw[A.out])|(refine bY (v:=jZ wr.heap.size) (w':=W1) Z (.alloc 226) Z ?_ ?_;(rw[<-h3.out];kernel_rfl))|(refine ZJ Z 226 _ _ Z wr.heap.size 0 (wn n++aA p).toArray ?_ ?_ ?_ ?_ ?_ ?_;rfl;exact A.symm;exact T.2;exact T.1;exact h5.out;rw[show(wn n++aA p).toArray.toList=wn n++aA p from Z,h6.out])|(refine Zu Z 103 _ Z wr.heap.size 4 ?_ (aA p) d ?_ ?_ ?_ ?_ ?_;rfl;exact HB.out;exact HD.1.1;exact HD.1.2;exact h4.out;rw[M.out])|(refine Bm (x:=.map (F w.heap.size)) (y:=vp) (w':=P) Z 278 _ _ J Z ?_ ?_ B1.out ?_;rfl;rfl)|(refine JB (x:=.map (F w.heap.size)) (y:=vp) (z:=iZ (l.length:Y)) (w':=W3) Z 278 _ _ _ Z ?_ ?_ ?_ B2.out ?_;rfl;rfl;rfl)|(refine Zu Z 226 _ Z wr.heap.size 0 ?_ (wn n++aA p) d' ?_ ?_ ?_ ?_ ?_;rfl;exact F3.1.2.1;exact HD.2.1;exact HD.2.2;exact h0.out;rw[A.out])|(refine xX (v:=sZ (wr.heap.size+1) 1 1) (w':=W4) Z 131 1 _ Z #[(0,vt)] ?_ V.out ?_;kernel_rfl)|(refine kC (x:=.slice q l.length cap) (y:=sZ (wr.heap.size+1) 1 1) (v:=v') (w':=W5) Z _ _ 131 Z ?_ ?_ ?_ ?_;rfl;rfl;exact k2.out))
    go_roundg (gk-1)
    case measure=>omega
    case rel=>exact⟨i+1,S,Z,k6⟩
   | some j =>
    obtain⟨-,C,k0,-⟩:=at?_some (N:=N) X;rw[qp]at C;simp only[qp]at k0;have B1:=Hid.mk' (Er r.out (l.map (·.2)) K w.heap.size l.length P K2.mp);rw[X]at B1;obtain⟨f,kl,k3,-,k7,kd⟩:=uW K2.ow K S;injection k3 with q1 q2 q3
    subst q1;obtain⟨s,hz⟩:∃s,E ((l[j]'C).1=s):=⟨(l[j]'C).1,(rfl:(l[j]'C).1=(l[j]'C).1)⟩
    have k4:E (s<N):=by
     have:=GH HH.1 (ns:=ns) o HH.2.2.1 i S;rw[hl.out]at this;rw[<-hz.out];exact this _ (ZC C)
    have ke:E (n<N):=by rw[<-Q.out];exact HH.2.2.1 i hi
    have B0:E (wr.rangeAt g (37*i) (wn n++aA p)):=by
     have h:=RG.range_below (HH.2.2.2.2 i hi) KM.bl HH.2.2.2.1;rw[Q.out,L.out]at h;exact h
    have h0:E ((prog.info? 226).map (·.size)=F (wn n++aA p).length):=by show _=_;rw[m];exact iT
    have T:E ((prog.info? 226).map (·.size)=F (wn n++aA p).toArray.size/\W1.there wr.heap.size 0 (wn n++aA p).toArray.size):=by
     have e:(wn n++aA p).toArray.size=37:=by rw[Zq];exact m
     rw[e];exact⟨iT,F1.1.2.2⟩
    have h4:E ((prog.info? 103).map (·.size)=F (aA p).length):=by show _=_;rw[aB r.out];exact gI
    have HB:=mk1 (mH (xs:=wn n) F2.1.2.1);have h5:E ((wn n++aA p).toArray.all (·.oneCell')=J):=by
     show _=_;rw[oT];intro u hu;exact cells_one (n:=n) (a:=p) u (yp.1 hu)
    have k1:=atT g 0 (n:=k) c (i:=i) hi;obtain⟨vt,A⟩:=hE (Y8 (wn n++aA p).toArray);obtain⟨vp,M⟩:=hE (Y8 (aA p).toArray);rw[M.out]at B1;have HL:=mk1 (C);have HS:E (∀h:j<l.length,(l[j]'h).1=s):=λ_=>hz.out
    have HJ:=mk2 X K;have HK:=mk2 K2.out F2.1;have KN:E (mrg N ns o (i+1)=fL N l n p):=by
     show fL N (mrg N ns o i) (ns i) (o i)=_;rw[hl.out,Q.out,L.out]
    clear m K K2 KM k0 q2 q3 kd k7;clear X;go_wp2_with (first|(refine Zu Z 226 _ Z g (37*i) ?_ (wn n++aA p) d' ?_ ?_ ?_ ?_ ?_;rfl;exact B0.out;exact HD.2.1;exact HD.2.2;exact h0.out;rw[A.out])|(refine bY (v:=jZ wr.heap.size) (w':=W1) Z (.alloc 226) Z ?_ ?_;(rw[<-h3.out];kernel_rfl))|(refine ZJ Z 226 _ _ Z wr.heap.size 0 (wn n++aA p).toArray ?_ ?_ ?_ ?_ ?_ ?_;rfl;exact A.symm;exact T.2;exact T.1;exact h5.out;rw[show(wn n++aA p).toArray.toList=wn n++aA p from Z,h6.out])|(refine Zu Z 103 _ Z wr.heap.size 4 ?_ (aA p) d ?_ ?_ ?_ ?_ ?_;rfl;exact HB.out;exact HD.1.1;exact HD.1.2;exact h4.out;rw[M.out])|(refine Bm (x:=.map (F w.heap.size)) (y:=vp) (w':=P) Z 278 _ _ J Z ?_ ?_ B1.out ?_;rfl;rfl)|fail)
    refine(Ga w w.heap.size f cap wr.heap.size j s n (sPl N s n) l p).tail2 12 kR kR kR ⟨
     bE λa W b=>⟨[(4,sZ f l.length cap)],sZ f l.length cap,W,⟨b.o 4 kR,yw⟩,kR,YH _ _,Z⟩,
     bE λa W b=>⟨[(7,iZ j)],iZ j,W,⟨b.o 7 kR,yw⟩,kR,YH _ _,Z⟩,
     bE λa W b=>⟨[(4,sZ f l.length cap)],sZ f l.length cap,W,⟨b.o 4 kR,yw⟩,kR,YH _ _,Z⟩,
     bE λa W b=>⟨[(7,iZ j)],iZ j,W,⟨b.o 7 kR,yw⟩,kR,YH _ _,Z⟩,
     bE λa W b=>⟨[(36,sZ f l.length cap),(37,iZ j)],.pointer (F ⟨f,0+37*j,G⟩),W,⟨b.n 2 36 kR kR,b.n 3 37 kR kR,yw⟩,by
      rw[ZV.injEq];refine⟨kR,?_⟩;show((ZW 131 (sZ f l.length cap) (iZ j)) >>= λv=>pure (fI v)).run prog W=_;rw[YU,atT f 0 (n:=l.length) cap (i:=j) HL.out];rfl,YH _ _,Z⟩,
     bE λa W b=>⟨[(38,.pointer (F ⟨f,0+37*j,G⟩))],.pointer (F ⟨f,0+37*j,G⟩),W,⟨b.n 4 38 kR kR,yw⟩,kR,YH _ _,Z⟩,
     jA (T:=49) 39 Z Go.Proofs.YtdoammpgchejcaaGreat.u40 λa W b=>⟨f,0+37*j,wn s,b.n 5 39 kR kR,by
      obtain⟨g5,kk,V,-,-,k8⟩:=uW b.b.1.ow HJ.2 (oN HL.out);injection V with q1 q2 q3
      injection q1 with q1
      injection q1 with q1
      subst q1;have:=k8 j HL.out;rw[HS HL.out]at this;rw[Yv];exact range_front' this,zy,Z⟩,
     bE λa W b=>⟨[(6,jZ wr.heap.size)],jZ wr.heap.size,W,⟨b.o 6 kR,yw⟩,kR,YH _ _,Z⟩,
     jA (T:=49) 41 Z Go.Proofs.YtdoammpgchejcaaGreat.u40 λa W b=>⟨wr.heap.size,0,wn n,b.n 7 41 kR kR,kY b.b.2.2.1,zy,Z⟩,
     fC λa W b=>⟨[(40,nv s),(42,nv n)],80,#[nv s,nv n],⟨b.n 6 40 kR kR,b.n 8 42 kR kR,yw⟩,kR,(nP HH.1 s n k4.out ke.out W).mono (by
      rintro e W' ⟨u,rfl,V,rfl⟩;exact⟨_,Z,V,Z⟩)⟩,
     bE λa W b=>⟨[(34,sZ f l.length cap),(35,iZ j)],.pointer (F ⟨f,0+37*j,G⟩),W,⟨b.n 0 34 kR kR,b.n 1 35 kR kR,yw⟩,by
      rw[ZV.injEq];refine⟨kR,?_⟩;show((ZW 131 (sZ f l.length cap) (iZ j)) >>= λv=>pure (fI v)).run prog W=_;rw[YU,atT f 0 (n:=l.length) cap (i:=j) HL.out];rfl,YH _ _,Z⟩,
     bE λa W b=>⟨[(44,.pointer (F ⟨f,0+37*j,G⟩))],.pointer (F ⟨f,0+37*j,G⟩),W,⟨b.n 10 44 kR kR,yw⟩,kR,YH _ _,Z⟩,yw⟩ ⟨HK.1.drew,HK.2⟩ ?_
    intro V W3 hw b;have kh:=hw 9 dC;have h9:=hw 11 dC;obtain⟨W4,h2⟩:=hE (W3.setCells f (37*j) (wn (sPl N s n)));have K4:E (Mx w W4 w.heap.size (mrg N ns o (i+1)) (sZ f l.length cap)):=by
     rw[<-h2.out,KN.out,<-(HS HL.out)];exact b.1.again HJ.2 HJ.1 HL.out n
    have kf:E (W3.there f (37*j) 4):=by
     intro t ht;have hj:=HL.out;rcases b.1.ow.2 with⟨h,-⟩|⟨g2,hy,cur,he,-,hc,hn,-,hs,-⟩
     .cases h
     .injection he with he1 he2 he3
      injection he1 with he1
      injection he1 with he1
      subst he1;have kg:37*j+t<cur.size:=by
       rw[hs];have:(j+1)*37<=hy*37:=te 37 S;omega
      refine⟨?_,?_⟩
      .simp[pn,hc,kg]
      .simp[ut,hc]
    dsimp only[dF,Zs,gD,qg];simp only[Zo,Yw,Yy,Yz];obtain⟨vz,hq⟩:=hE (nv (sPl N s n));rw[kh,h9,hq.out,Yv];go_wp2_with (first|(refine ZJ Z 49 _ _ Z f (37*j) (wn (sPl N s n)).toArray ?_ ?_ ?_ ?_ ?_ ?_;rfl;exact hq.symm;exact kf.out;exact zy;exact aM (n:=(sPl N s n));rw[show(wn (sPl N s n)).toArray.toList=wn (sPl N s n) from Z,h2.out])|fail)
    go_roundg (gk-1)
    case measure=>omega
    case rel=>exact⟨i+1,S,Z,K4⟩
  .have kb:¬(i:Y)<(k:Y):=S;obtain rfl:i=k:=S;go_wp2_with fail
   refine(h7 wr _ KM.out).mono ?_;rintro e m ⟨r,rfl,b⟩;have f:=Hid.mk' b;go_wp2;go_ret;exact⟨_,Z,f.out⟩
def LF(l:LB):LB:=l.filter λx=>x.1 != 0
def qR(k:j<l.length):LF (l.take (j+1))=LF (l.take j)++(if (l[j]).1=0 then [] else [l[j]]):=by
 rw[LF,yEq,YC k,H.filter_append]
 congr 1
 by_cases h:(l[j]).1=0
 .simp[h]
 simp[h]
def Su(l:LB)(j:I):(LF (l.take j)).length<=j:=
 YA (yD6 _ _) (by rw[sj];exact I.min_le_left _ _)
def Dn{x:I × Bs}(h:x∈LF l):x∈l:=(yCO.1 h).1
def wK{ns:I->I}:∀(m i:I),(∃j,i<=j/\j<i+m/\ns j=0)->∃k,lJ ns i m=((k:I):Y)/\i<=k/\k<i+m/\ns k=0/\∀j,i<=j->j<k->ns j≠0
 | 0,i,h=>by obtain⟨j,h1,f,-⟩:=h;omega
 | m+1,i,h=>by
  unfold lJ;by_cases b:ns i=0
  .rw[zd b];exact⟨i,Z,Ys _,S,b,λj h1 f=>S⟩
  rw[zi b];let⟨j,h1,f,e⟩:=h
  let⟨k,g,p,e3,l,n⟩:=wK m (i+1) ⟨j,by
   rcases iB i j with h|h
   .omega
   obtain rfl:j=i:=S;exact absurd e b,S,e⟩
  refine⟨k,g,S,S,l,λc o d=>?_⟩;rcases iB i c with h|h
  .exact n c h d
  obtain rfl:c=i:=S;exact b
def Rw(W:Yp)(g j:I)(x:I × Bs):Prop:=W.rangeAt g (37*j) (wn x.1++aA x.2)
def Rw.below{x:I × Bs}(h:Rw W g j x)(k:kZ W W')(b:g<W.heap.size):Rw W' g j x:=RG.range_below h k b
structure Dz(base:I)(w W:Yp)(g:I)(l:LB)(j:I):Prop where
 bl:Below base w W
 hb:base<=W.heap.size
 lt:g<W.heap.size
 th:W.there g 0 (37*l.length)
 lo:∀a (ha:a<(LF (l.take j)).length),Rw W g a ((LF (l.take j))[a])
 hi:∀b (hb:b<l.length),j<=b->Rw W g b (l[b])
def Dz.grow(h:Dz base w W g l j)(k:kZ W W'):Dz base w W' g l j:=
 ⟨h.bl.trans (k.mono h.hb),YA h.hb k.size,Yr h.lt k.size,jD h.th k h.lt,λa d=>(h.lo a d).below k h.lt,λb c e=>(h.hi b c e).below k h.lt⟩
def Dz.skip(h:Dz base w W g l j)(k:j<l.length)(d:(l[j]).1=0):Dz base w W g l (j+1):=by
 have e:LF (l.take (j+1))=LF (l.take j):=by rw[qR k,zd d,po]
 exact⟨h.bl,h.hb,h.lt,h.th,λa c=>by
  have h1:=h.lo a (by rw[<-e];exact c);simp only[e];exact h1,λb f k=>h.hi b f S⟩
def Dz.put(h:Dz base w W g l j)(o:base<=g)(hs:∀x∈l.map (·.2),x.size=33)(i:j<l.length)(n:(l[j]).1≠0):
 Dz base w (W.setCells g (37*(LF (l.take j)).length) (wn (l[j]).1++aA (l[j]).2)) g l (j+1):=by
 have e:LF (l.take (j+1))=LF (l.take j)++[l[j]]:=by rw[qR i,zi n]
 have s:=Su l j;have d:∀x∈l,(wn x.1++aA x.2).length=37:=λx hx=>iW (hs x.2 (YT.2 ⟨x,hx,Z⟩))
 have k:=d (l[j]) (ZC i);refine⟨RG.below_setCells o _ _ _ h.bl,by rw[setCells_size];exact h.hb,by rw[setCells_size];exact h.lt,tS h.th _ _ _,λa m=>?_,λb r p=>?_⟩
 .simp only[e]at m⊢;by_cases c:a<(LF (l.take j)).length
  .rw[H.getElem_append_left c];exact Zv (h.lo a c) g _ _ (YZ (Y3 (by rw[d _ (yCY (Dn (ZC c)))];omega)))
  have f:a=(LF (l.take j)).length:=by rw[Yx,H.length_singleton]at m;omega
  subst f;rw[H.getElem_append_right (Ys _)];simp only[oF,H.getElem_singleton];refine sg W g _ _ λt q=>?_
  rw[k]at q;have:=h.th (37*(LF (l.take j)).length+t) S;rwa[Yv]at this
 exact Zv (h.hi b r S) g _ _ (YZ (YZ (by rw[k];omega)))
def Lp(n:I):∀v∈(Z7 (Y8 zT.toArray).cells n).toList,v.oneCell'=J:=by
 intro v hv;have hl:(Y8 zT.toArray).cells.size=37:=kR;unfold Z7 at hv;rw[yt.toList_map]at hv;obtain⟨i,-,rfl⟩:=YT.1 hv;have k:i%(Y8 zT.toArray).cells.size<(Y8 zT.toArray).cells.size:=ZL _ (by rw[hl];decide);rw[getElem!_pos (Y8 zT.toArray).cells _ k];exact SA _ (by
  have e:(Y8 zT.toArray).cells.toList=zT:=kR;have b:=yt.getElem_mem_toList k;rwa[e]at b)
def QD(g i n c:I)(w:Yp)(m:0<n)(h:w.there g 0 (37*(i+n))):∃Z:H Yq,∀b,(yEm #[131] b #[qZ g (37*i) n c]).run prog w=.ok (.tuple #[]) (w.setCells g (37*i) Z):=by
 have h1:=Sz w;have l:=uh Ft w;have ho:=Lp n;have hl:(Z7 (Y8 zT.toArray).cells n).toList.length=n*37:=by
  have:(Y8 zT.toArray).cells.size=37:=kR;rw[YM,size_zeroCells,this]
 generalize (Y8 zT.toArray)=f at h1 ho hl;generalize e:(Z7 f.cells n).toList=Z at ho hl;have d:(storeCells ⟨g,37*i,G⟩ Z).run prog w=.ok () (w.setCells g (37*i) Z):=
  run_storeCells_cells (P:=prog) g (37*i) Z 0 w (λj k=>by rw[hl]at k;have:=(h (37*i+j) S).1;simpa using this) (λj k=>by rw[hl]at k;have:=(h (37*i+j) S).2;simpa using this) ho
 refine⟨Z,λb=>?_⟩;obtain⟨k,rfl⟩:∃k,n=k+1:=⟨n-1,S⟩
 unfold yEm;simp[YU,l,h1,e,d]
def Xq(g i:I)(b:i<=n)(k:n<=c)(w:Yp):(gS 131 (sZ g n c) G (F (iZ i)) G).run prog w=.ok (sZ g i c) w:=by
 have h1:¬(i:Y)<0:=S;have d:(i:Y)<=(c:Y):=S;go_simp
def Xp(g:I)(b:i<n)(k:n<=c)(w:Yp):(gS 131 (sZ g n c) (F (iZ i)) G G).run prog w=.ok (qZ g (37*i) (n-i) (c-i)) w:=by
 have h1:¬(i:Y)<0:=S;have d:(i:Y)<=(n:Y):=S;go_simp;rw[zi S,Ze]
def TmL(W:Yp)(q:zb ai)(l:LB):Prop:=0<l.length->∃g,q=F (aZ g)/\g<W.heap.size/\∀j (k:j<l.length),W.rangeAt g (37*j) (wn (l[j]).1++aA (l[j]).2)
def Yo(base:I)(l:LB)(w:Yp)(e:Yq)(w':Yp):Prop:=Below base w w'/\∃q cap,e=.slice q (LF l).length cap/\TmL w' q (LF l)
def Jv(h:∀x∈l,x.1≠0):LF l=l:=H.filter_eq_self.2 λx hx=>by simpa using h x hx
def Ss{l:LB}{k:I}(c:k<l.length)(b:(l[k]).1=0):∀j,k<j->j<=l.length->(LF (l.take j)).length<j
 | 0,h,_=>S
 | j+1,h,hj=>by
  rw[qR S,Yx];rcases iB k j with h1|h1
  .have:=Ss c b j h1 S;split<;>simp<;>omega
  obtain rfl:j=k:=S;rw[zd b];have:=Su l j;simp;omega
def NS(l:LB)(hz:0<l.length)(k5:l.length<=1000)(hs:∀x∈l.map (·.2),x.size=33)(hn:∀x∈l,x.1<top)(base:I)(v:Yq)(w:Yp)(hb:base<=w.heap.size)(ho:w.ownsRow base 226 37 v l.length (aV l)):
 cZ 204 #[v,.func (.func 205) #[] #[]] w (Ret (Yo base l w)):=by
 obtain⟨g,c,rfl,h7,z,hr⟩:=uW ho hs hz;have M:∀(j:I) (k:j<l.length),(l[j]).2.size=33:=λj k=>hs _ (YT.2 ⟨_,ZC k,rfl⟩)
 have C:l.length<=c/\w.there g 0 (37*l.length):=by
  rcases ho.2 with⟨h,-⟩|⟨y,o,cur,r,-,q,d,-,f,-⟩
  .cases h
  .injection r with he1 he2 he3
   injection he1 with he1
   injection he1 with he1
   subst he1;subst he3;refine⟨d,λt ht=>?_⟩;have s:0+t<cur.size:=by
    rw[f];have:l.length*37<=c*37:=te 37 d;omega
   exact⟨by simp only[pn,q];simp;omega,by simp[ut,q]⟩
 by_cases r:∀x∈l,x.1≠0
 .have V:=Jv r;refine(EL g l.length c S (λj=>((l[j]?).getD (0,#[])).1) (λj=>((l[j]?).getD (0,#[])).2) (λj k=>by rw[YC k];exact hn _ (ZC k)) (λj k=>by rw[YC k];exact r _ (ZC k)) (λj k=>by rw[YC k];exact M j k) w z (λj k=>by rw[YC k];exact hr j k)).mono ?_;rintro e f ⟨vv,rfl,d,rfl⟩;refine⟨_,rfl,d.mono hb,F (aZ g),c,by rw[V],?_⟩;rw[V];exact λ_=>⟨g,rfl,Yr z d.size,λj k=>RG.range_below (hr j k) d z⟩
 .have hI:=IU g l.length c S (λj=>((l[j]?).getD (0,#[])).1) (λj=>((l[j]?).getD (0,#[])).2) (λj k=>by rw[YC k];exact hn _ (ZC k)) (λj k=>by rw[YC k];exact M j k) w z (λj k=>by rw[YC k];exact hr j k);obtain⟨o,e1,-,e3,e4,e5⟩:=wK (ns:=λj=>((l[j]?).getD (0,#[])).1) l.length 0 (by
   have:∃x,x∈l/\x.1=0:=Z1 λh=>r λx hx O=>h ⟨x,hx,O⟩
   obtain⟨x,hx,d⟩:=this;obtain⟨j,k⟩:=rm hx;exact⟨j,aw _,oN ((YF.1 k).1),by show((l[j]?).getD (0,#[])).1=0;rw[k];exact d⟩)
  rw[e1]at hI;have N:o<l.length:=S;have L:(l[o]).1=0:=by
   have:((l[o]?).getD (0,#[])).1=0:=e4;rw[YC N]at this;exact this
  have K:LF (l.take o)=l.take o:=Jv λx hx=>by
   obtain⟨j,k⟩:=rm hx;rw[qk]at k;split at k
   .rename_i hji
    have:=e5 j (aw _) hji;have d:((l[j]?).getD (0,#[])).1≠0:=this;rw[k]at d;exact d
   .cases k
  have A:(LF (l.take o)).length=o:=by rw[K,sj];omega
  have D0:Dz base w w g l o:=⟨YH _ _,hb,z,C.2,λa ha=>by
   simp only[K]at ha⊢;rw[H.getElem_take];exact hr a _,λb d _=>hr b d⟩
  have D1:Dz base w w g l (o+1):=D0.skip N L;have e6:(LF (l.take (o+1))).length=o:=by rw[qR N,zd L,po];exact A
  have HI:=Hid.mk' hI;have HZ:E (∀j,o<j->j<=l.length->(LF (l.take j)).length<j):=Ss N L;have hk:=Hid.mk' D1;have P:E (base<=g/\l.length<=c/\(∀x∈l.map (·.2),x.size=33)/\(∀x∈l,x.1<top)/\∀(j:I) (k:j<l.length),(l[j]).2.size=33):=⟨h7,C.1,hs,hn,M⟩
  obtain⟨d',h8,hq⟩:=Yu.1 uT;have HD:E (prog.underlying 226=F d'/\d'.isRow=J):=⟨h8,hq⟩
  have k6:¬((o:Y) = -1):=S;clear h8 hq hI D0 D1 hs hn ho hr M C r e1 e4 e5 K A L h7 z;go_enter func204,ntmps204;go_wp2_with fail
  refine HI.mono ?_;rintro e w1 ⟨vv,rfl,hw,rfl⟩;have K1:E (Dz base w w1 g l (o+1)):=hk.grow hw;clear hw HI hk;go_wp2_with fail
  go_loopg [5,6] (l.length-(o+1)) (λm s5 s6 W=>∃j:I,o<j/\j+m=l.length/\s6=iZ j/\s5=iZ ((LF (l.take j)).length:Y)/\E (Dz base w W g l j))
  case atStart=>exact⟨o+1,S,S,rfl,by rw[e6],K1⟩
  case round =>
   clear K1;obtain⟨j,hi,k7,rfl,rfl,T⟩:=hrel;by_cases k:j<l.length
   .have k2:(j:Y)<(l.length:Y):=S;obtain⟨n,q⟩:∃n,E ((l[j]'k).1=n):=⟨(l[j]'k).1,(rfl:(l[j]'k).1=(l[j]'k).1)⟩
    obtain⟨p,h3⟩:∃p,E ((l[j]'k).2=p):=⟨(l[j]'k).2,(rfl:(l[j]'k).2=(l[j]'k).2)⟩
    obtain⟨i,d⟩:=yH ((LF (l.take j)).length);have y:i<l.length:=by have:=HZ j hi S;rw[d.out]at this;omega
    rw[d.out];have hg:E (p.size=33):=h3.out▸P.2.2.2.2 j k;have k1:E (n<top):=q.out▸P.2.2.2.1 _ (ZC k);have B0:E (wr.rangeAt g (37*j) (wn n++aA p)):=by
     have h:=T.hi j k (Ys _);unfold Rw at h;rw[q.out,h3.out]at h;exact h
    obtain⟨Q,h5⟩:=yH (wr.alloc (.cells zT.toArray 226));obtain⟨W2,hy⟩:=yH (Q.setCells wr.heap.size 0 (wn n++aA p));have s:(wn n++aA p).length=37:=iW hg;have F1:E (yz Q wr.heap.size zT/\kZ wr Q/\Q.heap.size=wr.heap.size+1):=by rw[<-h5.out];exact⟨aF (w:=wr),aD (w:=wr) _,YE _ _⟩
    have F2:E (yz W2 wr.heap.size (wn n++aA p)/\kZ wr W2):=by rw[<-hy.out];exact⟨F1.1.put (by rw[s];rfl),RG.below_setCells (Ys _) _ _ _ F1.2.1⟩
    have X:E (gZ 226 (wn n++aA p).length):=by show _=_;rw[s];exact iT
    have h4:E (gZ 226 (wn n++aA p).toArray.size/\Q.there wr.heap.size 0 (wn n++aA p).toArray.size):=by
     have e:(wn n++aA p).toArray.size=37:=by rw[Zq];exact s
     rw[e];exact⟨iT,F1.1.2.2⟩
    have h9:E ((wn n++aA p).toArray.all (·.oneCell')=J):=by
     show _=_;rw[oT];intro u f;exact cells_one (n:=n) (a:=p) u (yp.1 f)
    have k4:=atT g 0 (n:=l.length) c (i:=j) k;obtain⟨vt,hm⟩:=yH (tvl n p);have f:E (Y8 (wn n++aA p).toArray=vt):=hm;have K2:E (Dz base w W2 g l j):=T.grow F2.2;have HN:=Hid.mk' (MV k1 hg W2);rw[hm.out]at HN;clear T;go_wp2_with (first|(refine Zu rfl 226 _ rfl g (37*j) ?_ (wn n++aA p) d' ?_ ?_ ?_ ?_ ?_;rfl;exact B0;exact HD.1;exact HD.2;exact X;rw[f.out])|(refine bY (v:=jZ wr.heap.size) (w':=Q) rfl (.alloc 226) rfl ?_ ?_;(rw[<-h5.out];kernel_rfl))|(refine ZJ rfl 226 _ _ rfl wr.heap.size 0 (wn n++aA p).toArray ?_ ?_ ?_ ?_ ?_ ?_;rfl;exact f.symm;exact h4.2;exact h4.1;exact h9;rw[show(wn n++aA p).toArray.toList=wn n++aA p from rfl,hy.out])|(refine Zu rfl 226 _ rfl wr.heap.size 0 ?_ (wn n++aA p) d' ?_ ?_ ?_ ?_ ?_;rfl;exact F2.1.2.1;exact HD.1;exact HD.2;exact X;rw[f.out])|fail)
    refine HN.mono ?_;rintro e W3 ⟨vv,rfl,h2,rfl⟩;have K3:E (Dz base w W3 g l j/\yz W3 wr.heap.size (wn n++aA p)):=⟨K2.grow h2,F2.1.below h2⟩
    clear h2 K2 HN F2 F1;by_cases O:n=0
    .rw[show decide (n=0)=J by simp[O]];have K4:E (Dz base w W3 g l (j+1)):=K3.1.skip k (q.out▸O);have e4:E ((LF (l.take (j+1))).length=i):=by
      show _=_;rw[qR k,zd (q.out▸O),po];exact d
     go_wp2;go_roundg (gk-1)
     case measure=>omega
     case rel=>exact⟨j+1,S,S,rfl,by rw[e4.out],K4⟩
    .rw[show decide (n=0)=D by simp[O]];obtain⟨W4,hp⟩:=yH (W3.setCells g (37*i) (wn n++aA p));have K4:E (Dz base w W4 g l (j+1)):=by
      have h:=K3.1.put P.1 P.2.2.1 k (q.out▸O);rw[d.out,q.out,h3.out,hp.out]at h;exact h
     have e4:E ((LF (l.take (j+1))).length=i+1):=by
      show _=_;rw[qR k,zi (q.out▸O),Yx,d.out];rfl
     have k0:E (W3.there g (37*i) (wn n++aA p).toArray.size):=by
      have e:(wn n++aA p).toArray.size=37:=by rw[Zq];exact s
      rw[e];intro t ht;have:=K3.1.th (37*i+t) S;rwa[Yv]at this
     have k3:=atT g 0 (n:=l.length) c (i:=i) y;go_wp2_with (first|(refine Zu rfl 226 _ rfl wr.heap.size 0 ?_ (wn n++aA p) d' ?_ ?_ ?_ ?_ ?_;rfl;exact K3.2.2.1;exact HD.1;exact HD.2;exact X;rw[f.out])|(refine ZJ rfl 226 _ _ rfl g (37*i) (wn n++aA p).toArray ?_ ?_ ?_ ?_ ?_ ?_;rfl;exact f.symm;exact k0;exact h4.1;exact h9;rw[show(wn n++aA p).toArray.toList=wn n++aA p from rfl,hp.out])|fail)
     go_roundg (gk-1)
     case measure=>omega
     case rel=>exact⟨j+1,S,S,rfl,by rw[e4.out];rfl,K4⟩
   .have k2:¬(j:Y)<(l.length:Y):=S;obtain rfl:j=l.length:=S;have V:LF (l.take l.length)=LF l:=by rw[yDn]
    rw[V];have y:(LF l).length<l.length:=by have:=HZ l.length hi (Ys _);rw[V]at this;exact this
    have s:∀a (ha:a<(LF l).length),Rw wr g a ((LF l)[a]):=λa ha=>by
     have:=T.lo a (by rw[V];exact ha);simp only[V]at this;exact this
    have f:∀x∈LF l,(wn x.1++aA x.2).length=37:=λx hx=>iW (P.2.2.1 _ (YT.2 ⟨x,Dn hx,rfl⟩))
    obtain⟨Z,hZ⟩:=QD g (LF l).length (l.length-(LF l).length) (c-(LF l).length) wr S (by rw[show(LF l).length+(l.length-(LF l).length)=l.length by omega];exact T.th);obtain⟨O,q⟩:=yH (wr.setCells g (37*(LF l).length) Z);rw[q.out]at hZ;have K5:E (Below base w O/\TmL O (F (aZ g)) (LF l)):=by
     rw[<-q.out];refine⟨RG.below_setCells P.1 _ _ _ T.bl,λ_=>⟨g,rfl,by rw[setCells_size];exact T.lt,λa ha=>?_⟩⟩;exact Zv (s a ha) g _ _ (YZ (Y3 (by rw[f _ (ZC ha)];omega)))
    have X:=Xp g (n:=l.length) (c:=c) (i:=(LF l).length) y P.2.1;have Q:=Xq g (n:=l.length) (c:=c) (LF l).length S P.2.1;clear T s f V q;obtain⟨i,d⟩:=yH ((LF l).length);rw[d.out]at X Q hZ y⊢;go_wp2;go_ret;exact⟨_,rfl,K5.1,F (aZ g),c,by rw[d.out];rfl,K5.2⟩
def Vi{x:yv}:encB x≠.slice p n c:=λh=>by cases h
def El(n:I)(W:Yp)(x:Yq)(b:Bs):Prop:=∃k c,x=sZ k n c/\n<=c/\b.size=n/\k<W.heap.size/\hZ W k 0 b
def isL(n:I)(W:Yp)(g:I):Prop:=∃p c,W.cell? ⟨g,0,G⟩=F (.slice p n c)
structure Gr(n:I)(v:Yq)(W W':Yp):Prop where
 gr:W.grownBy W' v.ownBlock
 is:∀g,v.ownBlock=F g->isL n W g
def Gr.of(h:kZ W W'):Gr n nZ W W':=
 ⟨⟨h.os,h.tape,h.output,h.size,λk b _=>h.block k b⟩,λg c=>by cases c⟩
def Gr.below{v:Yq}{B:I}(h:Gr n v W W')(c:Below B w W)(d:B<=W.heap.size)(hv:∀g,v.ownBlock=F g->B<=g):Below B w W':=
 c.grown h.gr d (λk b=>hv k b)
def Gr.block{k:I}{v:Yq}(h:Gr n v W W')(d:k<W.heap.size)(b:∀p c,W.cell? ⟨k,0,G⟩≠F (.slice p n c)):W'.heap[k]? = W.heap[k]? :=
 h.gr.block k d λe=>by
  let⟨p,c,f⟩:=h.is k e.symm
  exact b p c f
def Holds.kept{k:I}{b:Bs}(h:hZ W k 0 b)(e:W'.heap[k]? = W.heap[k]?):hZ W' k 0 b:=λj c=>by
 rw[Y1 (a:=⟨k,0+j,G⟩) e,ZZ (a:=⟨k,0+j,G⟩) e];exact h j c
def El.kept{v x:Yq}{b:Bs}(h:El m W x b)(j:0<m)(d:Gr n v W W'):El m W' x b:=by
 obtain⟨k,c,rfl,h1,i,f,e⟩:=h;refine⟨k,c,Z,h1,i,Yr f d.gr.size,Holds.kept e (d.block f λp c' g=>?_)⟩;have:=(e 0 S).1;rw[Yv,g]at this;exact Vi (YR.inj this).symm
def Row.kept{k:I}{v:Yq}(h:yz W k vs)(f:Gr n v W W')(b:∀p c,vs[0]?≠F (.slice p n c))(hl:0<vs.length):yz W' k vs:=by
 have e:=f.block h.1 λp c g=>by
  have d:=h.2.1 0 vs[0] (YC hl);rw[Yv,g]at d;exact b p c (by rw[YC hl,d])
 refine⟨Yr h.1 f.gr.size,λj u d=>?_,λj d=>?_⟩
 .rw[Y1 (a:=⟨k,0+j,G⟩) e];exact h.2.1 j u d
 rw[Y1 (a:=⟨k,0+j,G⟩) e,ZZ (a:=⟨k,0+j,G⟩) e];exact h.2.2 j d
structure Lo(n base:I)(W:Yp)(v:Yq)(bs:H Bs):Prop where
 ex:∃xs:H Yq,xs.length=bs.length/\W.ownsRow base 23 1 v bs.length xs/\∀(j:I) (x:Yq) (b:Bs),xs[j]? = F x->bs[j]? = F b->El n W x b
 nil:bs=[]->v=nZ
def Lo.begin(n base:I)(W:Yp):Lo n base W nZ []:=⟨⟨[],Z,yDa _ _ _ _,λj x b h=>by cases h⟩,λ_=>rfl⟩
theorem add0(g j:I):(⟨g,0,G⟩:ai).add j=⟨g,j,G⟩:=by unfold oB;split<;>simp_all
def Lo.isL{v:Yq}{bs:H Bs}(h:Lo n base W v bs)(f:v.ownBlock=F g):isL n W g:=by
 let⟨xs,h1,j,i⟩:=h.ex
 have d:bs≠[]:=λe=>by rw[h.nil e]at f;cases f
 cases bs with
 | nil=>exact absurd Z d
 | cons b r =>
  cases xs with
  | nil=>cases h1
  | cons x xr =>
   obtain⟨k,c,rfl,-⟩:=i 0 x b Z Z;have:=j.cells f 0 _ Z;rw[add0]at this;exact⟨_,_,this⟩
def Lo.lt{v:Yq}{bs:H Bs}(h:Lo n base W v bs):∀g,v.ownBlock=F g->base<=g/\g<W.heap.size:=by
 let⟨xs,h1,k,b⟩:=h.ex
 exact k.lt
def Lo.kept{v l:Yq}{bs:H Bs}(h:Lo m base W v bs)(i:0<m)(d:Gr n l W W')(f:m≠n):Lo m base W' v bs:=by
 have o:=λ{g}=>h.isL (g:=g)
 let⟨xs,h1,t,r⟩:=h.ex
 refine⟨⟨xs,h1,t.kept d.gr ?_,λj x b hx q=>(r j x b hx q).kept i d⟩,h.nil⟩;cases hv:v.ownBlock with
 | none=>exact Y3 Z
 | some g =>
  refine YZ λe=>f ?_
  let⟨p,c,s⟩:=o hv
  let⟨u,c',k⟩:=d.is g e.symm
  rw[s]at k;injection k with k
  injection k with _ h5 _
def Wj:(prog.info? 23).map (λi=>(i.size,i.bytes,i.zero.map λz=>z.cells.size))=F (1,24,F 1):=kR
def Xk:prog.underlying 24=F (.slice 23):=kR
def Lo.app{v x:Yq}{bs:H Bs}{b:Bs}(h:Lo n base W v bs)(r:0<n)(hx:El n W x b)(M:W.cell? ⟨g,0,none⟩=F x)(V:bs.length<=1000000)(A:base<=W.heap.size):
 ∃o W',(Zn #[24,24] 24 #[v,sZ g 1 1]).run prog W=.ok o W'/\Lo n base W' o (bs++[b])/\Gr n v W W':=by
 let⟨i,Q,s⟩:=Yu.1 Wj
 simp only[ZV.injEq]at s;let⟨h1,O,L⟩:=s
 let⟨z,N,q⟩:=Yu.1 L
 let⟨xs,t,C,w⟩:=h.ex
 let⟨o,W',T,r2,K,X⟩:=xj (P:=prog) W base 24 24 23 i z 1 24 Xk Q N h1 O q dC v bs.length xs C (aZ g) 1 1 [x] Z
  (λj u p=>by
   cases j with
   | zero =>
    obtain rfl:x=u:=by simpa using p
    rw[add0];exact M
   | succ j=>simp at p) (λu f=>by
   obtain rfl:u=x:=by simpa using f
   obtain⟨k,c,rfl,-⟩:=hx;rfl) (by unfold maxLen;omega) S A
 have G:Gr n v W W':=⟨K,λg a=>h.isL a⟩
 refine⟨o,W',T,⟨⟨xs++[x],by simp[t],by rw[Yx];exact r2,λj y c l f=>?_⟩,λe=>by simp at e⟩,G⟩;by_cases p:j<bs.length
 .rw[Zc S]at l f;exact(w j y c l f).kept r G
 rw[Zx S]at l f;rw[t]at l;cases m:j-bs.length with
 | zero =>
  rw[m]at l f;obtain rfl:x=y:=by simpa using l
  obtain rfl:b=c:=by simpa using f
  exact hx.kept r G
 | succ d=>rw[m]at l;simp at l
def JU{a:Bs}(f:a.size=33):Zl prog 142 #[pvl a] w (rZ w λe w'=>El 33 w' e a):=by
 have g:=Hid.mk' (AP f w);obtain⟨c,b⟩:=hE (w.alloc (.cells (aA a).toArray 103));rw[b.out]at g;have K:E (yz c w.heap.size (aA a)/\kZ w c):=by rw[<-b.out];exact⟨aF,aD _⟩
 obtain⟨va,k⟩:=hE (pvl a);have d:E ((ZM 103 va).run prog w=.ok (jZ w.heap.size) c):=by rw[<-k.out];exact g
 rw[k.out];have hs:=Vr w.heap.size;go_enter func142,ntmps142;go_wp2_with (first|(refine aG (u:=va) (v:=jZ w.heap.size) (w':=c) Z 103 (.tmp 0) Z ?_ ?_ ?_;rfl;exact d))
 go_ret;exact⟨_,Z,K.2,w.heap.size,33,Z,S,f,K.1.1,row_holds K.1⟩
def Bo(n c:I)(W:Yp)(v:Yq)(b:Bs):Prop:=∃k x,v=sZ k 1 1/\c<=k/\k<W.heap.size/\W.cell? ⟨k,0,G⟩=F x/\El n W x b
def Bo.kept{v:Yq}{b:Bs}(h:Bo n d W v b)(i:0<n)(c:Gr m u W W')(j:∀g,u.ownBlock=F g->g<d):Bo n d W' v b:=by
 obtain⟨k,x,rfl,h1,f,o,l⟩:=h;refine⟨k,x,Z,h1,Yr f c.gr.size,?_,l.kept i c⟩;rw[Y1 (a:=⟨k,0,G⟩) (c.gr.block k f λe=>oN (j k e.symm))];exact o
def Tm(W:Yp)(q:zb ai)(k:I)(ns:I->I)(b:I->Bs):Prop:=0<k->∃g,q=F (aZ g)/\g<W.heap.size/\∀j,j<k->W.rangeAt g (37*j) (wn (ns j)++aA (b j))
def Tm.kept{k:I}{q:zb ai}{ns:I->I}{b:I->Bs}(h:Tm W q k ns b)(f:Gr m u W W'):Tm W' q k ns b:=λl=>by
 let⟨g,h1,o,n⟩:=h l
 refine⟨g,h1,Yr o f.gr.size,λj r i v hv=>?_⟩;have e:=f.block o λp c s=>by
  have d:=n 0 l 0 _ (show(wn (ns 0)++aA (b 0))[0]? = F _ from Z);rw[show 37*0+0=0 from Z,s]at d;cases d
 rw[Y1 (a:=⟨g,37*j+i,G⟩) e];exact n j r i v hv
section
variable (w0:Yp) (v3 v4:Yq) (k6 n B0 base:Nat) (p:Bs) (bs cs:List Bs) (q:Option ai) (k:Nat) (ns:Nat->Nat) (az:Nat->Bs)
def PR:I->Yq->Yp->Prop
 | 0,v,_=>v=v3
 | 1,v,_=>v=jZ k6
 | 2,v,_=>v=nv n
 | 3,v,w=>El 32 w v (bx n)
 | 4,v,w=>Bo 32 B0 w v (bx n)
 | 5,v,w=>Lo 32 base w v (bs++[bx n])
 | 6,v,_=>v=v4
 | 7,v,_=>v=oZ k6 4
 | 8,v,_=>v=pvl p
 | 9,v,w=>El 33 w v p
 | 10,v,w=>Bo 33 B0 w v p
 | 11,v,w=>Lo 33 base w v (cs++[p])
 | 12,v,w=>Lo 32 base w v (bs++[bx n])
 | 13,v,w=>Lo 33 base w v (cs++[p])
 | _,_,_=>True
def PBs:I->Yp->Prop
 | 0,w=>yz w k6 (wn n++aA p)
 | 1,w=>Lo 32 base w v3 bs
 | 2,w=>Lo 33 base w v4 cs
 | 3,w=>Below base w0 w/\base<=w.heap.size/\B0<=w.heap.size
 | 4,w=>Tm w q k ns az
 | 5,w=>yz w base z33
 | _,_=>True
def PE:I->Yp->Yp->Prop
 | 5=>Gr 32 v3
 | 11=>Gr 33 v4
 | _=>Gr 0 nZ
def Pk1:I->H I
 | 4=>[5]
 | 10=>[11]
 | _=>[]
def Pk2:I->H I
 | 1=>[5]
 | 2=>[11]
 | _=>[]
def FP:Flow:=⟨PR v3 v4 k6 n B0 base p bs cs,PBs w0 v3 v4 k6 n B0 base p bs cs q k ns az,PE v3 v4,Pk1,Pk2⟩
def OH(h:PE v3 v4 i w w'):∃m u,Gr m u w w'/\((i=5/\m=32/\u=v3)\/(i=11/\m=33/\u=v4)\/(i≠5/\i≠11/\m=0/\u=nZ)):=by
 unfold PE at h;split at h
 .exact⟨_,_,h,Y3 ⟨Z,Z,Z⟩⟩
 .exact⟨_,_,h,YZ (Y3 ⟨Z,Z,Z⟩)⟩
 rename_i h1 h2
 exact⟨_,_,h,YZ (YZ ⟨h1,h2,Z,Z⟩)⟩
variable (hv3:∀g,v3.ownBlock=some g->base<=g/\g<B0) (hv4:∀g,v4.ownBlock=some g->base<=g/\g<B0)
include hv3 hv4
def OG(h:(i=5/\m=32/\u=v3)\/(i=11/\m=33/\u=v4)\/(i≠5/\i≠11/\m=0/\u=nZ)):∀g,u.ownBlock=F g->base<=g/\g<B0:=by
 rcases h with⟨-,-,rfl⟩|⟨-,-,rfl⟩|⟨-,-,-,rfl⟩
 .exact hv3
 .exact hv4
 intro g k;cases k
def U6(r:j<14)(d:i≠j)(s:(Pk1 j).contains i=D)(h1:¬(j=12/\i=5))(f:¬(j=13/\i=11))(v:Yq)(w w':Yp)(hE:PE v3 v4 i w w')(hR:PR v3 v4 k6 n B0 base p bs cs j v w):PR v3 v4 k6 n B0 base p bs cs j v w':=by
 let⟨m,u,k,o⟩:=OH v3 v4 hE
 have q:=OG v3 v4 B0 base hv3 hv4 o;have l:m=32->i=5:=λh=>by rcases o with⟨h1,-⟩|⟨-,f,-⟩|⟨-,-,f,-⟩<;>omega
 have c:m=33->i=11:=λh=>by rcases o with⟨-,f,-⟩|⟨h1,-⟩|⟨-,-,f,-⟩<;>omega
 match j,r,hR with
 | 0,_,h=>exact h
 | 1,_,h=>exact h
 | 2,_,h=>exact h
 | 3,_,h=>exact El.kept h dC k
 | 4,_,h=>exact Bo.kept h dC k λg b=>(q g b).2
 | 5,_,h=>exact Lo.kept h dC k λe=>d (l e.symm)
 | 6,_,h=>exact h
 | 7,_,h=>exact h
 | 8,_,h=>exact h
 | 9,_,h=>exact El.kept h dC k
 | 10,_,h=>exact Bo.kept h dC k λg b=>(q g b).2
 | 11,_,h=>exact Lo.kept h dC k λe=>d (c e.symm)
 | 12,_,h=>exact Lo.kept h dC k λe=>h1 ⟨Z,l e.symm⟩
 | 13,_,h=>exact Lo.kept h dC k λe=>f ⟨Z,c e.symm⟩
 | _+14,r,_=>omega
def QX{b:I}(f:(Pk2 b).contains i=D)(w w':Yp)(hE:PE v3 v4 i w w')(hR:PBs w0 v3 v4 k6 n B0 base p bs cs q k ns az b w):PBs w0 v3 v4 k6 n B0 base p bs cs q k ns az b w':=by
 let⟨m,u,d,o⟩:=OH v3 v4 hE
 have t:=OG v3 v4 B0 base hv3 hv4 o;have s:m=32->i=5:=λh=>by rcases o with⟨h1,-⟩|⟨-,r,-⟩|⟨-,-,r,-⟩<;>omega
 have j:m=33->i=11:=λh=>by rcases o with⟨-,r,-⟩|⟨h1,-⟩|⟨-,-,r,-⟩<;>omega
 match b,f,hR with
 | 0,_,h=>exact Row.kept h d (λp c e=>by cases e) (by rw[Yx];exact Yr dC (xt 4 _))
 | 1,f,h=>exact Lo.kept h dC d λe=>by rw[s e.symm]at f;cases f
 | 2,f,h=>exact Lo.kept h dC d λe=>by rw[j e.symm]at f;cases f
 | 3,_,h=>exact⟨d.below h.1 h.2.1 λg l=>(t g l).1,YA h.2.1 d.gr.size,YA h.2.2 d.gr.size⟩
 | 4,_,h=>exact Tm.kept h d
 | 5,_,h=>exact Row.kept h d (λp c e=>by cases e) dC
 | _+6,_,_=>trivial
end
def Lo.drew{v:Yq}{bs:H Bs}(h:Lo n base W v bs):Lo n base W.drew v bs:=⟨h.ex,h.nil⟩
def SumR.all(C:At P)(O:Ord N){k:I}(x:k<=512){ns:I->I}{X:I->EC.Pt P}(l:∀j,j<k->ns j<N)(u:∀j,j<k->On (X j)){L M:I->Bs}(v:∀j,j<k->L j=bx (ns j))(t:∀j,j<k->M j=wr (X j)){e:Yq}(h:SumR P N w k k L M e w'):
 Ll w (wr (tot X k (λj=>(ns j:Int)))) e w':=by
 have s:∀j,j<k->rq N (L j)=F (ns j):=λj b=>by
  rw[v j b];have c:=Df (Yr (l j b) O.le);rw[rq,zd ⟨bP _,by rw[c];exact l j b⟩,c]
 have r:∀j,j<k->∃p,rd P (M j)=F p/\pt p=X j:=λj b=>by rw[t j b];exact Rm C (u j b)
 rcases h with⟨h,-⟩|⟨-,h,-⟩|⟨-,-,⟨⟨j,b,c⟩,-⟩|⟨g,m,⟨⟨j,b,c⟩,-⟩|⟨xs,ys,o,h⟩⟩⟩
 .exact absurd Z h
 .omega
 .rw[s j b]at c;cases c
 .obtain⟨p,d,-⟩:=r j b;rw[d]at c;cases c
 have q:∀j,j<k->g j=ns j:=λj b=>by
  have:=m j b;rw[s j b]at this;exact(YR.inj this).symm
 have d:∀j,j<k->Pair (xs j) (ys j) (X j)/\On (X j):=λj b=>by
  let⟨p,d,hpt⟩:=r j b
  have h1:=o j b;rw[d]at h1;have f:=VD C d;rw[hpt]at f;rw[YR.inj h1]at f;exact f
 have n:=Dy C (ns:=g) (xs:=xs) (ys:=ys) (p:=X) (N:=k) (λi f=>by rw[q i f];exact Yr (l i f) O.le) (λi f=>(d i f).1) (λi f=>(d i f).2);rw[(eJ k λj b=>by rw[q j b])]at n;rw[<-xO C (n.pair C) n.2];exact h
structure Pz(w W:Yp)(q:zb ai)(k i:I)(ns:I->I)(az:I->Bs)(s3 s4:Yq):Prop where
 bl:kZ w W
 l3:Lo 32 w.heap.size W s3 ((ZD i).map λj=>bx (ns j))
 l4:Lo 33 w.heap.size W s4 ((ZD i).map az)
 tm:Tm W q k ns az
 r2:yz W w.heap.size z33
def El.of_made{k:I}{b:Bs}(h:Made w k (cb b) w')(c:b.size=n):El n w' (sZ k n n) b:=⟨k,n,Z,Ys _,c,h.lt,cb_holds h.range h.there⟩
def Bo.of{k:I}{x:Yq}{b:Bs}(h:El n w x b)(c:0<n)(d:k<=w.heap.size)(T:YW):Bo n k (w.alloc (.cells #[x] T)) (sZ w.heap.size 1 1) b:=
 ⟨w.heap.size,x,Z,d,by rw[YE];omega,by rw[World.cell?_alloc_new];rfl,h.kept c (Gr.of (n:=0) (aD _))⟩
def Lo.args{v:Yq}{bs:H Bs}(h:Lo n base W v bs):∃q cap,v=.slice q bs.length cap/\(0<bs.length->∃g,q=F (aZ g)/\g<W.heap.size/\∀(j:I) (b:Bs),bs[j]? = F b->∃x,W.cell? ⟨g,j,G⟩=F x/\El n W x b):=by
 let⟨xs,h1,d,i⟩:=h.ex
 have f:=λ{g:I}=>d.cells (g:=g)
 rcases d.2 with⟨rfl,e⟩|⟨g,cap,cur,rfl,-,l,-⟩
 .exact⟨G,0,by rw[e],λh=>S⟩
 refine⟨_,_,Z,λ_=>⟨g,Z,(YX.1 l).1,λj b k=>?_⟩⟩;have c:j<xs.length:=by rw[h1];exact(YF.1 k).1
 have:=f (g:=g) Z j xs[j] (YC c);rw[add0]at this;exact⟨_,this,i j _ b (YC c) k⟩
def El.arg{x:Yq}{b:Bs}(h:El 32 W x b):Arg W x b:=by
 obtain⟨k,c,rfl,h1,f,d,e⟩:=h;exact⟨_,_,_,Z,f,λ_=>⟨k,0,Z,h1,d,e⟩⟩
def El.arg33{x:Yq}{b:Bs}(h:El 33 W x b):Arg33 W x b:=by
 obtain⟨k,c,rfl,h1,f,d,e⟩:=h;exact⟨_,_,_,Z,f,λ_=>⟨k,0,Z,h1,d,e⟩⟩
def FI(C:At P)(O:Ord N)(v:Yq)(w:Yp)(k:I)(hk:k<=512)(ns:I->I)(X:I->EC.Pt P)(hn:∀j,j<k->ns j<N)(hX:∀j,j<k->On (X j))
 (K:∀W,kZ w W->dZ 140 #[v] W λe w'=>∃q cap,e=.slice q k cap/\Tm w' q k ns (λj=>wr (X j))) :
 eZ 67 #[v] w (pvl (wr (tot X k (λj=>(ns j:Y))))):=by
 have HM:=Hid.mk' K;have y:E (At P/\Ord N/\(∀j,j<k->ns j<N)/\∀j,j<k->On (X j)):=⟨C,O,hn,hX⟩
 obtain⟨r,ha⟩:=yH ((λj=>wr (X j)):I->Bs);have A:E (∀j,r j=wr (X j)):=λj=>by rw[<-ha.out]
 rw[ha.out]at HM;obtain⟨w1,hc⟩:=yH (w.alloc (.cells z33.toArray 103));have K1:E (yz w1 w.heap.size z33/\kZ w w1):=by rw[<-hc.out];exact⟨aF (w:=w),aD (w:=w) _⟩
 obtain⟨d,k3,k0⟩:=Yu.1 uCP;obtain⟨d',hz,k1⟩:=Yu.1 uT;have HD:E ((prog.underlying 103=F d/\d.isRow=J)/\prog.underlying 226=F d'/\d'.isRow=J):=⟨⟨k3,k0⟩,hz,k1⟩
 clear k3 k0 hz k1 K hn hX ha C O;go_enter func67,ntmps67;go_wp2_with (refine bY (v:=jZ w.heap.size) (w':=w1) Z (.alloc 103) Z ?_ ?_;(rw[<-hc.out];kernel_rfl))
 clear hc;apply(HM w1 K1.2).mono;rintro e w2 ⟨vv,rfl,ht,q,cap,rfl,hT⟩;have K2:E (Pz w w2 q k 0 ns r nZ nZ):=⟨K1.2.trans (ht.mono K1.2.size),Lo.begin _ _ _,Lo.begin _ _ _,hT,K1.1.below ht⟩
 clear ht hT K1 HM;go_wp2_with fail
 go_loopg [3,4,12] k (λm s3 s4 s12 W=>∃i:I,i+m=k/\s12=iZ i/\E (Pz w W q k i ns r s3 s4))
 case atStart=>exact⟨0,S,Z,K2⟩
 case round =>
  clear K2;obtain⟨i,kd,rfl,l⟩:=hrel;by_cases hi:i<k
  .have k9:(i:Y)<(k:Y):=S;obtain⟨g,hq,M,hr⟩:=l.tm S;subst hq;obtain⟨n,hw⟩:=yH (ns i);obtain⟨p,h9⟩:=yH (r i);have B0:E (wr.rangeAt g (37*i) (wn n++aA p)):=by
    have h:=hr i hi;rw[hw.out,h9.out]at h;exact h
   have h8:E (p.size=33):=by rw[<-h9.out,A.out i];exact aY _
   have ka:E (n<N):=hw.out▸y.2.2.1 i hi;obtain⟨L,hy⟩:=yH (wr.alloc (.cells zT.toArray 226));obtain⟨s,k2⟩:=yH (L.setCells wr.heap.size 0 (wn n++aA p));have f:(wn n++aA p).length=37:=by rw[Yx,aB h8.out];rfl
   have F1:E (yz L wr.heap.size zT/\kZ wr L/\L.heap.size=wr.heap.size+1):=by rw[<-hy.out];exact⟨aF (w:=wr),aD (w:=wr) _,YE _ _⟩
   have Q:E (yz s wr.heap.size (wn n++aA p)/\kZ wr s):=by rw[<-k2.out];exact⟨F1.1.put (by rw[f];rfl),RG.below_setCells (Ys _) _ _ _ F1.2.1⟩
   have k5:E (gZ 226 (wn n++aA p).length):=by show _=_;rw[f];exact iT
   have k4:E (gZ 226 (wn n++aA p).toArray.size/\L.there wr.heap.size 0 (wn n++aA p).toArray.size):=by
    have e:(wn n++aA p).toArray.size=37:=by rw[Zq];exact f
    rw[e];exact⟨iT,F1.1.2.2⟩
   have k6:E ((wn n++aA p).toArray.all (·.oneCell')=J):=by
    show _=_;rw[oT];intro u c;exact cells_one (n:=n) (a:=p) u (yp.1 c)
   have kc:=atT g 0 (n:=k) cap (i:=i) hi;obtain⟨vt,t⟩:=yH (Y8 (wn n++aA p).toArray);have G2:Gr 0 nZ wr s:=Gr.of Q.2;have HB:E (∀b,PBs w u3 u4 wr.heap.size n s.heap.size w.heap.size p ((ZD i).map λj=>bx (ns j)) ((ZD i).map r) (F (aZ g)) k ns r b s.drew):=λb=>by
    match b with
    | 0=>exact Q.1
    | 1=>exact(l.l3.kept dC G2 dC).drew
    | 2=>exact(l.l4.kept dC G2 dC).drew
    | 3=>exact⟨(l.bl.trans (Q.2.mono l.bl.size)).drew,YA l.bl.size Q.2.size,Ys _⟩
    | 4=>exact l.tm.kept (W':=s) G2
    | 5=>exact l.r2.below (W':=s) Q.2
    | _+6=>trivial
   have H3:E (∀g,u3.ownBlock=F g->w.heap.size<=g/\g<s.heap.size):=λg M=>⟨(l.l3.lt g M).1,Yr (l.l3.lt g M).2 Q.2.size⟩
   have H4:E (∀g,u4.ownBlock=F g->w.heap.size<=g/\g<s.heap.size):=λg M=>⟨(l.l4.lt g M).1,Yr (l.l4.lt g M).2 Q.2.size⟩
   have HG:=Hid.mk' M;clear f hr G2 l Q M;go_wp2_with (first|(refine Zu Z 226 _ Z g (37*i) ?_ (wn n++aA p) d' ?_ ?_ ?_ ?_ ?_;rfl;exact B0;exact HD.2.1;exact HD.2.2;exact k5;rw[t.out])|(refine bY (v:=jZ wr.heap.size) (w':=L) Z (.alloc 226) Z ?_ ?_;(rw[<-hy.out];kernel_rfl))|(refine ZJ Z 226 _ _ Z wr.heap.size 0 (wn n++aA p).toArray ?_ ?_ ?_ ?_ ?_ ?_;rfl;exact t.symm;exact k4.2;exact k4.1;exact k6;rw[show(wn n++aA p).toArray.toList=wn n++aA p from Z,k2.out])|fail)
   refine Am (FP w u3 u4 wr.heap.size n s.heap.size w.heap.size p ((ZD i).map λj=>bx (ns j)) ((ZD i).map r) (F (aZ g)) k ns r) kR ⟨kR,NY ?_,λi' j ke hj k7 h5 z=>U6 u3 u4 wr.heap.size n s.heap.size w.heap.size p _ _ H3 H4 (i:=i') (j:=j) hj k7 h5 (λh=>by rw[h.1,h.2]at z;exact absurd (show D=J from z.symm.trans kR) dC) (λh=>by rw[h.1,h.2]at z;exact absurd (show D=J from z.symm.trans kR) dC),λi' b _ h5=>QX w u3 u4 wr.heap.size n s.heap.size w.heap.size p _ _ _ k ns r H3 H4 (i:=i') (b:=b) h5⟩ HB ?_
   .have o:∀W:Yp,Gr 0 nZ W W:=λW=>Gr.of (YH _ _)
    refine⟨oS 3 λa W c=>⟨a.eval (.tmp 3),W,kR,kR,o W,c.o 3 kR⟩,
     oS 6 λa W c=>⟨jZ wr.heap.size,W,kR,by rw[show a.eval (.tmp 6)=jZ wr.heap.size from c.o 6 kR];kernel_rfl,o W,Z⟩,
     Dc (T:=49) 17 Z u40 λa W c=>⟨wr.heap.size,0,wn n,c.n 1 17 kR kR kR,kY (show yz W wr.heap.size (wn n++aA p) from c.b 0 kR).2.1,zy,o W,Z⟩,
     Je 18 λa W c=>⟨141,#[nv n],kR,by rw[show a.eval (.tmp 18)=nv n from c.n 2 18 kR kR kR];kernel_rfl,(sK y.2.1 ka W).mono (by
      rintro e W' ⟨u,rfl,k',V,rfl⟩;exact⟨_,Z,Gr.of V.bel,El.of_made V (bP n)⟩)⟩,
     oS 19 λa W c=>⟨sZ W.heap.size 1 1,W.alloc (.cells #[a.eval (.tmp 19)] 23),kR,by
      obtain⟨k',c',V,-⟩:=show El 32 W (a.eval (.tmp 19)) (bx n) from c.n 3 19 kR kR kR
      rw[V];kernel_rfl,Gr.of (aD (w:=W) _),Bo.of (show El 32 W (a.eval (.tmp 19)) (bx n) from c.n 3 19 kR kR kR) dC (c.b 3 kR).2.2 _⟩,
     NX 16 20 24 Z λa W c=>?_,
     oS 4 λa W c=>⟨a.eval (.tmp 4),W,kR,kR,o W,c.o 4 kR⟩,
     oS 6 λa W c=>⟨oZ wr.heap.size 4,W,kR,by rw[show a.eval (.tmp 6)=jZ wr.heap.size from c.o 6 kR];kernel_rfl,o W,Z⟩,
     Dc (T:=103) 23 Z uCP λa W c=>⟨wr.heap.size,4,aA p,c.n 7 23 kR kR kR,mH (xs:=wn n) (show yz W wr.heap.size (wn n++aA p) from c.b 0 kR).2.1,by rw[aB h8.out];exact gI,o W,Z⟩,
     Je 24 λa W c=>⟨142,#[pvl p],kR,by rw[show a.eval (.tmp 24)=pvl p from c.n 8 24 kR kR kR];kernel_rfl,(JU h8 (w:=W)).mono (by
      rintro e W' ⟨u,rfl,hb,hE⟩;exact⟨_,Z,Gr.of hb,hE⟩)⟩,
     oS 25 λa W c=>⟨sZ W.heap.size 1 1,W.alloc (.cells #[a.eval (.tmp 25)] 23),kR,by
      obtain⟨k',c',V,-⟩:=show El 33 W (a.eval (.tmp 25)) p from c.n 9 25 kR kR kR
      rw[V];kernel_rfl,Gr.of (aD (w:=W) _),Bo.of (show El 33 W (a.eval (.tmp 25)) p from c.n 9 25 kR kR kR) dC (c.b 3 kR).2.2 _⟩,
     NX 22 26 24 Z λa W c=>?_,
     oS 21 λa W c=>⟨a.eval (.tmp 21),W,kR,kR,o W,c.n 5 21 kR kR kR⟩,
     oS 27 λa W c=>⟨a.eval (.tmp 27),W,kR,kR,o W,c.n 11 27 kR kR kR⟩,yw⟩
    .obtain⟨k',x,V,h1,h2,h3,h4⟩:=show Bo 32 s.heap.size W (a.eval (.tmp 20)) (bx n) from c.n 4 20 kR kR kR
     obtain⟨v',W',r1,r2,r3⟩:=Lo.app (show Lo 32 w.heap.size W u3 _ from c.b 1 kR) dC h4 h3 (by rw[YO,xk];omega) (c.b 3 kR).2.1;refine⟨v',W',?_,r3,r2⟩;rw[V,show a.eval (.tmp 16)=u3 from c.n 0 16 kR kR kR];exact r1
    .obtain⟨k',x,V,h1,h2,h3,h4⟩:=show Bo 33 s.heap.size W (a.eval (.tmp 26)) p from c.n 10 26 kR kR kR
     obtain⟨v',W',r1,r2,r3⟩:=Lo.app (show Lo 33 w.heap.size W u4 _ from c.b 2 kR) dC h4 h3 (by rw[YO,xk];omega) (c.b 3 kR).2.1;refine⟨v',W',?_,r3,r2⟩;rw[V,show a.eval (.tmp 22)=u4 from c.n 6 22 kR kR kR];exact r1
   .intro V w5 o c;have KN:E (Pz w w5 (F (aZ g)) k (i+1) ns r (V 12) (V 13)):=by
     have h1:=o 12 (rn (Zh kR)) Z;have h2:=o 13 (rn (Zh kR)) Z;refine⟨(c 3 Z).1,?_,?_,c 4 Z,c 5 Z⟩
     .rw[xm,pe];show Lo 32 w.heap.size w5 (V 12) (_++[bx (ns i)]);rw[hw.out];exact h1
     .rw[xm,pe];show Lo 33 w.heap.size w5 (V 13) (_++[r i]);rw[h9.out];exact h2
    clear o c HB H3 H4;dsimp only[dF,Zs];generalize V 12=s3 at KN⊢;generalize V 13=s4 at KN⊢;go_wp2;go_roundg (gk-1)
    case measure=>omega
    case rel=>exact⟨i+1,S,Z,KN⟩
  .have k9:¬(i:Y)<(k:Y):=S;obtain rfl:i=k:=S;obtain⟨q3,c3,rfl,h3⟩:=l.l3.args;obtain⟨q4,c4,rfl,h4⟩:=l.l4.args;rw[YO,xk]at h3 h4;have HA:E (xT wr q3 i (λj=>bx (ns j))):=λV=>by
    obtain⟨g,o,c,e3⟩:=h3 V;refine⟨g,o,c,λj hj=>?_⟩;obtain⟨x,z,s⟩:=e3 j (bx (ns j)) (by rw[ZE,uy hj];rfl);exact⟨x,z,s.arg⟩
   have HP:E (ArgsPts wr q4 i r):=λV=>by
    obtain⟨g,o,c,e3⟩:=h4 V;refine⟨g,o,c,λj hj=>?_⟩;obtain⟨x,z,s⟩:=e3 j (r j) (by rw[ZE,uy hj];rfl);exact⟨x,z,s.arg33⟩
   rw[YO,xk,YO,xk];have z:E (kZ w wr/\yz wr w.heap.size z33):=⟨l.bl,l.r2⟩
   clear h3 h4 l;go_wp2_with fail
   apply(Uw y.1 y.2.1.gap y.2.1.le q3 q4 i c3 i c4 (λj=>bx (ns j)) r wr HA HP).mono;rintro e s ⟨vv,rfl,c,hS⟩;obtain⟨gs,cs,rfl,-,-,h6,h7⟩:=SumR.all y.1 y.2.1 S y.2.2.1 y.2.2.2 (λ_ _=>rfl) (λj _=>A j) hS;obtain⟨T,hT⟩:=yH (Go.Proofs.YtdoammpgchejcaaGreat.wr (tot X i (λj=>(ns j:Y))));have k8:T.size=33:=hT.out▸aY _;rw[hT.out]at h7;have M:E (yz s w.heap.size z33/\kZ w s/\yz s gs (aA T)):=⟨z.2.below c,z.1.trans (c.mono z.1.size),nQ h7 h6⟩
   clear c hS h6 h7 z HA HP;have kb:=Jp gs cs;obtain⟨L,o⟩:=yH (s.setCells w.heap.size 0 (aA T));have f:(aA T).length=33:=aB k8;have K7:E (yz L w.heap.size (aA T)/\kZ w L):=by rw[<-o.out];exact⟨M.1.put (by rw[f];rfl),RG.below_setCells (Ys _) _ _ _ M.2.1⟩
   obtain⟨vt,t⟩:=yH (Y8 (aA T).toArray);have Q:E (gZ 103 (aA T).length/\s.there w.heap.size 0 (aA T).toArray.size/\gZ 103 (aA T).toArray.size):=by
    have e:(aA T).toArray.size=33:=by rw[Zq];exact f
    refine⟨by rw[f];exact gI,by rw[e];exact M.1.2.2,by rw[e];exact gI⟩
   clear f;go_wp2_with (first|(refine Zu Z 103 _ Z gs 0 ?_ (aA T) d ?_ ?_ ?_ ?_ ?_;rfl;exact M.2.2.2.1;exact HD.1.1;exact HD.1.2;exact Q.1;rw[t.out])|(refine ZJ Z 103 _ _ Z w.heap.size 0 (aA T).toArray ?_ ?_ ?_ ?_ ?_ ?_;rfl;exact t.symm;exact Q.2.1;exact Q.2.2;exact eH (a:=T);rw[show(aA T).toArray.toList=aA T from Z,o.out]))
   refine YB (aC 2 (T:=103) Z K7.1 Z uCP Q.1) Z ?_;exact⟨_,Z,K7.2,by rw[hT.out];rfl⟩
namespace EC
variable {P:Nat}[NeZero P]
def pts(P:I)[NeZero P]:H (Pt P):=
 G :: (yFa P).flatMap λx=>((yFa P).filter λy=>decide (y^2=x^3+7)).map λy=>F (x,y)
def mQ{a:Pt P}:a∈pts P↔On a:=by
 unfold pts;rcases a with _|⟨x,y⟩
 .exact⟨λ_=>trivial,λ_=>Zm⟩
 rw[Zb,yDo];constructor
 .rintro(h|⟨u,-,h⟩)
  .cases h
  let⟨v,hv,e⟩:=YT.1 h
  cases e
  exact(decide_eq_true_iff (p:=y^2=x^3+7)).1 ((yCO.1 hv).2)
 intro h;have h:=h;exact YZ ⟨x,yEs x,YT.2 ⟨y,yCO.2 ⟨yEs y,decide_eq_true h⟩,Z⟩⟩
def BM:(pts P).Nodup:=by
 unfold pts;refine rx.2 ⟨λh=>?_,?_⟩
 .obtain⟨u,-,h⟩:=yDo.1 h;obtain⟨v,-,e⟩:=YT.1 h;cases e
 refine H.pairwise_flatMap.2 ⟨λx _=>yEr.2 ?_,?_⟩
 .refine yDF ?_ ((yCX P).sublist yEd);intro a b h e;exact h (by cases e;rfl)
 refine yDF ?_ (yCX P);intro a b h u k v hv e;obtain⟨c,-,rfl⟩:=YT.1 k;obtain⟨d,-,rfl⟩:=YT.1 hv;exact h (by cases e;rfl)
def O9{u v c:B P}(k:u^2=c)(hv:v^2=c):(u-v)*(u+v)=0:=by grobner
def P6{a b d:B P}(c:a+b=0)(k:a+d=0):b=d:=by grobner
def JE(C:Cur P){c:B P}:∀l:H (B P),l.Nodup->(∀y,y∈l->y^2=c)->l.length<=2
 | [],_,_=>aw _
 | [_],_,_=>I.le_succ _
 | [_,_],_,_=>Ys _
 | a :: b :: d :: l,k,h=>by
  exfalso;have g:=h a (by simp);have m:a≠b:=λe=>(rx.1 k).1 (by rw[e];simp)
  have j:a≠d:=λe=>(rx.1 k).1 (by rw[e];simp)
  have n:b≠d:=λe=>(rx.1 (rx.1 k).2).1 (by rw[e];simp)
  have f:∀u v:B P,u^2=c->v^2=c->u≠v->u+v=0:=λu v i hv k=>by
   exact Z1 λhs=>bG C.pr (nI k) hs (O9 i hv)
  exact n (P6 (f a b g (h b (by simp)) m) (f a d g (h d (by simp)) j))
def EH{k:I}{α β:Type}{f:α->H β}(h:∀a,(f a).length<=k):∀l:H α,(l.flatMap f).length<=k*l.length
 | []=>aw _
 | a :: l=>by
  rw[yDe,Yx,Y2,ty,I.add_comm];exact I.add_le_add (EH h l) (h a)
def Qg(C:Cur P):(pts P).length<=2*P+1:=by
 rw[pts,Y2];refine I.succ_le_succ (YA (EH (λx=>?_) _) (by rw[H.length_finRange];exact Ys _));rw[YO];exact JE C (c:=x^3+7) _ ((yCX P).sublist yEd) λy k=>of_decide_eq_true (yCO.1 k).2
def PI:0<(pts P).length:=I.succ_pos _
def wW:H (Pt P)->Pt P
 | []=>G
 | a :: l=>add a (wW l)
def xH(C:Cur P):∀l:H (Pt P),(∀a,a∈l->On a)->On (wW l)
 | [],_=>jU
 | a :: l,h=>C.on (h a Zm) (xH C l λb k=>h b (Zd _ k))
def J6(C:Cur P){l m:H (Pt P)}(p:l.Perm m):(∀a,a∈l->On a)->wW l=wW m:=by
 induction p with
 | nil=>intro _;rfl
 | cons x _ ih =>
  intro h;show add x _=add x _;rw[ih λb k=>h b (Zd _ k)]
 | swap x y l =>
  intro h;have c:=h y Zm;have hx:=h x (Zd _ Zm);have hl:=xH C l λb k=>h b (Zd _ (Zd _ k))
  show add y (add x (wW l))=add x (add y (wW l));rw[<-C.assoc c hx hl,C.comm c hx,C.assoc hx c hl]
 | trans p _ ih1 ih2 =>
  intro h;rw[ih1 h,ih2 λa k=>h a (p.mem_iff.2 k)]
def zU(C:Cur P){r:Pt P}(k:On r):∀l:H (Pt P),(∀a,a∈l->On a)->wW (l.map λa=>add a r)=add (wW l) (mul l.length r)
 | [],_=>rfl
 | a :: l,h=>by
  have hl:∀b,b∈l->On b:=λb c=>h b (Zd _ c)
  show add (add a r) (wW (l.map _))=add (add a (wW l)) (add (mul l.length r) r);rw[zU C k l hl,C.comm (cK C k _) k,C.swap (h a Zm) k (xH C l hl) (cK C k _)]
def AZ(C:Cur P){a b r:Pt P}(c:On a)(d:On b)(k:On r)(e:add a r=add b r):a=b:=by
 have:add (add a r) (neg r)=add (add b r) (neg r):=by rw[e]
 rwa[C.assoc c k (cJ k),C.assoc d k (cJ k),add_neg,bF,bF]at this
def yK(C:Cur P){r:Pt P}(k:On r):((pts P).map λa=>add a r).Perm (pts P):=by
 refine(H.perm_ext_iff_of_nodup ?_ BM).2 λa=>?_
 .refine yEr.2 (H.Pairwise.imp_of_mem ?_ (BM (P:=P)));intro a b c d h e;exact h (AZ C ((mQ).1 c) ((mQ).1 d) k e)
 rw[mQ,YT];constructor
 .rintro⟨b,d,rfl⟩;exact C.on ((mQ).1 d) k
 intro c;refine⟨add a (neg r),(mQ).2 (C.on c (cJ k)),?_⟩;rw[C.assoc c (cJ k) k,C.neg_l k,bF]
def IJ(C:Cur P){r:Pt P}(k:On r):mul (pts P).length r=G:=by
 have c:∀a,a∈pts P->On a:=λa b=>(mQ).1 b
 have h1:=zU C k (pts P) c;rw[J6 C (yK C k) λa b=>(mQ).1 ((yK C k).mem_iff.1 b)]at h1;have hs:=xH C (pts P) c;have d:=cK C k (pts P).length;have e:add (mul (pts P).length r) (wW (pts P))=add G (wW (pts P)):=by
  rw[C.comm d hs,<-h1,jH]
 exact AZ C d jU hs e
def mP(C:Cur P){a:Pt P}(k:On a)(m:I):∀n,mul (m*n) a=mul n (mul m a)
 | 0=>rfl
 | n+1=>by
  rw[ty,mul_add C k,mP C k m n];rfl
def oC:∀n,mul n (G:Pt P)=G
 | 0=>rfl
 | n+1=>by
  show add (mul n G) G=G;rw[oC n];rfl
def Fv(C:Cur P){a:Pt P}(k:On a)(e:add a a=G):a=G:=by
 rcases a with _|⟨x,y⟩
 .rfl
 exfalso;have ho:=C.opp_ne k;rw[bU C.pr C.two k k ho (bI C.pr C.two k k ho)]at e;cases e
def MP(C:Cur P)(f:IsP n)(o:2*P+1<3*n){g:Pt P}(k:On g)(i:g≠G)(m:mul n g=G){r:Pt P}(e:On r):mul n r=G:=by
 have hd:n ∣ (pts P).length:=Z1 λhd=>by
  have d:mul ((pts P).length^(n-1)) g=G:=by
   have:n-1=(n-2)+1:=oN f.1;rw[this,Z5,Ze,mP C k,IJ C k,oC]
  have b:=yDz ((pts P).length^(n-1)) n;rw[f.fermat1 _ hd]at b;rw[<-b,mul_add C k,mP C k,m,oC,jH]at d;exact i d
 let⟨c,l⟩:=hd
 have hl:=Qg C;have j:=PI (P:=P);have b:=IJ C e;rw[l]at hl j b;have d:c<3:=I.lt_of_mul_lt_mul_left (a:=n) S;match c,d with
 | 0,_=>omega
 | 1,_=>rwa[I.mul_one]at b
 | 2,_ =>
  rw[mP C e]at b;exact Fv C (cK C e n) b
end EC
def gV(P:I)[NeZero P](b:Bs):EC.Pt P:=match rd P b with|some p=>pt p|none=>G
def mA(C:At P){X:EC.Pt P}(h:On X):gV P (wr X)=X:=by
 let⟨p,h1,k⟩:=Rm C h
 rw[gV,h1];exact k
def fQ(P:I)[NeZero P]:LB->EC.Pt P
 | []=>G
 | x :: r=>EC.add (mul x.1 (gV P x.2)) (fQ P r)
def PtsL(P:I)[NeZero P](l:LB):Prop:=∀x∈l,∃X:EC.Pt P,On X/\x.2=wr X
def PtsL.on(C:At P)(h:PtsL P l){x:I × Bs}(hx:x∈l):On (gV P x.2):=by
 let⟨X,h1,k⟩:=h x hx
 rw[k,mA C h1];exact h1
def pJ(C:At P):∀ {l:LB},PtsL P l->On (fQ P l)
 | [],_=>jU
 | x :: r,h=>C.cur.on (cK C.cur (h.on C Zm) _) (pJ C λy k=>h y (Zd _ k))
def Br{y:I × Bs}(C:At P)(b:On (gV P y.2)):∀ {l:LB},PtsL P l->fQ P (l++[y])=EC.add (fQ P l) (mul y.1 (gV P y.2))
 | [],_=>bF
 | x :: r,h=>by
  have k:PtsL P r:=λz c=>h z (Zd _ c)
  show EC.add (mul x.1 (gV P x.2)) (fQ P (r++[y]))=_;rw[Br C b k];exact(C.cur.assoc (cK C.cur (h.on C Zm) _) (pJ C k) (cK C.cur b _)).symm
def Cl:∀l:LB,fQ P (LF l)=fQ P l
 | []=>rfl
 | x :: r=>by
  rw[LF,H.filter_cons];by_cases h:x.1=0
  .rw[zi (by simp[h])];show fQ P (LF r)=EC.add (mul x.1 (gV P x.2)) (fQ P r);rw[h,Cl r];rfl
  rw[zd (by simp[h])];show EC.add _ (fQ P (LF r))=EC.add _ (fQ P r);rw[Cl r]
def mul_mod(C:At P)(k:∀r:EC.Pt P,On r->mul N r=G){X:EC.Pt P}(b:On X)(n:I):mul (n%N) X=mul n X:=by
 have h:=mul_add C.cur b (N*(n/N)) (n%N);rw[yDz,mP C.cur b N (n/N),k X b,oC,jH]at h;exact h.symm
def Bt{p:Bs}(C:At P)(k:∀r:EC.Pt P,On r->mul N r=G)(n:I)(b:On (gV P p)):∀ {l:LB},PtsL P l->fQ P (fL N l n p)=EC.add (fQ P l) (mul n (gV P p))
 | [],_=>bF
 | (s,q) :: r,h=>by
  have f:PtsL P r:=λz g=>h z (Zd _ g)
  have h1:=cK C.cur (h.on C (x:=(s,q)) Zm) s;have d:=pJ C f;have c:=cK C.cur b n;unfold fL;by_cases e:p=q
  .rw[zd e];subst e;show EC.add (mul (sPl N s n) (gV P p)) (fQ P r)=EC.add (EC.add (mul s (gV P p)) (fQ P r)) (mul n (gV P p));rw[sPl,mul_mod C k b,mul_add C.cur b,C.cur.assoc h1 c d,C.cur.assoc h1 d c,C.cur.comm c d]
  rw[zi e];show EC.add (mul s (gV P q)) (fQ P (fL N r n p))=EC.add (EC.add (mul s (gV P q)) (fQ P r)) (mul n (gV P p));rw[Bt C k n b f,C.cur.assoc h1 d c]
def Jr{n:I}{p:Bs}(k:∃X:EC.Pt P,On X/\p=wr X):∀ {l:LB},PtsL P l->PtsL P (fL N l n p)
 | [],_=>λx hx=>by
  have:x=(n,p):=by simpa[fL]using hx
  rw[this];exact k
 | (s,q) :: r,h=>by
  have b:PtsL P r:=λz c=>h z (Zd _ c)
  unfold fL;split
  .intro x hx;rcases Zb.1 hx with rfl|hx
   .exact h (s,q) Zm
   exact b x hx
  intro x hx;rcases Zb.1 hx with rfl|hx
  .exact h (s,q) Zm
  exact Jr k b x hx
def CJ(ns:I->I)(X:I->EC.Pt P){k:I}(b:∀j,j<k->On (X j)):∀i,i<=k->PtsL P (mrg N ns (λj=>wr (X j)) i)
 | 0,_=>λx hx=>by cases hx
 | i+1,hi=>Jr ⟨X i,b i S,Z⟩ (CJ ns X b i S)
def IK{X:I->EC.Pt P}(C:At P)(b:∀r:EC.Pt P,On r->mul N r=G)(ns:I->I){k:I}(d:∀j,j<k->On (X j)):∀i,i<=k->fQ P (mrg N ns (λj=>wr (X j)) i)=tot X i (λj=>(ns j:Y))
 | 0,_=>rfl
 | i+1,hi=>by
  have c:=d i S;show fQ P (fL N (mrg N ns (λj=>wr (X j)) i) (ns i) (wr (X i)))=EC.add (tot X i (λj=>(ns j:Y))) (mul (ns i) (X i));rw[Bt C b _ (by rw[mA C c];exact c) (CJ ns X d i S),IK C b ns d i S,mA C c]
def yD{l:LB}(C:At P)(h:PtsL P l):∀i,i<=l.length->tot (λj=>gV P ((l[j]?).getD (0,#[])).2) i (λj=>(((l[j]?).getD (0,#[])).1:Y))=fQ P (l.take i)
 | 0,_=>by rw[H.take_zero];rfl
 | i+1,hi=>by
  have k:i<l.length:=S;show EC.add (tot _ i _) (mul ((l[i]?).getD (0,#[])).1 (gV P ((l[i]?).getD (0,#[])).2))=_;rw[yD C h i S,yEq,YC k];exact(Br C (h.on C (ZC k)) λx hx=>h x (yCY hx)).symm
def FK{k:I}{ns:I->I}{X:I->EC.Pt P}(C:At P)(O:Ord N)(o:∀r:EC.Pt P,On r->mul N r=G)(h3:0<k)(hk:k<=512)(M:∀j,j<k->ns j<N)(Q:∀j,j<k->On (X j))(T:g<w.heap.size)(hr:∀j,j<k->w.rangeAt g (37*j) (wn (ns j)++aA (wr (X j)))):
 eZ 67 #[sZ g k c] w (pvl (wr (tot X k (λj=>(ns j:Int))))):=by
 have K:=CJ (N:=N) ns X Q k (Ys _);have n:=GH O (λj=>wr (X j)) M k (Ys _);have p:=zN (N:=N) ns (λj=>wr (X j)) (k:=k) (λj _=>aY _) k (Ys _);have z:=CL (N:=N) ns (λj=>wr (X j)) k;have f:=IK C o ns Q k (Ys _);have i:0<(mrg N ns (λj=>wr (X j)) k).length:=by
  obtain⟨b,rfl⟩:∃b,k=b+1:=⟨k-1,S⟩
  show 0<(fL N _ _ _).length;cases mrg N ns (λj=>wr (X j)) b with
  | nil=>exact um 0
  | cons x r=>unfold fL;split<;>simp
 have l:=λW (s:kZ w W)=>Nh O (λe w'=>kZ W w'/\∃q cap,e=.slice q (LF (mrg N ns (λj=>wr (X j)) k)).length cap/\TmL w' q (LF (mrg N ns (λj=>wr (X j)) k))) g k c S ns (λj=>wr (X j)) (λj _=>aY _) M W (Yr T s.size) (λj d=>RG.range_below (hr j d) s T) (λW' v m=>by
  apply(NS _ i S p (λx hx=>Yr (n x hx) O.le) W.heap.size v W' m.bl.size m.ow).mono;rintro e w' ⟨u,rfl,b,hT⟩;exact⟨_,Z,m.bl.trans b,hT⟩)
 generalize mrg N ns (λj=>wr (X j)) k=L at K n p z f i l;have y:PtsL P (LF L):=λx hx=>K x (Dn hx)
 have h2:(LF L).length<=L.length:=yD6 _ _;refine(FI C O _ w (LF L).length S (λj=>(((LF L)[j]?).getD (0,#[])).1) (λj=>gV P (((LF L)[j]?).getD (0,#[])).2) (λj d=>by rw[YC d];exact n _ (Dn (ZC d))) (λj d=>by rw[YC d];exact y.on C (ZC d)) λW s=>?_).mono ?_
 .apply(l W s).mono;rintro e w' ⟨u,rfl,b,q,cap,rfl,hT⟩;refine⟨_,Z,b,q,cap,Z,λV=>?_⟩;let⟨t,e1,e2,e3⟩:=hT V
  refine⟨t,e1,e2,λj d=>?_⟩;let⟨Y,y1,a⟩:=y _ (ZC d)
  show w'.rangeAt t (37*j) (wn (((LF L)[j]?).getD (0,#[])).1++aA (wr (gV P (((LF L)[j]?).getD (0,#[])).2)));rw[YC d];show w'.rangeAt t (37*j) (wn ((LF L)[j]).1++aA (wr (gV P ((LF L)[j]).2)));rw[a,mA C y1,<-a];exact e3 j d
 rintro e w' ⟨u,rfl,b,rfl⟩;refine⟨_,Z,b,?_⟩;rw[yD C y _ (Ys _),yDn,Cl,f]
def Vd:prog.underlying 23=F (.slice 5):=kR
def Vh:prog.underlying 3=F (.int .i64):=kR
def RP:(prog.info? 5).map (λi=>(i.size,i.bytes,i.zero.map λz=>z.cells.size))=F (1,1,F 1):=kR
def atB(k o c:I)(b:i<n)(w:Yp):(ZW 24 (qZ k o n c) (iZ i)).run prog w=.ok (oZ k (o+1*i)) w:=by
 go_simp
def Uu(n:I)(x:n<=10000000)(w:Yp):dZ 216 #[nZ,iZ n] w λe w'=>w'.ownsRow w.heap.size 5 1 e 0 []:=by
 by_cases s:n=0
 .subst s;go_enter func216,ntmps216;go_wp2;go_ret;exact⟨_,Z,YH _ _,yDa _ _ _ _⟩
 let⟨i,r,m⟩:=Yu.1 RP
 simp only[ZV.injEq]at m;let⟨h1,q,o⟩:=m
 let⟨z,p,g⟩:=Yu.1 o
 have d:=yDT (P:=prog) w 23 3 23 5 i z .i64 .i64 Vd Vh r p n S S S (by rw[q];omega);have f:=grownCap_ge w n 0 5;have k:=grownCap_le_maxLen w n 0 5 (by unfold maxLen;omega);have b:(Z7 z.cells n++Z7 z.cells (grownCap w n 0 5-n)).size=grownCap w n 0 5*1:=by rw[Zi,size_zeroCells,size_zeroCells,g];omega
 generalize grownCap w n 0 5=l at d f k b;generalize Z7 z.cells n++Z7 z.cells (l-n)=cur at d b;let⟨j,c⟩:∃j,E (w.drew.alloc (.cells cur 5)=j):=⟨_,Z⟩
 rw[c.out]at d;have v:=Hid.mk' d;have K:E (kZ w j/\j.ownsRow w.heap.size 5 1 (sZ w.heap.size 0 l) 0 []):=by
  rw[<-c.out];exact⟨(YH _ _).drew.alloc (Ys _) _,yEf w.drew cur l (Ys _) k b⟩
 clear d c b r p g h1 q o;have u:(0:Y)<(n:Y):=S;have t:¬((n:Y)<0):=S;have y:YQ.wrap (n:Y)=n:=by rw[Zy];omega
 go_enter func216,ntmps216;go_wp2_with (at_builtin;refine Z9 _ Z _ _ _ _ Z _ _ Z Z _ _ v ?_)
 go_ret;exact⟨_,Z,K.1,K.2⟩
def jP(L:I->Bs)(k:I):H yv:=(ZD k).flatMap λj=>(L j).toList
def qO(L:I->Bs)(i:I):jP L (i+1)=jP L i++(L i).toList:=by
 unfold jP;rw[xm,yo];simp
def Jg{L:I->Bs}{k m:I}(hs:∀j,j<k->(L j).size<=m):∀i,i<=k->(jP L i).length<=m*i
 | 0,_=>Ys _
 | i+1,hi=>by
  have h1:=Jg hs i S;have b:=hs i S;have e:(L i).toList.length=(L i).size:=rfl;rw[qO,Yx,e,ty];omega
def El.below{B:I}{x:Yq}{b:Bs}(h:El n W x b)(d:Below B W W')(i:W.heap.size<=B):El n W' x b:=by
 obtain⟨k,c,rfl,h1,g,e,f⟩:=h;exact⟨k,c,Z,h1,g,Yr e d.size,Holds.kept f (d.block k S)⟩
def PX{v x:Yq}{b:Bs}(d:W.ownsRow base 5 1 v n xs)(hx:El m W x b)(L:n+m<=100000000)(q:base<=W.heap.size):
 ∃e W',(Zn #[23,23] 23 #[v,x]).run prog W=.ok e W'/\W'.ownsRow base 5 1 e (n+m) (xs++cb b)/\W.grownBy W' v.ownBlock:=by
 let⟨i,A,g⟩:=Yu.1 RP
 simp only[ZV.injEq]at g;let⟨h1,a,t⟩:=g
 let⟨z,w,f⟩:=Yu.1 t
 obtain⟨k,c,rfl,K,l,e3,p⟩:=hx;obtain⟨e,W',C,r2,s,-⟩:=xj (P:=prog) W base 23 23 5 i z 1 1 Vd A w h1 a f dC v n xs d (aZ k) m c (cb b) (by rw[qN,l];omega)
  (λj u r=>by
   have:=(uA p).1 j u r;rw[Yv]at this;rw[add0];exact this) (λu o=>by
   obtain⟨y,-,rfl⟩:=YT.1 o;rfl) (by unfold maxLen;omega) S q
 exact⟨e,W',C,r2,s⟩
def UM(L:I->Bs)(i:I):(jP L (i+1)).map encB=(jP L i).map encB++cb (L i):=by rw[qO,pe];rfl
def NV(g k c:I)(L:I->Bs)(N:k<=1000)(hs:∀j,j<k->(L j).size<=10000)(w:Yp)(M:g<w.heap.size)(P:∀j,j<k->∃x,w.cell? ⟨g,j,G⟩=F x/\El (L j).size w x (L j)):
 dZ 156 #[sZ g k c] w λe w'=>w'.ownsRow w.heap.size 5 1 e (jP L k).length ((jP L k).map encB):=by
 have K:=Hid.mk' P;have t:E (∀i,i<=k->(jP L i).length<=10000*i):=Jg (L:=L) hs;have HG:=Hid.mk' M;clear P hs M;go_enter func156,ntmps156;go_wp2_with fail
 go_loopg [3,11] k (λm s3 s11 W=>∃i:I,i+m=k/\s11=iZ i/\s3=iZ ((jP L i).length:Y)/\w=W)
 case atStart=>exact⟨0,S,Z,Z,Z⟩
 case round =>
  obtain⟨i,h0,rfl,rfl,rfl⟩:=hrel;by_cases hi:i<k
  .have u:(i:Y)<(k:Y):=S;obtain⟨x,X,hE⟩:=K i hi;obtain⟨kx,C,rfl,h1,-⟩:=hE;have n:=atB g 0 (n:=k) c (i:=i) hi;rw[show 0+1*i=i by omega]at n;have d:(jP L (i+1)).length=(jP L i).length+(L i).size:=by rw[qO,Yx];rfl
   have l:=t i S;have r:=t (i+1) S;obtain⟨a,o⟩:=yH ((jP L i).length);obtain⟨b,f⟩:=yH ((L i).size);rw[o.out]at d l;rw[f.out]at d h1;rw[o.out];have s:YQ.wrap ((a:Y)+(b:Y))=((a+b:I):Y):=by rw[Zy];omega
   have q:¬(((a+b:I):Y)<0):=S;rw[f.out]at X;go_wp2;go_roundg (gk-1)
   case measure=>omega
   case rel=>exact⟨i+1,S,Z,by rw[d,yE5],Z⟩
  .have u:¬(i:Y)<(k:Y):=S;obtain rfl:i=k:=S;go_wp2_with fail
   apply(Uu (jP L i).length (oN (t i (Ys _))) w).mono;rintro e T ⟨v,rfl,l,s⟩;have K1:E (kZ w T/\T.ownsRow w.heap.size 5 1 v (jP L 0).length ((jP L 0).map encB)):=⟨l,s⟩
   clear l s;go_wp2_with fail
   go_loopg [6,27] i (λm s6 s27 W=>∃j:I,j+m=i/\s27=iZ j/\E (kZ w W/\W.ownsRow w.heap.size 5 1 s6 (jP L j).length ((jP L j).map encB)))
   case atStart=>exact⟨0,S,Z,K1⟩
   case round =>
    clear K1;obtain⟨j,h2,rfl,f⟩:=hrel;by_cases Q:j<i
    .have A:(j:Y)<(i:Y):=S;obtain⟨x,q,o⟩:=K j Q;have X:wr.cell? ⟨g,j,G⟩=F x:=by rw[f.1.cell (p:=⟨g,j,G⟩) HG.out];exact q
     have hE:=o.below f.1 (Ys _);have r:=t (j+1) S;have d:(jP L (j+1)).length=(jP L j).length+(L j).size:=by rw[qO,Yx];rfl
     obtain⟨O,W',r1,r2,V⟩:=PX f.2 hE S f.1.size;rw[<-d,<-UM]at r2;have KN:E (kZ w W'/\W'.ownsRow w.heap.size 5 1 O (jP L (j+1)).length ((jP L (j+1)).map encB)):=⟨f.1.grown V f.1.size (λk N=>(f.2.lt k N).1),r2⟩
     have z:=Hid.mk' r1;obtain⟨kx,C,rfl,-⟩:=hE;have n:=atB g 0 (n:=i) c (i:=j) Q;rw[show 0+1*j=j by omega]at n;clear r1 r2 V d r f o q;go_wp2_with (first|(refine kC (x:=u6) (y:=sZ kx (L j).size C) (v:=O) (w':=W') Z _ _ 23 Z ?_ ?_ ?_ ?_;rfl;rfl;exact z)|fail)
     go_roundg (gk-1)
     case measure=>omega
     case rel=>exact⟨j+1,S,Z,KN⟩
    .have A:¬(j:Y)<(i:Y):=S;obtain rfl:j=i:=S;go_wp2;go_ret;exact⟨_,Z,f.1,f.2⟩
section
open Go.Shelf
attribute [local go_sem] yDG
def CS{row:zb I}(h:kZ w w'):w.grownBy w' row:=⟨h.os,h.tape,h.output,h.size,λk b _=>h.block k b⟩
def Nt{bs:Bs}(h:hZ w g o bs)(hs:0<bs.size):g<w.heap.size:=by
 obtain⟨k,ho,-⟩:=cells_of_cell (h 0 hs).1;exact(YX.1 ho).1
noncomputable def cand (P:I) [NeZero P] (k:R) (b:H yv) (i:I):zb (B P × B P):=
 if beV (jE ((⟨#[112,111,105,110,116,32]⟩:R)++k).data.toList [b,[YK i]]).toList<P then
  (rt (aj P (beV (jE ((⟨#[112,111,105,110,116,32]⟩:R)++k).data.toList [b,[YK i]]).toList)*aj P (beV (jE ((⟨#[112,111,105,110,116,32]⟩:R)++k).data.toList [b,[YK i]]).toList)*aj P (beV (jE ((⟨#[112,111,105,110,116,32]⟩:R)++k).data.toList [b,[YK i]]).toList)+7)).map λy=>(aj P (beV (jE ((⟨#[112,111,105,110,116,32]⟩:R)++k).data.toList [b,[YK i]]).toList),y)
 else G
noncomputable def cands (P:I) [NeZero P] (k:R) (b:H yv) (i:I):H (B P × B P):=(ZD i).filterMap (cand P k b)
def fJ(k:R)(b:H yv)(i:I):cands P k b (i+1)=cands P k b i++(cand P k b i).toList:=by
 unfold cands;rw[xm,H.filterMap_append];cases h:cand P k b i<;>simp[h]
def BX(k:R)(b:H yv)(h:i<=j):cands P k b i <+: cands P k b j:=by
 induction j with
 | zero=>rw[I.le_zero.1 h];exact yEQ
 | succ j ih =>
  rcases iB i (j+1)with h1|h1
  .rw[fJ];exact(ih S).trans (H.prefix_append _ _)
  rw[show i=j+1 by omega];exact yEQ
def Lf{k:R}:(cands P k b i).length<=i:=by
 unfold cands;exact YA (H.length_filterMap_le _ _) (by rw[xk];exact Ys _)
end
section
open Go.Shelf
attribute [local go_sem] yDG
section
variable {F:Fence}{n:Nat}{P:Zw}{ops:Array Y9}{rest:List Y9}{op:Y9}{a:Act}{w:Yp}{Q:Exit->Act->Yp->Prop}
def qS{x:am}(g:Region.wanted op (yielded ops a.tmps)=J)(k:YW)(ho:op.op=.load k x)(b o:I)(hx:a.eval x=oZ b o)(cs:H Yq)(d:TypeDesc)(l:w.rangeAt b o cs)(i:P.underlying k=some d)(hd:d.isRow=J)(m:(P.info? k).map (·.size)=some cs.length)(h:wpListIn F n P ops Q rest (a.put op.dst (.agg cs.toArray)) w):wpListIn F n P ops Q (op :: rest) a w:=
 wpListIn_step λK j=>by
  rw[g,zd Z];refine⟨λf hf=>(by unfold Oper.about at hf;rw[ho]at hf;cases hf),?_⟩;rw[Oper.semAt_eq _ _ _ (λc=>by rw[ho];intro e;cases e)];unfold Za;simp only[ho,hx,Instr.loadAt,Instr.sureAddr,YU,gM,Zp,oX w b o k cs d l i hd m];exact j _ _ h
end
variable {P:Nat}[NeZero P]
def Hid.mk{p:Prop}(h:p):Hid p:=h
def Uj(C:At P)(c:R)(vb:Yq)(b:H yv)(k1 k2:I)(w:Yp)(kr:c.size<=1000000)(h1:w.cell? ⟨k1,0,G⟩=F (.string c))(h2:w.cell? ⟨k2,0,G⟩=F vb)(l1:k1<w.heap.size)(l2:k2<w.heap.size)(hb:PartOk w vb b)(n:I):
 SeqStopsK Fence.wide n prog 112 #[jZ k1,jZ k2] (λx:B P × B P=>#[pv x.1 x.2]) (Below w.heap.size) (λxs=>xs=cands P c b 256) (λk=>k <+: cands P c b 256) 256 w:=by
 have HP:=hb;obtain⟨a0,sb,so,cap,bs,rfl,-,-,-,-⟩:=hb;intro l J Jx W hW hJ kv hY h0;refine callsIn_of_wp func112 Z trivial ?_ Z;simp only[ntmps112,Zq,Y2,H.length_nil,Zs,I.reduceSub,yt.replicate_succ,yt.replicate_zero,H.push_toArray,H.append_toArray,H.nil_append,ZI]
 gi_wp2
 gi_loopw [10] (λp wr=>∃i:I,i<=256/\p=iZ i/\J (cands P c b i) wr/\kZ w wr/\W.heap.size<=wr.heap.size) (λp wr=>256-(intOf p).toNat)
 case atStart =>
  exact⟨0,dC,Z,h0,hW,Ys _⟩
 case round =>
  obtain⟨i,hi,rfl,ha,hB,k6⟩:=hrel;have kp:=hB;by_cases he:i=256
  .subst he
   gi_wp2
   go_end0
   exact⟨⟨_,Z⟩,.inl ⟨_,Z,ha⟩⟩
  have km:(i:Y)<256:=S;have c1:wr.cell? ⟨k1,0,G⟩=F (.string c):=(Y1 (hB.block k1 l1)).trans h1;have c2:wr.cell? ⟨k2,0,G⟩=F (.slice a0 bs.size cap):=(Y1 (hB.block k2 l2)).trans h2;have k4:=Made.alloc wr [.int .u8 i] 5;have k5:=Made.alloc (wr.alloc (.cells #[.int .u8 i] 5)) [.slice a0 bs.size cap,sZ wr.heap.size 1 1] 23;rw[YE]at k5;have ko:ub (YK i)=(i:Y):=by
   show(((YK i).toNat:I):Y)=_;rw[yv.toNat_ofNat',YL S]
  obtain⟨W1,h7⟩:∃W1,W1=(wr.alloc (.cells #[.int .u8 i] 5)).alloc (.cells #[.slice a0 bs.size cap,sZ wr.heap.size 1 1] 23):=⟨_,Z⟩
  have h5:kZ wr W1:=by rw[h7];exact((YH _ wr).alloc (Ys _) _).alloc (by rw[YE];omega) _
  have hP:PartsOk W1 (F ⟨wr.heap.size+1,0,G⟩) [b,[YK i]]:=by
   have k:W1.rangeAt (wr.heap.size+1) 0 [.slice a0 bs.size cap,sZ wr.heap.size 1 1]:=by rw[h7];exact k5.range
   refine YZ ⟨_,_,Z,λj f=>?_⟩;have o:j=0\/j=1:=by simp at f;omega
   rcases o with rfl|rfl
   .exact⟨_,k 0 _ Z,(HP.below kp).below h5⟩
   refine⟨_,k 1 _ Z,F (aZ wr.heap.size),wr.heap.size,0,1,#[YK i],Z,Z,Ys _,Zh Z,YZ ⟨Z,?_⟩⟩;have m:=k4.range;have s:wr.heap.size<(wr.alloc (.cells #[.int .u8 i] 5)).heap.size:=by rw[YE];omega
   intro j f;have g:j=0:=by simp at f;omega
   subst g;have q:W1.heap[wr.heap.size]? = (wr.alloc (.cells #[.int .u8 i] 5)).heap[wr.heap.size]?:=by rw[h7];exact yEv _ _ _ s
   refine⟨?_,?_⟩
   .rw[Y1 (a:=⟨wr.heap.size,0+0,G⟩) q];show _=F (ZO .u8 (ub (YK i)));rw[ko];exact m 0 _ Z
   rw[ZZ (a:=⟨wr.heap.size,0+0,G⟩) q];exact(k4.there 0 (Ys _)).2
  have hn:=xQ ((⟨#[112,111,105,110,116,32]⟩:R)++c) (F ⟨wr.heap.size+1,0,G⟩) 2 [b,[YK i]] W1 (by rw[yDg];show 6+c.size<=_;omega) (Zh Z) hP
  gi_wp2_with fail
  rw[<-h7];refine⟨trivial,λh=>(by cases h),(callsIn_wide.2 hn).mono ?_⟩;rintro e w2 ⟨r,rfl,kn,k9,h9⟩;clear hn hP c1 c2 k4 k5 km;obtain⟨T,hT⟩:=yH (jE ((⟨#[112,111,105,110,116,32]⟩:R)++c).data.toList [b,[YK i]]);rw[hT.out]at h9
  gi_wp2_with fail
  refine⟨trivial,λh=>(by cases h),(callsIn_wide.2 (bN _)).mono ?_⟩;rintro e w3 ⟨v,rfl,h8,rfl⟩;have k7:r<w2.heap.size:=Nt h9 (by rw[<-hT.out,dD];decide);have k8:T.size=32:=by rw[<-hT.out];exact dD
  have k3:hZ w3 r 0 T:=Holds.below h9 h8 k7;have Q:r<w3.heap.size:=Yr k7 h8.size;have t:kZ wr w3:=(h5.trans (k9.mono h5.size)).trans (h8.mono (YA h5.size k9.size));by_cases hx:beV T.toList<P
  .obtain⟨x,hk⟩:∃x:B P,E (beV T.toList=x.val):=⟨aj P (beV T.toList),(YL hx).symm⟩
   have hg:E (aj P (beV T.toList)=x):=pw (by show beV T.toList%P=_;rw[YL hx];exact hk.out);have hx:E (beV T.toList<P):=hx
   gi_wp2_with fail
   refine⟨trivial,λh=>(by cases h),(callsIn_wide.2 (OA C k8 (Ys _) hk.out Q k3)).mono ?_⟩;rintro e A ⟨v,rfl,h3,rfl⟩;have K:=(Made.alloc A [U 0,U 0,U 0,U 0] 47).there;have g:=t.trans (h3.mono t.size);have kb:=sg _ _ 0 (ws x) K;obtain⟨d,ki,kf⟩:=Yu.1 u85;clear K kb k8 k3 k7 Q h8 h3 h9 kn k9 h5;obtain⟨w5,k0⟩:=yH ((A.alloc (.cells #[U 0,U 0,U 0,U 0] 47)).setCells A.heap.size 0 (ws x));have o:E (kZ wr w5):=by rw[<-k0.out];exact RG.below_setCells g.size _ _ _ (g.alloc g.size _)
   have hu:w5.rangeAt A.heap.size 0 (ws x):=by rw[<-k0.out];exact sg _ _ 0 (ws x) (Made.alloc A [U 0,U 0,U 0,U 0] 47).there
   gi_wp2_with (first|(refine bH Z 47 Z 0 Z Z (Made.alloc A [U 0,U 0,U 0,U 0] 47).there i85 kR ?_;rw[show(ws x).toArray.toList=ws x from Z,k0.out])|refine kP Z Z Z d hu ki kf i85 ?_)
   refine⟨trivial,λh=>(by cases h),?_⟩;clear hu ki kf;have ku:True:=trivial;obtain⟨d8,hr,ht⟩:=Yu.1 jM;cases N:rt (x*x*x+7) with
   | none =>
    obtain⟨z,V⟩:∃z:B P,E (z=0):=⟨_,Z⟩
    have k:=Cd C x N w5;rw[<-V.out]at k;obtain⟨vz,M⟩:=yH (pv z z);rw[M.out]at k;refine(callsIn_wide.2 k).mono ?_;clear k;rintro e s ⟨v,rfl,h4,rfl⟩;have f:E (cand P c b i=G):=by
     show cand P c b i=G;rw[cand,hT.out,zd hx.out,hg.out,N];rfl
    clear N;have q:E (kZ wr ((s.alloc (.cells #[U 0,U 0,U 0,U 0,U 0,U 0,U 0,U 0] 93)).setCells s.heap.size 0 (ws z++ws z))):=
     have h6:=o.trans (h4.mono o.size)
     RG.below_setCells h6.size _ _ _ (h6.alloc h6.size _)
    clear h4;have L:(ws z++ws z).toArray.size=8:=kR;have u:E <| (s.alloc (.cells #[U 0,U 0,U 0,U 0,U 0,U 0,U 0,U 0] 93)).there s.heap.size 0 (ws z++ws z).toArray.size:=by show yFj _ _ _ _;rw[L];exact(Made.alloc s [U 0,U 0,U 0,U 0,U 0,U 0,U 0,U 0] 93).there
    have X:E (gZ 93 (ws z++ws z).toArray.size):=by show _=_;rw[L];exact i109
    clear L;obtain⟨O,m⟩:=yH ((s.alloc (.cells #[U 0,U 0,U 0,U 0,U 0,U 0,U 0,U 0] 93)).setCells s.heap.size 0 (ws z++ws z));rw[m.out]at q
    gi_wp2_with (refine bH Z 93 Z (b:=s.heap.size) 0 (k:=(ws z++ws z).toArray) ?_ ?_ ?_ ?_ ?_ ?_;rfl;exact M.symm;exact u.out;exact X.out;kernel_rfl;rw[show(ws z++ws z).toArray.toList=ws z++ws z from Z,m.out];refine ru ?_)
    clear u X M V m o hg hk hx hT;show wpListIn _ _ _ _ _ _ _ _
    gi_wp2_with fail
    refine⟨λ_ h=>(by cases h),?_⟩
    gi_wp2_with fail
    refine⟨⟨i+1,S,Z,?_,hB.trans (q.mono hB.size),YA k6 q.size⟩,?_⟩
    .rw[fJ,f.out];exact hJ _ wr _ G (by simpa using ha) (CS q.out) (λ_ e=>by cases e)
    simp[intOf];omega
   | some y =>
    have k:=Cc C x y N w5;obtain⟨vz,M⟩:=yH (pv x y);rw[M.out]at k;refine(callsIn_wide.2 k).mono ?_;clear k;rintro e s ⟨v,rfl,h4,rfl⟩;have f:E (cand P c b i=F (x,y)):=by
     show cand P c b i=F (x,y);rw[cand,hT.out,zd hx.out,hg.out,N];rfl
    clear N;obtain⟨O,m⟩:=yH ((s.alloc (.cells #[U 0,U 0,U 0,U 0,U 0,U 0,U 0,U 0] 93)).setCells s.heap.size 0 (ws x++ws y));have V:E (kZ wr O):=by
     rw[<-m.out];have h6:=o.trans (h4.mono o.size);exact RG.below_setCells h6.size _ _ _ (h6.alloc h6.size _)
    clear h4;have hm:O.rangeAt s.heap.size 0 (ws x++ws y):=by rw[<-m.out];exact sg _ _ 0 (ws x++ws y) (Made.alloc s [U 0,U 0,U 0,U 0,U 0,U 0,U 0,U 0] 93).there
    have kk:E (J (cands P c b i) O):=hJ _ wr _ G (by simpa using ha) (CS V.out) (λ_ e=>by cases e);have L:(ws x++ws y).toArray.size=8:=kR;have u:E <| (s.alloc (.cells #[U 0,U 0,U 0,U 0,U 0,U 0,U 0,U 0] 93)).there s.heap.size 0 (ws x++ws y).toArray.size:=by show yFj _ _ _ _;rw[L];exact(Made.alloc s [U 0,U 0,U 0,U 0,U 0,U 0,U 0,U 0] 93).there
    have X:E (gZ 93 (ws x++ws y).toArray.size):=by show _=_;rw[L];exact i109
    clear L;obtain⟨fn,tmps,kj,kt,hy,hR⟩:=hY (cands P c b i) (x,y) O kk.out (I.lt_of_le_of_lt Lf S);dsimp only at hy;obtain⟨va,ka⟩:=yH (Y8 (ws x++ws y).toArray);rw[show pv x y=va from ka.out]at hy
    gi_wp2_with (refine bH Z 93 Z (b:=s.heap.size) 0 (k:=(ws x++ws y).toArray) ?_ ?_ ?_ ?_ ?_ ?_;rfl;exact M.symm;exact u.out;exact X.out;kernel_rfl;rw[show(ws x++ws y).toArray.toList=ws x++ws y from Z,m.out];refine ru ?_)
    clear u X m o hg hk hx hT;have kg:=Hid.mk hR;have hw:=Hid.mk hm;have kc:=Hid.mk hr;have ke:=Hid.mk ht;clear hR hm hr ht;show wpListIn _ _ _ _ _ _ _ _
    gi_wp2_with (refine qS Z 93 Z s.heap.size 0 ?_ (ws x++ws y) d8 ?_ ?_ ?_ ?_ ?_;rfl;exact hw.out;exact kc.out;exact ke.out;exact i109;rw[ka.out];refine ru ?_)
    clear hw kc ke ka M;show wpListIn _ _ _ _ _ _ _ _
    gi_wp2_with fail
    refine⟨λh=>(by cases h),kg.mono ?_⟩;clear kg hy;rintro e W8 (⟨rfl,kl,kh⟩|⟨rfl,kd⟩)
    .gi_wp2_with fail
     refine⟨⟨i+1,S,Z,?_,(hB.trans (V.mono hB.size)).trans kh,YA k6 (YA V.size kh.size)⟩,?_⟩
     .rw[fJ,f.out];exact kl
     simp[intOf];omega
    gi_wp2_with fail
    refine YB (results_none Z _ _ _) Z ?_;refine⟨⟨_,Z⟩,.inr ⟨_,?_,kd⟩⟩;have hp:=BX (P:=P) c b (i:=i+1) (j:=256) S;rw[fJ,f.out]at hp;exact hp
  have f:cand P c b i=G:=by
   rw[cand,hT.out,zi hx]
  gi_wp2_with fail
  refine⟨trivial,λh=>(by cases h),(callsIn_wide.2 (OC C k8 (Ys _) hx Q k3)).mono ?_⟩;rintro e A ⟨v,rfl,h3,rfl⟩;have K:E ((A.alloc (.cells #[U 0,U 0,U 0,U 0] 47)).there A.heap.size 0 4):=(Made.alloc A [U 0,U 0,U 0,U 0] 47).there;have g:=t.trans (h3.mono t.size);have q:E (kZ wr ((A.alloc (.cells #[U 0,U 0,U 0,U 0] 47)).setCells A.heap.size 0 (ws (0:B P)))):=RG.below_setCells g.size _ _ _ (g.alloc g.size _);have f:E (cand P c b i=G):=f;obtain⟨O,m⟩:=yH ((A.alloc (.cells #[U 0,U 0,U 0,U 0] 47)).setCells A.heap.size 0 (ws (0:B P)));rw[m.out]at q
  gi_wp2_with (refine bH Z 47 Z (b:=A.heap.size) 0 (k:=(ws (0:B P)).toArray) ?_ ?_ ?_ ?_ ?_ ?_;rfl;rfl;exact K.out;exact i85;kernel_rfl;rw[show(ws (0:B P)).toArray.toList=ws (0:B P) from Z,m.out];refine ru ?_)
  clear K g t h3 hT m;show wpListIn _ _ _ _ _ _ _ _
  gi_wp2_with fail
  refine⟨⟨i+1,S,Z,?_,hB.trans (q.mono hB.size),YA k6 q.size⟩,?_⟩
  .rw[fJ,f.out];exact hJ _ wr _ G (by simpa using ha) (CS q.out) (λ_ e=>by cases e)
  simp[intOf];omega
end
section
open Go.Shelf
def yX{k:R}{a:zb ai}:
 cZ 50 #[.string k,.slice a m c] w (Ret λe w'=>e=.func (.func 112) #[] #[jZ w.heap.size,jZ (w.heap.size+1)]/\w'=(w.alloc (.cells #[.string k] 9)).alloc (.cells #[.slice a m c] 23)):=by
 go_enter func50,ntmps50;go_wp2;go_ret;exact⟨_,Z,Z,Z⟩
noncomputable def hpt (P:I) [NeZero P] (k:R) (b:H yv):B P × B P:=(cands P k b 256).headD (gX P,gY P)
def QI{k:R}{x:B P × B P}(h:cand P k b i=F x):x.2*x.2=x.1*x.1*x.1+7:=by
 unfold cand at h;split at h
 .obtain⟨y,c,rfl⟩:=Yu.1 h;exact Ri c
 cases h
def N5{k:R}{x:B P × B P}(h:x∈cands P k b n):x.2*x.2=x.1*x.1*x.1+7:=by
 unfold cands at h;obtain⟨i,-,c⟩:=H.mem_filterMap.1 h;exact QI c
def zX{k:R}(C:At P):On (.some (hpt P k b):EC.Pt P):=by
 unfold hpt;cases h:cands P k b 256 with
 | nil=>exact Ae C
 | cons x r=>exact MQ (x:=x.1) (y:=x.2) (N5 (by rw[h];exact Zm))
def Pa{q:B P × B P}(C:At P)(h:On (.some q:EC.Pt P)):vQ q.1 q.2=wr (.some q:EC.Pt P):=xO C ⟨Z,Z⟩ h
def Um(C:At P)(k:R)(b:H yv):vQ (hpt P k b).1 (hpt P k b).2=wr (.some (hpt P k b):EC.Pt P):=Pa C (zX C)
def BR{a:zb ai}(C:At P)(k:R)(f:k.size<=1000000)(i:PartOk w (.slice a m c) b):
 cZ 49 #[.func (.func 112) #[] #[jZ w.heap.size,jZ (w.heap.size+1)]] ((w.alloc (.cells #[.string k] 9)).alloc (.cells #[.slice a m c] 23)) (rZ w λe w'=>e=pv (hpt P k b).1 (hpt P k b).2):=by
 have d:kZ w ((w.alloc (.cells #[.string k] 9)).alloc (.cells #[.slice a m c] 23)):=((YH _ w).alloc (Ys _) _).alloc (by rw[YE];omega) _;have hs:((w.alloc (.cells #[.string k] 9)).alloc (.cells #[.slice a m c] 23)).heap.size=w.heap.size+2:=by rw[YE,YE]
 have h1:((w.alloc (.cells #[.string k] 9)).alloc (.cells #[.slice a m c] 23)).cell? ⟨w.heap.size,0,G⟩=F (.string k):=by
  rw[Y1 (a:=⟨w.heap.size,0,G⟩) (yEv _ _ _ (by rw[YE];exact um _))];exact(Made.alloc w [.string k] 9).range 0 _ Z
 have j:((w.alloc (.cells #[.string k] 9)).alloc (.cells #[.slice a m c] 23)).cell? ⟨w.heap.size+1,0,G⟩=F (.slice a m c):=by
  have:=(Made.alloc (w.alloc (.cells #[.string k] 9)) [.slice a m c] 23).range 0 _ Z;rwa[YE]at this
 apply(Qz C _ (cands P k b 256) 256 _ (λn=>Uj C k (.slice a m c) b w.heap.size (w.heap.size+1) _ f h1 j S S (i.below d) n)).mono;rintro e w' ⟨v,rfl,g,rfl⟩;exact⟨_,Z,d.trans (g.mono d.size),Z⟩
def OJ(C:At P)(k:R)(a:zb ai)(m c:I)(b:H yv)(w:Yp)(i:k.size<=1000000)(u:PartOk w (.slice a m c) b):
 dZ 202 #[.string k,.slice a m c] w λe w'=>Ll w (wr (.some (hpt P k b):EC.Pt P)) e w':=by
 have l:∀w,dZ 52 #[pv (hpt P k b).1 (hpt P k b).2] w λe w'=>mY w (vQ (hpt P k b).1 (hpt P k b).2) e w':=xN C
 rw[Um C]at l;go_enter func202,ntmps202;go_wp2_with fail
 apply(yX).mono;rintro e z ⟨v,rfl,rfl,rfl⟩;go_wp2_with fail
 apply(BR C k i u).mono;rintro e y ⟨v,rfl,r,rfl⟩;have f:=mk1 (r);go_wp2_with fail
 apply(l _).mono;rintro e x ⟨v,rfl,p,g,d,rfl,o,n,j,s⟩;have q:=mk1 (f.trans (p.mono f.size));have t:E (Ll w (wr (.some (hpt P k b):EC.Pt P)) (.tuple #[sZ g 33 d,iZ 0]) x):=⟨g,d,Z,o,YA f.size n,j,s⟩
 go_wp2
 go_ret2
 exact⟨_,Z,q,t⟩
end
def Jh(C:At P)(lb:R)(q:lb.size<=1000000)(u:zb ai)(t p:I)(tx:H yv)(w:Yp)(M:PartOk w (.slice u t p) tx):
 eZ 136 #[.string lb,.slice u t p] w (pvl (wr (.some (hpt P lb tx):EC.Pt P))):=by
 let⟨T,hT⟩:=hE (wr (.some (hpt P lb tx):EC.Pt P))
 have o:T.size=33:=hT.out▸aY _;rw[hT.out];let⟨l,i⟩:=hE (lZ w z33 103)
 have m:E (yz l w.heap.size z33/\kZ w l):=by rw[<-i.out];exact⟨aF,aD _⟩
 let⟨d,s,r⟩:=Yu.1 uCP
 have z:=mk2 s r;go_enter func136,ntmps136;go_wp2_with (refine bY (v:=jZ w.heap.size) (w':=l) Z (.alloc 103) Z ?_ ?_;(rw[<-i.out];kernel_rfl))
 apply(OJ (mk1 C).out lb u t p tx l (Hid.mk' q).out ((Hid.mk' M).below m.2)).mono;rintro e x ⟨O,rfl,f,g,N,rfl,-,-,L,a⟩;rw[hT.out]at a;have n:=mk3 (m.1.below f) (m.2.trans (f.mono m.2.size)) (nQ a L);have A:=Jp g N;let⟨K,b⟩:=hE (x.setCells w.heap.size 0 (aA T))
 have k:=aB o;have y:E (yz K w.heap.size (aA T)/\kZ w K):=by rw[<-b.out];exact⟨n.1.put (by rw[k];rfl),RG.below_setCells (Ys _) _ _ _ n.2.1⟩
 let⟨Q,c⟩:=hE (Y8 (aA T).toArray)
 have j:E (gZ 103 (aA T).length/\x.there w.heap.size 0 (aA T).toArray.size/\gZ 103 (aA T).toArray.size):=by
  have e:(aA T).toArray.size=33:=by rw[Zq];exact k
  refine⟨by rw[k];exact gI,by rw[e];exact n.1.2.2,by rw[e];exact gI⟩
 go_wp2_with (first|(refine Zu Z 103 _ Z g 0 ?_ (aA T) d ?_ ?_ ?_ ?_ ?_;rfl;exact n.2.2.2.1;exact z.1;exact z.2;exact j.1;rw[c.out])|(refine ZJ Z 103 _ _ Z w.heap.size 0 (aA T).toArray ?_ ?_ ?_ ?_ ?_ ?_;rfl;exact c.symm;exact j.2.1;exact j.2.2;exact eH;rw[show(aA T).toArray.toList=aA T from Z,b.out]))
 refine YB (aC 4 Z y.1 Z uCP j.1) Z ?_;exact⟨_,Z,y.2,Z⟩
def Rz:yy 70 #[U 1] (nv 1):=by
 intro w;go_enter func70,ntmps70;refine RG.M.enter [(0,.v (U 1))] 6 kR λa0 b=>?_
 refine Yt <| b.T [.m 0] [(0,RG.z 4)] [] [0,2] ⟨mk 0 49,yw⟩ λk i g d=>?_
 refine Yt <| d.T [.x (U 1),.x (nv 1),.x (nv 1),.u 0] [] [(0,3,wn 1)] [2] ⟨st,st,st,RG.pt zy,yw⟩ λe f c=>?_
 exact Zr (c.rr 0 Z u40 zy)
def Sm(B:I)(W:Yp)(v:Yq)(l:LB):Prop:=∃g c,v=sZ g l.length c/\l.length<=c/\B<=g/\g<W.heap.size/\W.rangeAt g 0 (aV l)
def Sm.grow{B:I}{v:Yq}(h:Sm B W v l)(b:kZ W W'):Sm B W' v l:=by
 let⟨g,c,h1,f,d,k,e⟩:=h
 exact⟨g,c,h1,f,d,Yr k b.size,RG.range_below e b k⟩
def cellsT_one'(n:I)(a:Bs):aV [(n,a)]=wn n++aA a:=by rw[fO];exact po _
def Sm.one{B W k n}{a:Bs}(h:yz w k (wn n++aA a))(b:B<=k)(c:w=W):Sm B W (sZ k 1 1) [(n,a)]:=by
 subst c;exact⟨k,1,Z,Ys _,b,h.1,by rw[cellsT_one'];exact h.2.1⟩
def infoT':(prog.info? 226).map (λi=>(i.size,i.bytes,i.zero.map λz=>z.cells.size))=F (37,72,F 37):=kR
def Qr(n:I)(t:n<=10000000)(w:Yp):dZ 203 #[nZ,iZ n] w λe w'=>w'.ownsRow w.heap.size 226 37 e 0 []:=by
 by_cases o:n=0
 .subst o;go_enter func203,ntmps203;go_wp2;go_ret;exact⟨_,Z,YH _ _,yDa _ _ _ _⟩
 let⟨i,s,m⟩:=Yu.1 infoT'
 simp only[ZV.injEq]at m;let⟨h1,r,p⟩:=m
 let⟨z,q,l⟩:=Yu.1 p
 have f:=yDT (P:=prog) w 131 3 131 226 i z .i64 .i64 Ft Vh s q n S S S (by rw[r];omega);have c:=grownCap_ge w n 0 226;have k:=grownCap_le_maxLen w n 0 226 (by unfold maxLen;omega);have b:(Z7 z.cells n++Z7 z.cells (grownCap w n 0 226-n)).size=grownCap w n 0 226*37:=by rw[Zi,size_zeroCells,size_zeroCells,l];omega
 generalize grownCap w n 0 226=j at f c k b;generalize Z7 z.cells n++Z7 z.cells (j-n)=cur at f b;let⟨g,d⟩:∃g,E (w.drew.alloc (.cells cur 226)=g):=⟨_,Z⟩
 rw[d.out]at f;have K:E (kZ w g/\g.ownsRow w.heap.size 226 37 (sZ w.heap.size 0 j) 0 []):=by
  rw[<-d.out];exact⟨(YH _ _).drew.alloc (Ys _) _,yEf w.drew cur j (Ys _) k b⟩
 go_enter func203,ntmps203;go_wp2_with (at_builtin;refine Z9 _ Z _ _ _ _ Z _ _ Z Z _ _ (Hid.mk' f).out ?_)
 go_ret;exact⟨_,Z,K.1,K.2⟩
def Hk(l m:LB):aV (l++m)=aV l++aV m:=by unfold aV;rw[yo]
def Le:∀u∈aV l,u.oneCell'=J:=λu k=>by
 unfold aV at k;obtain⟨x,-,hx⟩:=yDo.1 k;exact cells_one u hx
def rT:∀ {l:LB},(∀x∈l,x.2.size=33)->(aV l).length=l.length*37
 | [],_=>rfl
 | x :: r,h=>by
  rw[fO,Yx,iW (h x Zm),rT λy k=>h y (Zd _ k),Y2];omega
def MN{B:I}{v x:Yq}{m:LB}(b:W.ownsRow base 226 37 v l.length (aV l))(g:∀y∈m,y.2.size=33)(hx:Sm B W x m)(K:l.length+m.length<=1000000)(o:base<=W.heap.size):
 ∃d W',(Zn #[131,131] 131 #[v,x]).run prog W=.ok d W'/\W'.ownsRow base 226 37 d (l++m).length (aV (l++m))/\W.grownBy W' v.ownBlock:=by
 let⟨i,w,f⟩:=Yu.1 infoT'
 simp only[ZV.injEq]at f;let⟨h1,t,r⟩:=f
 let⟨z,s,e⟩:=Yu.1 r
 obtain⟨k,c,rfl,C,A,e3,n⟩:=hx;obtain⟨d,W',a,r2,q,-⟩:=xj (P:=prog) W base 131 131 226 i z 37 72 Ft w s h1 t e dC v l.length (aV l) b (aZ k) m.length c (aV m) (rT g)
  (λj u p=>by
   have:=n j u p;rw[Yv]at this;rw[add0];exact this) Le (by unfold maxLen;omega) S o
 exact⟨d,W',a,by rw[Yx,Hk];exact r2,q⟩
def atS(k o c:I)(b:i<n)(w:Yp):(ZW 129 (qZ k o n c) (iZ i)).run prog w=.ok (oZ k (o+1*i)) w:=by
 go_simp
def nF(L:I->LB)(k:I):LB:=(ZD k).flatMap L
def kB(L:I->LB)(i:I):nF L (i+1)=nF L i++L i:=by
 unfold nF;rw[xm,yo];simp
def Jf{L:I->LB}{k m:I}(hs:∀j,j<k->(L j).length<=m):∀i,i<=k->(nF L i).length<=m*i
 | 0,_=>Ys _
 | i+1,hi=>by
  have h1:=Jf hs i S;have b:=hs i S;rw[kB,Yx,ty];omega
def PU{v:Yq}(h:W.ownsRow base 226 37 v l.length (aV l))(hl:0<l.length):Sm base W v l:=by
 have b:=λ{g:I}=>h.cells (g:=g)
 rcases h.2 with⟨-,e⟩|⟨g,cap,cur,rfl,h1,k,d,-⟩
 .omega
 refine⟨g,cap,Z,d,h1,(YX.1 k).1,λj u c=>?_⟩;have:=b (g:=g) Z j u c;rw[add0]at this;rw[Yv];exact this
def Sm.point(C:At P)(O:Ord N)(b:∀r:EC.Pt P,On r->mul N r=G){B:I}{v:Yq}{l:H (I × Bs)}(h:Sm B w v l)(m:0<l.length)(hl:l.length<=512)(p:∀x∈l,x.1<N)(f:PtsL P l):
 Zl prog 67 #[v] w (rZ w λe w'=>e=pvl (wr (fQ P l))):=by
 obtain⟨g,c,rfl,-,-,s,z⟩:=h;have d:∀x∈l.map (·.2),x.size=33:=λx hx=>by
  obtain⟨y,k,rfl⟩:=YT.1 hx;obtain⟨X,-,e⟩:=f y k;rw[e];exact aY _
 have i:∀j (k:j<l.length),((l[j]?).getD (0,#[]))=l[j]:=λj k=>by rw[YC k];rfl
 have q:∀j,j<l.length->On (gV P ((l[j]?).getD (0,#[])).2):=λj k=>by rw[i j k];exact f.on C (ZC k)
 refine(FK C O b (g:=g) (k:=l.length) (c:=c) m hl (ns:=(λj=>((l[j]?).getD (0,#[])).1)) (X:=(λj=>gV P ((l[j]?).getD (0,#[])).2)) (λj k=>by rw[i j k];exact p _ (ZC k)) q (w:=w) s (λj k=>?_)).mono ?_
 .rw[i j k];obtain⟨X,a,o⟩:=f _ (ZC k);rw[o,mA C a,<-o];intro t u n;have K:t<37:=by
   have:=(YF.1 n).1;rw[iW (d _ (YT.2 ⟨_,ZC k,Z⟩))]at this;exact this
  have:=z (37*j+t) u (by rw[lV l d j k t K];exact n);rw[Yv]at this;exact this
 rintro e w' ⟨u,rfl,n,rfl⟩;refine⟨_,Z,n,?_⟩;rw[yD C (l:=l) f _ (Ys _),yDn]
def zM(C:At P){a b:EC.Pt P}(k:On a)(c:On b):∀n,mul n (EC.add a b)=EC.add (mul n a) (mul n b)
 | 0=>rfl
 | n+1=>by
  show EC.add (mul n (EC.add a b)) (EC.add a b)=EC.add (EC.add (mul n a) a) (EC.add (mul n b) b);rw[zM C k c n];exact C.cur.swap (cK C.cur k n) (cK C.cur c n) k c
def SmZ(B:I)(W:Yp)(v:Yq)(l:LB):Prop:=(v=nZ/\l=[])\/Sm B W v l
def SmZ.grow{B:I}{v:Yq}(h:SmZ B W v l)(k:kZ W W'):SmZ B W' v l:=by
 rcases h with h|h
 .exact Y3 h
 exact YZ (h.grow k)
def SmZ.form{B:I}{v:Yq}(h:SmZ B W v l):∃q c,v=.slice q l.length c/\l.length<=c:=by
 rcases h with⟨rfl,rfl⟩|⟨g,c,h1,k,-⟩
 .exact⟨G,0,Z,Ys _⟩
 exact⟨_,_,h1,k⟩
def U1:∀W:Yp,(Zn #[131,131] 131 #[nZ,nZ]).run prog W=.ok nZ W:=λW=>kR
def MM{B:I}{v x:Yq}{m:LB}(k:W.ownsRow base 226 37 v l.length (aV l))(d:∀y∈m,y.2.size=33)(hx:SmZ B W x m)(c:l.length+m.length<=1000000)(e:base<=W.heap.size):
 ∃b W',(Zn #[131,131] 131 #[v,x]).run prog W=.ok b W'/\W'.ownsRow base 226 37 b (l++m).length (aV (l++m))/\W.grownBy W' v.ownBlock:=by
 rcases hx with⟨rfl,rfl⟩|hx
 .rw[po];rcases id k.2 with⟨rfl,n⟩|⟨g,cap,cur,rfl,h1,q,p,-⟩
  .exact⟨_,_,U1 W,k,⟨Z,Z,Z,Ys _,λ_ _ _=>rfl⟩⟩
  let⟨i,f,o⟩:=Yu.1 infoT'
  have:=run_append_room_src (P:=prog) W 131 131 131 226 i Ft f g 0 l.length cap nZ 0 [] (Src.ofNil (e':=226) _ Ft 0) S (λj b=>by cases b) (λj b=>by cases b);exact⟨_,_,this,k,⟨Z,Z,Z,Ys _,λ_ _ _=>rfl⟩⟩
 exact MN k d hx c e
def Ky(g k c:I)(L:I->LB)(O:k<=1000)(hs:∀j,j<k->(L j).length<=600)(t:∀j,j<k->∀x∈L j,x.2.size=33)(w:Yp)(hg:g<w.heap.size)(hL:∀j,j<k->∃x,w.cell? ⟨g,j,G⟩=F x/\SmZ 0 w x (L j)):
 dZ 138 #[sZ g k c] w λe w'=>w'.ownsRow w.heap.size 226 37 e (nF L k).length (aV (nF L k)):=by
 have N:=Hid.mk' hL;have s:=mk1 (Jf (L:=L) hs);have H3:=Hid.mk' t;go_enter func138,ntmps138;go_wp2_with fail
 go_loopg [3,11] k (λm s3 s11 W=>∃i:I,i+m=k/\s11=iZ i/\s3=iZ ((nF L i).length:Y)/\w=W)
 case atStart=>exact⟨0,S,Z,Z,Z⟩
 case round =>
  obtain⟨i,h0,rfl,rfl,rfl⟩:=hrel;by_cases X:i<k
  .have u:(i:Y)<(k:Y):=S;obtain⟨x,T,hE⟩:=N i X;obtain⟨V,M,rfl,h1⟩:=hE.form;have l:=atS g 0 (n:=k) c (i:=i) X;rw[show 0+1*i=i by omega]at l;have d:(nF L (i+1)).length=(nF L i).length+(L i).length:=by rw[kB,Yx]
   have n:=s i S;have r:=s (i+1) S;obtain⟨a,o⟩:=yH ((nF L i).length);obtain⟨b,f⟩:=yH ((L i).length);rw[o.out]at d n;rw[f.out]at d h1;rw[o.out];rw[f.out]at T;go_wp2;go_roundg (gk-1)
   case measure=>omega
   case rel=>exact⟨i+1,S,Z,by rw[d,yE5],Z⟩
  .have u:¬(i:Y)<(k:Y):=S;obtain rfl:i=k:=S;go_wp2_with fail
   apply(Qr (nF L i).length (oN (s i (Ys _))) w).mono;rintro e w1 ⟨v,rfl,n,z⟩;go_wp2_with fail
   go_loopg [6,27] i (λm s6 s27 W=>∃j:I,j+m=i/\s27=iZ j/\E (kZ w W/\W.ownsRow w.heap.size 226 37 s6 (nF L j).length (aV (nF L j))))
   case atStart=>exact⟨0,S,Z,mk2 n z⟩
   case round =>
    obtain⟨j,h2,rfl,f⟩:=hrel;by_cases A:j<i
    .have K:(j:Y)<(i:Y):=S;obtain⟨x,q,o⟩:=N j A;have T:wr.cell? ⟨g,j,G⟩=F x:=by rw[f.1.cell (p:=⟨g,j,G⟩) (Hid.mk' hg).out];exact q
     have hE:=o.grow f.1;have r:=s (j+1) S;have d:(nF L (j+1)).length=(nF L j).length+(L j).length:=by rw[kB,Yx]
     obtain⟨P,W',r1,r2,Q⟩:=MM f.2 (H3 j A) hE (by rw[<-d];omega) f.1.size;rw[<-kB]at r2;have KN:E (kZ w W'/\W'.ownsRow w.heap.size 226 37 P (nF L (j+1)).length (aV (nF L (j+1)))):=⟨f.1.grown Q f.1.size (λk O=>(f.2.lt k O).1),r2⟩
     have C:=Hid.mk' r1;obtain⟨V,M,rfl,-⟩:=hE.form;have l:=atS g 0 (n:=i) c (i:=j) A;rw[show 0+1*j=j by omega]at l;clear r1 r2 Q d r f o q;go_wp2_with (first|(refine kC (x:=u6) (y:=.slice V (L j).length M) (v:=P) (w':=W') Z _ _ 131 Z ?_ ?_ ?_ ?_;rfl;rfl;exact C)|fail)
     go_roundg (gk-1)
     case measure=>omega
     case rel=>exact⟨j+1,S,Z,KN⟩
    .have K:¬(j:Y)<(i:Y):=S;obtain rfl:j=i:=S;go_wp2;go_ret;exact⟨_,Z,f.1,f.2⟩
def kE(B:I)(s t:Yq)(l m:LB)(n:0<(l++m).length)(hl:l.length<=500)(X:m.length<=500)(y:∀x∈l,x.2.size=33)(i:∀x∈m,x.2.size=33)(w:Yp)(h1:SmZ B w s l)(O:SmZ B w t m):
 dZ 65 #[s,t] w λe w'=>Sm w.heap.size w' e (l++m):=by
 obtain⟨f,c1,Q,-⟩:=h1.form;obtain⟨z,c2,P,-⟩:=O.form;subst Q;subst P;let⟨b,k⟩:=hE (w.alloc (.cells #[.slice f l.length c1,.slice z m.length c2] 131))
 have N:kZ w b:=k.out▸aD _;have A:w.heap.size<b.heap.size:=by rw[<-k.out,YE];omega
 have C:b.rangeAt w.heap.size 0 [.slice f l.length c1,.slice z m.length c2]:=k.out▸(Made.alloc w [.slice f l.length c1,.slice z m.length c2] 131).range;have V:=Hid.mk' (Ky w.heap.size 2 2 (λj=>if j=0 then l else m) dC (λj _=>by show(if j=0 then l else m).length<=600;split<;>omega) (λj _=>by
  show ∀x∈(if j=0 then l else m),x.2.size=33;split
  .exact y
  .exact i) b A (λj d=>by
  have r:∀ {v:Yq}{l:LB},SmZ B w v l->SmZ 0 b v l:=λh=>by
   rcases h.grow N with h|⟨g,c,p,q,-,o,a⟩
   .exact Y3 h
   exact YZ ⟨g,c,p,q,aw _,o,a⟩
  have d:j=0\/j=1:=S;rcases d with rfl|rfl
  .exact⟨_,C 0 _ Z,r h1⟩
  exact⟨_,C 1 _ Z,r O⟩))
 have d:nF (λj=>if j=0 then l else m) 2=l++m:=by rw[kB,kB];rfl
 have r:=Hid.mk' N;have M:=mk2 d n;go_enter func65,ntmps65;go_wp2_with fail
 rw[k.out];refine V.mono ?_;rintro e L ⟨T,rfl,u,ho⟩;rw[M.1]at ho;have K:E (kZ w L/\Sm w.heap.size L T (l++m)):=by
  let⟨g,c,p,q,W,o,a⟩:=PU ho M.2
  exact⟨r.trans (u.mono r.size),g,c,p,q,YA r.size W,o,a⟩
 go_wp2;go_ret;exact⟨_,Z,K.1,K.2⟩
structure Kp(w:Yp)(W:Yp)(rs:H (I × H Yq)):Prop where
 bl:kZ w W
 rw:∀x∈rs,yz W x.1 x.2
def Kp.grow(h:Kp w W rs)(k:kZ W W'):Kp w W' rs:=⟨h.bl.trans (k.mono h.bl.size),λx hx=>(h.rw x hx).below k⟩
def Kp.drew(h:Kp w W rs):Kp w W.drew rs:=⟨h.bl.drew,h.rw⟩
def Kp.at(h:Kp w W rs){k:I}{c:H Yq}(i:I)(b:rs[i]? = F (k,c)):yz W k c:=h.rw _ (H.mem_of_getElem? b)
def F6{T:YW}{P:Zw}{c:Func}{k:I}{v:Yq}(t u:Tmp)(e:c.results=#[.cell t T,.tmp u])(h:yz W k vs)(f:tmps[t]? = F (jZ k))(hv:tmps[u]? = F v)(b:(P.underlying T).map (·.isRow)=F J)(j:(P.info? T).map (·.size)=F vs.length):(results c tmps).run P W=.ok (.tuple #[.agg vs.toArray,v]) W:=by
 let⟨d,b,hd⟩:=Yu.1 b
 have h1:=oX (P:=P) W k 0 T vs d h.2.1 b hd j;have i:tmps.getD t undef=jZ k:=by rw[YG,f];rfl
 have g:tmps.getD u undef=v:=by rw[YG,hv];rfl
 rw[results,e];simp only[yt.mapM_eq_mapM_toList,H.mapM_cons,H.mapM_nil,i,g,asAddr];simp[YU,h1]
def TS(O:Ord N){a:I}(k:a<N):yy 149 #[nv a] (nv (sMi N 0 a)):=by
 intro w;have h:=Ma O 0 a O.pos k;generalize sMi N 0 a=m at h⊢;go_enter func149,ntmps149;refine RG.M.enter [(0,.v (nv a))] 6 kR λa0 b=>?_
 refine Yt <| b.T [.m 0,.m 1] [(0,wn a),(1,RG.z 4)] [] [1,2] ⟨mk 0 49,mk 1 49,yw⟩ λf l j i d=>?_
 refine Yt <| d.T [.x (nv 0),.x (nv a),.c (nv m),.u 1] [] [(1,3,wn m)] [2] ⟨st,ld u40 zy,cl h,RG.pt zy,yw⟩ λe g c=>?_
 exact Zr (c.rr 1 Z u40 zy)
def XI(e:N<=512):∃C0:H Yq,C0.length=37*N/\∀w:Yp,(pq 131 (iZ N) (iZ N)).run prog w=.ok (sZ w.heap.size N N) (w.alloc (.cells C0.toArray 226)):=by
 have j:(prog.info? 226).map (λi=>(i.size,decide (i.bytes<=4000),i.zero.isSome))=F (37,J,J):=kR;let⟨i,b,k⟩:=Yu.1 j
 simp only[ZV.injEq,decide_eq_true_eq]at k;let⟨h1,g,c⟩:=k
 let⟨z,f⟩:=ZT.1 c
 refine⟨(madeCells z.cells (N*37)).toList,by rw[YM,size_madeCells,Ze],λw=>?_⟩;have l:(i.bytes:Y)*(N:Y)<=281474976710656:=by
  have:i.bytes*N<=4000*512:=lp g e;have d:((i.bytes*N:I):Y)<=281474976710656:=S;rwa[py]at d
 have:=run_make (P:=prog) w 131 226 i z Ft b f .i64 .i64 (N:Y) (N:Y) S S l S;rw[yCJ,h1]at this;rw[yCf];exact this
def Ld(k:∀x∈l.map (·.2),x.size=33)(d:W.rangeAt g 0 (aV l))(c:j<l.length):W.rangeAt g (37*j) (wn (l[j]).1++aA (l[j]).2):=λt u b=>by
 have e:t<37:=by
  have:=(YF.1 b).1;rw[iW (k _ (YT.2 ⟨_,ZC c,Z⟩))]at this;exact this
 have:=d (37*j+t) u (by rw[lV l k j c t e];exact b);rw[Yv]at this;exact this
def FY(k:∀x∈l.map (·.2),x.size=33)(i:∀j (b:j<l.length),W.rangeAt g (37*j) (wn (l[j]).1++aA (l[j]).2)):W.rangeAt g 0 (aV l):=λt u c=>by
 have f:t<l.length*37:=by
  have:=(YF.1 c).1;rwa[rT λx hx=>k _ (YT.2 ⟨x,hx,Z⟩)]at this
 have b:t/37<l.length:=I.div_lt_of_lt_mul S;have e:37*(t/37)+t%37=t:=yDz _ _;have d:=lV l k (t/37) b (t%37) (ZL _ dC);rw[e,c]at d;have:=i (t/37) b (t%37) u d.symm;rw[e]at this;rw[Yv];exact this
def tmT(N n:I)(x:I × Bs):I × Bs:=(sTi N n x.1,x.2)
structure Tz(w W:Yp)(N n K k3 i:I)(l:LB):Prop where
 bl:kZ w W
 lt:K<W.heap.size
 ne:k3≠K
 th:W.there K 0 (37*l.length)
 r3:yz W k3 (wn n)
 rw:∀j (hj:j<l.length),j<i->W.rangeAt K (37*j) (wn (tmT N n (l[j])).1++aA (tmT N n (l[j])).2)
def Tz.grow(h:Tz w W N n K c i l)(k:kZ W W'):Tz w W' N n K c i l:=
 ⟨h.bl.trans (k.mono h.bl.size),Yr h.lt k.size,h.ne,jD h.th k h.lt,h.r3.below k,λj d b=>RG.range_below (h.rw j d b) k h.lt⟩
def Tz.drew{k:I}(h:Tz w W N n K k i l):Tz w W.drew N n K k i l:=⟨h.bl.drew,h.lt,h.ne,h.th,h.r3,h.rw⟩
def Tz.put(h:Tz w W N n K d i l)(f:w.heap.size<=K)(o:i<l.length)(c:∀x∈l.map (·.2),x.size=33):Tz w (W.setCells K (37*i) (wn (tmT N n (l[i])).1++aA (tmT N n (l[i])).2)) N n K d (i+1) l:=by
 have b:∀(j:I) (k:j<l.length),(wn (tmT N n (l[j])).1++aA (tmT N n (l[j])).2).length=37:=λj k=>iW (c _ (YT.2 ⟨_,ZC k,Z⟩))
 refine⟨RG.below_setCells f _ _ _ h.bl,by rw[setCells_size];exact h.lt,h.ne,tS h.th _ _ _,⟨by rw[setCells_size];exact h.r3.1,Zv h.r3.2.1 K _ _ (Y3 h.ne),tS h.r3.2.2 _ _ _⟩,λj k m=>?_⟩;by_cases e:j=i
 .subst e;refine sg W K _ _ λt g=>?_
  rw[b j k]at g;have:=h.th (37*j+t) S;rwa[Yv]at this
 exact Zv (h.rw j k S) K _ _ (YZ (Y3 (by rw[b j k];omega)))
section
variable (w:Yp) (n K k3 k7 i s m:Nat) (p:Bs) (l:List (Nat × Bs))
def Rt:I->Yq->Yp->Prop
 | 0,v,_=>v=sZ K l.length l.length
 | 1,v,_=>v=iZ i
 | 2,v,_=>v=nv n
 | 3,v,_=>v=jZ k7
 | 4,v,_=>v=nv s
 | 5,v,_=>v=nv m
 | 6,v,_=>v=oZ k7 4
 | 7,v,_=>v=pvl p
 | 8,v,_=>v=tvl m p
 | 9,v,_=>v=oZ K (0+37*i)
 | _,_,_=>True
def Gt(N:I):Gw:=⟨Rt n K k7 i s m p l,λW=>Tz w W N n K k3 i l/\yz W k7 (wn s++aA p),λj v W W' k h=>by
 match j,h with
 | 0,h=>exact h
 | 1,h=>exact h
 | 2,h=>exact h
 | 3,h=>exact h
 | 4,h=>exact h
 | 5,h=>exact h
 | 6,h=>exact h
 | 7,h=>exact h
 | 8,h=>exact h
 | 9,h=>exact h
 | _+10,_=>trivial,λW W' k h=>⟨h.1.grow k,h.2.below k⟩⟩
end
def gW(O:Ord N)(hn:n<N)(B:I)(s:Yq)(l:H (I × Bs))(hl:l.length<=512)(hm:∀x∈l.map (·.2),x.size=33)(k0:∀x∈l,x.1<N)(w:Yp)(hS:Sm B w s l):
 Zl prog 164 #[s,nv n] w (rZ w λe w'=>Sm w.heap.size w' e (l.map (tmT N n))):=by
 obtain⟨g,c,rfl,hc,-,hg,hr⟩:=hS;have HB:=Hid.mk' (boxS n w);obtain⟨L,C⟩:∃L,E (w.alloc (.cells (wn n).toArray 49)=L):=⟨_,Z⟩
 rw[C.out]at HB;obtain⟨Q,r⟩:∃k,E (w.heap.size=k):=⟨_,Z⟩
 obtain⟨K,hK⟩:∃k,E (L.heap.size=k):=⟨_,Z⟩
 have e1:K=Q+1:=by rw[<-hK.out,<-r.out,<-C.out,YE]
 obtain⟨C0,k4,h8⟩:=XI (N:=l.length) hl;have X:=h8 L;obtain⟨w2,T⟩:∃w2,E (L.alloc (.cells C0.toArray 226)=w2):=⟨_,Z⟩
 rw[T.out,hK.out]at X;rw[r.out]at HB;have K2:E (Tz w w2 N n K Q 0 l):=by
  have f:yz L Q (wn n):=by rw[<-C.out,<-r.out];exact aF (w:=w)
  have b1:kZ w L:=by rw[<-C.out];exact aD _
  have o:kZ L w2:=by rw[<-T.out];exact aD _
  have d:yz w2 K C0:=by rw[<-T.out,<-hK.out];exact aF (w:=L)
  exact⟨b1.trans (o.mono b1.size),d.1,S,by rw[<-k4];exact d.2.2,f.below o,λj hj q=>S⟩
 have A:E (Ord N/\n<N/\(∀x∈l.map (·.2),x.size=33)/\(∀x∈l,x.1<N)/\g<w.heap.size/\w.rangeAt g 0 (aV l)/\w.heap.size<=K):=⟨O,hn,hm,k0,hg,hr,by rw[r.out];omega⟩
 obtain⟨d',ha,hw⟩:=Yu.1 uT;have HD:E (prog.underlying 226=F d'/\d'.isRow=J):=⟨ha,hw⟩
 obtain⟨vn,k9⟩:∃v,E (nv n=v):=⟨_,Z⟩
 rw[k9.out]at HB⊢;clear ha hw O hn hm k0 hg hr h8 k4 C T hK r e1;go_enter func164,ntmps164;go_wp2_with (first|(refine aG (u:=vn) (v:=jZ Q) (w':=L) Z 49 (.tmp 1) Z ?_ ?_ ?_;rfl;exact HB.out)|fail)
 clear X;go_loopg [13] l.length (λm s13 W=>∃i:I,i+m=l.length/\s13=iZ i/\E (Tz w W N n K Q i l))
 case atStart=>exact⟨0,S,Z,K2⟩
 case round =>
  clear K2 HB;obtain⟨i,kc,rfl,KM⟩:=hrel;by_cases o:i<l.length
  .have ka:(i:Y)<(l.length:Y):=S;obtain⟨s,h6⟩:∃s,E ((l[i]'o).1=s):=⟨(l[i]'o).1,(rfl:(l[i]'o).1=(l[i]'o).1)⟩
   obtain⟨p,h3⟩:∃p,E ((l[i]'o).2=p):=⟨(l[i]'o).2,(rfl:(l[i]'o).2=(l[i]'o).2)⟩
   have P:E (p.size=33):=by rw[<-h3.out];exact A.2.2.1 _ (YT.2 ⟨_,ZC o,Z⟩)
   have k6:E (s<N):=by rw[<-h6.out];exact A.2.2.2.1 _ (ZC o)
   have B0:E (wr.rangeAt g (37*i) (wn s++aA p)):=by
    have h:=RG.range_below (Ld A.2.2.1 A.2.2.2.2.2.1 (j:=i) o) KM.bl A.2.2.2.2.1;rw[h6.out,h3.out]at h;exact h
   obtain⟨q,M⟩:∃k,E (wr.heap.size=k):=⟨_,Z⟩
   obtain⟨W1,h0⟩:∃W1,E (wr.alloc (.cells zT.toArray 226)=W1):=⟨_,Z⟩
   obtain⟨W2,h7⟩:∃W2,E (W1.setCells q 0 (wn s++aA p)=W2):=⟨_,Z⟩
   have f:(wn s++aA p).length=37:=iW P.out;have F1:E (yz W1 q zT/\kZ wr W1):=by rw[<-h0.out,<-M.out];exact⟨aF (w:=wr),aD (w:=wr) _⟩
   have F2:E (yz W2 q (wn s++aA p)/\Tz w W2 N n K Q i l):=by
    rw[<-h7.out];exact⟨F1.1.put (by rw[f];rfl),KM.grow (RG.below_setCells (by rw[M.out];exact Ys _) _ _ _ F1.2)⟩
   have k5:E ((prog.info? 226).map (·.size)=F (wn s++aA p).length):=by show _=_;rw[f];exact iT
   have k2:E ((prog.info? 226).map (·.size)=F (wn s++aA p).toArray.size/\W1.there q 0 (wn s++aA p).toArray.size):=by
    have e:(wn s++aA p).toArray.size=37:=by rw[Zq];exact f
    rw[e];exact⟨iT,F1.1.2.2⟩
   have k8:E ((wn s++aA p).toArray.all (·.oneCell')=J):=by
    show _=_;rw[oT];intro u hu;exact cells_one (n:=s) (a:=p) u (yp.1 hu)
   have kb:=atT g 0 (n:=l.length) c (i:=i) o;obtain⟨vt,he⟩:∃v,E (Y8 (wn s++aA p).toArray=v):=⟨_,Z⟩
   have HL:E (i<l.length):=o;clear f KM F1;go_wp2_with (first|(refine Zu Z 226 _ Z g (37*i) ?_ (wn s++aA p) d' ?_ ?_ ?_ ?_ ?_;rfl;exact B0.out;exact HD.1;exact HD.2;exact k5.out;rw[he.out])|(refine bY (v:=jZ q) (w':=W1) Z (.alloc 226) Z ?_ ?_;(rw[<-h0.out,<-M.out];kernel_rfl))|(refine ZJ Z 226 _ _ Z q 0 (wn s++aA p).toArray ?_ ?_ ?_ ?_ ?_ ?_;rfl;exact he.symm;exact k2.2;exact k2.1;exact k8.out;rw[show(wn s++aA p).toArray.toList=wn s++aA p from Z,h7.out])|fail)
   clear h0 h7 M;refine(Gt w n K Q q i s (sTi N n s) p l N).tail2 10 kR kR kR ⟨
    bE λa W d=>⟨[(5,sZ K l.length l.length)],sZ K l.length l.length,W,⟨d.o 5 kR,yw⟩,kR,YH _ _,Z⟩,
    bE λa W d=>⟨[(6,iZ i)],iZ i,W,⟨d.o 6 kR,yw⟩,kR,YH _ _,Z⟩,
    jA (T:=49) 3 Z Go.Proofs.YtdoammpgchejcaaGreat.u40 λa W d=>⟨Q,0,wn n,d.o 3 kR,d.b.1.r3.2.1,zy,Z⟩,
    bE λa W d=>⟨[(7,jZ q)],jZ q,W,⟨d.o 7 kR,yw⟩,kR,YH _ _,Z⟩,
    jA (T:=49) 21 Z Go.Proofs.YtdoammpgchejcaaGreat.u40 λa W d=>⟨q,0,wn s,d.n 3 21 kR kR,kY d.b.2.2.1,zy,Z⟩,
    fC λa W d=>⟨[(20,nv n),(22,nv s)],79,#[nv n,nv s],⟨d.n 2 20 kR kR,d.n 4 22 kR kR,yw⟩,kR,(kF A.1 n s A.2.1 k6.out W).mono (by
     rintro e W' ⟨u,rfl,V,rfl⟩;exact⟨_,Z,V,Z⟩)⟩,
    bE λa W d=>⟨[(7,jZ q)],oZ q 4,W,⟨d.o 7 kR,yw⟩,kR,YH _ _,Z⟩,
    jA (T:=103) 24 Z uCP λa W d=>⟨q,4,aA p,d.n 6 24 kR kR,mH (xs:=wn s) d.b.2.2.1,by rw[aB P.out];exact gI,Z⟩,
    bE λa W d=>⟨[(23,nv (sTi N n s)),(25,pvl p)],tvl (sTi N n s) p,W,⟨d.n 5 23 kR kR,d.n 7 25 kR kR,yw⟩,by
     rw[ZV.injEq];refine⟨kR,?_⟩;refine Eq.trans (b:=((yCw 226 #[(0,nv (sTi N n s)),(1,pvl p)]) >>= λv=>pure (fI v)).run prog W) kR ?_;rw[YU,WT P.out];rfl,YH _ _,Z⟩,
    bE λa W d=>⟨[(18,sZ K l.length l.length),(19,iZ i)],.pointer (F ⟨K,0+37*i,G⟩),W,⟨d.n 0 18 kR kR,d.n 1 19 kR kR,yw⟩,by
     rw[ZV.injEq];refine⟨kR,?_⟩;show((ZW 131 (sZ K l.length l.length) (iZ i)) >>= λv=>pure (fI v)).run prog W=_;rw[YU,atT K 0 (n:=l.length) l.length (i:=i) HL.out];rfl,YH _ _,Z⟩,yw⟩ ⟨F2.2.drew,F2.1⟩ ?_
   intro V W3 h5 h4;have h9:V 8=tvl (sTi N n s) p:=h5 8 dC;have k1:V 9=.pointer (F ⟨K,0+37*i,G⟩):=h5 9 dC;have d:(wn (sTi N n s)++aA p).length=37:=iW P.out;obtain⟨W4,hq⟩:∃W4,E (W3.setCells K (37*i) (wn (sTi N n s)++aA p)=W4):=⟨_,Z⟩
   have K4:E (Tz w W4 N n K Q (i+1) l):=by
    have h:=h4.1.put A.2.2.2.2.2.2 HL.out A.2.2.1;have e:tmT N n (l[i]'HL.out)=(sTi N n s,p):=by
     have h1:=h6.out;have h2:=h3.out;unfold tmT;rw[h1,h2]
    rw[e]at h;rw[<-hq.out];exact h
   have HT:E (W3.there K (37*i) (wn (sTi N n s)++aA p).toArray.size/\(prog.info? 226).map (·.size)=F (wn (sTi N n s)++aA p).toArray.size/\(wn (sTi N n s)++aA p).toArray.all (·.oneCell')=J):=by
    have e:(wn (sTi N n s)++aA p).toArray.size=37:=by rw[Zq];exact d
    refine⟨λt ht=>?_,by rw[e];exact iT,?_⟩
    .rw[e]at ht;have:=h4.1.th (37*i+t) (by have:=HL.out;omega);rwa[Yv]at this
    .rw[oT];intro u hu;exact cells_one (a:=p) u (yp.1 hu)
   dsimp only[dF,Zs,gD,qg];simp only[Zo,Yw,Yy,Yz];obtain⟨vz,hk⟩:∃v,E (tvl (sTi N n s) p=v):=⟨_,Z⟩
   rw[h9,k1,hk.out,Yv];clear h5 h4 h9 k1 d F2;generalize V 0=s0;generalize V 1=s1;generalize V 2=s2;generalize V 3=s3;generalize V 4=s4;generalize V 5=s5;generalize V 6=s6;generalize V 7=s7;go_wp2_with (first|(refine ZJ Z 226 _ _ Z K (37*i) (wn (sTi N n s)++aA p).toArray ?_ ?_ ?_ ?_ ?_ ?_;rfl;exact hk.symm;exact HT.1;exact HT.2.1;exact HT.2.2;rw[show(wn (sTi N n s)++aA p).toArray.toList=wn (sTi N n s)++aA p from Z,hq.out])|fail)
   go_roundg (gk-1)
   case measure=>omega
   case rel=>exact⟨i+1,S,Z,K4⟩
  .have ka:¬(i:Y)<(l.length:Y):=S;obtain rfl:i=l.length:=S;have d:E (kZ w wr/\Sm w.heap.size wr (sZ K l.length l.length) (l.map (tmT N n))):=by
    refine⟨KM.bl,K,l.length,by rw[YO],by rw[YO];exact Ys _,A.2.2.2.2.2.2,KM.lt,FY (λx hx=>?_) λj hj=>?_⟩
    .obtain⟨y,f,rfl⟩:=YT.1 hx;obtain⟨z,q,rfl⟩:=YT.1 f;exact A.2.2.1 _ (YT.2 ⟨z,q,Z⟩)
    .rw[H.getElem_map];rw[YO]at hj;exact KM.rw j hj hj
   clear KM;go_wp2;go_ret;exact⟨_,Z,d.1,d.2⟩
namespace SPA
structure Md(N:I)[NeZero N](M:Type) where
 ad:M->M->M
 zo:M
 ac:(B N)->M->M
 comm:∀a b,ad a b=ad b a
 assoc:∀a b c,ad (ad a b) c=ad a (ad b c)
 zadd:∀a,ad zo a=a
 acAd:∀r a b,ac r (ad a b)=ad (ac r a) (ac r b)
 adAc:∀r s a,ac (r+s) a=ad (ac r a) (ac s a)
 acAc:∀r s a,ac r (ac s a)=ac (r*s) a
 acOne:∀a,ac 1 a=a
 zac:∀a,ac 0 a=zo
variable {N:Nat}[NeZero N]{M:Type}
namespace Md
variable (D:Md N M)
def sm(f:I->M):I->M
 | 0=>D.zo
 | n+1=>D.ad (sm f n) (f n)
instance:Std.Associative D.ad:=⟨D.assoc⟩
instance:Std.Commutative D.ad:=⟨D.comm⟩
def dt(a:I->(B N))(g:I->M)(n:I):M:=D.sm (λi=>D.ac (a i) (g i)) n
end Md
def own(N:I)[NeZero N]:Md N (B N) where
 ad:=(·+·)
 zo:=0
 ac:=(·*·)
 comm:=by grind
 assoc:=by grind
 zadd:=by grind
 acAd:=by grind
 adAc:=by grind
 acAc:=by grind
 acOne:=by grind
 zac:=by grind
namespace Md
variable (D:Md N M)
def pr(a b:I->(B N))(n:I):(B N):=(own N).dt a b n
def hd(a b:I->(B N))(g h:I->M)(u:M)(n:I):M:=D.ad (D.ad (D.dt a g n) (D.dt b h n)) (D.ac (pr a b n) u)
def lf(a b:I->(B N))(g h:I->M)(u:M)(n:I):M:=D.hd a (λi=>b (n+i)) (λi=>g (n+i)) h u n
def rt(a b:I->(B N))(g h:I->M)(u:M)(n:I):M:=D.hd (λi=>a (n+i)) b g (λi=>h (n+i)) u n
def fS(x y:(B N))(n:I)(a:I->(B N))(i:I):(B N):=x*a i+y*a (n+i)
def fP(x y:(B N))(n:I)(g:I->M)(i:I):M:=D.ad (D.ac x (g i)) (D.ac y (g (n+i)))
structure Rg(R:Type) where
 l:I->R
 m:I->R
 s:I->R
 q:I->R
 Y:I->R
 W:I->R
 T:I->R
 z:R
 x:R
def Rg.a0(r:Rg (Fin N))(i:I):(Fin N):=r.l i-r.z
def Rg.b0(r:Rg (Fin N))(i:I):(Fin N):=r.Y i*(r.m i+r.z)+r.z*r.z*r.T i
def Rg.b1(r:Rg (Fin N))(i:I):(Fin N):=r.Y i*r.q i
def cm(H G:M)(c r:(B N)):M:=D.ad (D.ac c H) (D.ac r G)
end Md
end SPA
section
open SPA
variable {P:Nat}[NeZero P]{N:Nat}[NeZero N]
abbrev OnP(P:I)[NeZero P]:={p:EC.Pt P // On p}
def aI(C:At P)(k:∀r:EC.Pt P,On r->mul N r=G):Md N (OnP P) where
 ad a b:=⟨EC.add a.1 b.1,C.cur.on a.2 b.2⟩
 zo:=⟨G,jU⟩
 ac r a:=⟨mul r.val a.1,cK C.cur a.2 _⟩
 comm a b:=yq (C.cur.comm a.2 b.2)
 assoc a b c:=yq (C.cur.assoc a.2 b.2 c.2)
 zadd _:=rfl
 acAd r a b:=yq (zM C a.2 b.2 _)
 adAc r s a:=yq (by
  show mul (r+s).val a.1=_;rw[yFH,mul_mod C k a.2,mul_add C.cur a.2])
 acAc r s a:=yq (by
  show _=mul (r*s).val a.1;rw[qy,mul_mod C k a.2,Ze,mP C.cur a.2])
 acOne a:=yq (by
  show mul (1:B N).val a.1=_;rw[show(1:B N).val=1%N from Z,mul_mod C k a.2];rfl)
 zac a:=yq (by
  show mul (0:B N).val a.1=_;rw[show(0:B N).val=0%N from Z,mul_mod C k a.2];rfl)
omit [NeZero N] in
theorem mM(a b:B N):(a+b).val=sPl N a.val b.val:=yFH a b
omit [NeZero N] in
theorem jN(a b:B N):(a*b).val=sTi N a.val b.val:=qy a b
omit [NeZero N] in
theorem Nc(a b:B N):(a-b).val=sMi N a.val b.val:=by
 rw[B.sub_def];show(N-b.val+a.val)%N=(a.val+N-b.val)%N;have:=b.isLt;rw[show N-b.val+a.val=a.val+N-b.val by omega]
omit [NeZero N] in
theorem TY(a:B N):(-a).val=sMi N 0 a.val:=by
 rw[B.neg_def];show(N-a.val)%N=(0+N-a.val)%N;rw[Yv]
def ivF(a:B N):B N:=⟨sIn N a.val,ZL _ (xe N)⟩
structure Tl(N:I)(l:LB)(X:OnP P):Prop where
 pts:PtsL P l
 lt:∀x∈l,x.1<N
 sum:fQ P l=X.1
omit [NeZero N] in
theorem Dx(C:At P):∀ {l m:LB},PtsL P l->PtsL P m->fQ P (l++m)=EC.add (fQ P l) (fQ P m)
 | [],_,_,_=>rfl
 | x :: r,m,h,hm=>by
  have k:PtsL P r:=λz b=>h z (Zd _ b)
  show EC.add (mul x.1 (gV P x.2)) (fQ P (r++m))=EC.add (EC.add _ _) _;rw[Dx C k hm];exact(C.cur.assoc (cK C.cur (h.on C Zm) _) (pJ C k) (pJ C hm)).symm
omit [NeZero N] in
theorem Im(C:At P)(k:∀r:EC.Pt P,On r->mul N r=G)(n:I):∀ {l:LB},PtsL P l->fQ P (l.map (tmT N n))=mul n (fQ P l)
 | [],_=>(oC n).symm
 | x :: r,h=>by
  have b:PtsL P r:=λz c=>h z (Zd _ c)
  have hx:=h.on C (x:=x) Zm;show EC.add (mul (sTi N n x.1) (gV P x.2)) (fQ P (r.map (tmT N n)))=mul n (EC.add (mul x.1 (gV P x.2)) (fQ P r));rw[Im C k n b,zM C (cK C.cur hx _) (pJ C b)];rw[sTi,mul_mod C k hx,Ze,mP C.cur hx]
section
variable (C:Fld P) (hord:∀r:EC.Pt P,EC.On r->EC.mul N r=none)
def Tl.nil:Tl N [] (aI C hord).zo:=⟨λ_ h=>(YI h).elim,λ_ h=>(YI h).elim,Z⟩
def Tl.app{m:LB}{X Y:OnP P}(h:Tl N l X)(k:Tl N m Y):Tl N (l++m) ((aI C hord).ad X Y):=
 ⟨λx hx=>(ZN.1 hx).elim (h.pts x) (k.pts x),λx hx=>(ZN.1 hx).elim (h.lt x) (k.lt x),by
  rw[Dx C h.pts k.pts,h.sum,k.sum];rfl⟩
def Tl.tm{X:OnP P}(h:Tl N l X)(n:Fin N):Tl N (l.map (tmT N n.val)) ((aI C hord).ac n X):=
 ⟨λx hx=>by
  obtain⟨y,k,rfl⟩:=YT.1 hx;exact h.pts y k,λx hx=>by
  obtain⟨y,k,rfl⟩:=YT.1 hx;exact ZL _ (xe N),by
  rw[Im C hord n.val h.pts,h.sum];rfl⟩
omit [NeZero N] in
theorem Tl.one(C:At P)(h1:1<N)(X:OnP P):Tl N [(1,wr X.1)] X:=
 ⟨λx hx=>⟨X.1,X.2,by rw[ZX.1 hx]⟩,λx hx=>by rw[ZX.1 hx];exact h1,by
  show EC.add (mul 1 (gV P (wr X.1))) G=_;rw[mA C X.2,bF];rfl⟩
def eO(N:I)(a:I->I)(T:I->LB):I->LB
 | 0=>[]
 | n+1=>eO N a T n++(T n).map (tmT N (a n))
def Jb{a:I->B N}{T:I->LB}{g:I->OnP P}:∀n,(∀i,i<n->Tl N (T i) (g i))->Tl N (eO N (λi=>(a i).val) T n) ((aI C hord).dt a g n)
 | 0,_=>Tl.nil C hord
 | n+1,h=>(Jb n λi k=>h i S).app C hord ((h n S).tm C hord (a n))
def eW{a:I->I}(N:I){T:I->LB}{c:I}:∀n,(∀i,i<n->(T i).length=c)->(eO N a T n).length=c*n
 | 0,_=>rfl
 | n+1,h=>by
  show(eO N a T n++_).length=_;rw[Yx,YO,eW N (a:=a) n (λi k=>h i S),h n S,ty]
def vK(N x y n:I)(T:I->LB)(i:I):LB:=(T i).map (tmT N x)++(T (n+i)).map (tmT N y)
def Qx{x y:B N}{g:I->OnP P}(h:∀i,i<n+n->Tl N (T i) (g i))(k:i<n):Tl N (vK N x.val y.val n T i) ((aI C hord).fP x y n g i):=
 ((h i S).tm C hord x).app C hord ((h (n+i) S).tm C hord y)
def ND{x y:I}(h:∀i,i<n+n->(T i).length=c)(k:i<n):(vK N x y n T i).length=c+c:=by
 rw[vK,Yx,YO,YO,h i S,h (n+i) S]
end
end
section
open SPA
variable {N:Nat}[NeZero N]
def pwF(x:B N):I->B N
 | 0=>1
 | i+1=>pwF x i*x
def ofF(N:I)[NeZero N](n:I):B N:=⟨n%N,ZL _ (xe N)⟩
def MS:ofF N 0=0:=pw Z
def btF(N:I)[NeZero N](v i:I):B N:=ofF N (v/2^i%2)
def rgF(v:I)(s q:I->B N)(y k z x:B N):Md.Rg (B N):=⟨btF N v,λi=>btF N v i-1,s,q,pwF y,pwF k,pwF (ofF N 2),z,x⟩
end
namespace SPA
variable {N:Nat}[NeZero N]{M:Type}
namespace Md
variable (D:Md N M)
structure Ps(S R M:Type) where
 s:S
 a:I->R
 b:I->R
 g:I->M
 h:I->M
section
variable {S:Type}(ch:S->M->M->S × (Fin N)) (iv:(Fin N)->(Fin N)) (u:M)
def pL(n:I)(q:Ps S (B N) M):M:=D.lf q.a q.b q.g q.h u n
def pT(n:I)(q:Ps S (B N) M):M:=D.rt q.a q.b q.g q.h u n
def jS(n:I)(q:Ps S (B N) M):Ps S (B N) M:=
 let c:=ch q.s (D.pL u n q) (D.pT u n q)
 ⟨c.1,fS c.2 (iv c.2) n q.a,fS (iv c.2) c.2 n q.b,D.fP (iv c.2) c.2 n q.g,D.fP c.2 (iv c.2) n q.h⟩
def pst(t:I)(q:Ps S (B N) M):I->Ps S (B N) M
 | 0=>q
 | i+1=>D.jS ch iv u (2^(t-(i+1))) (pst t q i)
def pLi(t:I)(q:Ps S (B N) M)(i:I):M:=D.pL u (2^(t-(i+1))) (D.pst ch iv u t q i)
def pTi(t:I)(q:Ps S (B N) M)(i:I):M:=D.pT u (2^(t-(i+1))) (D.pst ch iv u t q i)
end
end Md
end SPA
section
open SPA
variable {P:Nat}[NeZero P]{N:Nat}[NeZero N]
def VX(a:B N):B N:=if a=0 then 1 else a
def jR(k b:H yv)(L X Y:Bs):Bs:=iF (iF L k X.toList) b Y.toList
def rW(N:I)[NeZero N](L:Bs):B N:=VX (ofF N (cha N L))
def aN(L:Bs):Bs:=mX L [99,104,97,108,108,101,110,103,101]
def chF(N:I)[NeZero N](L:Bs)(X Y:OnP P):Bs × B N:=
 let k:=jR [108,101,102,116] [114,105,103,104,116] L (wr X.1) (wr Y.1)
 (aN k,rW N k)
def Tl.pt(C:At P)(k:∀r:EC.Pt P,On r->mul N r=G)(n:Fin N)(X:OnP P):Tl N [(n.val,wr X.1)] ((aI C k).ac n X):=
 ⟨λx hx=>⟨X.1,X.2,by rw[ZX.1 hx]⟩,λx hx=>by rw[ZX.1 hx];exact n.isLt,by
  show EC.add (mul n.val (gV P (wr X.1))) G=_;rw[mA C X.2,bF];rfl⟩
structure Gd(N n c:I)(T:I->LB)(g:I->OnP P):Prop where
 tl:∀i,i<n->Tl N (T i) (g i)
 len:∀i,i<n->(T i).length=c
section
variable (C:Fld P) (hord:∀r:EC.Pt P,EC.On r->EC.mul N r=none)
def Gd.fold{g:I->OnP P}(h:Gd N (n+n) c T g)(x y:Fin N):Gd N n (c+c) (vK N x.val y.val n T) ((aI C hord).fP x y n g):=
 ⟨λi k=>Qx C hord h.tl k,λi k=>ND h.len k⟩
def Gd.cmb{g:I->OnP P}(h:Gd N n c T g)(a:I->Fin N):Tl N (eO N (λi=>(a i).val) T n) ((aI C hord).dt a g n)/\(eO N (λi=>(a i).val) T n).length=c*n:=
 ⟨Jb C hord n h.tl,eW N n h.len⟩
omit [NeZero N] in
theorem Gd.low{g:I->OnP P}(h:Gd N (n+m) c T g):Gd N n c T g:=⟨λi k=>h.tl i S,λi k=>h.len i S⟩
omit [NeZero N] in
theorem Gd.high{g:I->OnP P}(h:Gd N (n+m) c T g):Gd N m c (λi=>T (n+i)) (λi=>g (n+i)):=⟨λi k=>h.tl (n+i) S,λi k=>h.len (n+i) S⟩
def Nu(N:I)(a b:I->I)(p:I)(G H:I->LB)(U:LB)(n:I):LB:=eO N a G n++eO N b H n++U.map (tmT N p)
def Up{G H:I->LB}{U:LB}{g h:I->OnP P}{u:OnP P}(hG:Gd N n c G g)(k:Gd N n c H h)(e:Tl N U u)(hd:U.length=d)(a b:I->B N):
 Tl N (Nu N (λi=>(a i).val) (λi=>(b i).val) (Md.pr a b n).val G H U n) ((aI C hord).hd a b g h u n)/\(Nu N (λi=>(a i).val) (λi=>(b i).val) (Md.pr a b n).val G H U n).length=c*n+c*n+d:=by
 refine⟨((hG.cmb C hord a).1.app C hord (k.cmb C hord b).1).app C hord (e.tm C hord _),?_⟩;rw[Nu,Yx,Yx,YO,eW N n hG.len,eW N n k.len,hd]
end
end
structure Ar(w W:Yp)(K e n i:I)(R:I->H Yq):Prop where
 bl:kZ w W
 lt:K<W.heap.size
 th:W.there K 0 (e*n)
 rw:∀j,j<i->W.rangeAt K (e*j) (R j)
def Eo{T E:YW}{e:I}(f:prog.underlying T=F (.slice E))(o:(prog.info? E).map (λi=>(i.size,decide (i.bytes<=4000),i.zero.isSome))=F (e,J,J))(n:I)(d:n<=512):∃C0:H Yq,C0.length=e*n/\∀w:Yp,(pq T (iZ n) (iZ n)).run prog w=.ok (sZ w.heap.size n n) (w.alloc (.cells C0.toArray E)):=by
 let⟨i,b,k⟩:=Yu.1 o
 simp only[ZV.injEq,decide_eq_true_eq]at k;let⟨h1,m,j⟩:=k
 let⟨z,l⟩:=ZT.1 j
 refine⟨(madeCells z.cells (n*e)).toList,by rw[YM,size_madeCells,Ze],λw=>?_⟩;have g:(i.bytes:Y)*(n:Y)<=281474976710656:=by
  have:i.bytes*n<=4000*512:=lp m d;have c:((i.bytes*n:I):Y)<=281474976710656:=S;rwa[py]at c
 have:=run_make (P:=prog) w T E i z f b l .i64 .i64 (n:Y) (n:Y) S S g S;rw[yCJ,h1]at this;rw[yCf];exact this
def Ar.new{k:Yp}{e:I}{E:YW}(R:I->H Yq)(c:C0.length=e*n)(b:w.alloc (.cells C0.toArray E)=k)(f:w.heap.size=K):Ar w k K e n 0 R:=by
 subst f;have hR:yz k w.heap.size C0:=by rw[<-b];exact aF
 exact⟨by rw[<-b];exact aD _,hR.1,by rw[<-c];exact hR.2.2,λj d=>absurd d (I.not_lt_zero _)⟩
def FT(O:Ord N)(r:I)(L:Bs)(k:R)(w:Yp)(l:k.size<=1048576)(z:hZ w r 0 L)(hl:L.size=32):
 cZ 232 #[.agg #[jZ r],.string k] w (Ret λe w'=>SP.Only r 0 32 w w'/\hZ w' r 0 (mX L k.data.toList)/\e=nv (mG N (wY L k.data.toList 64))):=by
 let⟨A,t⟩:=hE (wY L k.data.toList 64)
 let⟨L',f⟩:∃L',E (mX L k.data.toList=L'):=⟨_,Z⟩
 rw[f.out];have Q:L'.size=32:=f.out▸aW;have x:A.size=64:=t.out▸Ca;rw[t.out];have q:=Holds.lt z S;let⟨i,c⟩:∃i,E ((w.alloc (.cells #[jZ r] 143)).alloc (.cells #[U 0,U 0,U 0,U 0] 49)=i):=⟨_,Z⟩
 have C:E (yz i (w.heap.size+1) [U 0,U 0,U 0,U 0]/\kZ w i/\hZ i r 0 L):=by
  rw[<-c.out];have b:kZ w ((w.alloc (.cells #[jZ r] 143)).alloc (.cells #[U 0,U 0,U 0,U 0] 49)):=(aD _).alloc (by rw[YE];omega) _;have hR:=aF (w:=(w.alloc (.cells #[jZ r] 143))) (c:=[U 0,U 0,U 0,U 0]) (T:=49);rw[YE]at hR;exact⟨hR,b,Holds.below z b q⟩
 clear z;go_enter func232,ntmps232;go_wp2_with fail
 rw[c.out];clear c;apply(QY r L k 64 i l dC C.2.2 hl).mono;rintro e T ⟨r2,rfl,h1,P,d,n⟩;rw[t.out]at n;rw[f.out]at d;have g:=mk4 (C.1.only P S) ((SP.Only.of_below C.2.1 Z q).trans P) n d;go_wp2_with fail
 apply(Bz O r2 A x T (Holds.lt g.2.2.1 S) g.2.2.1).mono;rintro e K ⟨v,rfl,b,rfl⟩;have s:=mk3 (g.1.below b) (g.2.1.trans (SP.Only.of_below b Z (Yr q g.2.1.size))) (Holds.below g.2.2.2 b (Holds.lt d S));let⟨m,M⟩:=hE (mG N A)
 rw[M.out];let⟨u,p⟩:=hE (K.setCells (w.heap.size+1) 0 (wn m))
 have y:E (yz u (w.heap.size+1) (wn m)/\SP.Only r 0 32 w u/\hZ u r 0 L'):=by
  rw[<-p.out];refine⟨s.1.put Z,bX s.2.1 q S,λj o=>?_⟩;have e:=aL (w.heap.size+1) (wn m) 0 K r S;rw[Y1 (a:=⟨r,0+j,G⟩) e,ZZ (a:=⟨r,0+j,G⟩) e];exact s.2.2 j o
 let⟨V,o⟩:=hE (nv m)
 rw[o.out];go_wp2_with (refine ZJ Z 49 _ _ Z (w.heap.size+1) 0 (wn m).toArray ?_ ?_ ?_ ?_ ?_ ?_;rfl;exact o.symm;exact s.1.2.2;exact zy;exact aM;rw[show(wn m).toArray.toList=wn m from Z,p.out])
 refine YB (aC 4 Z y.1 Z u40 zy) Z ?_;exact⟨_,Z,y.2.1,y.2.2,by rw[M.out];rfl⟩
def uS4:prog.underlying 124=F (.slice 49):=kR
def iS4:(prog.info? 49).map (λi=>(i.size,decide (i.bytes<=4000),i.zero.isSome))=F (4,J,J):=kR
section
variable {Q Q':Nat->Prop}{W W':Yp}{v:Yq}{l:List (Nat × Bs)}{n:Nat}
def Kq.range(h:Kq Q W W')(d:Q g)(b:g<W.heap.size)(k:W.rangeAt g o vs):W'.rangeAt g o vs:=λj v c=>by
 rw[Y1 (a:=⟨g,o+j,G⟩) (h.block g d b)];exact k j v c
def Kq.cell{x:Yq}(h:Kq Q W W')(c:Q g)(b:g<W.heap.size)(k:W.cell? ⟨g,o,G⟩=F x):W'.cell? ⟨g,o,G⟩=F x:=by
 rw[Y1 (a:=⟨g,o,G⟩) (h.block g c b)];exact k
def SmQ(Q:I->Prop)(W:Yp)(v:Yq)(l:LB):Prop:=∃g c,v=sZ g l.length c/\l.length<=c/\Q g/\g<W.heap.size/\W.rangeAt g 0 (aV l)
def SmQ.sm(h:SmQ Q W v l):Sm 0 W v l:=by
 obtain⟨g,c,h1,b,-,k⟩:=h;exact⟨g,c,h1,b,aw _,k⟩
def Sm.q{B:I}(h:Sm B W v l):SmQ (B<=·) W v l:=h
def SmQ.mono(h:SmQ Q W v l)(d:∀g,Q g->Q' g):SmQ Q' W v l:=by
 let⟨g,c,h1,e,k,b⟩:=h
 exact⟨g,c,h1,e,d g k,b⟩
def SmQ.keep(h:SmQ Q W v l)(k:Kq Q W W'):SmQ Q W' v l:=by
 let⟨g,c,h1,f,b,d,e⟩:=h
 exact⟨g,c,h1,f,b,Yr d k.size,k.range b d e⟩
def SLq(Q:I->Prop)(W:Yp)(v:Yq)(n:I)(a:I->I):Prop:=∃g o c,v=qZ g o n c/\n<=c/\Q g/\g<W.heap.size/\∀j,j<n->W.rangeAt g (o+4*j) (wn (a j))
def SLq.mono{a:I->I}(h:SLq Q W v n a)(d:∀g,Q g->Q' g):SLq Q' W v n a:=by
 let⟨g,o,c,h1,e,k,b⟩:=h
 exact⟨g,o,c,h1,e,d g k,b⟩
def SLq.keep{a:I->I}(h:SLq Q W v n a)(k:Kq Q W W'):SLq Q W' v n a:=by
 let⟨g,o,c,h1,f,b,d,e⟩:=h
 exact⟨g,o,c,h1,f,b,Yr d k.size,λj i=>k.range b d (e j i)⟩
def SLq.congr{a b:I->I}(h:SLq Q W v n a)(e:∀j,j<n->a j=b j):SLq Q W v n b:=by
 let⟨g,o,c,h1,l,d,f,i⟩:=h
 exact⟨g,o,c,h1,l,d,f,λj k=>by rw[<-e j k];exact i j k⟩
def GLq(Q:I->Prop)(W:Yp)(v:Yq)(n:I)(T:I->LB):Prop:=∃g o c,v=qZ g o n c/\n<=c/\Q g/\g<W.heap.size/\∀j,j<n->∃x,W.cell? ⟨g,o+j,G⟩=F x/\SmQ Q W x (T j)
def GLq.mono(h:GLq Q W v n T)(k:∀g,Q g->Q' g):GLq Q' W v n T:=by
 let⟨g,o,c,h1,i,b,d,e⟩:=h
 refine⟨g,o,c,h1,i,k g b,d,λj m=>?_⟩;let⟨x,l,f⟩:=e j m
 exact⟨x,l,f.mono k⟩
def GLq.keep(h:GLq Q W v n T)(k:Kq Q W W'):GLq Q W' v n T:=by
 let⟨g,o,c,h1,i,b,d,e⟩:=h
 refine⟨g,o,c,h1,i,b,Yr d k.size,λj m=>?_⟩;let⟨x,l,f⟩:=e j m
 exact⟨x,k.cell b d l,f.keep k⟩
structure GRq(Q:I->Prop)(W:Yp)(v:Yq)(n:I)(G H:I->LB)(U:LB):Prop where
 ex:∃vg vh vu,v=.agg #[vg,vh,vu]/\GLq Q W vg n G/\GLq Q W vh n H/\SmQ Q W vu U
def GRq.mono{G H:I->LB}{U:LB}(h:GRq Q W v n G H U)(k:∀g,Q g->Q' g):GRq Q' W v n G H U:=by
 let⟨f,i,e,h1,d,b,c⟩:=h.ex
 exact⟨f,i,e,h1,d.mono k,b.mono k,c.mono k⟩
def GRq.keep{G H:I->LB}{U:LB}(h:GRq Q W v n G H U)(k:Kq Q W W'):GRq Q W' v n G H U:=by
 let⟨f,g,e,h1,d,b,c⟩:=h.ex
 exact⟨f,g,e,h1,d.keep k,b.keep k,c.keep k⟩
structure TOk(N:I)(l:LB):Prop where
 sz:∀x∈l,x.2.size=33
 lt:∀x∈l,x.1<N
def TOk.szm(h:TOk N l):∀x∈l.map (·.2),x.size=33:=λx hx=>by
 obtain⟨y,k,rfl⟩:=YT.1 hx;exact h.sz y k
def TOk.app{m:LB}(h:TOk N l)(k:TOk N m):TOk N (l++m):=⟨λx hx=>(ZN.1 hx).elim (h.sz x) (k.sz x),λx hx=>(ZN.1 hx).elim (h.lt x) (k.lt x)⟩
def TOk.tm(c:0<N)(h:TOk N l)(k:I):TOk N (l.map (tmT N k)):=⟨λx hx=>by
 obtain⟨y,b,rfl⟩:=YT.1 hx;exact h.sz y b,λx hx=>by
 obtain⟨y,b,rfl⟩:=YT.1 hx;exact ZL _ c⟩
def TOk.nil:TOk N []:=⟨λ_ h=>(YI h).elim,λ_ h=>(YI h).elim⟩
def Tl.ok[NeZero P]{X:OnP P}(h:Tl N l X):TOk N l:=⟨λx hx=>by
 obtain⟨X,-,e⟩:=h.pts x hx;rw[e];exact aY _,h.lt⟩
def qK{N:I}(k:0<N){a:I->I}{T:I->LB}:∀n,(∀i,i<n->TOk N (T i))->TOk N (eO N a T n)
 | 0,_=>TOk.nil
 | n+1,h=>(qK k n λi b=>h i S).app ((h n S).tm k _)
end
end Go.Proofs.YtdoammpgchejcaaGreat
