import Derived.Deep.Upon
import Derived.Lib.SlBuf
import Derived.Test.YtdoammpgchejcaaGreatrp6
set_option linter.unusedVariables false
set_option linter.defProp false
set_option linter.constructorNameAsVariable false
set_option linter.unusedSimpArgs false
set_option maxRecDepth 1000000
set_option maxHeartbeats 4000000
namespace Go.Proofs.YtdoammpgchejcaaGreat
open _root_ renaming Array->yt,Bool->zk,ByteArray->R,Fin->B,Int->Y,List->H,Nat->I,Option->zb,UInt8->yv,rfl->Z
open Go.Proofs.YtdoammpgchejcaaGreat renaming Fld->At,Gives->yy,Row->yz,i40->zy,oM->S,uZ->U,yFU->zd,yFV->zi,yFW->yw
open Go.RowKit renaming Hid->E
open Go.Sort renaming Holds->yx
open _root_.Bool renaming false->D,true->J
open _root_.Option renaming none->G,some->F
open EC RG SP
open _root_.Array renaming all_eq_true'->oT,getD_eq_getD_getElem?->YG,getElem?_eq_some_iff->YX,getElem?_setIfInBounds->r9,size_append->Zi,size_setIfInBounds->Zg
open _root_.Bool renaming and_eq_true->YJ,false_or->yD3,not_eq_true'->yEx,not_true->yDO,or_eq_true->tr
open _root_.Decidable renaming byContradiction->yCZ
open _root_.Fin renaming ofNat->aj
open _root_.Go renaming Addr->ai,Calls->Zl,FuncId->ak,Oper->Y9,Operand->am,Program->Zw,TypeId->YW,Value->Yq,World->Yp,bodyPost_ret->YB,execOp->Za,run_loadVar_mid->oX,undef->ae,wpList_plain->gH,wpList_store_mid->ZJ,wp_block->ZR,wp_cond_false->YY,wp_cond_true->Y5,wp_ret->Zr,wp_seq->Yt,wp_skip->ZK
open _root_.Go.Act renaming put->Zo
open _root_.Go.Builtin renaming append_->Zn,copy_->uk
open _root_.Go.Code renaming region->ZP
open _root_.Go.Instr renaming box->ZM,buildSlice->Z0,sliceAt->gS
open _root_.Go.IntKind renaming i64->YQ,u64->Zk,u8->xb,wrap_i64->Zy,wrap_u64->rj
open _root_.Go.Lib renaming wpList_append_run->Z9
open _root_.Go.Oper renaming wp->ZY
open _root_.Go.Region renaming binds->ZH,noSelect->sw,ready->Y6,wanted->gE
open _root_.Go.RowKit.Below renaming refl->YH
open _root_.Go.RowKit.Hid renaming out->ru
open _root_.Go.Sem renaming run_bind->YU
open _root_.Go.Value renaming agg->Y8,func->yDA,ownBlock->tz
open _root_.Go.World renaming cell?->pn,cell?_of_block->Y1,frozen?_of_block->ZZ,rangeAt_setCells_apart->Zv,rangeAt_setCells_same->sg,setCells->xL,size_alloc->YE,there_setCells->tS
open _root_.List renaming take_zero->qt,take_succ_cons->ts,foldl_nil->yE4,foldl_cons->yDE,map_nil->xo,map_cons->pg,nil_append->ZQ,cons_append->ZI,append_assoc->pk,append_nil->po,drop->qg,getElem?_append_left->Zc,getElem?_append_right->Zx,getElem?_cons_succ->YP,getElem?_cons_zero->YS,getElem?_eq_getElem->YC,getElem?_eq_some_iff->YF,getElem?_map->ZE,getElem?_range->uy,getElem?_toArray->YV,length_append->Yx,length_map->YO,map_append->pe,mem_cons->Zb,mem_cons_self->Zm,mem_range->Z6,mem_singleton->ZX,not_mem_nil->YI,range->ZD,range_succ->xm,setIfInBounds_toArray->Yw,set_cons_succ->Yy,set_cons_zero->Yz,size_toArray->Zq,take->gD
open _root_.Nat renaming add_assoc->oz,add_mul->ph,add_sub_cancel->xq,add_sub_cancel_left->tT,add_zero->ao,div_eq_of_lt->pj,le_of_ble_eq_true->Zh,le_of_eq->xD,le_of_lt->ax,le_refl->Ys,le_trans->YA,lt_of_lt_of_le->Yr,min->qi,min_le_left->yDM,min_le_right->yDD,mod_eq_of_lt->YL,mod_lt->ZL,mul_assoc->kI,mul_comm->Ze,mul_one->ay,not_lt_zero->p9,one_pos->yFA,pow_succ->Z5,pow_zero->gF,reduceAdd->Zs,sub_self->oF,sub_zero->qp,two_mul->yFx,zero_add->Yv
open _root_.Ne renaming symm->qs
open _root_.Option renaming isSome_iff_exists->ZT,map_eq_some_iff->Yu,some->YR
open _root_.Or renaming inl->Y3,inr->YZ
open _root_.Prod renaming mk->ZV
open _root_.UInt8 renaming ofNat->YK
open Go.Proofs.Tryz
open Go.RowKit Go.Sort Go.Deep
variable {P:Nat}[NeZero P]{N:Nat}
variable {K:Act->Yp->Prop}{Q Q':Nat->Prop}{T e:YW}{V:Nat->Yq}{W W' w w':Yp}{base c d g j k n o r s y:Nat}{cap tmps:Array Yq}{f:ak}{hs:List Hq}{ls:List Gl}{p:Yq->Yp->Prop}{q:Option ai}{rs:List (Nat × List Yq)}{u v:Yq}{us vs xs ys z:List Yq}{α:Type}
section
open SPA
def yP{L:Bs}(h:RLog w y L)(k:y≠g):RLog (w.setCells g o vs) y L:=by
 have b:=aL g vs o w y k;refine⟨by rw[Y1 (a:=⟨y,0,G⟩) b];exact h.1,?_⟩;rw[ZZ (a:=⟨y,0,G⟩) b];exact h.2
def MG(O:Ord N)(y:I)(L:Bs)(w:Yp)(hl:L.size=32)(M:RLog w y L):cZ 104 #[jZ y] w (Ret λe w'=>SP.Only y 0 1 w w'/\RLog w' y (aN L)/\e=nv (cha N L)):=by
 let⟨a,i⟩:=hE (aN L)
 rw[i.out];let⟨A,t⟩:∃A,E (wY L [99,104,97,108,108,101,110,103,101] 64=A):=⟨_,Z⟩
 have Q:A.size=64:=t.out▸Ca;have K:cha N L=mG N A:=by unfold cha;rw[t.out]
 rw[K];clear K;have r:=M.lt;let⟨j,d⟩:∃j,E (w.alloc (.cells #[U 0,U 0,U 0,U 0] 54)=j):=⟨_,Z⟩
 have l:E (yz j w.heap.size [U 0,U 0,U 0,U 0]/\kZ w j):=by rw[<-d.out];exact⟨aF,aD _⟩
 go_enter func104,ntmps104;go_wp2_with fail
 rw[d.out];apply(Dm j).mono;rintro e o ⟨v,rfl,k,rfl⟩;have n:E (yz o w.heap.size [U 0,U 0,U 0,U 0]/\kZ w o/\RLog o y L):=⟨l.1.below k,l.2.trans (k.mono l.2.size),(M.below l.2).below k⟩
 clear k l d;go_wp2_with fail
 apply(Gc y L ⟨#[99,104,97,108,108,101,110,103,101]⟩ 64 o dC dC hl n.2.2).mono;rintro e s ⟨rfl,x,c⟩;rw[show mX L (⟨#[99,104,97,108,108,101,110,103,101]⟩:R).data.toList=a from i.out]at c;rw[show wY L (⟨#[99,104,97,108,108,101,110,103,101]⟩:R).data.toList 64=A from t.out];have q:E (yz s w.heap.size [U 0,U 0,U 0,U 0]/\SP.Only y 0 1 w s/\RLog s y a):=⟨n.1.only x S,(SP.Only.of_below n.2.1 Z r).trans x,c⟩
 clear x n c;go_wp2_with fail
 apply(ME O A S s).mono;rintro e P ⟨v,rfl,b,rfl⟩;have p:=mk3 (q.1.below b) (q.2.1.trans (SP.Only.of_below b Z (Yr r q.2.1.size))) (q.2.2.below b);let⟨m,C⟩:=hE (mG N A)
 rw[C.out];let⟨u,g⟩:=hE (P.setCells w.heap.size 0 (wn m))
 have z:E (yz u w.heap.size (wn m)/\SP.Only y 0 1 w u/\RLog u y a):=by
  rw[<-g.out];exact⟨p.1.put Z,bX p.2.1 r (Ys _),yP p.2.2 (I.ne_of_lt r)⟩
 let⟨T,f⟩:=hE (nv m)
 rw[f.out];go_wp2_with (refine ZJ Z 54 _ _ Z w.heap.size 0 (wn m).toArray ?_ ?_ ?_ ?_ ?_ ?_;rfl;exact f.symm;exact p.1.2.2;exact i33;exact aM;rw[show(wn m).toArray.toList=wn m from Z,g.out])
 refine YB (aC 2 Z z.1 Z u33 i33) Z ?_;exact⟨_,Z,z.2.1,z.2.2,by rw[C.out];rfl⟩
def xJ(O:Ord N)(y:I)(L:Bs)(w:Yp)(hl:L.size=32)(hL:RLog w y L):cZ 38 #[jZ y] w (Ret λe w'=>SP.Only y 0 1 w w'/\RLog w' y (aN L)/\e=nv (jG (cha N L))):=by
 have Q:=hL.lt;have u:cha N L<N:=pO O;let⟨V,a⟩:=hE (aN L)
 have cC:=Hid.mk' (λ(W:Yp) (h:RLog W y L)=>MG O y L W hl h);rw[a.out]at cC;rw[a.out];let⟨c,hc⟩:=hE (cha N L)
 rw[hc.out]at cC u;rw[hc.out];have cZ:=Hid.mk' (λ(W:Yp)=>pU (nv c) c (O.four u) W);let⟨k,M⟩:=hE w.heap.size
 let⟨P,C⟩:=hE (w.alloc (.cells #[U 0,U 0,U 0,U 0] 54))
 have s:E (yz P k [U 0,U 0,U 0,U 0]/\kZ w P/\RLog P y L/\y<k):=by rw[<-C.out,<-M.out];exact⟨aF,aD _,hL.below (aD _),Q⟩
 let⟨dN,v,A⟩:=Yu.1 u33
 have HD:=mk2 v A;go_enter func38,ntmps38;go_wp2_with (first|(refine alR 2 M C ?_)|fail)
 apply(cC P s.2.2.1).mono;rintro e i ⟨vv,rfl,hO,x,rfl⟩;let⟨X,j⟩:=hE i.heap.size
 let⟨w3,t⟩:=hE (i.alloc (.cells #[U 0,U 0,U 0,U 0] 54))
 let⟨q,m⟩:=hE (w3.setCells X 0 (wn c))
 have F3:E (yz w3 X [U 0,U 0,U 0,U 0]/\kZ i w3):=by rw[<-t.out,<-j.out];exact⟨aF,aD _⟩
 have l:kZ i q:=by rw[<-m.out];exact RG.below_setCells (j.out▸Ys _) _ _ _ F3.2
 have r:E (yz q k [U 0,U 0,U 0,U 0]/\yz q X (wn c)/\SP.Only y 0 1 w q/\RLog q y V):=⟨(s.1.only hO (I.ne_of_gt s.2.2.2)).below l,m.out▸F3.1.put Z,((SP.Only.of_below s.2.1 Z Q).trans hO).trans (SP.Only.of_below l Z x.lt),x.below l⟩
 let⟨vc,b⟩:=hE (nv c)
 rw[b.out]at cZ;rw[b.out];go_wp2_with (first|(refine alR 3 j t ?_)|(refine stR 3 m b F3.1.2.2 i33 aM ?_)|(refine ldR 3 r.2.1.2.1 b u33 i33 ?_)|fail)
 apply(cZ q).mono;rintro e w5 ⟨vv,rfl,f,rfl⟩;have g:=mk4 (r.1.below f) (r.2.1.below f) (r.2.2.1.trans (SP.Only.of_below f Z r.2.2.2.lt)) (r.2.2.2.below f);by_cases K:c=0
 .have hd:=decide_eq_true K;rw[hd];have T:E (jG c=1):=by show _=_;unfold jG;rw[zd K]
  go_wp2_with fail
  apply((Hid.mk' (λ(W:Yp)=>kG dC)) w5).mono;rintro e w6 ⟨vv,rfl,o,rfl⟩;let⟨n,d⟩:=hE (w6.setCells k 0 (wn 1))
  have r6:=g.1.below o;have p:E (yz n k (wn 1)/\SP.Only y 0 1 w n/\RLog n y V):=by
   rw[<-d.out];exact⟨r6.put Z,bX (g.2.2.1.trans (SP.Only.of_below o Z g.2.2.2.lt)) Q (M.out▸Ys _),yP (g.2.2.2.below o) (oN s.2.2.2)⟩
  rw[show Y8 #[U ((1:I):Y),U 0,U 0,U 0]=nv 1 from Z];let⟨v1,z⟩:=hE (nv 1)
  rw[z.out];go_wp2_with (first|(refine stR 2 d z (Hid.mk' r6).2.2 i33 aM ?_)|fail)
  refine YB (aC 2 Z p.1 Z u33 i33) Z ?_;exact⟨_,Z,p.2.1,p.2.2,by rw[T.out];rfl⟩
 have hd:=decide_eq_false K;rw[hd];have T:E (jG c=c):=by show _=_;unfold jG;rw[zi K]
 let⟨n,d⟩:=hE (w5.setCells k 0 (wn c))
 have p:E (yz n k (wn c)/\SP.Only y 0 1 w n/\RLog n y V):=by
  rw[<-d.out];exact⟨g.1.put Z,bX g.2.2.1 Q (M.out▸Ys _),yP g.2.2.2 (oN s.2.2.2)⟩
 go_wp2_with (first|(refine ldR 3 g.2.1.2.1 b u33 i33 ?_)|(refine stR 2 d b g.1.2.2 i33 aM ?_)|fail)
 refine YB (aC 2 Z p.1 Z u33 i33) Z ?_;exact⟨_,Z,p.2.1,p.2.2,by rw[T.out];rfl⟩
noncomputable def inT (P:I) [NeZero P]:T3 P:=((hpt P ⟨#[105,110,110,101,114]⟩ []).1,(hpt P ⟨#[105,110,110,101,114]⟩ []).2,1)
def Np(C:Fl3 P):yy 44 #[] (tv (inT P)):=by
 intro w;have hh:yy 91 #[.string ⟨#[105,110,110,101,114]⟩,.string ⟨#[]⟩] (tv (inT P)):=Cw C ⟨#[105,110,110,101,114]⟩ ⟨#[]⟩ dC dC;generalize inT P=t at hh;go_enter func44,ntmps44;refine RG.M.enter [] 2 kR λa0 c=>?_
 refine Yt <| c.tx [.m 0 [] 0] [(0,RG.z 12)] [] [RG.z 12] [(0,.p 0 0)] kR kR ⟨mk 0 68 λ_ _=>kR,yw⟩ λk i g d=>?_
 refine Yt <| d.tx [.c 1 [] (tv t),.u [(1,0)] 0] [] [(0,1,tw t)] [tw t] [(0,.p 0 0)] kR kR ⟨cl hh λ_ _=>kR,RG.pt i56 kR,yw⟩ λe f b=>?_
 refine Zr<|YB (v:=tv t) (fM b.st Z Z (b.at (s:=(.p 0 0)) kR) u56 i56) b.sl.defers ?_
 exact⟨_,Z,b.st.bel.below,Z⟩
end
section
open SPA
variable {P:Nat}[NeZero P]{N:Nat}[NeZero N]
def rB(C:Fl3 P)(k:∀r:EC.Pt P,On r->mul N r=G)(c:N<=top)(n:B N){t:T3 P}{X:OnP P}(h:FracT t X.1):yy 43 #[nv n.val,tv t] (tv (tmF n.val t 256))/\FracT (tmF n.val t 256) ((aI C.toFld k).ac n X).1:=by
 have b:=Yr n.isLt c;refine⟨lQ C n.val b t h,?_⟩;have:=yE C (n:=n.val) (by unfold top at b;omega) h 256 (Ys _);rw[oF,gF,I.div_one]at this;exact this
def Af(C:Fl3 P)(k:∀r:EC.Pt P,On r->mul N r=G){t b:T3 P}{X Y:OnP P}(h:FracT t X.1)(c:FracT b Y.1):yy 27 #[tv t,tv b] (tv (plF t b))/\FracT (plF t b) ((aI C.toFld k).ad X Y).1:=FracT.plus C h c
def SY{b:I}(d:k<=c)(w:Yp):(gS 65 (qZ b o n c) G (F (iZ k)) G).run prog w=.ok (qZ b o k c) w:=by
 go_simp
def SX(b o k:I)(d:k<n)(f:n<=c)(w:Yp):(gS 65 (qZ b o n c) (F (iZ k)) G G).run prog w=.ok (qZ b (o+12*k) (n-k) (c-k)) w:=by
 have h1:¬(k:Y)<0:=S;have i:(k:Y)<=(n:Y):=S;have g:¬c=k:=S;have e:=Js b o (12*k);go_simp
variable {w0 W W':Yp}{y k kq ka kb a b m:Nat}{vI:List Yq}{L L':Bs}{tp tu:T3 P}{v3 v4:Yq}{tg th:Nat->T3 P}
end
section
open SPA
abbrev NtQ(Q:I->Prop)(W:Yp)(v:Yq)(n:I)(a:I->I):Prop:=RwQ 4 (λj=>wn (a j)) Q W v n
def iFs:gZ 58 rl1.toArray.size:=gQ
def DT:rl1.toArray.all (·.oneCell')=J:=kR
def uNf:yZ 54:=u33
def SE:prog.underlying 61=F (.slice 54):=kR
def Wl:(prog.info? 54).map (λi=>(i.size,i.bytes,i.zero.map λz=>z.cells.size))=F (4,32,F 4):=kR
theorem Sj{t:I}(b:W.ownsRow base 54 4 v k xs)(hR:yz W g (wn t))(w:k<=1000000)(l:base<=W.heap.size):
 ∃c W',(Zn #[61,61] 61 #[v,sZ g 1 1]).run prog W=.ok c W'/\W'.ownsRow base 54 4 c (k+1) (xs++wn t)/\W.grownBy W' v.ownBlock:=by
 let⟨i,r,e⟩:=Yu.1 Wl
 simp only[ZV.injEq]at e;let⟨h1,q,o⟩:=e
 let⟨z,p,d⟩:=Yu.1 o
 obtain⟨c,W',s,r2,n,-⟩:=run_append_own (P:=prog) W base 61 61 54 i z 4 32 SE r p h1 q d dC v k xs b (aZ g) 1 1 (wn t) Z
  (λj u m=>by
   have:=hR.2.1 j u m;rw[Yv]at this;rw[show(⟨g,0,G⟩:ai).add j=⟨g,j,G⟩ by unfold Addr.add;split<;>simp_all];exact this) (λu f=>oT.1 aM u (by simpa using f)) (by unfold maxLen;omega) S l
 exact⟨c,W',s,r2,n⟩
def atN{i:I}(b:i<n)(w:Yp):(Instr.indexAt 61 (qZ k o n c) (iZ i)).run prog w=.ok (oZ k (o+4*i)) w:=by
 go_simp
def S3{b:I}(d:k<=c)(w:Yp):(gS 61 (qZ b o n c) G (F (iZ k)) G).run prog w=.ok (qZ b o k c) w:=by
 go_simp
def SZ(b o k:I)(d:k<n)(f:n<=c)(w:Yp):(gS 61 (qZ b o n c) (F (iZ k)) G G).run prog w=.ok (qZ b (o+4*k) (n-k) (c-k)) w:=by
 have h1:¬(k:Y)<0:=S;have i:(k:Y)<=(n:Y):=S;have g:¬c=k:=S;have e:=Js b o (4*k);go_simp
def NtQ.cut{m:I}{a:I->I}(h:NtQ Q W v (m+m) a)(e:0<m):∃vl b,(∀W,(gS 61 v G (F (iZ m)) G).run prog W=.ok vl W)/\(∀W,(gS 61 v (F (iZ m)) G G).run prog W=.ok b W)/\∀Q W,NtQ Q W v (m+m) a->NtQ Q W vl m a/\NtQ Q W b m λj=>a (m+j):=by
 obtain⟨g,o,c,rfl,d,-⟩:=h;have k:=SZ g o m S d;rw[xq]at k;exact⟨_,_,S3 S,k,λQ W h=>⟨h.low,h.high⟩⟩
def PtQ.cut{m:I}{t:I->T3 P}(h:PtQ Q W v (m+m) t)(e:0<m):∃vl b,(∀W,(gS 65 v G (F (iZ m)) G).run prog W=.ok vl W)/\(∀W,(gS 65 v (F (iZ m)) G G).run prog W=.ok b W)/\∀Q W,PtQ Q W v (m+m) t->PtQ Q W vl m t/\PtQ Q W b m λj=>t (m+j):=by
 obtain⟨g,o,c,rfl,d,-⟩:=h;have k:=SX g o m S d;rw[xq]at k;exact⟨_,_,SY S,k,λQ W h=>⟨h.low,h.high⟩⟩
end
section
def CG{b k:Yp}(c:E (w.heap.size=g))(h1:E (w.alloc (.cells z.toArray T)=b))(d:E (b.setCells g 0 vs=k))(hl:vs.length=z.length):E (b.there g 0 vs.toArray.size/\kZ w k/\yz k g vs):=by
 have h:=(aK c h1).out;rw[<-d.out];exact⟨by rw[Zq,hl];exact h.2.2.2,RG.below_setCells (c.out▸Ys _) _ _ _ h.1,h.2.put hl⟩
structure Kz(Z:I->Prop)(w w':Yp):Prop where
 os:w'.os=w.os
 tape:w'.tape=w.tape
 output:w'.output=w.output
 size:w.heap.size<=w'.heap.size
 block:∀g,g<w.heap.size->Z g->w'.heap[g]? = w.heap[g]?
section
variable {Z:Nat->Prop}{w w' W:Yp}{k o:Nat}{vs:List Yq}
def Kz.of(h:kZ w w'):Kz Z w w':=⟨h.os,h.tape,h.output,h.size,λg k _=>h.block g k⟩
def Kz.trans(h:Kz Z w w')(k:Kz Z w' W):Kz Z w W:=⟨k.os.trans h.os,k.tape.trans h.tape,k.output.trans h.output,YA h.size k.size,λg c b=>(k.block g (Yr c h.size) b).trans (h.block g c b)⟩
def Kz.bel(h:Kz Z w w')(k:∀g,Z g):kZ w w':=⟨h.os,h.tape,h.output,h.size,λg b=>h.block g b (k g)⟩
def Kz.kq(h:Kz Z w w')(k:∀g,Q g->Z g):Kq Q w w':=⟨h.size,λg c b=>h.block g b (k g c)⟩
def Kz.set(h:Kz Z w W)(b:w.heap.size<=k\/¬Z k):Kz Z w (W.setCells k o vs):=by
 let⟨h1,e,d⟩:=nN k vs o W
 refine⟨h1.trans h.os,e.trans h.tape,d.trans h.output,by rw[setCells_size];exact h.size,λg f c=>?_⟩;rw[aL k vs o W g (by rintro rfl;rcases b with b|b;omega;exact b c)];exact h.block g f c
def Kz.range(h:Kz Z w w')(c:Z k)(b:k<w.heap.size)(d:w.rangeAt k o vs):w'.rangeAt k o vs:=(h.kq λ_ h=>h).range c b d
end
structure LsS(Z:I->Prop)(w W:Yp)(K n i:I)(a:I->I):Prop where
 kz:Kz Z w W
 lt:K<W.heap.size
 th:W.there K 0 (4*n)
 rw:∀j,j<i->W.rangeAt K (4*j) (wn (a j))
def FA(h:w.there k o n)(e:w'.heap[k]? = w.heap[k]?):w'.there k o n:=λj b=>by
 have:=h j b;rw[Y1 (a:=⟨k,o+j,G⟩) e,ZZ (a:=⟨k,o+j,G⟩) e];exact this
def LsS.grow{Z:I->Prop}{K i:I}{a:I->I}(h:LsS Z w W K n i a)(b:Z K)(k:Kz Z W W'):LsS Z w W' K n i a:=
 ⟨h.kz.trans k,Yr h.lt k.size,FA h.th (k.block K h.lt b),λj c=>k.range b h.lt (h.rw j c)⟩
def LsS.put{Z:I->Prop}{K i:I}{a:I->I}(h:LsS Z w W K n i a)(b:w.heap.size<=K)(c:i<n):LsS Z w (W.setCells K (4*i) (wn (a i))) K n (i+1) a:=by
 refine⟨h.kz.set (Y3 b),by rw[setCells_size];exact h.lt,tS h.th _ _ _,λj d=>?_⟩;by_cases e:j=i
 .subst e;exact sg W K _ _ λt k=>by
   have k:t<4:=k;have:=h.th (4*j+t) S;rwa[Yv]at this
 exact Zv (h.rw j S) K _ _ (YZ (by
  show 4*j+4<=4*i\/4*i+4<=4*j;omega))
def BN(n:Nat)(hn:n<=512)(f:ak)(cap:yt Yq)(hf:∀args W,(callFunc f args).run prog W=.ok (.enter f args) W)(a:Nat->Nat)(Z:Nat->Prop)(I:Nat->Yp->Prop)(w:Yp)(P:∀g,w.heap.size<=g->Z g)(v:∀W,kZ w W->I 0 W)(r:∀i W K o vs,w.heap.size<=K->I i W->I i (xL W K o vs))
 (V:∀i W,i<n->Kz Z w W->I i W->Zl prog f (#[iZ i]++cap) W (Ret λe W'=>Kz Z W W'/\I (i+1) W'/\e=nv (a i))) :
 Zl prog 132 #[iZ n,.func (.func f) #[] cap] w (Ret λe w'=>Kz Z w w'/\I n w'/\SLq (w.heap.size<=·) w' e n a/\∃g c,e=sZ g n c):=by
 obtain⟨C0,y,s⟩:=Eo uS4 iS4 n hn;have b:=s w;obtain⟨K,l⟩:=hE (w.heap.size);obtain⟨A,d⟩:=hE (w.alloc (.cells C0.toArray 49));have p:Ar w A K 4 n 0 (λ_=>[]):=Ar.new _ y d.out l.out;rw[d.out,l.out]at b;have K1:E (LsS Z w A K n 0 a/\I 0 A):=⟨⟨Kz.of p.bl,p.lt,p.th,λj N=>absurd N (p9 _)⟩,v A p.bl⟩
 have HC:=mk1 V;have HF:=mk1 hf;have z:E (Z K/\w.heap.size<=K/\∀i W o vs,I i W->I i (xL W K o vs)):=⟨P K (xD l.out),xD l.out,λi W o vs=>r i W K o vs (xD l.out)⟩
 obtain⟨fv,q⟩:=hE (yDA (.func f) #[] cap);rw[q.out];clear p y s V hf d l v r P;go_enter func132,ntmps132;go_wp2;clear b;go_loopg [11] n (λm s11 W=>∃i:Nat,i+m=n/\s11=iZ i/\E (LsS Z w W K n i a/\I i W))
 case atStart=>exact⟨0,S,rfl,K1⟩
 case round =>
  obtain⟨i,h0,rfl,k⟩:=hrel;by_cases O:i<n
  .have M:(i:Y)<(n:Y):=S;have C:=qU (k:=K) (o:=0) (n:=n) (c:=n) (i:=i) O;rw[Yv]at C;go_wp2_with (first|(refine uI rfl 16 17 rfl (f:=f) (cap:=cap) (x:=(iZ i)) ?_ ?_ HF.out (HC i wr (mk1 O).out k.1.kz k.2) ?_;exact q.symm;rfl;intro e W' hR;refine ru ?_)|fail)
   obtain⟨T,X,rfl⟩:=hR;have L:=k.1.grow z.1 T;obtain⟨Q,u⟩:=hE (W'.setCells K (4*i) (wn (a i)));have K4:E (LsS Z w Q K n (i+1) a/\I (i+1) Q):=by rw[<-u.out];exact⟨L.put z.2.1 O,z.2.2 _ _ _ _ X⟩
   have HT:E (W'.there K (4*i) 4):=λt ht=>by
    have:=L.th (4*i+t) S;rwa[Yv]at this
   obtain⟨vq,x⟩:=hE (nv (a i));rw[x.out];clear T X L k;show wpList _ _ _ _ _ _;go_wp2_with (first|(refine ZJ rfl 49 _ _ rfl K (4*i) (wn (a i)).toArray ?_ ?_ ?_ ?_ ?_ ?_;rfl;exact x.symm;exact HT.out;exact zy;exact aM;rw[show(wn (a i)).toArray.toList=wn (a i) from rfl,u.out])|fail)
   go_roundg (gk-1)
   case measure=>omega
   case rel=>exact⟨i+1,S,rfl,K4⟩
  .have M:¬(i:Y)<(n:Y):=S;obtain rfl:i=n:=S;have u:E (Kz Z w wr/\I i wr/\SLq (w.heap.size<=·) wr (sZ K i i) i a):=⟨k.1.kz,k.2,K,0,i,rfl,Ys _,z.2.1,k.1.lt,λj N=>by rw[Yv];exact k.1.rw j N⟩
   go_wp2;go_ret;exact⟨_,rfl,u.1,u.2.1,u.2.2,_,_,rfl⟩
def J7{a:Nat->Nat}{Z:Nat->Prop}{I:Nat->Yp->Prop}(c:n<=512)(hf:∀args W,(callFunc f args).run prog W=.ok (.enter f args) W)(d:∀g,w.heap.size<=g->Z g)(b:∀W,kZ w W->I 0 W)(k:∀i W K o vs,w.heap.size<=K->I i W->I i (xL W K o vs))(l:∀i W,i<n->Kz Z w W->I i W->cZ f (#[iZ i]++cap) W (Ret λe W'=>Kz Z W W'/\I (i+1) W'/\e=nv (a i))):
 cZ 132 #[iZ n,.func (.func f) #[] cap] w (Ret λe w'=>Kz Z w w'/\I n w'/\SLq (w.heap.size<=·) w' e n a):=
 (BN n c f cap hf a Z I w d b k l).mono λ_ _ ⟨v,h,h1,m,j,_⟩=>⟨v,h,h1,m,j⟩
def kA(n:Nat)(b:n<=512)(f:ak)(hf:∀args W,(callFunc f args).run prog W=.ok (.enter f args) W)(a:Nat->Nat)(w:Yp)(d:∀i W,i<n->kZ w W->Zl prog f (#[iZ i]++cap) W (rZ W λe W'=>e=nv (a i))):
 Zl prog 132 #[iZ n,.func (.func f) #[] cap] w (rZ w λe w'=>SLq (w.heap.size<=·) w' e n a):=by
 refine(J7 (n:=n) b (f:=f) (cap:=cap) hf (a:=a) (Z:=(λ_=>True)) (I:=(λ_ _=>True)) (w:=w) (λ_ _=>trivial) (λ_ _=>trivial) (λ_ _ _ _ _ _ _=>trivial) λi W g c _=>?_).mono ?_
 .refine(d i W g (c.bel λ_=>trivial)).mono ?_;rintro e w' ⟨v,rfl,h1,k⟩;exact⟨v,rfl,Kz.of h1,trivial,k⟩
 rintro e w' ⟨v,rfl,h1,-,k⟩;exact⟨v,rfl,h1.bel λ_=>trivial,k⟩
end
section
open SPA
def lR{a b:B N}(O:Ord N):yy 33 #[rv1,nv a.val,nv b.val] (nv (a*b).val):=by rw[jN];exact TC O a.isLt b.isLt
def v9{a b:B N}(O:Ord N):yy 35 #[rv1,nv a.val,nv b.val] (nv (a+b).val):=by rw[mM];exact TD O a.isLt b.isLt
abbrev pqR(v:Yq)(n:I)(f:I->I):Pq:=⟨λQ W=>NtQ Q W v n f,λ_ _ _ k h=>h.keep k,λ_ _ _ m h=>h.mono m⟩
abbrev pqT(v:Yq)(n:I)(t:I->T3 P):Pq:=⟨λQ W=>PtQ Q W v n t,λ_ _ _ k h=>h.keep k,λ_ _ _ m h=>h.mono m⟩
def NtQ.get{a:I->I}(h:NtQ Q W (qZ g o n c) n a)(k:j<n):W.rangeAt g (o+4*j) (wn (a j)):=RwQ.at (f:=λj=>wn (a j)) h k
def PtQ.get{t:I->T3 P}(h:PtQ Q W (qZ g o n c) n t)(k:j<n):W.rangeAt g (o+12*j) (tw (t j)):=RwQ.at (f:=λj=>tw (t j)) h k
def nkN:Nk [] g:=λh=>nomatch h
variable [NeZero N]
def EK(O:Ord N)(n:I)(p:n<=64)(a b:I->Fin N)(va y:Yq)(w:Yp)(g:NtQ (λ_=>True) w va n λj=>(a j).val)(l:NtQ (λ_=>True) w y n λj=>(b j).val):
 eZ 36 #[va,y] w (nv (Md.pr a b n).val):=by
 obtain⟨ga,x,ca,rfl,-⟩:=id g;obtain⟨u,r,cb,rfl,-⟩:=id l;have z:E (∀j,yy 33 #[rv1,nv (a j).val,nv (b j).val] (nv (a j*b j).val)/\yy 35 #[rv1,nv (Md.pr a b j).val,nv (a j*b j).val] (nv (Md.pr a b (j+1)).val)):=λj=>⟨lR O,v9 O (a:=(Md.pr a b j)) (b:=(a j*b j))⟩
 have t0:E (wn 0=wn (Md.pr a b 0).val):=by show _=wn (0%N);rw[I.zero_mod]
 obtain⟨t,v⟩:∃t:I->I,∀j,(Md.pr a b j).val=t j:=⟨_,λ_=>rfl⟩
 obtain⟨A,d⟩:∃t:I->I,∀j,(a j).val=t j:=⟨_,λ_=>rfl⟩
 obtain⟨B,f⟩:∃t:I->I,∀j,(b j).val=t j:=⟨_,λ_=>rfl⟩
 obtain⟨M,q⟩:∃t:I->I,∀j,(a j*b j).val=t j:=⟨_,λ_=>rfl⟩
 simp only[v,d,f,q]at z t0 g l⊢;have V:=mk1 (((Mp.start w).has (pqR _ n A) (g.mono λ_ _ _=>nkN)).has (pqR _ n B) (l.mono λ_ _ _=>nkN));have X:=mk1 p;clear g l d f q v;go_enter func36,ntmps36;refine PW.bg [] ?_;refine PM.al 54 (RG.z 4) V λk w1 K1=>?_
 refine PW.dn ?_;refine PW.bg [] ?_;refine PM.gi K1 (Dm w1) λw2 K2=>?_
 refine PM.al 58 (RG.z 8) K2 λkq w3 K3=>?_
 refine PM.st 1 rl1 K3 hQr λw4 T=>?_
 refine PW.dn ?_;refine PW.bg [] ?_;refine PM.al 54 (wn 0) T λQ w5 s=>?_
 rw[t0.out]at s;refine PW.dn ?_;refine Yt<|PW.rg [iZ 0] ?_
 apply ZR;go_loopg [7] n (λgk s7 wr=>∃i:I,i+gk=n/\s7=iZ i/\E (Mp w wr [(k,RG.z 4),(kq,rl1),(Q,wn (t i))] [pqR (qZ ga x n ca) n A,pqR (qZ u r n cb) n B]))
 case atStart=>exact⟨0,S,Z,s⟩
 case round =>
  obtain⟨i,L,rfl,K⟩:=hrel;refine Yt<|PW.rg [iZ n,.bool (decide ((i:Y)<(n:Y)))] ?_
  by_cases m:i<n
  .have c:(i:Y)<(n:Y):=S;have o:YQ.wrap ((i:Y)+1)=((i+1:I):Y):=by rw[Zy];have:=X;omega
   obtain⟨c1,c2⟩:=z i;rw[decide_eq_true c];refine Y5 rfl<|ZK<|Yt<|ZR<|AM.bb 13 13 K ?_
   refine AM.ro 0 1 hQr ?_;refine AM.ro 1 2 nq ?_;refine AM.ro 2 1 hQr ?_;refine AW.mv 3 ?_;refine AW.mv 4 ?_;refine AW.iv 5 (atN (k:=ga) (o:=x) (n:=n) (c:=ca) (i:=i) m) ?_;refine AW.ro 6 (λW h=>NtQ.get (Mp.get h 0) m) nq u33 i33 ?_;refine AW.mv 7 ?_;refine AW.mv 8 ?_;refine AW.iv 9 (atN (k:=u) (o:=r) (n:=n) (c:=cb) (i:=i) m) ?_;refine AW.ro 10 (λW h=>NtQ.get (Mp.get h 1) m) nq u33 i33 ?_;refine AW.gi 11 (λ_=>c1 _) λw6 _=>?_
   refine AW.gi 12 (λ_=>c2 _) λw7 _=>?_
   refine AM.fi 2 nq λw8 C=>?_
   refine PW.bb (P:=prog) [iZ (YQ.wrap ((i:Y)+1))] ?_;rw[o];go_wp2;go_roundg (gk-1)
   case measure=>omega
   case rel=>exact⟨i+1,S,Z,C⟩
  .have c:¬(i:Y)<(n:Y):=S;obtain rfl:i=n:=S;rw[decide_eq_false c];refine YY rfl<|wp_exit<|PW.bg (P:=prog) [] ?_
   refine PM.ro 2 K nq ?_;refine PM.st 0 (wn (t i)) K nq λC o=>?_
   refine PW.dn ?_;refine Zr<|YB (aC 4 (T:=54) Z (o.at_ 0 Z) Z u33 i33) Z ?_
   exact⟨_,Z,o.bl,Z⟩
end
section
open SPA
variable {P:Nat}[NeZero P]{N:Nat}[NeZero N]
def smT(a:I->B N)(k:I->T3 P):I->T3 P
 | 0=>(0,1,0)
 | n+1=>plF (smT a k n) (tmF (a n).val (k n) 256)
def Bv{a:I->B N}{b:I->T3 P}{X:I->OnP P}(C:Fl3 P)(k:∀r:EC.Pt P,On r->mul N r=G)(c:N<=top):∀n,(∀j,j<n->FracT (b j) (X j).1)->FracT (smT a b n) ((aI C.toFld k).dt a X n).1
 | 0,_=>FracT.none
 | n+1,h=>(Af C k (Bv C k c n λj d=>h j (I.lt_succ_of_lt d)) (rB C k c (a n) (h n (I.lt_succ_self n))).2).2
def Cs(C:Fl3 P)(b:∀r:EC.Pt P,On r->mul N r=G)(o:N<=top)(n:I)(s:n<=64)(a:I->B N)(c:I->T3 P)(X:I->OnP P)(d:∀j,j<n->FracT (c j) (X j).1)(va Q:Yq)(w:Yp)(m:NtQ (λ_=>True) w va n λj=>(a j).val)(q:PtQ (λ_=>True) w Q n c):
 eZ 29 #[va,Q] w (tv (smT a c n)):=by
 obtain⟨ga,O,ca,rfl,-⟩:=id m;obtain⟨z,y,cb,rfl,-⟩:=id q;have T:E (∀j,j<n->yy 43 #[nv (a j).val,tv (c j)] (tv (tmF (a j).val (c j) 256))/\yy 27 #[tv (smT a c j),tv (tmF (a j).val (c j) 256)] (tv (smT a c (j+1)))):=λj u=>⟨(rB C b o (a j) (d j u)).1,(Af C b (Bv C b o (a:=a) (b:=c) (X:=X) j λi g=>d i (I.lt_trans g u)) (rB C b o (a j) (d j u)).2).1⟩
 have V:E (yy 95 #[] (tv (smT a c 0))):=Ia C;obtain⟨t,L⟩:=hE (smT a c);obtain⟨A,l⟩:∃t:I->I,∀j,(a j).val=t j:=⟨_,λ_=>rfl⟩
 obtain⟨M,v⟩:∃t:I->T3 P,∀j,tmF (A j) (c j) 256=t j:=⟨_,λ_=>rfl⟩
 simp only[L.out,l,v]at T V m⊢;have K0:=mk1 (((Mp.start w).has (pqR _ n A) (m.mono λ_ _ _=>nkN)).has (pqT _ n c) (q.mono λ_ _ _=>nkN));have HN:=mk1 s;have tq:∀ {x:T3 P},E (Y8 (tw x).toArray=tv x):=rfl;clear m q l v L;go_enter func29,ntmps29;refine PW.bg [] ?_;refine PM.al 68 zP K0 λk w1 K1=>?_
 refine PW.dn ?_;refine PW.bg [] ?_;refine PM.gi K1 (V w1) λw2 K2=>?_
 refine PM.al 68 zP K2 λko w3 K3=>?_
 refine PM.st 1 (tw (t 0)) K3 tq λw4 K4=>?_
 refine PW.dn ?_;refine Yt<|PW.rg [iZ 0] ?_
 apply ZR;go_loopg [6] n (λgk s6 wr=>∃i:I,i+gk=n/\s6=iZ i/\E (Mp w wr [(k,zP),(ko,tw (t i))] [pqR (qZ ga O n ca) n A,pqT (qZ z y n cb) n c]))
 case atStart=>exact⟨0,S,Z,K4⟩
 case round =>
  obtain⟨i,h0,rfl,K⟩:=hrel;refine Yt<|PW.rg [iZ n,.bool (decide ((i:Y)<(n:Y)))] ?_
  by_cases g:i<n
  .have f:(i:Y)<(n:Y):=S;have p:YQ.wrap ((i:Y)+1)=((i+1:I):Y):=by rw[Zy];have:=HN;omega
   obtain⟨c1,c2⟩:=T i g;rw[decide_eq_true f];refine Y5 rfl<|ZK<|Yt<|ZR<|AM.bb 11 11 K ?_
   refine AM.ro 0 1 tq ?_;refine AW.mv 1 ?_;refine AW.mv 2 ?_;refine AW.iv 3 (atN (k:=ga) (o:=O) (n:=n) (c:=ca) (i:=i) g) ?_;refine AW.ro 4 (λW h=>NtQ.get (Mp.get h 0) g) nq u33 i33 ?_;refine AW.mv 5 ?_;refine AW.mv 6 ?_;refine AW.iv 7 (Og (k:=z) (o:=y) (n:=n) (c:=cb) (i:=i) g) ?_;refine AW.ro 8 (λW h=>PtQ.get (Mp.get h 1) g) tq uP3 iP3 ?_;refine AW.gi 9 (λ_=>c1 _) λw6 _=>?_
   refine AW.gi 10 (λ_=>c2 _) λw7 _=>?_
   refine AM.fi 1 tq λw8 K8=>?_
   refine PW.bb (P:=prog) [iZ (YQ.wrap ((i:Y)+1))] ?_;rw[p];go_wp2;go_roundg (gk-1)
   case measure=>omega
   case rel=>exact⟨i+1,S,Z,K8⟩
  .have f:¬(i:Y)<(n:Y):=S;obtain rfl:i=n:=S;rw[decide_eq_false f];refine YY rfl<|wp_exit<|PW.bg (P:=prog) [] ?_
   refine PM.ro 1 K tq ?_;refine PM.st 0 (tw (t i)) K tq λw9 p=>?_
   refine PW.dn ?_;refine Zr<|YB (aC 4 (T:=68) Z (p.at_ 0 Z) Z uP3 iP3) Z ?_
   exact⟨_,Z,p.bl,Z⟩
end
section
open SPA
def CM(O:Ord N)(X Y:Fin N)(n:I)(hn:0<n)(hm:n<=64)(a b:I->Fin N)(va vb:Yq)(w:Yp)(hA:NtQ (λ_=>True) w va n λj=>(a j).val)(c:NtQ (λ_=>True) w vb n λj=>(b j).val):
 dZ 39 #[nv X.val,va,nv Y.val,vb] w λe w'=>NtQ (w.heap.size<=·) w' e n λj=>(X*a j+Y*b j).val:=by
 obtain⟨ga,oa,ca,rfl,hr,-,h6,h9⟩:=hA;obtain⟨gb,ob,cb,rfl,hq,-,hj,h8⟩:=c;obtain⟨k,hk⟩:=hE (w.heap.size);obtain⟨q,Q⟩:=hE (lZ w (wn X.val) 54);have F1:=aK hk Q;obtain⟨k1,h0⟩:=hE (q.heap.size);obtain⟨w2,L⟩:=hE (lZ q (wn Y.val) 54);have F2:=aK h0 L;have K2:=mk3 (F1.1.trans (F2.1.mono F1.1.size)) (F1.2.below F2.1) F2.2;have HR:=mk4 h6 hj h9 h8;have cT:E (∀j,yy 33 #[rv1,nv X.val,nv (a j).val] (nv (X*a j).val)/\yy 33 #[rv1,nv Y.val,nv (b j).val] (nv (Y*b j).val)/\yy 35 #[rv1,nv (X*a j).val,nv (Y*b j).val] (nv (X*a j+Y*b j).val)):=λj=>⟨lR O,lR O,v9 O⟩
 obtain⟨t,ht⟩:∃t:I->I,∀j,(X*a j+Y*b j).val=t j:=⟨_,λ_=>rfl⟩
 obtain⟨A,hA⟩:∃t:I->I,∀j,(a j).val=t j:=⟨_,λ_=>rfl⟩
 obtain⟨B,c⟩:∃t:I->I,∀j,(b j).val=t j:=⟨_,λ_=>rfl⟩
 obtain⟨M,hM⟩:∃t:I->I,∀j,(X*a j).val=t j:=⟨_,λ_=>rfl⟩
 obtain⟨M2,h7⟩:∃t:I->I,∀j,(Y*b j).val=t j:=⟨_,λ_=>rfl⟩
 simp only[ht,hA,c,hM,h7]at cT HR⊢;have B1:E ((ZM 54 (nv X.val)).run prog w=.ok (jZ k) q):=Q.out▸hk.out▸Ji (n:=X.val) (w:=w);have B2:E ((ZM 54 (nv Y.val)).run prog q=.ok (jZ k1) w2):=L.out▸h0.out▸Ji (n:=Y.val) (w:=q);have HN:=mk2 hn hm;obtain⟨vx,h2⟩:=hE (nv X.val);obtain⟨vy,h3⟩:=hE (nv Y.val);rw[h2.out]at B1;rw[h3.out]at B2;rw[h2.out,h3.out];obtain⟨vq,C⟩:=hE (Y8 rl1.toArray);have cQ:E (yy 21 #[] vq):=C.out▸Dm;go_enter func39,ntmps39;go_wp2_with (first|(refine aG (u:=vx) (v:=jZ k) (w':=q) Z 54 (.tmp 0) Z ?_ ?_ ?_;rfl;exact B1)|(refine aG (u:=vy) (v:=jZ k1) (w':=w2) Z 54 (.tmp 2) Z ?_ ?_ ?_;rfl;exact B2)|fail)
 apply(cQ w2).mono;rintro e w3 ⟨uu,rfl,P,rfl⟩;obtain⟨kq,r⟩:=hE (w3.heap.size);obtain⟨w4,K⟩:=hE (lZ w3 (RG.z 8) 58);obtain⟨w5,z⟩:=hE (w4.setCells kq 0 rl1);have FQ:=CG r K z Z;have o:=P.trans (FQ.2.1.mono P.size);have d:=mk4 (K2.1.trans (o.mono K2.1.size)) (K2.2.1.below o) (K2.2.2.below o) FQ.2.2;go_wp2_with (first|(refine alR 9 r K ?_)|(refine stR 9 z C FQ.1 iFs DT ?_)|fail)
 go_loopg [10,11] n (λm s10 s11 W=>∃i:I,i+m=n/\s11=iZ i/\E (kZ w5 W/\W.ownsRow w5.heap.size 54 4 s10 i (mW (λj=>wn (t j)) i)))
 case atStart=>exact⟨0,S,Z,⟨YH _ _,Z,Y3 ⟨Z,Z⟩⟩⟩
 case round =>
  obtain⟨i,hu,rfl,KM⟩:=hrel;by_cases hi:i<n
  .have hc:=S;have p:=Hid.mk' hi;go_wp2_with fail
   obtain⟨c1,c2,c3⟩:=cT i;have l:=Hid.mk' (λ(W:Yp) (c:kZ wr W)=>KM.1.trans (c.mono KM.1.size));refine(gwL [pE u10,pE rv1,pE rv1,pE (nv X.val),pE (qZ ga oa n ca),pE (iZ i),pE (oZ ga (oa+4*i)),pE (nv (A i)),pE (nv (M i)),pE rv1,pE (nv Y.val),pE (qZ gb ob n cb),pE (iZ i),pE (oZ gb (ob+4*i)),pE (nv (B i)),pE (nv (M2 i)),pE (nv (t i)),pB (wn (t i))] (λW=>kZ wr W) (λW W' hb h=>h.trans (hb.mono h.size))).tail2 18 kR kR kR ⟨
    RG.gO 10 u10,
    gLo 9 (λW c=>(d.2.2.2.below (l W c)).2.1) uFq iFq,
    gLo 9 (λW c=>(d.2.2.2.below (l W c)).2.1) uFq iFq,
    gLo 4 (λW c=>(d.2.1.below (l W c)).2.1) uNf i33,
    RG.gO 1 (qZ ga oa n ca),
    RG.gO 11 (iZ i),
    RG.gX 4 23 5 24 (atN (k:=ga) (o:=oa) (n:=n) (c:=ca) (i:=i) p),
    gLr 6 25 (λW c=>RG.range_below (HR.2.2.1 i p) (d.1.trans ((l W c).mono d.1.size)) HR.1) uNf i33,
    gC3 2 21 3 22 7 26 c1,
    gLo 9 (λW c=>(d.2.2.2.below (l W c)).2.1) uFq iFq,
    gLo 6 (λW c=>(d.2.2.1.below (l W c)).2.1) uNf i33,
    RG.gO 3 (qZ gb ob n cb),
    RG.gO 11 (iZ i),
    RG.gX 11 30 12 31 (atN (k:=gb) (o:=ob) (n:=n) (c:=cb) (i:=i) p),
    gLr 13 32 (λW c=>RG.range_below (HR.2.2.2 i p) (d.1.trans ((l W c).mono d.1.size)) HR.2.1) uNf i33,
    gC3 9 28 10 29 14 33 c2,
    gC3 1 20 8 27 15 34 c3,
    Ws 16 35 (nv (t i)) (wn (t i)) 54 (λx W h=>h) (λW W' h _=>⟨_,Z,h⟩),yw⟩ (YH _ _).drew ?_
   intro V W9 T h5;obtain⟨g8,h4,r8⟩:∃g,V 17=sZ g 1 1/\yz W9 g (wn (t i)):=T 17 dC;have K9:=mk2 (l W9 h5) (own_below KM.2 h5);obtain⟨v',W6,he,hp,ha⟩:=Sj (t:=(t i)) K9.2 r8 (by have:=HN.2;have:=p;omega) K9.1.size;dsimp only[dF,Zs,gD,qg];simp only[Zo,Yw,Yy,Yz];rw[T 0 dC,h4];go_wp2_with (first|(refine kC (x:=u10) (y:=sZ g8 1 1) (v:=v') (w':=W6) Z _ _ 61 Z ?_ ?_ ?_ ?_;rfl;rfl;exact(Hid.mk' he).out)|fail)
   go_roundg (gk-1)
   case measure=>have:=p;omega
   case rel=>exact⟨i+1,oN p,Z,mk2 (below_grown K9.1 K9.2 ha) hp⟩
  .have hc:=S;obtain rfl:i=n:=S;go_wp2;go_ret;exact⟨_,Z,d.1.trans (KM.1.mono d.1.size),(RwQ.of_own (s:=4) (f:=λj=>wn (t j)) (λ_=>rfl) KM.2 HN.1).mono λg _ l=>YA d.1.size l⟩
end
section
open SPA
variable {P:Nat}[NeZero P]{N:Nat}[NeZero N]
def SdR(m:I)(a b:I->I)(j th:I->T3 P)(i:T3 P)(X:Bs):Prop:=∃(t1 t2 c f g:T3 P) (d:I),(∀W va k,NtQ (λ_=>True) W va m a->PtQ (λ_=>True) W k m j->eZ 29 #[va,k] W (tv t1)) /\
 (∀W va k,NtQ (λ_=>True) W va m b->PtQ (λ_=>True) W k m th->eZ 29 #[va,k] W (tv t2)) /\
 yy 27 #[tv t1,tv t2] (tv c)/\(∀W va k,NtQ (λ_=>True) W va m a->NtQ (λ_=>True) W k m b->eZ 36 #[va,k] W (nv d)) /\
 yy 43 #[nv d,tv i] (tv f)/\yy 27 #[tv c,tv f] (tv g)/\yy 30 #[tv g] (.string ⟨X⟩)
def Rh{m:I}{a b:I->B N}{f th:I->T3 P}{g h:I->OnP P}{u:OnP P}(C:Fl3 P)(O:Ord N)(k:∀r:EC.Pt P,On r->mul N r=G)(c:m<=64)(i:T3 P)(l:∀j,j<m->FracT (f j) (g j).1)(hh:∀j,j<m->FracT (th j) (h j).1)(p:FracT i u.1):
 SdR m (λj=>(a j).val) (λj=>(b j).val) f th i (wP ((aI C.toFld k).hd a b g h u m)):=by
 have f3:=Af C k (Bv C k O.le (a:=a) (b:=f) (X:=g) m l) (Bv C k O.le (a:=b) (b:=th) (X:=h) m hh);have n:=rB C k O.le (Md.pr a b m) p;have o:=Af C k f3.2 n.2;exact⟨_,_,_,_,_,_,λW va d h1 e=>Cs C k O.le m c a f g l va d W h1 e,λW va d h1 e=>Cs C k O.le m c b th h hh va d W h1 e,f3.1,λW va d h1 e=>EK O m c a b va d W h1 e,n.1,o.1,mI C o.2⟩
abbrev sN:Yq:=nZ
omit [NeZero P] [NeZero N] in
theorem As{m:I}(X:Bs)(k:X.size=m)(W:Yp)(f:∀g,W.heap.size<=g->Q g):∃x W',E ((convert 9 23 (.string ⟨X⟩)).run prog W=.ok x W')/\kZ W W'/\ElQ Q m W' x X:=by
 let⟨c,W',h1,i,b,d,e⟩:=xI ⟨X⟩ W
 exact⟨_,W',h1,b,W.heap.size,c,by rw[<-k];rfl,by rw[<-k];exact i,k,f _ (Ys _),e,d⟩
namespace RG
variable {P:Zw}{ops:Array Y9}{Q:Exit->Act->Yp->Prop}{w:Yp}{a0:Act}{G:Gw}{k:Nat}{o:Y9}{v u v' z q:Yq}{f:ak}
def pRw(s:I)(f:I->H Yq)(Q:I->Prop)(n:I):S1:=⟨λv w=>RwQ s f Q w v n,λ_ _ _ k h=>h.keep (Kq.of_below k)⟩
end RG
namespace RG
section
variable {P:Zw}{ops:Array Y9}{Q:Exit->Act->Yp->Prop}{w W:Yp}{a0:Act}
def Mq.as{id:I}{S:H Pq}{o:Y9}{G:(I->Yq)->Act}(K:Hid (Mp w W rs S))(h:jQ P Q (gQ hs W.heap.size (λW'=>kZ W W') (λ_ _ k h=>h.trans (k.mono h.size))).flow ops a0 0 (ops.toList.take n))(f:∀U c,(∀i,i<n->(nth (hs.map (Hq.s W.heap.size)) i).p (vq hs U i) c)->kZ W c->Hid (Mp w c rs S)->wpList P ops Q [o] (G U) c)(hd:ops.toList.drop n=[o]:=by rfl)(hG:∀U,wV hs U (ops.toList.take n) 0 a0=G U:=by(intro _;(simp only[wV,vq,YP,YS,Zs,gD,Zo,Yw,Yy,Yz])<;>rfl))(g:(decide (n<ops.size) && lL ops n)=J:=by kernel_rfl)(l:P.follows .mixedOrders=J:=by kernel_rfl)(m:C7 ops a0.tmps.size=J:=by kernel_rfl):(ZP id ops J).wp P Q a0 W:=by
 refine Gw.tail2 _ n g l m h (YH _ _).drew λV c hR e=>?_
 rw[hd];have d:∀j,j<n->V j=vq hs V j:=λj k=>(Ly (b:=W.heap.size) (hR j k) Z).symm
 rw[Cx (hs:=hs) V V (ops.toList.take n) 0 a0 λj _ k=>d j (by rw[H.length_take]at k;omega),hG];exact f V c (λj k=>by rw[<-d j k];exact hR j k) e (K.grow e)
end
end RG
section
variable {P:Zw}{ops:Array Y9}{rest:List Y9}{op:Y9}{a a':Act}{w W W':Yp}{Q:Exit->Act->Yp->Prop}{d:Option Tmp}{x v:Yq}{t:Tmp}{rs rs':List (Nat × List Yq)}{S:List Pq}{r k:Nat}{cs:List Yq}{L L':Bs}
def sO(h:yz W r [.string ⟨L⟩]):RLog W r L:=⟨by have:=h.2.1 0 _ Z;rwa[Yv]at this,by have:=(h.2.2 0 yFA).2;rwa[Yv]at this⟩
def sW(h:RLog W r L):yz W r [.string ⟨L⟩]:=⟨h.lt,λj v k=>by
 match j,k with
 | 0,k=>rw[Yv];exact h.1.trans k,λj k=>by
 match j,k with
 | 0,_=>exact⟨by rw[h.1];rfl,h.2⟩⟩
def Mp.rsay(h:Mp w W rs S)(i:I)(k:SP.Only r 0 1 W W')(c:RLog W' r L')(b:rs[i]? = F (r,[.string ⟨L⟩]):=by rfl)(e:rs.set i (r,[.string ⟨L'⟩])=rs':=by(simp only[Yy,Yz])<;>rfl):Mp w W' rs' S:=by
 subst e;exact h.turn b (h.bl.trans (zH k h.bl.size (h.lt (Mp.key b)).1)) k.size (λg d hl=>k.block g hl d) (sW c)
def PM.ry{args:yt Yq}(i:I)(K:Hid (Mp w W rs S))(g:RLog W r L->Zl P f args W (Ret λe w'=>SP.Only r 0 1 W w'/\RLog w' r L'/\e=x))(h:∀W',Hid (Mp w W' rs' S)->wpList P ops Q rest a' W')(k:rs[i]? = some (r,[.string ⟨L⟩]):=by rfl)(hd:op.dst=d:=by rfl)(b:op.guard=G:=by rfl)(hx:(Za a.eval op).run P W=.ok (.enter f args) W:=by kernel_rfl)(e:rs.set i (r,[.string ⟨L'⟩])=rs':=by(simp only[Yy,Yz])<;>rfl)(c:a.put d x=a':=by(simp only[Zo,Yw,Yy,Yz])<;>rfl):wpList P ops Q (op :: rest) a W:=
 PW.ca (F:=λe=>a.put d e) (g (sO (K.at_ i k))) (λz W' hR=>by
  obtain⟨h1,j,rfl⟩:=hR;subst c;exact h W' (K.rsay i h1 j k e)) hd b hx λ_=>rfl
def PM.sc(i o:I)(K:Hid (Mp w W rs S))(h1:v.cells=#[v]/\v.oneCell'=J)(h:∀W',Hid (Mp w W' rs' S)->wpList P ops Q rest a' W')(d:rs[i]? = F (k,cs):=by rfl)(hl:o+1<=cs.length:=by exact Zh rfl)(hd:op.dst=G:=by rfl)(b:op.guard=G:=by rfl){y:am}(ho:op.op=.store T (.tmp t) y:=by rfl)(hx:a.eval (.tmp t)=oZ k o:=by rfl)(f:a.eval y=v:=by rfl)(hT:(P.info? T).map (·.size)=F 1:=by kernel_rfl)(e:rs.set i (k,rep cs o [v])=rs':=by(simp only[Yy,Yz,rep,List.take_succ_cons,List.take_zero,List.drop_succ_cons,List.drop_zero,List.cons_append,List.nil_append,List.length_cons,List.length_nil,Zs])<;>rfl)(g:a.put G ae=a':=by(simp only[Zo])<;>rfl):wpList P ops Q (op :: rest) a W:=by
 let⟨W',c⟩:=hE (W.setCells k o [v])
 have r:=K.at_ i d;refine rD b ho v hx f h1.1 h1.2 (r.th2 hl) hT ?_;rw[hd,g,c.out];exact h W' (K.upd i c (r.upd hl) d e)
end
omit [NeZero P] [NeZero N] in
theorem Ng{c:Yp}{S:H Pq}{i ga:I}{x:Yq}(K:Mp c W rs (gL c.heap.size ls S))(A:ApG ls)(d:ls[i]? = F ⟨v,xs⟩)(m:xs.length<=900)(hx:x.oneCell'=J)(e:W.cell? ⟨ga,0,G⟩=F x):∃k W',(Zn #[24,24] 24 #[v,sZ ga 1 1]).run prog W=.ok k W'/\Mp c W' rs (gL c.heap.size (ls.set i ⟨k,xs++[x]⟩) S)/\ApG (ls.set i ⟨k,xs++[x]⟩)/\k.cells=#[k]/\k.oneCell'=J:=by
 let⟨k,W',j,r2,B⟩:=Jq (x:=x) (Mg.li K i d) hx e (by show xs.length<=_;omega) K.bl.size
 have b:W'.ownsRow c.heap.size 23 1 k (xs++[x]).length (xs++[x]):=by
  rw[Yx];exact r2
 let⟨l,f⟩:=Mg.app (y:=⟨k,xs++[x]⟩) K A d b B
 refine⟨k,W',j,l,f,?_⟩;rcases r2 with⟨-,⟨rfl,-⟩|⟨g,cc,cur,rfl,-⟩⟩<;>exact⟨Z,Z⟩
abbrev pqW(s:I)(f:I->H Yq)(v:Yq)(n:I):Pq:=⟨λQ W=>RwQ s f Q W v n,λ_ _ _ k h=>h.keep k,λ_ _ _ m h=>h.mono m⟩
def RwQ.tt{f:I->H Yq}(h:RwQ s f Q W v n):RwQ s f (λ_=>True) W v n:=h.mono λ_ _ _=>trivial
omit [NeZero P] [NeZero N] in
theorem Qb{args:yt Yq}{F:I->H Yq}(h:dZ f args W λe W'=>RwQ s F (W.heap.size<=·) W' e n)(k:∀g,W.heap.size<=g->Q g):dZ f args W λe W'=>RwQ s F Q W' e n:=h.mono (by
 rintro e W' ⟨v,rfl,b,hs⟩;exact⟨_,Z,b,hs.mono λg _=>k g⟩)
omit [NeZero P] [NeZero N] in
theorem Wa{S:H Pq}{b:I}(K:Mp (EN w r) W ((r,z) :: rs) (gL b ls (pgW w r :: S))):OnB r w W/\∀x∈ls,∀g,x.v.ownBlock=F g->w.heap.size<=g:=by
 have c:w.heap.size<=W.heap.size/\∀g,g<w.heap.size->g≠r->(Nk ((r,z) :: rs) g/\¬gbk ls g)/\W.heap[g]? = w.heap[g]?:=Mg.get K 0;exact⟨⟨K.bl.os,K.bl.tape,K.bl.output,c.1,λg k d=>(c.2 g k d).2⟩,λx hx g k=>yCZ λd=>(c.2 g (by omega) λe=>Mg.lb K hx g k (by rw[e];simp)).1.2 ⟨x,hx,k⟩⟩
omit [NeZero P] [NeZero N] in
theorem RD{b t:I}{X:I->Bs}(c:xs.length=t)(ho:W.ownsRow b 23 1 v xs.length xs)(d:∀g,v.ownBlock=F g->w.heap.size<=g)(k:(pgE xs X).p Q W):TlL (λ_=>True) w.heap.size t W v X:=⟨xs,by
 have:=Gv ho d;rwa[c]at this,λj e=>⟨_,YC (by omega),(k j _ (YC (by omega))).mono2 λ_ _ _=>trivial⟩⟩
structure Rnr(y m:I)(G H G' H':I->T3 P)(tu:T3 P)(a b a' b':I->I)(s s1 s2 s' X Y:Bs)(x xi:I):Prop where
 m0:0<m
 m6:m<=64
 sX:X.size=33
 sY:Y.size=33
 l:SdR m a (λj=>b (m+j)) (λj=>G (m+j)) H tu X
 r:SdR m (λj=>a (m+j)) b G (λj=>H (m+j)) tu Y
 sl:∀W,RLog W y s->cZ 37 #[jZ y,.string ⟨#[108,101,102,116]⟩,.string ⟨X⟩] W (Ret λe w'=>SP.Only y 0 1 W w'/\RLog w' y s1/\e=.tuple #[])
 sr:∀W,RLog W y s1->cZ 37 #[jZ y,.string ⟨#[114,105,103,104,116]⟩,.string ⟨Y⟩] W (Ret λe w'=>SP.Only y 0 1 W w'/\RLog w' y s2/\e=.tuple #[])
 ch:∀W,RLog W y s2->cZ 38 #[jZ y] W (Ret λe w'=>SP.Only y 0 1 W w'/\RLog w' y s'/\e=nv x)
 iv:∀W,eZ 98 #[rv1,nv x] W (nv xi)
 fa:∀W va vb,NtQ (λ_=>True) W va m a->NtQ (λ_=>True) W vb m (λj=>a (m+j))->dZ 39 #[nv x,va,nv xi,vb] W λe W'=>NtQ (W.heap.size<=·) W' e m a'
 fb:∀W va vb,NtQ (λ_=>True) W va m b->NtQ (λ_=>True) W vb m (λj=>b (m+j))->dZ 39 #[nv xi,va,nv x,vb] W λe W'=>NtQ (W.heap.size<=·) W' e m b'
 fg:∀W va vb,PtQ (λ_=>True) W va m G->PtQ (λ_=>True) W vb m (λj=>G (m+j))->dZ 105 #[nv xi,va,nv x,vb] W λe W'=>PtQ (W.heap.size<=·) W' e m G'
 fh:∀W va vb,PtQ (λ_=>True) W va m H->PtQ (λ_=>True) W vb m (λj=>H (m+j))->dZ 105 #[nv x,va,nv xi,vb] W λe W'=>PtQ (W.heap.size<=·) W' e m H'
omit [NeZero P] [NeZero N] in
theorem Qp{I:Nat->(Nat->T3 P)->(Nat->T3 P)->Prop}(O:Ord N)(t:Nat)(ht:t<=6)(tu:T3 P)(A B:Nat->Nat->Nat)(S Lb Rb:Nat->Bs)(y:Nat)(hy:∀i G H,i<t->I i G H->∃m G' H' s1 s2 x xi,2^(t-i)=m+m/\2^(t-(i+1))=m/\Rnr y m G H G' H' tu (A i) (B i) (A (i+1)) (B (i+1)) (S i) s1 s2 (S (i+1)) (Lb i) (Rb i) x xi/\I (i+1) G' H')(hA:A t 0<N)(k:B t 0<N)(v1 v2 v3 v4:Yq)(w:Yp)(hL:RLog w y (S 0)){G0 H0:Nat->T3 P}(hI:I 0 G0 H0)(h1:NtQ (·≠y) w v1 (2^t) (A 0))(h2:NtQ (·≠y) w v2 (2^t) (B 0))(h3:PtQ (·≠y) w v3 (2^t) G0)(h4:PtQ (·≠y) w v4 (2^t) H0):
 cZ 41 #[jZ y,v1,v2,v3,v4,tv tu] w (Ret λe w'=>OnB y w w'/\∃v r l f,e=.agg #[v,r,l,f]/\TlL (λ_=>True) w.heap.size t w' v Lb/\TlL (λ_=>True) w.heap.size t w' r Rb/\ElQ (λ_=>True) 32 w' l (bx (A t 0))/\ElQ (λ_=>True) 32 w' f (bx (B t 0))):=by
 have hr:=hL.lt;obtain⟨c,hc⟩:=hE (EN w y);have k6:E (c.heap.size=y):=by rw[<-hc.out];exact qI (ax hr)
 have nk:∀g,Nk [(y,[Value.string ⟨S 0⟩])] g↔g≠y:=λg=>by simp[Nk]
 have l:E (Mp c w [(y,[.string ⟨S 0⟩])] [pgW w y,pqW 4 (λj=>wn (A 0 j)) v1 (2^t),pqW 4 (λj=>wn (B 0 j)) v2 (2^t),pqW 12 (λj=>tw (G0 j)) v3 (2^t),pqW 12 (λj=>tw (H0 j)) v4 (2^t),pgE [] Lb,pgE [] Rb]):=by
  refine⟨by rw[<-hc.out];exact EM (ax hr),λx hx=>?_,by simp,λs hs=>?_⟩
  .obtain rfl:=ZX.1 hx;exact⟨xD k6.out,sW hL⟩
  .simp only[Zb,YI,or_false]at hs;rcases hs with rfl|rfl|rfl|rfl|rfl|rfl|rfl
   .exact⟨Ys _,λg p f=>⟨(nk g).2 f,Z⟩⟩
   .exact h1.mono λg _ p=>(nk g).2 p
   .exact h2.mono λg _ p=>(nk g).2 p
   .exact h3.mono λg _ p=>(nk g).2 p
   .exact h4.mono λg _ p=>(nk g).2 p
   .exact λj x hx=>by cases hx
   .exact λj x hx=>by cases hx
 have HS:=mk5 hy hA k ht O;have ha:=mk1 hI;have h9:E (Y8 rl1.toArray=rv1):=rfl;clear hy hA k ht hI hL h1 h2 h3 h4;go_enter func41,ntmps41;refine PW.bg [] ?_;refine PM.al 68 (tw tu) l λk1 w1 q=>?_
 refine PM.al 26 [sN,sN,sN,sN] q λk2 w2 K2=>?_
 refine PW.dn ?_;refine PW.bg [] ?_;refine PM.al 26 [sN,sN,sN,sN] K2 λk3 w3 K3=>?_
 refine PW.dn ?_;refine PW.bg [] ?_;refine PM.gi K3 (Dm w3) λw4 K4=>?_
 refine PM.al 58 (RG.z 8) K4 λkq w5 f=>?_
 refine PM.st 4 rl1 f h9 (λw6 T=>?_) (hT:=iFs) (h1:=DT);refine PW.dn ?_;refine Yt ?_;refine ZR ?_;have KL:=mk1 (Mg.nil (ls:=[⟨sN,[]⟩,⟨sN,[]⟩]) (b:=c.heap.size) T.out (by simp));go_loopg [1,2,3,4] t (λmm s1 s2 s3 s4 wr=>∃i:Nat,i+mm=t/\E (∃(v r:Yq) (xs ys:List Yq) (G H:Nat->T3 P),I i G H/\(xs.length=i/\ys.length=i)/\ApG [⟨v,xs⟩,⟨r,ys⟩]/\Mp c wr [(y,[.string ⟨S i⟩]),(k1,tw tu),(k2,[sN,sN,sN,sN]),(k3,[v,r,sN,sN]),(kq,rl1)] (gL c.heap.size [⟨v,xs⟩,⟨r,ys⟩] [pgW w y,pqW 4 (λj=>wn (A i j)) s1 (2^(t-i)),pqW 4 (λj=>wn (B i j)) s2 (2^(t-i)),pqW 12 (λj=>tw (G j)) s3 (2^(t-i)),pqW 12 (λj=>tw (H j)) s4 (2^(t-i)),pgE xs Lb,pgE ys Rb])))
 case atStart=>exact⟨0,oM,_,_,[],[],_,_,ha.out,⟨Z,Z⟩,KL.2,KL.1⟩
 case round =>
  clear l q K2 K3 K4 f T KL ha;obtain⟨i,k8,KM⟩:=hrel;by_cases hi:i<t
  .obtain⟨v,r,xs,ys,G,H,hI,hN,M,o⟩:=KM.out;obtain⟨m,G',H',s1,s2,x,xi,e1,e2,R,hp⟩:=HS.1 i G H hi hI;rw[e1]at o;have C1:=Hid.mk' (NtQ.cut (Mg.get o 1) R.m0);have C2:=Hid.mk' (NtQ.cut (Mg.get o 2) R.m0);have C3:=Hid.mk' (PtQ.cut (Mg.get o 3) R.m0);have C4:=Hid.mk' (PtQ.cut (Mg.get o 4) R.m0);obtain⟨g1,o1,c1,rfl,-⟩:=(Mg.get o 1:RwQ _ _ _ wr _ _)
   obtain⟨g2,o2,c2,rfl,-⟩:=(Mg.get o 2:RwQ _ _ _ wr _ _)
   obtain⟨g3,o3,c3,rfl,-⟩:=(Mg.get o 3:RwQ _ _ _ wr _ _)
   obtain⟨g4,o4,c4,rfl,-⟩:=(Mg.get o 4:RwQ _ _ _ wr _ _)
   have l:=mk1 o;have u:=mk5 hN M e2 hp hi;have k7:=R.m0;have k9:=R.m6;have R:=mk1 R;have k0:(1:Y)<((m+m:Nat):Y):=oM;have eq:YQ.wrap (((m+m:Nat):Y).tdiv 2)=(m:Y):=by rw[VK,Zy];omega
   clear KM o hI hN M e1 e2 hp;refine Yt ?_;refine PW.rg [iZ ((m+m:Nat):Y),.bool (decide ((1:Y)<((m+m:Nat):Y)))] ?_;rw[decide_eq_true k0];refine Y5 Z ?_;refine ZK ?_;refine ZR ?_;refine PW.rg [iZ ((m+m:Nat):Y),iZ (YQ.wrap (((m+m:Nat):Y).tdiv 2)),iZ (YQ.wrap (((m+m:Nat):Y).tdiv 2))] ?_;rw[eq];generalize qZ g1 o1 (m+m) c1=A1 at l C1⊢;generalize qZ g2 o2 (m+m) c2=A2 at l C2⊢;generalize qZ g3 o3 (m+m) c3=A3 at l C3⊢;generalize qZ g4 o4 (m+m) c4=A4 at l C4⊢;obtain⟨al,ah,h6,h0,na⟩:=C1.out;obtain⟨bl,bh,h7,h5,nb⟩:=C2.out;obtain⟨gl,gh,hk,hw,ng⟩:=C3.out;obtain⟨hl,hh,hm,hj,nh⟩:=C4.out;clear C1 C2 C3 C4;obtain⟨t1,t2,t3,t4,t5,d,p1,p2,p3,p4,p5,p6,p7⟩:=R.out.l;refine Yt ?_;refine Mq.as (hs:=[.v A1,.v (iZ m),.v al,.v A3,.v (iZ m),.v gh,.v (tv t1),.v A2,.v (iZ m),.v bh,.v A4,.v (iZ m),.v hl,.v (tv t2),.v (tv t3),.v A1,.v (iZ m),.v al,.v A2,.v (iZ m),.v bh,.v (nv d),.v (tv tu),.v (tv t4),.v (tv t5),.v (.string ⟨Lb i⟩)]) (n:=26) l ⟨gv,gv,RG.gX 0 27 1 28 h6,gv,gv,RG.gX 3 30 4 31 hw,
    gc λW k=>p1 W al gh (na _ W (Mg.get (l.out.grow k) 1)).1.tt (ng _ W (Mg.get (l.out.grow k) 3)).2.tt,gv,gv,RG.gX 7 34 8 35 h5,gv,gv,RG.gX 10 37 11 38 hm,
    gc λW k=>p2 W bh hl (nb _ W (Mg.get (l.out.grow k) 2)).2.tt (nh _ W (Mg.get (l.out.grow k) 4)).1.tt,gc λW _=>p3 W,gv,gv,RG.gX 15 42 16 43 h6,gv,gv,RG.gX 18 45 19 46 h5,
    gc λW k=>p4 W al bh (na _ W (Mg.get (l.out.grow k) 1)).1.tt (nb _ W (Mg.get (l.out.grow k) 2)).2.tt,gm l 1,gc λW _=>p5 W,gc λW _=>p6 W,gc λW _=>p7 W,yw⟩ (λV w1 hR k q=>?_)
   clear hR k l p1 p2 p3 p4 p5 p6 p7;refine PW.en [.string ⟨Lb i⟩] ?_;obtain⟨t1,t2,t3,t4,t5,d,p1,p2,p3,p4,p5,p6,p7⟩:=R.out.r;refine Yt ?_;refine Mq.as (hs:=[.v A1,.v (iZ m),.v ah,.v A3,.v (iZ m),.v gl,.v (tv t1),.v A2,.v (iZ m),.v bl,.v A4,.v (iZ m),.v hh,.v (tv t2),.v (tv t3),.v A1,.v (iZ m),.v ah,.v A2,.v (iZ m),.v bl,.v (nv d),.v (tv tu),.v (tv t4),.v (tv t5),.v (.string ⟨Rb i⟩)]) (n:=26) q ⟨gv,gv,RG.gX 0 53 1 54 h0,gv,gv,RG.gX 3 56 4 57 hk,
    gc λW k=>p1 W ah gl (na _ W (Mg.get (q.out.grow k) 1)).2.tt (ng _ W (Mg.get (q.out.grow k) 3)).1.tt,gv,gv,RG.gX 7 60 8 61 h7,gv,gv,RG.gX 10 63 11 64 hj,
    gc λW k=>p2 W bl hh (nb _ W (Mg.get (q.out.grow k) 2)).1.tt (nh _ W (Mg.get (q.out.grow k) 4)).2.tt,gc λW _=>p3 W,gv,gv,RG.gX 15 68 16 69 h0,gv,gv,RG.gX 18 71 19 72 h7,
    gc λW k=>p4 W ah bl (na _ W (Mg.get (q.out.grow k) 1)).2.tt (nb _ W (Mg.get (q.out.grow k) 2)).1.tt,gm q 1,gc λW _=>p5 W,gc λW _=>p6 W,gc λW _=>p7 W,yw⟩ (λV w2 hR k K2=>?_)
   clear hR k q p1 p2 p3 p4 p5 p6 p7;refine PW.en [.string ⟨Rb i⟩] ?_;refine PW.bg [] ?_;refine PM.ry 0 K2 (R.out.sl w2) (λw3 K3=>?_);refine PW.dn ?_;refine PW.bg [] ?_;refine PM.ry 0 K3 (R.out.sr w3) (λw4 K4=>?_);refine PW.dn ?_;refine PW.bg [] ?_;refine PM.ry 0 K4 (R.out.ch w4) (λw5 f=>?_);refine PM.al 54 (RG.z 4) f λka w6 T=>?_
   refine PM.st 5 (wn x) T nq (λw7 z=>?_);refine PW.dn ?_;clear K2 K3 K4 f T;refine PW.bg [] ?_;refine PM.ro 4 z h9 ?_;refine PM.ro 5 z nq ?_;refine PM.gi z (R.out.iv w7) λw8 K8=>?_
   refine PM.al 54 (RG.z 4) K8 λkb w9 K9=>?_
   refine PM.st 6 (wn xi) K9 nq (λu0 Ka=>?_);refine PW.dn ?_;clear z K8 K9;have k4:i<=900:=by have:=u.2.2.2.2;have:=HS.2.2.2.1;omega
   obtain⟨x1,u1,K,a,eL⟩:=As (Lb i) R.out.sX u0 (Mg.nk Ka.out);have Kb:=mk1 (Mg.ad (Ka.out.grow a) (pgE [x1] (λ_=>Lb i)) (xF eL));have Kc:=mk1 (Kb.out.grow (aD (w:=u1) (.cells #[x1] 23)));obtain⟨hz,u2,hb,Kd,Ad,oL⟩:=Ng Kc.out u.2.1 (i:=0) Z (by have:=u.1.1;omega) eL.one.2 (ga:=u1.heap.size) ((aF (w:=u1) (c:=[x1]) (T:=23)).2.1 0 _ Z);have Kd:=mk1 Kd;refine PW.bg [jZ k3] ?_;refine PM.ce 3 0 Ka ?_;refine PW.go [] ?_;refine PW.ns K.out ?_;refine PW.ns (WP eL (w:=u1)) ?_;refine PW.ns hb ?_;refine PW.go [jZ k3] ?_;refine PM.sc 3 0 Kd oL λu3 Ke=>?_
   refine PW.dn ?_;clear Ka Kb Kc Kd K a hb;obtain⟨x2,u4,Q,L,eR⟩:=As (Rb i) R.out.sY u3 (Mg.nk Ke.out);have Kf:=mk1 (Mg.ad (Ke.out.grow L) (pgE [x2] (λ_=>Rb i)) (xF eR));have Kg:=mk1 (Kf.out.grow (aD (w:=u4) (.cells #[x2] 23)));obtain⟨k5,u5,he,Kh,Ah,oR⟩:=Ng Kg.out Ad (i:=1) Z (by have:=u.1.2;omega) eR.one.2 (ga:=u4.heap.size) ((aF (w:=u4) (c:=[x2]) (T:=23)).2.1 0 _ Z);have Kh:=mk1 Kh;refine PW.bg [oZ k3 1] ?_;refine PM.ce 3 1 Ke ?_;refine PW.go [] ?_;refine PW.ns Q.out ?_;refine PW.ns (WP eR (w:=u4)) ?_;refine PW.ns he ?_;refine PW.go [oZ k3 1] ?_;refine PM.sc 3 1 Kh oR λu6 Ki=>?_
   refine PW.dn ?_;clear Ke Kf Kg Kh Q L he Ad;obtain⟨Qn,C⟩:=Mg.q Ki.out;have hq:=λg=>Eq.mp (congrFun C.out g)
   refine Yt ?_;refine Mq.as (hs:=[.v (nv x),.v A1,.v (iZ m),.v al,.v (nv xi),.v A1,.v (iZ m),.v ah,.p (pRw 4 (λj=>wn (A (i+1) j)) Qn m)]) (n:=9) Ki ⟨gm Ki 5,gv,gv,RG.gX 1 105 2 106 h6,gm Ki 6,gv,gv,RG.gX 5 109 6 110 h0,
    RG.gC (λU W _ k=>Qb (R.out.fa W al ah (na _ W (Mg.get (Ki.out.grow k) 1)).1.tt (na _ W (Mg.get (Ki.out.grow k) 1)).2.tt) λg p=>hq g (Mg.nk (Ki.out.grow k) g p)),yw⟩ (λV u7 hR k Kj=>?_)
   have n:RwQ 4 (λj=>wn (A (i+1) j)) Qn u7 (V 8) m:=hR 8 dC;generalize V 8=n1 at n⊢;rw[<-C.out]at n;have Kj:=mk1 (Mg.ad Kj.out (pqW 4 (λj=>wn (A (i+1) j)) n1 m) n);clear hR k n Ki;refine PW.en [n1] ?_;refine Yt ?_;refine Mq.as (hs:=[.v (nv xi),.v A2,.v (iZ m),.v bl,.v (nv x),.v A2,.v (iZ m),.v bh,.p (pRw 4 (λj=>wn (B (i+1) j)) Qn m)]) (n:=9) Kj ⟨gm Kj 6,gv,gv,RG.gX 1 114 2 115 h7,gm Kj 5,gv,gv,RG.gX 5 118 6 119 h5,
    RG.gC (λU W _ k=>Qb (R.out.fb W bl bh (nb _ W (Mg.get (Kj.out.grow k) 2)).1.tt (nb _ W (Mg.get (Kj.out.grow k) 2)).2.tt) λg p=>hq g (Mg.nk (Kj.out.grow k) g p)),yw⟩ (λV u8 hR k X=>?_)
   have n:RwQ 4 (λj=>wn (B (i+1) j)) Qn u8 (V 8) m:=hR 8 dC;generalize V 8=n2 at n⊢;rw[<-C.out]at n;have X:=mk1 (Mg.ad X.out (pqW 4 (λj=>wn (B (i+1) j)) n2 m) n);clear hR k n Kj;refine PW.en [n2] ?_;refine Yt ?_;refine Mq.as (hs:=[.v (nv xi),.v A3,.v (iZ m),.v gl,.v (nv x),.v A3,.v (iZ m),.v gh,.p (pRw 12 (λj=>tw (G' j)) Qn m)]) (n:=9) X ⟨gm X 6,gv,gv,RG.gX 1 123 2 124 hk,gm X 5,gv,gv,RG.gX 5 127 6 128 hw,
    RG.gC (λU W _ k=>Qb (R.out.fg W gl gh (ng _ W (Mg.get (X.out.grow k) 3)).1.tt (ng _ W (Mg.get (X.out.grow k) 3)).2.tt) λg p=>hq g (Mg.nk (X.out.grow k) g p)),yw⟩ (λV u9 hR k Kl=>?_)
   have n:RwQ 12 (λj=>tw (G' j)) Qn u9 (V 8) m:=hR 8 dC;generalize V 8=n3 at n⊢;rw[<-C.out]at n;have Kl:=mk1 (Mg.ad Kl.out (pqW 12 (λj=>tw (G' j)) n3 m) n);clear hR k n X;refine PW.en [n3] ?_;refine Mq.as (hs:=[.v (nv x),.v A4,.v (iZ m),.v hl,.v (nv xi),.v A4,.v (iZ m),.v hh,.p (pRw 12 (λj=>tw (H' j)) Qn m)]) (n:=9) Kl ⟨gm Kl 5,gv,gv,RG.gX 1 132 2 133 hm,gm Kl 6,gv,gv,RG.gX 5 136 6 137 hj,
    RG.gC (λU W _ k=>Qb (R.out.fh W hl hh (nh _ W (Mg.get (Kl.out.grow k) 4)).1.tt (nh _ W (Mg.get (Kl.out.grow k) 4)).2.tt) λg p=>hq g (Mg.nk (Kl.out.grow k) g p)),yw⟩ (λV ua hR k Km=>?_)
   have n:RwQ 12 (λj=>tw (H' j)) Qn ua (V 8) m:=hR 8 dC;generalize V 8=p at n⊢;rw[<-C.out]at n;have Km:=mk1 (Mg.ad Km.out (pqW 12 (λj=>tw (H' j)) p m) n);clear hR k n Kl;refine PW.en [p] ?_;have f:=mk1 (Mp.drop 5 Km.out);have KE:E (∃(v r:Yq) (xs ys:List Yq) (G H:Nat->T3 P),I (i+1) G H/\(xs.length=i+1/\ys.length=i+1)/\ApG [⟨v,xs⟩,⟨r,ys⟩]/\Mp c ua [(y,[.string ⟨S (i+1)⟩]),(k1,tw tu),(k2,[sN,sN,sN,sN]),(k3,[v,r,sN,sN]),(kq,rl1)] (gL c.heap.size [⟨v,xs⟩,⟨r,ys⟩] [pgW w y,pqW 4 (λj=>wn (A (i+1) j)) n1 (2^(t-(i+1))),pqW 4 (λj=>wn (B (i+1) j)) n2 (2^(t-(i+1))),pqW 12 (λj=>tw (G j)) n3 (2^(t-(i+1))),pqW 12 (λj=>tw (H j)) p (2^(t-(i+1))),pgE xs Lb,pgE ys Rb])):=by
    show ∃v r xs ys G H,_;rw[u.2.2.1];refine⟨hz,k5,xs++[x1],ys++[x2],G',H',u.2.2.2.1,⟨by rw[Yx,u.1.1];rfl,by rw[Yx,u.1.2];rfl⟩,Ah,Mg.has f.out λs hs=>?_⟩;simp only[Zb,YI,or_false]at hs;rcases hs with rfl|rfl|rfl|rfl|rfl|rfl|rfl
    .exact Mg.get f.out 0
    .exact Mg.get f.out 9
    .exact Mg.get f.out 10
    .exact Mg.get f.out 11
    .exact Mg.get f.out 12
    .exact yY u.1.1 (Mg.get f.out 5) (Mg.get f.out 7)
    .exact yY u.1.2 (Mg.get f.out 6) (Mg.get f.out 8)
   have k4:=u.2.2.2.2;clear Km f;go_wp2;go_roundg (gk-1)
   case measure=>omega
   case rel=>exact⟨i+1,by omega,KE⟩
  .obtain rfl:i=t:=oM;obtain⟨v,r,xs,ys,G,H,-,hN,M,o⟩:=KM.out;rw[oF,gF]at o;obtain⟨g1,o1,c1,rfl,-⟩:=(Mg.get o 1:RwQ _ _ _ wr _ _)
   obtain⟨g2,o2,c2,rfl,-⟩:=(Mg.get o 2:RwQ _ _ _ wr _ _)
   have l:=mk1 o;have u:=mk2 hN M;have cA:E (yy 40 #[nv (A i 0)] (.string ⟨bx (A i 0)⟩)):=nT HS.2.2.2.2 HS.2.1;have cB:E (yy 40 #[nv (B i 0)] (.string ⟨bx (B i 0)⟩)):=nT HS.2.2.2.2 HS.2.2.1;clear KM o hN M;refine Yt ?_;refine PW.rg [iZ 1,fZ] ?_;refine YY Z ?_;refine wp_exit ?_;refine PW.bg [oZ g1 o1] ?_;refine PW.ro (cs:=wn (A i 0)) (RwQ.at (Mg.get l.out 1) (j:=0) dC) nq uNf i33 ?_;refine PM.gi l (cA.out wr) λu0 q=>?_
   obtain⟨x1,u1,K,a,eL⟩:=As (bx (A i 0)) (bP _) u0 (Mg.nk q.out);have K2:=mk1 (Mg.ad (q.out.grow a) (pqB x1 32 (bx (A i 0))) eL);refine PW.ns K.out ?_;refine PW.go [oZ k3 2] ?_;refine PM.sc 3 2 K2 eL.one λu2 K3=>?_
   refine PW.dn ?_;clear l q K2 K a;refine PW.bg [oZ g2 o2] ?_;refine PW.ro (cs:=wn (B i 0)) (RwQ.at (Mg.get K3.out 2) (j:=0) dC) nq uNf i33 ?_;refine PM.gi K3 (cB.out u2) λu3 K4=>?_
   obtain⟨x2,u4,Q,L,eR⟩:=As (bx (B i 0)) (bP _) u3 (Mg.nk K4.out);have f:=mk1 (Mg.ad (K4.out.grow L) (pqB x2 32 (bx (B i 0))) eR);refine PW.ns Q.out ?_;refine PW.go [oZ k3 3] ?_;refine PM.sc 3 3 f eR.one λu5 T=>?_
   refine PW.dn ?_;have o1:=CC (Mg.li T.out 0);have o2:=CC (Mg.li T.out 1);clear K3 K4 f Q L;refine PW.bg [] ?_;refine PM.ro 3 T aq ?_;refine PM.st 2 [v,r,x1,x2] T aq (λu6 z=>?_) (h1:=by simp[o1,o2,eL.one.2,eR.one.2]);refine PW.dn ?_;refine Zr ?_;have p:=z.out.at_ 2;refine YB (aC 12 (T:=26) Z p Z SI Ul) Z ?_;have K8:=z.out;rw[<-hc.out]at K8;have n:=Wa K8;exact⟨_,Z,n.1,_,_,_,_,Z,RD u.1.1 (Mg.li z.out 0) (n.2 _ Zm) (Mg.get z.out 5),RD u.1.2 (Mg.li z.out 1) (n.2 _ (List.mem_cons_of_mem _ Zm)) (Mg.get z.out 6),(Mg.get z.out 7:ElQ _ _ _ _ _).mono2 λ_ _ _=>trivial,(Mg.get z.out 8:ElQ _ _ _ _ _).mono2 λ_ _ _=>trivial⟩
def rJ{b k:R}{L:Bs}(c:b.size<=16384)(g:k.size<=16384)(hl:L.size=32)(d:RLog w y L):cZ 37 #[jZ y,.string b,.string k] w (Ret λe w'=>SP.Only y 0 1 w w'/\RLog w' y (iF L b.data.toList k.data.toList)/\e=.tuple #[]):=
 (F7 y L b k w c g hl d).mono (by
  rintro e w' ⟨rfl,h1,f⟩;exact⟨_,Z,h1,f,Z⟩)
def Tn{u:OnP P}{q:Md.Ps Bs (B N) (OnP P)}(C:Fl3 P)(O:Ord N)(k:∀r:EC.Pt P,On r->mul N r=none)(y:I)(w:T3 P)(Q:FracT w u.1){m:I}(b:0<m)(hm:m+m<=64){G H:I->T3 P}(v:∀j,j<m+m->FracT (G j) (q.g j).1)(n:∀j,j<m+m->FracT (H j) (q.h j).1)(hs:q.s.size=32):
 ∃d f s1 s2 x i,Rnr y m G H d f w (λj=>(q.a j).val) (λj=>(q.b j).val) (λj=>(((aI C.toFld k).jS (chF N) ivF u m q).a j).val) (λj=>(((aI C.toFld k).jS (chF N) ivF u m q).b j).val) q.s s1 s2 ((aI C.toFld k).jS (chF N) ivF u m q).s (wP ((aI C.toFld k).pL u m q)) (wP ((aI C.toFld k).pT u m q)) x i/\(∀j,j<m->FracT (d j) (((aI C.toFld k).jS (chF N) ivF u m q).g j).1)/\(∀j,j<m->FracT (f j) (((aI C.toFld k).jS (chF N) ivF u m q).h j).1)/\((aI C.toFld k).jS (chF N) ivF u m q).s.size=32:=by
 let⟨X,z⟩:∃X,X=wP ((aI C.toFld k).pL u m q):=⟨_,Z⟩
 let⟨Y,a⟩:∃Y,Y=wP ((aI C.toFld k).pT u m q):=⟨_,Z⟩
 have V:X.size=33:=by rw[z];exact aY _
 have sY:Y.size=33:=by rw[a];exact aY _
 let⟨s1,h1⟩:∃s,s=iF q.s [108,101,102,116] X.toList:=⟨_,Z⟩
 let⟨s2,M⟩:∃s,s=iF s1 [114,105,103,104,116] Y.toList:=⟨_,Z⟩
 have l:s1.size=32:=by rw[h1];exact bV
 have i:s2.size=32:=by rw[M];exact bV
 let⟨s3,L⟩:∃s,s=aN s2:=⟨_,Z⟩
 have z3:s3.size=32:=by rw[L];exact aW
 let⟨c,T⟩:∃c:B N,c=rW N s2:=⟨_,Z⟩
 have o:(aI C.toFld k).jS (chF N) ivF u m q=⟨s3,Md.fS c (ivF c) m q.a,Md.fS (ivF c) c m q.b,(aI C.toFld k).fP (ivF c) c m q.g,(aI C.toFld k).fP c (ivF c) m q.h⟩:=by
  have e:chF N q.s ((aI C.toFld k).pL u m q) ((aI C.toFld k).pT u m q)=(s3,c):=by
   rw[L,T,M,h1,z,a];unfold chF;dsimp only;rfl
  rw[Md.jS,e]
 have K:1<N:=by have:=O.n2;have:=I.mod_le N 18446744073709551616;omega
 have A:jG (cha N s2)=c.val:=by rw[T];exact Da K (pO O)
 have hx:=λc:B N=>Yr c.isLt O.le
 have p:∀(l i:B N) (t:I->T3 P) (g:I->OnP P),(∀j,j<m+m->FracT (t j) (g j).1)->∀j,j<m->FracT (mxT l.val i.val t (λj=>t (m+j)) j) ((aI C.toFld k).fP l i m g j).1:=λl i t g hf j d=>(Af C k (rB C k O.le l (hf j S)).2 (rB C k O.le i (hf (m+j) S)).2).2
 rw[o,<-z,<-a];refine⟨_,_,s1,s2,c.val,(ivF c).val,⟨b,by omega,V,sY,by rw[z];exact(Rh C O k (by omega) w (λj d=>v (m+j) S) (λj d=>n j S) Q),by rw[a];exact(Rh C O k (by omega) w (λj d=>v j S) (λj d=>n (m+j) S) Q),λW h=>?_,λW h=>?_,λW h=>?_,MF O c.isLt,λW va f=>CM O c (ivF c) m b (by omega) q.a (λj=>q.a (m+j)) va f W,λW va f=>CM O (ivF c) c m b (by omega) q.b (λj=>q.b (m+j)) va f W,λW va f=>MZ C _ _ (hx _) (hx _) m b (by omega) G (λj=>G (m+j)) _ _ (λj d=>v j S) (λj d=>v (m+j) S) va f W,λW va f=>MZ C _ _ (hx _) (hx _) m b (by omega) H (λj=>H (m+j)) _ _ (λj d=>n j S) (λj d=>n (m+j) S) va f W⟩,p (ivF c) c G _ v,p c (ivF c) H _ n,z3⟩
 .rw[h1];exact rJ dC (by show X.size<=_;omega) hs h
 .rw[M];exact rJ dC (by show Y.size<=_;omega) l h
 have:=xJ O y s2 W i h;rw[A,<-L]at this;exact this
def Qq{T:Nat}{u:OnP P}{d:T3 P}{p th:Nat->T3 P}{v1 v2 l g:Yq}(C:Fl3 P)(O:Ord N)(k:∀r:EC.Pt P,On r->mul N r=none)(hT:T<=6)(b:Md.Ps Bs (Fin N) (OnP P))(s:FracT d u.1)(t:∀j,j<2^T->FracT (p j) (b.g j).1)(hh:∀j,j<2^T->FracT (th j) (b.h j).1)(hs:b.s.size=32)(hl:RLog w y b.s)(h1:NtQ (·≠y) w v1 (2^T) λj=>(b.a j).val)(K:NtQ (·≠y) w v2 (2^T) λj=>(b.b j).val)(A:PtQ (·≠y) w l (2^T) p)(z:PtQ (·≠y) w g (2^T) th)(B:zk->Nat->Bs)(o:∀j,B D j=wP ((aI C.toFld k).pLi (chF N) ivF u T b j)/\B J j=wP ((aI C.toFld k).pTi (chF N) ivF u T b j)):
 cZ 41 #[jZ y,v1,v2,l,g,tv d] w (Ret λe w'=>OnB y w w'/\∃c n f m,e=.agg #[c,n,f,m]/\TlL (λ_=>True) w.heap.size T w' c (B D)/\TlL (λ_=>True) w.heap.size T w' n (B J)/\ElQ (λ_=>True) 32 w' f (bx (((aI C.toFld k).pst (chF N) ivF u T b T).a 0).val)/\ElQ (λ_=>True) 32 w' m (bx (((aI C.toFld k).pst (chF N) ivF u T b T).b 0).val)):=by
 refine Qp (I:=λi G H=>(∀j,j<2^(T-i)->FracT (G j) (((aI C.toFld k).pst (chF N) ivF u T b i).g j).1)/\(∀j,j<2^(T-i)->FracT (H j) (((aI C.toFld k).pst (chF N) ivF u T b i).h j).1)/\((aI C.toFld k).pst (chF N) ivF u T b i).s.size=32) O T hT d (λi j=>(((aI C.toFld k).pst (chF N) ivF u T b i).a j).val) (λi j=>(((aI C.toFld k).pst (chF N) ivF u T b i).b j).val) (λi=>((aI C.toFld k).pst (chF N) ivF u T b i).s) (B D) (B J) y (λi G H L f=>?_) (Fin.isLt _) (Fin.isLt _) v1 v2 l g w hl ⟨t,hh,hs⟩ h1 K A z;have m:T-i=T-(i+1)+1:=by omega
 have c:2^(T-i)=2^(T-(i+1))+2^(T-(i+1)):=by rw[m,Z5,Nat.mul_two]
 have v:2^(T-(i+1))+2^(T-(i+1))<=64:=by
  rw[<-c];exact YA (Nat.pow_le_pow_right dC (YA (Nat.sub_le _ _) hT)) dC
 rw[c]at f;let⟨n,a,s1,s2,x,q,R,h⟩:=Tn C O k y d s (Nat.pow_pos dC) v f.1 f.2.1 f.2.2
 refine⟨_,n,a,s1,s2,x,q,c,Z,?_,h⟩;rw[(o i).1,(o i).2];exact R
end
section
open SPA
def U2{t:I}(b:W.ownsRow base 54 4 v k xs)(hR:yz W g (wn t))(a:k<=1000)(p:base<=W.heap.size):
 ∃d W',(Zn #[61,61] 61 #[v,sZ g 1 1]).run prog W=.ok d W'/\W'.ownsRow base 54 4 d (k+1) (xs++wn t)/\Ap1 W W' v d:=by
 let⟨d,W',n,r2,e⟩:=Sj b hR S p
 let⟨i,x,m⟩:=Yu.1 Wl
 simp only[ZV.injEq]at m;let⟨h1,C,r⟩:=m
 let⟨z,w,y⟩:=Yu.1 r
 have s:∀(j:I) u,(wn t)[j]? = F u->W.cell? ((⟨g,0,G⟩:ai).add j)=F u:=λj u q=>by
  rw[oW,Yv];have:=hR.2.1 j u q;rwa[Yv]at this
 refine⟨d,W',n,r2,e.os,e.tape,e.output,e.size,λg f hv=>e.block g f (λh=>hv h.symm),?_⟩;rcases(rQ (c:=1) SE x w h1 S b (Src.ofSlice (P:=prog) (size:=4) W SE (aZ g) 1 1 (wn t) Z s (λu o=>oT.1 aM u (by simpa using o))) S n)with h|⟨h,l⟩
 .exact Y3 h
 exact YZ ⟨⟨_,h,Ys _⟩,λg f=>l.block g f⟩
variable {P:Nat}[NeZero P]{N:Nat}[NeZero N]
omit [NeZero P] [NeZero N] in
theorem RwQ.congr{f g:I->H Yq}(h:RwQ s f Q W v n)(hf:∀j,j<n->f j=g j):RwQ s g Q W v n:=by
 let⟨a,b,c,h1,l,i,e,d⟩:=h
 exact⟨a,b,c,h1,l,i,e,λj k=>by rw[<-hf j k];exact d j k⟩
end
def tV(i j:I):yv:=YK ((i*37+j)%253) ^^^ 90
def BU(i j:I):bits .xor .u8 (((i:Y)*37+(j:Y))%253) 90=SP.ub (tV i j):=by
 have H:∀j:B 253,bits .xor .u8 (j.val:Y) 90=SP.ub (YK j.val ^^^ 90):=by decide +kernel
 have:=H ⟨(i*37+j)%253,ZL _ (by decide)⟩;have e:(((i*37+j)%253:I):Y)=((i:Y)*37+(j:Y))%253:=by omega
 simp only[e]at this;exact this
def Dv(x:yv):xb.wrap (SP.ub x+1)=SP.ub (x+1):=by
 have H:∀j:B 256,xb.wrap ((j.val:Y)+1)=(((YK j.val+1).toNat:I):Y):=by decide +kernel
 have:=H ⟨x.toNat,x.toNat_lt⟩;unfold SP.ub;simp only[yv.ofNat_toNat]at this;exact this
def flQ(b:SP.Bs)(i:I):I->SP.Bs
 | 0=>b
 | j+1=>flQ b i j++#[tV i j]
def eU(b:SP.Bs)(i:I):∀j,(flQ b i j).size=b.size+j
 | 0=>rfl
 | j+1=>by rw[flQ,Zi,eU b i j];rfl
def Cb{a x:SP.Bs}(h:k<a.size):(a++x)[k]! = a[k]!:=by
 rw[getElem!_pos (a++x) k (by rw[Zi];omega),getElem!_pos a k h,yt.getElem_append_left h]
def I3{b:SP.Bs}{i k:I}(c:k<b.size):∀j,(flQ b i j)[k]! = b[k]!
 | 0=>rfl
 | j+1=>by rw[flQ,Cb (by rw[eU];omega),I3 c j]
def EI{b:SP.Bs}{i k:I}:∀j,k<j->(flQ b i j)[b.size+k]! = tV i k
 | 0,h=>absurd h (by omega)
 | j+1,h=>by
  rw[flQ];by_cases e:k=j
  .subst e;rw[getElem!_pos (flQ b i k++#[tV i k]) (b.size+k) (by rw[Zi,eU];show _<_+1;omega),yt.getElem_append_right (by rw[eU];omega)];simp[eU]
  rw[Cb (by rw[eU];omega),EI j (by omega)]
def Qy(b:SP.Bs)(i j:I):∃x,flQ b i j=b++x:=by
 induction j with
 | zero=>exact⟨#[],by rw[yt.append_empty];rfl⟩
 | succ j ih =>
  let⟨x,hx⟩:=ih
  exact⟨x++#[tV i j],by rw[flQ,hx,yt.append_assoc]⟩
def tN(b:SP.Bs):I->SP.Bs
 | 0=>b
 | k+1=>(tN b k).setIfInBounds k (b[k]!+1)
def iJ{b:SP.Bs}:∀k,(tN b k).size=b.size
 | 0=>rfl
 | k+1=>by rw[tN,Zg,iJ (b:=b) k]
def CO{b:SP.Bs}:∀k j,k<=b.size->j<b.size->(tN b k)[j]! = if j<k then b[j]!+1 else b[j]!
 | 0,j,_,_=>by simp[tN]
 | k+1,j,hk,hj=>by
  have c:j<((tN b k).setIfInBounds k (b[k]!+1)).size:=by rw[Zg,iJ];exact hj
  rw[tN,getElem!_pos _ j c,yt.getElem_setIfInBounds (by rw[iJ];exact hj)];by_cases e:k=j
  .subst e;rw[zd Z,zd (by omega)]
  rw[zi e,<-getElem!_pos (tN b k) j (by rw[iJ];exact hj),CO k j (by omega) hj];by_cases h:j<k
  .rw[zd h,zd (by omega)]
  rw[zi h,zi (by omega)]
def T2Q(T:I->SP.Bs)(i k:I):I->SP.Bs:=λj=>if j<i then tN (T j) (T j).size else if j=i then tN (T j) k else T j
def Ox(T:I->SP.Bs):T2Q T 0 0=T:=by
 funext j;rw[T2Q,zi (by omega)];by_cases h:j=0
 .rw[zd h];rfl
 rw[zi h]
def Oy(T:I->SP.Bs)(i:I):T2Q T i (T i).size=T2Q T (i+1) 0:=by
 funext j;unfold T2Q;by_cases h:j<i
 .rw[zd h,zd (by omega)]
 rw[zi h];by_cases k:j=i
 .rw[zd k,zd (by omega),k]
 rw[zi k,zi (by omega)];by_cases b:j=i+1
 .rw[zd b];rfl
 rw[zi b]
def Dk(T:I->SP.Bs)(i k:I):T2Q T i k i=tN (T i) k:=by unfold T2Q;rw[zi (by omega),zd Z]
def Oz{T:I->SP.Bs}{i:I}(h:j≠i):T2Q T i (k+1) j=T2Q T i k j:=by
 unfold T2Q;rw[zi h,zi h]
def eI(T:I->SP.Bs)(i k j:I):(T2Q T i k j).size=(T j).size:=by
 unfold T2Q;split
 .exact iJ _
 split
 .exact iJ _
 rfl
def QW{T:I->SP.Bs}(h:j<n):T2Q T n 0 j=tN (T j) (T j).size:=by unfold T2Q;rw[zd h]
structure ARow(w:Yp)(B kl n:I)(V:I->Yq):Prop where
 cell:∀j,j<n->w.cell? ⟨kl,j,G⟩=F (V j)
 kb:0<n->kl<w.heap.size
 ne:∀j,j<n->(V j).ownBlock≠F kl
 inj:∀j j',j<n->j'<n->j≠j'->∀g,(V j).ownBlock=F g->(V j').ownBlock≠F g
 lt:∀j,j<n->∀g,(V j).ownBlock=F g->B<=g/\g<w.heap.size
structure AS(w W:Yp)(B kl n:I)(V:I->Yq)(T:I->SP.Bs)(sv:Yq)(m:I)(S:I->SP.Bs):Prop where
 bl:Below B w W
 sz:w.heap.size<=W.heap.size
 kl0:0<n->W.heap[kl]? = w.heap[kl]?
 own:∀j,j<n->OwQ W w.heap.size B (V j) (T j)
 sl:W.ownsRow w.heap.size 9 1 sv m ((ZD m).map λj=>.string ⟨S j⟩)
def AS.cell{B m:I}{T S:I->SP.Bs}{d:Yq}(h:AS w W B k n V T d m S)(c:ARow w B k n V)(b:j<n):W.cell? ⟨k,j,G⟩=F (V j):=by
 have:W.cell? ⟨k,j,G⟩=w.cell? ⟨k,j,G⟩:=by unfold pn;rw[h.kl0 (by omega)]
 rw[this];exact c.cell j b
def AS.drew{B b m:I}{T S:I->SP.Bs}{k:Yq}(h:AS w W B b n V T k m S):AS w W.drew B b n V T k m S:=⟨⟨h.bl.os,h.bl.tape,h.bl.output,h.bl.size,h.bl.block⟩,h.sz,h.kl0,h.own,h.sl⟩
def Uk:(prog.info? 9).map (λi=>(i.size,i.bytes,i.zero.map λz=>z.cells.size))=F (1,16,F 1):=by kernel_rfl
def Ve:prog.underlying 87=F (.slice 9):=by kernel_rfl
def AS.push{B m:I}{T S:I->SP.Bs}{i:Yq}(h:AS w W B c n V T i m S)(p:ARow w B c n V)(t:B<=w.heap.size)(s:m<=1000000){x:ByteArray}(hx:x=⟨S m⟩):
 ∃d W',(Zn #[87,87] 87 #[i,sZ W.heap.size 1 1]).run prog (W.alloc (.cells #[.string x] 9))=.ok d W'/\AS w W' B c n V T d (m+1) S:=by
 have hs:=h.sz;let⟨d,W',r,r2,k⟩:=zC Ve Uk (by omega) h.sl (x:=.string x) Z (by omega) hs
 have l:∀g,g<w.heap.size->i.ownBlock≠F g:=λg b e=>by
  have:=(cY h.sl e).1;omega
 have f:∀g,g<w.heap.size->W'.heap[g]? = W.heap[g]?:=λg b=>k.keep g (by omega) (l g b)
 refine⟨d,W',r,⟨by rw[k.os,h.bl.os],by rw[k.tape,h.bl.tape],by rw[k.output,h.bl.output],YA h.bl.size k.size,λg b=>?_⟩,oN k.size,λo=>?_,λj q=>?_,?_⟩
 .rw[f g (by omega),h.bl.block g b]
 .rw[f c (p.kb o),h.kl0 o]
 .exact(h.own j q).keep k.size (λg b=>f g (p.lt j q g b).2)
 rw[xm,pe];rw[hx]at r2;exact r2
def AS.set{B l m i:I}{T S:I->SP.Bs}{x:yv}(h:AS w W B l n V (T2Q T i k) v m S)(f:ARow w B l n V)(p:i<n)(hv:V i=sZ g (T i).size c)(s:k<(T i).size)(hx:x=(T i)[k]!+1):AS w (W.setCell ⟨g,k,G⟩ (SP.encB x)) B l n V (T2Q T i (k+1)) v m S:=by
 have ho:=h.own i p;have q:(V i).ownBlock=F g:=by rw[hv];rfl
 let⟨a,C⟩:=f.lt i p g q
 have z:=eI T i k i;have s1:W.heap.size<=(W.setCell ⟨g,k,G⟩ (SP.encB x)).heap.size:=by rw[World.size_setCell];exact Ys _
 have o:∀y,y<W.heap.size->y≠g->(W.setCell ⟨g,k,G⟩ (SP.encB x)).heap[y]? = W.heap[y]?:=λy _ t=>heap_setCell_other W ⟨g,k,G⟩ y _ t
 have hs:=h.sz;refine⟨⟨h.bl.os,h.bl.tape,h.bl.output,YA h.bl.size s1,λy d=>?_⟩,YA hs s1,λu=>?_,λj r=>?_,?_⟩
 .rw[o y (by omega) (by omega),h.bl.block y d]
 .have:=f.kb u;rw[o l (by omega) (λe=>f.ne i p (by rw[q,e])),h.kl0 u]
 .by_cases e:j=i
  .subst e;rw[hv,Dk]at ho;have b:(tN (T j) k).size=(T j).size:=iJ _;rw[hv,Dk,tN,<-hx];rw[<-b]at ho⊢;exact ho.set (by rw[b];exact s)
  rw[Oz e];refine(h.own j r).keep s1 (λy d=>o y (oN ((f.lt j r y d).2)) (λb=>?_));rw[b]at d;exact f.inj j i r p e g d q
 refine cG h.sl (λy d=>?_);have:=cY h.sl d;exact o y this.2.1 (by omega)
section
structure AG(w W:Yp)(B kl n:I)(V:I->Yq)(T:I->SP.Bs)(sv:Yq)(S:I->SP.Bs)(gv:Yq)(i o:I)(U:I->Yq):Prop where
 bl:Below B w W
 sz:w.heap.size<=W.heap.size
 kl0:0<n->W.heap[kl]? = w.heap[kl]?
 own:∀j,o<=j->j<n->OwQ W w.heap.size B (V j) (T j)
 rv:∀j,j<n->RV W w.heap.size (V j) (T j)
 sl:W.ownsRow w.heap.size 9 1 sv n ((ZD n).map λj=>.string ⟨S j⟩)
 gl:W.ownsRow w.heap.size 23 1 gv i ((ZD i).map U)
 uv:∀j,j<i->RV W w.heap.size (U j) (flQ (T j) j 80)
 ud:∀j,j<i->(U j).ownBlock=(V j).ownBlock\/∃g,(U j).ownBlock=F g/\w.heap.size<=g
variable {w W:Yp}{B kl n i o:Nat}{V U:Nat->Yq}{T S:Nat->SP.Bs}{sv gv u:Yq}
def AG.cell(h:AG w W B kl n V T sv S gv i o U)(b:ARow w B kl n V)(k:j<n):W.cell? ⟨kl,j,G⟩=F (V j):=by
 have:W.cell? ⟨kl,j,G⟩=w.cell? ⟨kl,j,G⟩:=by unfold pn;rw[h.kl0 (by omega)]
 rw[this];exact b.cell j k
def AG.drewN(h:AG w W B kl n V T sv S gv i o U)(q:I):AG w (W.drewN q) B kl n V T sv S gv i o U:=⟨⟨h.bl.os,h.bl.tape,h.bl.output,h.bl.size,h.bl.block⟩,h.sz,h.kl0,h.own,h.rv,h.sl,h.gl,h.uv,h.ud⟩
def AG.begin(h:AS w W B kl n V T sv n S):AG w W B kl n V T sv S nZ 0 0 U:=
 ⟨h.bl,h.sz,h.kl0,λj _ k=>h.own j k,λj k=>RV.of (h.own j k),h.sl,⟨Z,Y3 ⟨Z,Z⟩⟩,λj k=>absurd k (p9 _),λj k=>absurd k (p9 _)⟩
structure AJ(w W:Yp)(B kl n:I)(V:I->Yq)(T:I->SP.Bs)(sv:Yq)(S:I->SP.Bs)(gv:Yq)(i:I)(U:I->Yq)(u:Yq)(j:I):Prop where
 ag:AG w W B kl n V T sv S gv i (i+1) U
 cu:OwQ W w.heap.size B u (flQ (T i) i j)
 cd:u.ownBlock=(V i).ownBlock\/∃g,u.ownBlock=F g/\w.heap.size<=g
 un:∀k,k<i->∀g,(U k).ownBlock=F g->u.ownBlock≠F g
def AJ.begin(h:AG w W B kl n V T sv S gv i i U)(f:ARow w B kl n V)(c:i<n):AJ w W B kl n V T sv S gv i U (V i) 0:=by
 refine⟨⟨h.bl,h.sz,h.kl0,λj h1 d=>h.own j (by omega) d,h.rv,h.sl,h.gl,h.uv,h.ud⟩,h.own i (Ys _) c,Y3 Z,λk l g b e=>?_⟩;have hl:=f.lt i c g e;rcases h.ud k l with h1|⟨m,h1,d⟩
 .rw[h1]at b;exact f.inj k i (by omega) c (by omega) g b e
 rw[h1]at b;have:=YR.inj b;omega
def AJ.push(h:AJ w W B kl n V T sv S gv i U u j)(s:ARow w B kl n V)(L:i<n)(N:i<n)(O:(T i).size+j<=1000000)(Q:B<=w.heap.size){x:Yq}(hx:x=SP.encB (tV i j)):
 ∃q W',(Zn #[23,23] 23 #[u,sZ W.heap.size 1 1]).run prog (W.alloc (.cells #[x] 5))=.ok q W'/\AJ w W' B kl n V T sv S gv i U q (j+1):=by
 have a:=h.ag;have hs:=a.sz;subst hx;let⟨q,W',P,r2,f⟩:=h.cu.app (x:=tV i j) (by rw[eU];omega) (by omega)
 have p:OwQ W' w.heap.size B q (flQ (T i) i (j+1)):=r2;have t:∀g,u.ownBlock=F g->B<=g/\TyQ W w.heap.size g:=λg b=>h.cu.lt b
 have A:∀k,k<n->k≠i->∀g,(V k).ownBlock=F g->u.ownBlock≠F g:=λk d y g b e=>by
  rcases h.cd with h1|⟨C,h1,l⟩
  .rw[h1]at e;exact s.inj k i d L y g b e
  rw[h1]at e;have e':=YR.inj e;have:=(s.lt k d g b).2;omega
 have m:=f.size;refine⟨q,W',P,⟨⟨⟨by rw[f.os,a.bl.os],by rw[f.tape,a.bl.tape],by rw[f.output,a.bl.output],YA a.bl.size f.size,λg b=>?_⟩,by omega,λz=>?_,λk h1 l=>?_,λk d=>?_,?_,?_,λk d=>?_,a.ud⟩,p,?_,λk d g b=>?_⟩⟩
 .rw[f.keep g (by omega) (λe=>oN ((t g e).1)),a.bl.block g b]
 .have d:=s.kb z;rw[f.keep kl (by omega) (λe=>by
   rcases h.cd with h1|⟨C,h1,l⟩
   .exact s.ne i L (by rw[<-h1];exact e)
   rw[h1]at e;have:=YR.inj e;omega),a.kl0 z]
 .exact(a.own k h1 l).keep m (λg b=>f.keep g ((a.own k h1 l).lt b).2.1 (A k l (by omega) g b))
 .by_cases e:k=i
  .subst e;rcases f.mv with h1|⟨-,h1⟩
   .by_cases K:u.ownBlock=(V k).ownBlock
    .rcases id (a.rv k d)with l|⟨g,c,l,-⟩
     .exact Y3 l
     let⟨X,v⟩:=Qy (T k) k (j+1)
     have o:q.ownBlock=F g:=by rw[h1,K,l];rfl
     have hR:=RV.of p;rw[v]at hR;rcases id hR with⟨-,e⟩|⟨r,c2,e,t2,M⟩
     .rw[e]at o;cases o
     rw[e]at o;obtain rfl:r=g:=YR.inj o;exact YZ ⟨r,c,l,t2,CP M⟩
    exact(a.rv k d).keep m (λg b=>f.keep g ((a.rv k d).typ b).1 (λe=>K (by rw[e,b])))
   exact(a.rv k d).keep m (λg b=>h1 g ((a.rv k d).typ b).1)
  exact(a.rv k d).keep m (λg b=>f.keep g ((a.rv k d).typ b).1 (A k d e g b))
 .refine cG a.sl (λg b=>?_);let⟨v,r,cur,o⟩:=cY a.sl b
  exact f.keep g r (λe=>(t g e).2.ne v o (by decide) Z)
 .refine cG a.gl (λg b=>?_);let⟨v,r,cur,o⟩:=cY a.gl b
  exact f.keep g r (λe=>(t g e).2.ne v o (by decide) Z)
 .exact(a.uv k d).keep m (λg b=>f.keep g ((a.uv k d).typ b).1 (h.un k d g b))
 .rcases f.mv with h1|⟨⟨g,h1,l⟩,-⟩
  .rw[h1];exact h.cd
  exact YZ ⟨g,h1,by omega⟩
 rcases f.mv with h1|⟨⟨C,h1,l⟩,-⟩
 .rw[h1];exact h.un k d g b
 rw[h1];intro e;have e':=YR.inj e;have:=((a.uv k d).typ b).1;omega
def AJ.done(h:AJ w W B kl n V T sv S gv i U u 80)(z:ARow w B kl n V)(N:i<n)(r:i<=1000000)(M:B<=w.heap.size):
 ∃o W',(Zn #[24,24] 24 #[gv,sZ W.heap.size 1 1]).run prog (W.alloc (.cells #[u] 23))=.ok o W'/\AG w W' B kl n V T sv S o (i+1) (i+1) (λk=>if k=i then u else U k):=by
 have a:=h.ag;have hs:=a.sz;have y:=RV.of h.cu;let⟨o,W',L,r2,f⟩:=zC yA GM (by omega) a.gl (x:=u) (by
  obtain⟨q,c,rfl⟩:=y.slice;rfl) (by omega) hs
 have s:∀g,gv.ownBlock=F g->w.heap.size<=g/\g<W.heap.size/\∃cur,W.heap[g]? = F (.cells cur 23 (0,0)):=λg d=>cY a.gl d
 have m:=f.size;have old:∀g,g<w.heap.size->W'.heap[g]? = W.heap[g]?:=λg d=>f.keep g (by omega) (λe=>oN ((s g e).1))
 have t:∀ {v:Yq}{b:SP.Bs},RV W w.heap.size v b->RV W' w.heap.size v b:=λhv=>hv.keep m (λg d=>by
  have j:=hv.typ d;exact f.keep g j.1 (λe=>by
   obtain⟨p,-,l,e3⟩:=s g e;exact j.ne p e3 (by decide) Z))
 refine⟨o,W',L,⟨⟨by rw[f.os,a.bl.os],by rw[f.tape,a.bl.tape],by rw[f.output,a.bl.output],YA a.bl.size f.size,λg d=>?_⟩,by omega,λr=>?_,λk h1 A=>?_,λk j=>t (a.rv k j),?_,?_,λk j=>?_,λk j=>?_⟩⟩
 .rw[old g (by omega),a.bl.block g d]
 .rw[old kl (z.kb r),a.kl0 r]
 .exact(a.own k h1 A).keep m (λg d=>old g (z.lt k A g d).2)
 .refine cG a.sl (λg d=>?_);obtain⟨-,K,cur,C⟩:=cY a.sl d;exact f.keep g K (λe=>by
   obtain⟨-,-,l,e3⟩:=s g e;rw[C]at e3;injection e3 with e3
   injection e3 with _ e3 _
   cases e3)
 .rw[xm,pe];have p:(ZD i).map (λk=>if k=i then u else U k)=(ZD i).map U:=by
   refine H.map_congr_left λk j=>?_
   have:=Z6.1 j;rw[zi (by omega)]
  rw[p];simp only[H.map_cons,H.map_nil,zd];exact r2
 .by_cases e:k=i
  .subst e;rw[zd Z];exact t y
  rw[zi e];exact t (a.uv k (by omega))
 by_cases e:k=i
 .subst e;rw[zd Z];exact h.cd
 rw[zi e];exact a.ud k (by omega)
end
structure LookQ(W:Yp)(kl gs gg p:I)(qv qu:zb ai)(m cv cu:I)(s:R)(b b3:SP.Bs)(L:I):Prop where
 cl:W.cell? ⟨kl,p,G⟩=F (.slice qv m cv)
 cs:W.cell? ⟨gs,p,G⟩=F (.string s)
 cg:W.cell? ⟨gg,p,G⟩=F (.slice qu (m+80) cu)
 hl:RV W L (.slice qv m cv) b
 hg:RV W L (.slice qu (m+80) cu) b3
def LookQ.drewN{gs p m cv L:I}{k f:zb ai}{s:ByteArray}{b e:SP.Bs}(h:LookQ W g gs c p k f m cv d s b e L)(q:I):LookQ (W.drewN q) g gs c p k f m cv d s b e L:=⟨h.cl,h.cs,h.cg,h.hl,h.hg⟩
def Ub:prog.follows .mixedOrders=J:=by kernel_rfl
def BK(h:W.ownsRow base e 1 (sZ g n c) n xs)(k:xs[j]? = F u):W.cell? ⟨g,j,G⟩=F u:=by
 have:=h.cells (g:=g) Z j u k;rw[oW,Yv]at this;exact this
def BJ(h:W.ownsRow base e 1 v n xs)(b:0<n):∃g c,v=sZ g n c:=by
 rcases h with⟨-,⟨-,k⟩|⟨g,cap,cur,rfl,-⟩⟩
 .omega
 exact⟨g,cap,Z⟩
theorem U9(u n c B:I)(q:zb ai)(V:I->Yq)(T:I->SP.Bs)(w:Yp)(hn:n<=5000)(hq:0<n->q=F ⟨u,0,G⟩)(hA:ARow w B u n V)(hO:∀j,j<n->OwQ w w.heap.size B (V j) (T j))(hT:∀j,j<n->(T j).size<=100000)(h4:B<=w.heap.size):
 Zl prog 8 #[.slice q n c] w (λe w'=>e=.returned (.bool J)/\Below B w w'):=by
 have P:=Hid.mkP hA;have HT:=Hid.mkP hT;have HQ:=Hid.mkP hq;go_enter func8,ntmps8;go_wp2;go_loopg [3,4] n (λgk s3 s4 wr=>∃(i:I) (N:Yq),i+gk=n/\N=s3/\s4=.int .i64 i/\E (AS w wr B u n V T N i T))
 case atStart=>exact⟨0,_,Yv _,Z,Z,⟨YH _ _,Ys _,λ_=>rfl,hO,⟨Z,Y3 ⟨Z,Z⟩⟩⟩⟩
 case round =>
  obtain⟨i,N,hi,rfl,rfl,HS⟩:=hrel;by_cases d:i<n
  .have K:(i:Y)<(n:Y):=by omega
   obtain rfl:=HQ (by omega);have A:=HS.cell P d;have hpt:=(RV.of (HS.own i d)).pt;obtain⟨qv,cv,hv,-⟩:=id hpt;rw[hv]at A hpt;have f:=hpt.conv;obtain⟨W,X,o,l⟩:=HS.push P h4 (by omega) (x:=⟨T i⟩) Z;have z:=Hid.mkP l;go_wp2_with (at_builtin;refine Z9 _ Z _ _ 87 87 Z _ _ Z Z _ _ o ?_)
   go_roundg (gk-1)
   case measure=>omega
   case rel=>exact⟨i+1,_,by omega,Z,Z,z⟩
  .have h0:¬(i:Y)<(n:Y):=by omega
   obtain rfl:i=n:=by omega
   have r:E (AS w wr B u i V (T2Q T 0 0) N i T):=by rw[Ox];exact HS
   go_wp2;go_loopg [5] i (λgk s5 wr=>∃k:I,k+gk=i/\s5=.int .i64 k/\E (AS w wr B u i V (T2Q T k 0) N i T))
   case atStart=>exact⟨0,Yv _,Z,r⟩
   case round =>
    obtain⟨k,hk,rfl,r⟩:=hrel;by_cases d:k<i
    .have K:(k:Y)<(i:Y):=by omega
     obtain rfl:=HQ (by omega);have hm:=HT k d;obtain⟨m,f⟩:=hE ((T k).size);rw[f.out]at hm;obtain⟨qv,cv,hv⟩:=(RV.of (r.own k d)).slice;rw[eI,f.out]at hv;have L:=Hid.mkP hv;go_wp2;go_loopg [6] m (λgj s6 wr=>∃j:I,j+gj=m/\s6=.int .i64 j/\E (AS w wr B u i V (T2Q T k j) N i T))
     case atStart=>exact⟨0,Yv _,Z,r⟩
     case round =>
      obtain⟨j,C,rfl,r⟩:=hrel;have A:=r.cell P d;rw[L.out]at A;by_cases t:j<m
      .have y:(j:Y)<(m:Y):=by omega
       obtain⟨x,hx⟩:∃x,(T k)[j]! = x:=⟨_,Z⟩
       obtain⟨g,M,e1,a,Q⟩:=(RV.of (r.own k d)).at (k:=j) (by rw[eI,f.out];exact t);rw[Dk,CO _ _ (by rw[f.out];omega) (by rw[f.out];omega),zi (by omega),hx]at a;have O:V k=.slice (F ⟨g,0,G⟩) (T k).size M:=by rw[e1,eI]
       rw[L.out,f.out]at O;injection O with e3 _ e4
       subst e3 e4;have hw:=Dv x;have v:=mk1 (r.set P d (by rw[L.out,f.out]) (f.out▸t) (by rw[hx]));unfold SP.encB at a v;go_wp2_with fail
       go_still_tail 14,Ub;go_wp2;go_roundg (gk-1)
       case measure=>omega
       case rel=>exact⟨j+1,by omega,Z,v.drew⟩
      .have y:¬(j:Y)<(m:Y):=by omega
       obtain rfl:j=m:=by omega
       have v:E (AS w wr B u i V (T2Q T (k+1) 0) N i T):=by
        rw[<-Oy,f.out];exact r
       go_wp2;go_roundg (i-(k+1))
       case measure=>omega
       case rel=>exact⟨k+1,by omega,Z,v⟩
    .have h0:¬(k:Y)<(i:Y):=by omega
     obtain rfl:k=i:=by omega
     have h8:E (AG w wr B u k V (T2Q T k 0) N T (.slice G 0 0) 0 0 (λ_=>ae)):=AG.begin r;go_wp2;go_loopg [7,8] k (λgk s7 s8 wr=>∃(i:I) (gv:Yq) (U:I->Yq),i+gk=k/\gv=s7/\s8=.int .i64 i/\E (AG w wr B u k V (T2Q T k 0) N T gv i i U))
     case atStart=>exact⟨0,_,_,Yv _,Z,Z,h8⟩
     case round =>
      obtain⟨i,gv,U,hi,rfl,rfl,Q⟩:=hrel;by_cases d:i<k
      .have K:(i:Y)<(k:Y):=by omega
       obtain rfl:=HQ (by omega);have A:=Q.cell P d;obtain⟨qv,cv,hv⟩:=(Q.rv i d).slice;have v:=mk1 (AJ.begin Q P d);have hm:(T2Q T k 0 i).size<=100000:=by rw[eI];exact HT i d
       obtain⟨m,a⟩:=hE ((T2Q T k 0 i).size);rw[hv,a.out]at A v;rw[a.out]at hm;go_wp2;go_loopg [9,10] 80 (λgk s9 s10 wr=>∃(j:I) (L:Yq),j+gk=80/\L=s9/\s10=.int .i64 j/\E (AJ w wr B u k V (T2Q T k 0) N T gv i U L j))
       case atStart=>exact⟨0,_,Yv _,Z,Z,v⟩
       case round =>
        obtain⟨j,L,C,rfl,rfl,M⟩:=hrel;by_cases t:j<80
        .have y:(j:Y)<80:=by omega
         have hf:=BU i j;obtain⟨W,X,o,l⟩:=M.push P d d (by rw[a.out];omega) h4 (x:=.int .u8 (SP.ub (tV i j))) Z;have z:=Hid.mkP l;go_wp2_with (at_builtin;refine Z9 _ Z _ _ 23 23 Z _ _ Z Z _ _ o ?_)
         go_roundg (gk-1)
         case measure=>omega
         case rel=>exact⟨j+1,_,by omega,Z,Z,z⟩
        .have y:¬(j:Y)<80:=by omega
         obtain rfl:j=80:=by omega
         obtain⟨qb,cb,z⟩:∃q c,L=.slice q (m+80) c:=by
          have h1:=RV.of M.cu;obtain⟨q,c,h2⟩:=h1.slice;rw[eU,a.out]at h2;exact⟨q,c,h2⟩
         subst z;obtain⟨W,X,o,l⟩:=M.done P d (by omega) h4;go_wp2_with (at_builtin;refine Z9 _ Z _ _ 24 24 Z _ _ Z Z _ _ o ?_)
         go_roundg (k-(i+1))
         case measure=>omega
         case rel=>exact⟨i+1,_,_,by omega,Z,Z,Hid.mkP l⟩
      .have h0:¬(i:Y)<(k:Y):=by omega
       obtain rfl:i=k:=by omega
       go_wp2;go_loopg [11] i (λgk s11 wr=>∃p:I,p+gk=i/\s11=.int .i64 p/\E (AG w wr B u i V (T2Q T i 0) N T gv i i U))
       case atStart=>exact⟨0,Yv _,Z,Q⟩
       case round =>
        obtain⟨p,hp,rfl,o⟩:=hrel;by_cases d:p<i
        .have K:(p:Y)<(i:Y):=by omega
         obtain rfl:=HQ (by omega);obtain⟨gs,cs,rfl⟩:=BJ o.sl (by omega);obtain⟨gg,cg,rfl⟩:=BJ o.gl (by omega);have L:wr.cell? ⟨gs,p,G⟩=F (.string ⟨T p⟩):=BK o.sl (by rw[ZE,uy d];rfl);have v:=BK o.gl (by rw[ZE,uy d];rfl);have A:=o.cell P d;have X:=o.rv p d;have W:=o.uv p d;obtain⟨qv,cv,hv⟩:=X.slice;obtain⟨qu,cu,hu⟩:=W.slice;have hm:(T p).size<=100000:=HT p d;obtain⟨m,f⟩:=vH ((T p).size);rw[eI,f]at hv;rw[eU,eI,f]at hu;rw[hv]at A X;rw[hu]at v W;rw[f]at hm;have l:E (LookQ wr u gs gg p qv qu m cv cu ⟨T p⟩ (T2Q T i 0 p) (flQ (T2Q T i 0 p) p 80) w.heap.size):=⟨A,L,v,X,W⟩
         have h3:E (∀j,j<m->(T2Q T i 0 p)[j]! = (T p)[j]!+1):=λj C=>by rw[QW d,CO _ _ (Ys _) (by rw[f];exact C),zd (by rw[f];exact C)]
         have h7:E (∀j,j<m->(flQ (T2Q T i 0 p) p 80)[j]! = (T p)[j]!+1):=λj C=>by
          rw[I3 (by rw[eI,f];exact C)];exact h3 j C
         have h5:E (∀j,j<80->(flQ (T2Q T i 0 p) p 80)[m+j]! = tV p j):=λj C=>by
          have:=EI (b:=(T2Q T i 0 p)) (i:=p) (k:=j) 80 C;rw[eI,f]at this;exact this
         have M:E ((T2Q T i 0 p).size=m/\(flQ (T2Q T i 0 p) p 80).size=m+80):=⟨by rw[eI,f],by rw[eU,eI,f]⟩
         generalize flQ (T2Q T i 0 p) p 80=b3 at l h7 h5 M;obtain⟨b,hb⟩:=vH (T2Q T i 0 p);rw[hb]at l h3 M;obtain⟨s,hs⟩:∃s:R,s=⟨T p⟩:=⟨_,Z⟩
         rw[<-hs]at l L;have ha:s.size=m:=by rw[hs];exact f
         have h9:E (∀j (h:j<s.size),s[j]=(T p)[j]!):=λj h=>by
          subst hs;rw[getElem!_pos (T p) j h];rfl
         clear W X hs hb hv hu f;go_wp2_with fail
         go_quiet (fail);have z:=Hid.mkP (o.drewN nq);have a:=Hid.mkP (l.drewN nq);clear o l L v A;generalize wr.drewN nq=w6 at z a⊢;go_wp2;go_loopg [12] m (λgk s12 wr=>∃j:I,j+gk=m/\s12=.int .i64 j/\E (AG w wr B u i V (T2Q T i 0) (.slice (F ⟨gs,0,G⟩) i cs) T (.slice (F ⟨gg,0,G⟩) i cg) i i U)/\E (LookQ wr u gs gg p qv qu m cv cu s b b3 w.heap.size))
         case atStart=>exact⟨0,Yv _,Z,z,a⟩
         case round =>
          obtain⟨j,C,rfl,o,l⟩:=hrel;have L:=l.cs;by_cases t:j<m
          .have y:(j:Y)<(m:Y):=by omega
           have A:=l.cl;have v:=l.cg;obtain⟨g1,c1,e1,h1,-⟩:=l.hl.at (k:=j) (by rw[M.1];exact t);obtain⟨g2,c2,O,h2,-⟩:=l.hg.at (k:=j) (by rw[M.2];omega);rw[h3.out j t]at h1;rw[h7.out j t]at h2;injection e1 with e1 _ _
           injection O with O _ _
           have hw:xb.wrap ((s[j].toNat:Y)+1)=SP.ub ((T p)[j]!+1):=by rw[h9.out j (by omega)];exact Dv _
           unfold SP.encB at h1 h2;rw[e1]at A;rw[O]at v;go_wp2_with fail
           go_quiet (fail);have z:=Hid.mkP (o.drewN nq);have a:=Hid.mkP (l.drewN nq);go_wp2;go_roundg (gk-1)
           case measure=>omega
           case rel=>exact⟨j+1,by omega,Z,z,a⟩
          .have y:¬(j:Y)<(m:Y):=by omega
           go_wp2;go_loopg [13] 80 (λgk s13 wr=>∃j:I,j+gk=80/\s13=.int .i64 j/\E (AG w wr B u i V (T2Q T i 0) (.slice (F ⟨gs,0,G⟩) i cs) T (.slice (F ⟨gg,0,G⟩) i cg) i i U)/\E (LookQ wr u gs gg p qv qu m cv cu s b b3 w.heap.size))
           case atStart=>exact⟨0,Yv _,Z,o,l⟩
           case round =>
            obtain⟨j,C,rfl,o,l⟩:=hrel;by_cases t:j<80
            .have y:(j:Y)<80:=by omega
             have L:=l.cs;have v:=l.cg;obtain⟨m2,h6⟩:=vH (m+j);obtain⟨g2,c2,O,h2,-⟩:=l.hg.at (k:=m2) (by rw[M.2];omega);injection O with O _ _
             rw[O]at v;rw[<-h6,h5.out j t,h6]at h2;have hf:=BU p j;unfold SP.encB at h2;go_wp2_with fail
             go_quiet (fail);go_wp2;go_roundg (gk-1)
             case measure=>omega
             case rel=>exact⟨j+1,by omega,Z,Hid.mkP (o.drewN nq),Hid.mkP (l.drewN nq)⟩
            .have y:¬(j:Y)<80:=by omega
             go_wp2;go_roundg (i-(p+1))
             case measure=>omega
             case rel=>exact⟨p+1,by omega,Z,o⟩
        .have h0:¬(p:Y)<(i:Y):=by omega
         go_wp2;go_ret;exact⟨Z,o.bl⟩
def fl3:∃(P:I) (_:NeZero P),Fl3 P:=by
 let⟨P,j,l,i⟩:=cur
 have g:P=Go.Proofs.YtdoammpgchejcaaGreat.p0:=by rw[l];decide +kernel
 have f:=XT;have d:=VC;have e:2<=Go.Proofs.YtdoammpgchejcaaGreat.p0%18446744073709551616:=dK;have b:Go.Proofs.YtdoammpgchejcaaGreat.p0/4%18446744073709551616<18446744073709551615:=dK;have k:Go.Proofs.YtdoammpgchejcaaGreat.p0%4=3:=dK;have c:7<Go.Proofs.YtdoammpgchejcaaGreat.p0:=dK;rw[<-g]at f d e b k c;exact⟨P,j,⟨⟨f,i,e,b,k,c⟩,d⟩⟩
namespace EC
variable {P:Nat}[NeZero P]
def fo(x:B P)(f:B P->α):α:=
 match x.val with
 | 0=>f (aj P 0)
 | n+1=>f (aj P (n+1))
def Wy(x:B P)(f:B P->α):fo x f=f x:=by
 have hx:aj P x.val=x:=B.ext (YL x.isLt);unfold fo;split
 .next h=>rw[h]at hx;rw[hx]
 next n h=>rw[h]at hx;rw[hx]
def runs(u v:B P)(e:I):I->B P->B P->B P->zk
 | 0,_,_,z=>decide (z=0)
 | k+1,x,y,z=>fo (twX x y) λX=>fo (twY x y) λY=>fo (twZ y z) λZ =>
  if e/2^k%2=1 then
   if Z=0 then D else
   fo (cS X 1) λd=>fo (eK Y 1) λf=>fo (cS u Z) λbx=>fo (eK v Z) λg =>
   if d=bx/\f=g then D else
   fo (plX d f bx g) λa=>fo (plY d f bx g) λb=>fo (plZ Z 1 d bx) λc=>runs u v e k a b c
  else runs u v e k X Y Z
def GB(C:Cur P):(1:B P)≠0:=λh=>C.two (by
 calc (2:B P)=2*1:=by grobner
  _=0:=by rw[h];grobner)
def Cr(C:Cur P){u v:B P}(c:On (F (u,v)))(e:I):∀(k m:I) (x y z:B P),Jac x y z (mul m (F (u,v)))->runs u v e k x y z=J->mul (m*2^k+e%2^k) (F (u,v))=G
 | 0,m,x,y,z,hj,h=>by
  rw[gF,I.mod_one,ay,ao];exact hj.zero C (of_decide_eq_true h)
 | k+1,m,x,y,z,hj,h=>by
  have h1:=hj.twice C (cK C c m);rw[<-mul_add C c]at h1;have l:e%2^(k+1)=e/2^k%2*2^k+e%2^k:=by
   rw[Z5,I.mod_mul,Ze (2^k) (e/2^k%2),I.add_comm]
  have j:2^(k+1)=2*2^k:=by rw[Z5,Ze]
  unfold runs at h;simp only[Wy]at h;by_cases b:e/2^k%2=1
  .rw[zd b]at h;by_cases i:twZ y z=0
   .rw[zd i]at h;cases h
   rw[zi i]at h;have d:Jac u v 1 (F (u,v)):=⟨GB C,by grobner,by grobner⟩
   rcases h1.plus C (cK C c _) d c i (GB C)with⟨g,f,-⟩|⟨g,f⟩
   .rw[zd ⟨g,f⟩]at h;cases h
   rw[zi g]at h;have n:=Cr C c e k (m+m+1) _ _ _ f h;rw[l,b,j];rw[show m*(2*2^k)+(1*2^k+e%2^k)=(m+m+1)*2^k+e%2^k by
    rw[ph,ph,<-kI,Ze m 2,yFx,ph];omega]
   exact n
  rw[zi b]at h;have d:e/2^k%2=0:=S;rw[l,d,j];rw[show m*(2*2^k)+(0*2^k+e%2^k)=(m+m)*2^k+e%2^k by
   rw[<-kI,Ze m 2,yFx];omega]
  exact Cr C c e k (m+m) _ _ _ h1 h
def pL:I:=115792089237316195423570985008687907853269984665640564039457584007908834671663
def nL:I:=115792089237316195423570985008687907852837564279074904382605163141518161494337
instance:NeZero pL:=⟨dK⟩
def Tc:runs (P:=pL) (aj pL 55066263022277343669578718895168534326250603453777594175500187360389116729240) (aj pL 32670510020758816978083085130507043184471273380659243275938904335757337482424) nL 255 (aj pL 55066263022277343669578718895168534326250603453777594175500187360389116729240) (aj pL 32670510020758816978083085130507043184471273380659243275938904335757337482424) 1=J:=dK
def Pg:2*pL+1<3*nL:=dK
def Uo:1*2^255+nL%2^255=nL:=dK
def order(C:Cur P)(c:P=pL)(k:On (F (aj P 55066263022277343669578718895168534326250603453777594175500187360389116729240,aj P 32670510020758816978083085130507043184471273380659243275938904335757337482424))){r:Pt P}(b:On r):mul nL r=G:=by
 subst c;refine MP C (n:=nL) NT.pN Pg k (λh=>by cases h) ?_ b;have h:=Cr C k nL 255 1 _ _ 1 (by
  show Jac _ _ 1 (add G _);rw[jH];exact⟨GB C,by grobner,by grobner⟩) Tc
 rwa[Uo]at h
end EC
section
def MK:Go.Proofs.YtdoammpgchejcaaGreat.p1=nL:=dK
variable {P:Nat}[NeZero P]
def order2(C:At P)(r:EC.Pt P)(b:On r):mul Go.Proofs.YtdoammpgchejcaaGreat.p1 r=G:=by
 rw[MK];have k:P=EC.pL:=by
  rw[C.eq];rfl
 exact order C.cur k (Ae C) b
end
section
open SPA
structure Rws(w W:Yp)(m:I)(T:I->Bs)(us:H Yq):Prop where
 len:us.length=m
 ow:∀j,j<m->∃u,us[j]? = F u/\OwQ W W.heap.size w.heap.size u (T j)/\(T j).size<=100
 inj:∀(j j':I) (u u':Yq),us[j]? = F u->us[j']? = F u'->j≠j'->∀g,u.ownBlock=F g->u'.ownBlock≠F g
def OwQ.up{B:I}{b:Bs}(h:OwQ W W.heap.size B v b)(k:kZ W W'):OwQ W' W'.heap.size B v b:=by
 rcases h with h|⟨g,h1,f,d,c,e⟩
 .exact Y3 (cG h λg i=>k.block g (cY h i).2.1)
 exact YZ ⟨g,h1,f,Yr d k.size,Yr c k.size,Nn e (k.block g c)⟩
def Rws.below{m:I}{T:I->Bs}(h:Rws w W m T us)(c:kZ W W'):Rws w W' m T us:=
 ⟨h.len,λj d=>by
  let⟨u,h1,b,k⟩:=h.ow j d
  exact⟨u,h1,b.up c,k⟩,h.inj⟩
def TO{B:I}:OwQ W W.heap.size B sN #[]:=Y3 ⟨Z,Y3 ⟨Z,Z⟩⟩
def QS{f:Yp}{m:I}{T:I->Bs}(h:Rws w f m T us)(s:m<=100)(r:w.heap.size<=f.heap.size)(hG:GLs f W (sZ g m c) us):
 cZ 8 #[sZ g m c] W (λe w'=>e=.returned tZ/\Below w.heap.size W w'):=by
 have hl:=h.len;let⟨n,cap,e,i,d⟩:=hG.lt
 obtain rfl:=YR.inj (congrArg tz e);have i:f.heap.size<=g:=i;have d:g<W.heap.size:=d;have b:∀j,j<m->us[j]? = F us[j]!:=λj k=>by rw[getElem!_pos us j (by omega)];exact YC _
 have l:∀j,j<m->OwQ f f.heap.size w.heap.size us[j]! (T j)/\(T j).size<=100:=λj k=>by
  let⟨u,h1,o⟩:=h.ow j k
  rw[b j k]at h1;obtain rfl:=YR.inj h1;exact o
 refine U9 g m c w.heap.size _ (λj=>us[j]!) T W S (λ_=>rfl) ⟨λj k=>hG.cell j _ (b j k),λ_=>d,λj k e=>?_,λj p k o q n e=>h.inj j p _ _ (b j k) (b p o) q n e,λj k n e=>?_⟩ (λj k=>(l j k).1.up hG.bl) (λj k=>YA (l j k).2 dC) (YA r hG.bl.size)
 .have:=((l j k).1.lt e).2.1;omega
 have:=(l j k).1.lt e;exact⟨this.1,Yr this.2.1 hG.bl.size⟩
section
variable {W:Yp}{t B:Nat}{T:Nat->Bs}
def Lz(h:W.ownsRow B 23 1 v t xs)(h1:∀u∈xs,u.oneCell'=J):∃s:Sv,v=s.v/\s.n=t/\VL W s.q s.n xs:=by
 have hl:xs.length=t:=oN h.1;rcases id h with⟨-,⟨rfl,k⟩|⟨g,cap,cur,rfl,f,d,c⟩⟩
 .subst k;exact⟨⟨G,0,0⟩,Z,Z,hl,λ_=>rfl,Y3 (H.eq_nil_of_length_eq_zero hl),h1⟩
 refine⟨⟨_,t,cap⟩,Z,Z,hl,λe=>(by cases e),YZ ⟨g,0,Z,(cY h Z).2.1,λj u b=>?_⟩,h1⟩;have:=h.cells (g:=g) Z j u b;rw[oW]at this;exact this
end
def UA{m:I}{b:Bs}(h:ElQ Q m W u b):Pt W u b:=by
 let⟨k,c,h1,i,d,g,e,f⟩:=h
 exact⟨_,c,by rw[d];exact h1,YZ ⟨k,0,Z,e,f⟩⟩
def rBl(l m:H I)(gA gB gp:I):H I:=l++m++[gA,gB]++[gp]
def Tr{l m:H I}{gA gB gp:I}(h:(gp :: gA :: gB :: (l++m)).Nodup):(rBl l m gA gB gp).Nodup:=by
 unfold rBl;simp only[H.nodup_append,H.mem_append,not_or,ZX,H.nodup_cons,YI,not_false_eq_true,H.nodup_nil,and_true,true_and,Zb]at *;grind
def zSv:Sv:=⟨G,0,0⟩
def tB{F:I}{args:yt Yq}{q:Yq->Yp->Prop}(h:cZ F args w (Ret p))(k:∀e w',p e w'->q e w'):cZ F args w (Ret q):=h.mono (by
 rintro e w' ⟨v,rfl,h1⟩;exact⟨v,Z,k _ _ h1⟩)
end
def zG(p:Rg)(b k:H Yq):H Yq:=[p.a.v,p.b.v,p.c.v,p.d.v,p.e.v,p.f.v,p.g.v]++b++k++[p.x.v,p.y.v]
def PtB(W:Yp)(us:H Yq)(k:H SP.Bs):Prop:=k.length=us.length/\∀(j:I) u b,us[j]? = F u->k[j]? = F b->Pt W u b
def dS{P:Zw}{c:Func}(t u:Tmp)(e:c.results=#[.cell t T,.tmp u])(h:W.rangeAt k 0 vs)(f:tmps[t]? = F (jZ k))(hv:tmps[u]? = F v)(b:(P.underlying T).map (·.isRow)=F J)(j:(P.info? T).map (·.size)=F vs.length):(results c tmps).run P W=.ok (.tuple #[.agg vs.toArray,v]) W:=by
 let⟨d,b,hd⟩:=Yu.1 b
 have h1:=oX (P:=P) W k 0 T vs d h b hd j;have i:tmps.getD t ae=jZ k:=by rw[YG,f];rfl
 have g:tmps.getD u ae=v:=by rw[YG,hv];rfl
 rw[results,e];simp only[yt.mapM_eq_mapM_toList,H.mapM_cons,H.mapM_nil,i,g,asAddr];simp[YU,h1]
abbrev w1c(x:I):H Yq:=[U x,U 0,U 0,U 0]
def SD{x:I}(hx:x<18446744073709551616):wn x=w1c x:=by
 rw[wn,YL hx,pj hx,pj (by omega:x<340282366920938463463374607431768211456),pj (by omega:x<6277101735386680763835789423207666416102355444464034512896)];rfl
def II(x:I)(hx:x<18446744073709551616):yy 70 #[U x] (nv x):=by
 rw[nv,SD hx];intro w;go_enter func70,ntmps70;refine RG.M.enter [(0,.v (U x))] 6 kR λa0 b=>?_
 refine Yt <| b.T [.m 0] [(0,RG.z 4)] [] [0,2] ⟨mk 0 49,yw⟩ λk i g d=>?_
 refine Yt <| d.T [.x (U x),.x (.agg (w1c x).toArray),.x (.agg (w1c x).toArray),.u 0] [] [(0,3,w1c x)] [2] ⟨st,st,st,RG.pt zy,yw⟩ λe f c=>?_
 exact Zr (c.rr 0 Z u40 zy)
def IX{v i:I}(hv:v<18446744073709551616):v/2^i<18446744073709551616:=I.lt_of_le_of_lt (I.div_le_self _ _) hv
def uN{b:Yp}{x:I}(c:E (w.heap.size=k))(h1:E (w.alloc (.cells (RG.z 4).toArray 49)=b))(e:kZ b W)(f:E (W.setCells k 0 (wn x)=W')):E (W.there k 0 4/\kZ w W'/\yz W' k (wn x)):=by
 have h:=(aK c h1).out;have d:=h.2.below e;rw[<-f.out];exact⟨d.2.2,RG.below_setCells (xD c.out) _ _ _ (h.1.trans (e.mono h.1.size)),d.put Z⟩
def Nm(v i k:I)(hv:v<18446744073709551616)(z:i<64)(w:Yp)(m:k<w.heap.size)(o:w.cell? ⟨k,0,G⟩=F (U v)):eZ 129 #[iZ i,jZ k] w (nv (v/2^i%2)):=by
 obtain⟨q,j⟩:=hE (w.heap.size);obtain⟨n,b⟩:=hE (lZ w (RG.z 4) 49);have t:n.cell? ⟨k,0,G⟩=F (U v):=by rw[(aK j b).1.cell (p:=⟨k,0,G⟩) m];exact o
 have f:bits .and .u64 ((v:Y)/2^i) 1=((v/2^i%2:I):Y):=by
  rw[<-and_one (IX hv),Y.natCast_ediv,Y.natCast_pow];rfl
 have l:=mk1 (II (v/2^i%2) S);generalize v/2^i%2=x at f l⊢;have s:=mk1 f;clear o m f;go_enter func129,ntmps129;go_wp2_with (first|(refine alR 3 j b ?_)|fail)
 rw[s.out];refine(l n).mono ?_;rintro e r ⟨y,rfl,g,rfl⟩;obtain⟨a,c⟩:=hE (r.setCells q 0 (wn x));have R:=uN j b g c;obtain⟨u,d⟩:=hE (nv x);rw[d.out];go_wp2_with (first|(refine stR 3 c d R.1 zy aM ?_)|fail)
 refine YB (aC 3 Z R.2.2 Z u40 zy) Z ?_;exact⟨_,Z,R.2.1,Z⟩
def Uf(O:Ord N)(v i k d:I)(hv:v<18446744073709551616)(M:i<64)(w:Yp)(y:k<w.heap.size)(n:d<w.heap.size)(L:w.cell? ⟨k,0,G⟩=F (U v))(m:w.cell? ⟨d,0,G⟩=F (.func (.func 129) #[] #[jZ k])):eZ 130 #[iZ i,jZ d] w (nv (sMi N (v/2^i%2) 1)):=by
 obtain⟨q,t⟩:=hE (w.heap.size);obtain⟨a,b⟩:=hE (lZ w (RG.z 4) 49);have s:=aK t b;have r:a.cell? ⟨d,0,G⟩=F (.func (.func 129) #[] #[jZ k]):=by rw[s.1.cell (p:=⟨d,0,G⟩) n];exact m
 have z:=mk1 (Nm v i k hv M a (Yr y s.1.size) (by rw[s.1.cell (p:=⟨k,0,G⟩) y];exact L));have u:=mk1 (Ma O (v/2^i%2) 1 (by have:=O.n2;omega) (by have:=O.n2;omega));generalize v/2^i%2=x at z u⊢;obtain⟨vf,c⟩:=hE (yDA (.func 129) #[] #[jZ k]);rw[c.out]at r;go_enter func130,ntmps130;go_wp2_with (first|(refine alR 3 t b ?_)|(refine uI Z 4 5 Z (f:=129) (cap:=#[jZ k]) (x:=(iZ i)) ?_ ?_ (λ_ _=>kR) z.out ?_;exact c.symm;rfl;intro e W' hR;refine ru ?_)|fail)
 obtain⟨j,rfl⟩:=hR;show wpList _ _ _ _ _ _;go_wp2_with fail
 refine((mk1 (II 1 dC)) W').mono ?_;rintro e P ⟨K,rfl,f,rfl⟩;go_wp2_with fail
 refine(u P).mono ?_;rintro e C ⟨K,rfl,o,rfl⟩;obtain⟨T,l⟩:=hE (C.setCells q 0 (wn (sMi N x 1)));have R:=uN t b (j.trans ((f.trans (o.mono f.size)).mono j.size)) l;obtain⟨Q,g⟩:=hE (nv (sMi N x 1));rw[g.out];go_wp2_with (first|(refine stR 3 l g R.1 zy aM ?_)|fail)
 refine YB (aC 3 (T:=49) Z R.2.2 Z u40 zy) Z ?_;exact⟨_,Z,R.2.1,Z⟩
abbrev Iv.only{k:Yp}(b:r<k.heap.size):Iv:=⟨λW=>SP.Only r 0 32 k W,λ_ _ c h=>h.trans (SP.Only.of_below c Z (Yr b h.size)),false⟩
def uBy:wZ 23:=wQ
def X8:(Z0 24 2 #[(0,.slice q n c),(1,sZ k 4 4)]).run prog w=.ok (sZ w.heap.size 2 2) (w.alloc (.cells #[.slice q n c,sZ k 4 4] 23)):=kR
def TL{x y:H yv}(h1:PartOk w u x)(k:PartOk w v y):PartsOk (w.alloc (.cells #[u,v] T)) (F (aZ w.heap.size)) [x,y]:=by
 have b:=aD (w:=w) (.cells #[u,v] T);refine YZ ⟨_,_,Z,λj d=>?_⟩;have c:=(aF (w:=w) (c:=[u,v]) (T:=T)).2.1 j;match j,d with
 | 0,_=>exact⟨u,c u Z,h1.below b⟩
 | 1,_=>exact⟨v,c v Z,k.below b⟩
def UJ(O:Ord N)(b:ByteArray)(y:b.size<=1000)(s:H yv)(q:zb ai)(n c i o j:I)(V:i<4294967296)(w:Yp)(h1:o<w.heap.size)(C:j<w.heap.size)(c1:w.cell? ⟨o,0,G⟩=F (.string b))(c2:w.cell? ⟨j,0,G⟩=F (.slice q n c))(K:PartOk w (.slice q n c) s):
 eZ 199 #[iZ i,jZ o,jZ j] w (nv (chL N b.data.toList [s,(dL i).toList])):=by
 obtain⟨k,t⟩:=hE (w.heap.size);obtain⟨T,d⟩:=hE (lZ w (RG.z 4) 49);have g:=aK t d;have z:=λ(W:Yp) (A:zb ai) (h:PartsOk W A [s,(dL i).toList])=>ER O b A 2 2 [s,(dL i).toList] W S Z dC h
 generalize chL N b.data.toList [s,(dL i).toList]=x at z⊢;have a:=mk1 z;obtain⟨X,m⟩:=hE (nv x);rw[m.out]at a;go_enter func199,ntmps199;go_wp2_with (first|(refine alR 4 t d ?_)|fail)
 refine AW.begin 6 6 ?_;refine AW.ce 0 u9s (λW f=>by rw[f.cell (p:=⟨o,0,G⟩) (Yr h1 g.1.size),g.1.cell (p:=⟨o,0,G⟩) h1];exact c1) ?_;refine AW.ce 1 uBy (λW f=>by rw[f.cell (p:=⟨j,0,G⟩) (Yr C g.1.size),g.1.cell (p:=⟨j,0,G⟩) C];exact c2) ?_;refine AW.mv 2 ?_;refine AW.ca 3 (λ_=>zL i V _) (λe w' h=>h.1) ?_;rintro e M ⟨v,r,rfl,L,u⟩;refine AW.ns 4 (X8 (q:=q) (n:=n) (c:=c) (k:=r) (w:=M)) (aD _) ?_;refine AW.gi 5 (λf=>a _ _ (TL (K.below (g.1.trans (((YH _ T).drew.trans v).mono g.1.size))) (MJ u))) ?_;intro Q P;refine AW.fi (us:=wn x) m (aM (n:=x)) zy (λf=>?_);obtain⟨W5,l⟩:=hE (Q.setCells k 0 (wn x));have R:=uN t d f l;rw[l.out];refine⟨R.1,?_⟩;go_wp2_with fail
 refine YB (aC 4 (T:=49) Z R.2.2 Z u40 zy) Z ?_;exact⟨_,Z,R.2.1,Z⟩
def WL(O:Ord N)(k:R)(d:k.size<=1000)(l:H yv)(q:zb ai)(n c m:I)(y:m<=64)(w:Yp)(t:PartOk w (.slice q n c) l):
 dZ 133 #[.string k,iZ m,.slice q n c] w λe w'=>SLq (w.heap.size<=·) w' e m (λi=>chL N k.data.toList [l,(dL i).toList]):=by
 let⟨x,f⟩:=hE ((w.alloc (.cells #[.string k] 9)).alloc (.cells #[.slice q n c] 23))
 have b1:=aD (w:=w) (.cells #[.string k] 9);have s:=aD (w:=(w.alloc (.cells #[.string k] 9))) (.cells #[.slice q n c] 23);have r:=(aF (w:=w) (c:=[.string k]) (T:=9)).below s;have r2:=aF (w:=(w.alloc (.cells #[.string k] 9))) (c:=[.slice q n c]) (T:=23);have b:=b1.trans (s.mono b1.size);rw[YE]at r2;simp only[f.out]at r r2 b;have p:=mk1 b;go_enter func133,ntmps133;go_wp2_with fail
 rw[f.out];apply(mk1 (kA m S 199 (cap:=#[jZ w.heap.size,jZ (w.heap.size+1)]) (λ_ _=>kR) (λi=>chL N k.data.toList [l,(dL i).toList]) x (λi W z j=>UJ O k d l q n c i _ _ S W (Yr r.1 j.size) (Yr r2.1 j.size) ((r.below j).2.1 0 _ Z) ((r2.below j).2.1 0 _ Z) ((t.below b).below j)))).mono;rintro e a ⟨v,rfl,o,hG⟩;go_wp2;go_ret;exact⟨_,Z,(mk2 (p.trans (o.mono p.size)) (hG.mono λg u=>YA p.size u)).out⟩
def uLi:yZ 126:=yQ
def iLi:gZ 126 2:=gQ
structure Ln(Q:I->Prop)(W:Yp)(v:Yq)(n:I)(a b:I->I):Prop where
 ex:∃x y,v=.agg #[x,y]/\SLq Q W x n a/\SLq Q W y n b
section
variable {Q Q':Nat->Prop}{W W':Yp}{v:Yq}{n:Nat}{a b:Nat->Nat}
def Ln.keep(h:Ln Q W v n a b)(k:Kq Q W W'):Ln Q W' v n a b:=by
 let⟨x,y,h1,d,c⟩:=h.ex
 exact⟨x,y,h1,d.keep k,c.keep k⟩
def Ln.mono(h:Ln Q W v n a b)(k:∀g,Q g->Q' g):Ln Q' W v n a b:=by
 let⟨x,y,h1,d,c⟩:=h.ex
 exact⟨x,y,h1,d.mono k,c.mono k⟩
end
def cF{x:Yq}{a:I->I}(h:SLq Q W x n a):x.oneCell'=J/\∃g o c,x=qZ g o n c:=by
 obtain⟨g,o,c,rfl,-⟩:=h;exact⟨Z,_,_,_,Z⟩
def We(O:Ord N)(v:I)(hv:v<2^64)(m:I)(hm:m<=64)(A:H yv)(q:zb ai)(n c:I)(w:Yp)(hp:PartOk w (.slice q n c) A):
 dZ 61 #[U v,iZ m,.slice q n c] w λe w'=>∃x y,e=.tuple #[x,y]/\Ln (w.heap.size<=·) w' x m (λi=>v/2^i%2) (λi=>chL N [115,108] [A,(dL i).toList])/\Ln (w.heap.size<=·) w' y m (λi=>sMi N (v/2^i%2) 1) (λi=>chL N [115,114] [A,(dL i).toList]):=by
 let⟨vf,d⟩:=hE (yDA (.func 129) #[] #[jZ w.heap.size])
 let⟨k,M⟩:=hE w.heap.size
 let⟨wa,h0⟩:=hE (w.alloc (.cells [U v].toArray 22))
 let⟨X,L⟩:=hE wa.heap.size
 let⟨wb,h7⟩:=hE (wa.alloc (.cells [nZ,nZ].toArray 126))
 let⟨P,u⟩:=hE wb.heap.size
 let⟨wc,h6⟩:=hE (wb.alloc (.cells [nZ,nZ].toArray 126))
 let⟨t,p⟩:=hE wc.heap.size
 let⟨wd,K⟩:=hE (wc.alloc (.cells [.nilFunc].toArray 219))
 let⟨s,h5⟩:=hE (wd.setCells t 0 [vf])
 have Fa:=aK M h0;have Fb:=aK L h7;have Fc:=aK u h6;have Fe:=CG p K h5 Z;rw[M.out]at d;have bc:=Fb.1.trans (Fc.1.mono Fb.1.size);have be:=bc.trans (Fe.2.1.mono bc.size);have b:=mk6 (Fa.1.trans (be.mono Fa.1.size)) (Fa.2.below be) (Fb.2.below (Fc.1.trans (Fe.2.1.mono Fc.1.size))) (Fc.2.below Fe.2.1) Fe.2.2 (show k<X/\X<P/\P<t from⟨L.out▸Fa.2.1,u.out▸Fb.2.1,p.out▸Fc.2.1⟩);have hc:=b.2.2.2.2.1.2.1 0 _ Z;have H1:E (∀W,kZ s W->dZ 132 #[iZ m,vf] W λe w'=>SLq (W.heap.size<=·) w' e m (λi=>v/2^i%2)):=λW f=>by
  rw[<-d.out];exact kA m S 129 (λ_ _=>kR) _ W λi V o j=>Nm v i k hv S V (Yr b.2.1.1 (YA f.size j.size)) (((b.2.1.below f).below j).2.1 0 _ Z)
 have H2:E (∀W,kZ s W->dZ 132 #[iZ m,.func (.func 130) #[] #[jZ t]] W λe w'=>SLq (W.heap.size<=·) w' e m (λi=>sMi N (v/2^i%2) 1)):=λW f =>
  kA m S 130 (λ_ _=>kR) _ W λi V o j=>Uf O v i k t hv S V (Yr b.2.1.1 (YA f.size j.size)) (Yr b.2.2.2.2.1.1 (YA f.size j.size)) (((b.2.1.below f).below j).2.1 0 _ Z) (by rw[((b.2.2.2.2.1.below f).below j).2.1 0 _ Z,d.out])
 have HC:E (∀(l:R) W,l.size<=1000->kZ s W->dZ 133 #[.string l,iZ m,.slice q n c] W λe w'=>SLq (W.heap.size<=·) w' e m (λi=>chL N l.data.toList [A,(dL i).toList])):=λl W hl f=>WL O l hl A q n c m hm W ((hp.below b.1).below f)
 go_enter func61,ntmps61;go_wp2_with (first|(refine alR 3 M h0 ?_)|(refine alR 6 L h7 ?_)|(refine alR 7 u h6 ?_)|(refine alR 8 p K ?_)|(refine rD Z (k:=219) Z vf ?_ ?_ ?_ ?_ (mk1 (aK p K).2.2.2).out kR ?_;rfl;exact d;(rw[<-d.out];rfl);(rw[<-d.out];rfl);rw[h5.out])|fail)
 apply(H1 s (YH _ _)).mono;rintro e w1 ⟨x1,rfl,r,T⟩;go_wp2_with fail
 apply(HC _ w1 dC r).mono;rintro e w2 ⟨x2,rfl,o,V⟩;have b2:=r.trans (o.mono r.size);obtain⟨-,g1,o1,c1,e1⟩:=cF T;obtain⟨-,g2,o2,c2,e2⟩:=cF V;subst e1 e2;go_wp2_with fail
 apply(H2 w2 b2).mono;rintro e w3 ⟨x3,rfl,j,h3⟩;have b3:=b2.trans (j.mono b2.size);go_wp2_with fail
 apply(HC _ w3 dC b3).mono;rintro e w4 ⟨x4,rfl,z,h4⟩;have b4:=b3.trans (z.mono b3.size);obtain⟨-,g3,o3,c3,e3⟩:=cF h3;obtain⟨-,g4,o4,c4,e4⟩:=cF h4;subst e3 e4;let⟨w5,Q⟩:=hE (w4.setCells X 0 [qZ g1 o1 m c1,qZ g2 o2 m c2])
 let⟨C,h8⟩:=hE (w5.setCells P 0 [qZ g3 o3 m c3,qZ g4 o4 m c4])
 let⟨hj,he,ha⟩:=b.2.2.2.2.2
 have hn:=b.2.2.2.2.1.1;have s1:=r.size;have s2:=o.size;have s3:=j.size;have R4:=mk2 (b.2.2.1.below b4) (b.2.2.2.1.below b4);have K6:E (kZ w C/\yz C X [qZ g1 o1 m c1,qZ g2 o2 m c2]/\yz C P [qZ g3 o3 m c3,qZ g4 o4 m c4]/\w5.there P 0 2/\Kq (t < ·) w4 C):=by
  rw[<-h8.out,<-Q.out];have r5:yz (w4.setCells X 0 [qZ g1 o1 m c1,qZ g2 o2 m c2]) P _:=bB R4.2 S;refine⟨RG.below_setCells (by rw[M.out];omega) _ _ _ (RG.below_setCells (by rw[M.out];omega) _ _ _ (b.1.trans (b4.mono b.1.size))),bB (R4.1.put Z) S,r5.put Z,r5.2.2,?_⟩;exact⟨by rw[setCells_size,setCells_size];exact Ys _,λg hg _=>by rw[aL _ _ _ _ g S,aL _ _ _ _ g S]⟩
 have hq:∀ {W:Yp}{x:Yq}{a:I->I},s.heap.size<=W.heap.size->SLq (W.heap.size<=·) w4 x m a->SLq (w.heap.size<=·) C x m a:=λhW h=>((h.mono (Q':=(t < ·)) λg hg=>S).keep K6.2.2.2.2).mono λg hg=>by rw[M.out];omega
 have h2:=j.trans (z.mono j.size);have h9:=o.trans (h2.mono o.size);have KR:E (Ln (w.heap.size<=·) C (.agg #[qZ g1 o1 m c1,qZ g2 o2 m c2]) m (λi=>v/2^i%2) (λi=>chL N [115,108] [A,(dL i).toList])/\Ln (w.heap.size<=·) C (.agg #[qZ g3 o3 m c3,qZ g4 o4 m c4]) m (λi=>sMi N (v/2^i%2) 1) (λi=>chL N [115,114] [A,(dL i).toList])):=
  ⟨⟨_,_,Z,hq (Ys _) (T.keep (Kq.of_below h9)),hq s1 (V.keep (Kq.of_below h2))⟩,⟨_,_,Z,hq S (h3.keep (Kq.of_below z)),hq S h4⟩⟩
 go_wp2_with (first|(refine stR 6 Q (Hid.mk' Z) R4.1.2.2 iLi kR ?_)|(refine stR 7 h8 (Hid.mk' Z) K6.2.2.2.1 iLi kR ?_)|fail)
 refine YB (rL 6 7 Z K6.2.1 K6.2.2.1 Z Z uLi iLi uLi iLi) Z ?_;exact⟨_,Z,K6.1,_,_,Z,KR⟩
def uF2:wZ 237:=wQ
def uSl:wZ 124:=wQ
def Hl{c:Yp}{x:Yq}(b:kZ w c)(d:k<w.heap.size)(e:w.cell? ⟨k,0,G⟩=F x)(f:kZ c W):W.cell? ⟨k,0,G⟩=F x:=by
 rw[f.cell (p:=⟨k,0,G⟩) (Yr d b.size),b.cell (p:=⟨k,0,G⟩) d];exact e
def row_of{c:Yp}{cs:H Yq}(b:kZ w c)(d:k<w.heap.size)(e:w.rangeAt k o cs)(f:kZ c W):W.rangeAt k o cs:=RG.range_below (RG.range_below e b d) f (Yr d b.size)
def TM(f:ak)(hf:∀args W,(callFunc f args).run prog W=.ok (.enter f args) W)(x y z:I)(A:yy f #[nv x,nv y] (nv z))(i v t r o p u c1 n q a c2:I)(h1:i<u)(Q:i<a)(w:Yp)(lf:v<w.heap.size)(l1:t<w.heap.size)(l2:r<w.heap.size)(M:o<w.heap.size)(C:n<w.heap.size)(N:w.cell? ⟨v,0,G⟩=F (.func (.func f) #[] #[]))(L:w.cell? ⟨t,0,G⟩=F (qZ o p u c1))(K:w.cell? ⟨r,0,G⟩=F (qZ n q a c2))(T:w.rangeAt o (p+4*i) (wn x))(r2:w.rangeAt n (q+4*i) (wn y)):
 eZ 212 #[iZ i,jZ v,jZ t,jZ r] w (nv z):=by
 obtain⟨k,s⟩:=hE (w.heap.size);obtain⟨w1,c⟩:=hE (lZ w (RG.z 4) 49);have m:=aK s c;obtain⟨V,j⟩:=hE (nv x);obtain⟨vy,l⟩:=hE (nv y);obtain⟨vz,g⟩:=hE (nv z);rw[j.out,l.out,g.out]at A;go_enter func212,ntmps212;go_wp2_with (first|(refine alR 5 s c ?_)|fail)
 refine AW.begin 10 10 ?_;refine AW.ce 0 uF2 (λW b=>Hl m.1 lf N b) ?_;refine AW.ce 1 uSl (λW b=>Hl m.1 l1 L b) ?_;refine AW.mv 2 ?_;refine AW.iv 3 (qU (k:=o) (o:=p) (n:=u) (c:=c1) (i:=i) h1) ?_;refine AW.ro 4 (λW b=>row_of m.1 M T b) j rSc nSc ?_;refine AW.ce 5 uSl (λW b=>Hl m.1 l2 K b) ?_;refine AW.mv 6 ?_;refine AW.iv 7 (qU (k:=n) (o:=q) (n:=a) (c:=c2) (i:=i) Q) ?_;refine AW.ro 8 (λW b=>row_of m.1 C r2 b) l rSc nSc ?_;refine AW.gi 9 (λ_=>(mk1 A) _) ?_ (hx:=UN hf Z Z Z Z);intro P O;refine AW.fi (us:=wn z) g (aM (n:=z)) zy (λb=>?_);obtain⟨X,d⟩:=hE (P.setCells k 0 (wn z));have R:=uN s c b d;rw[d.out];refine⟨R.1,?_⟩;go_wp2_with fail
 refine YB (aC 5 (T:=49) Z R.2.2 Z u40 zy) Z ?_;exact⟨_,Z,R.2.1,Z⟩
def QJ{j f k:Yp}{l m:I}{x y:H Yq}{U V:YW}(i:E (w.heap.size=n))(h1:E (w.alloc (.cells x.toArray T)=j))(g:E (j.heap.size=l))(p:E (j.alloc (.cells y.toArray U)=f))(e:E (f.heap.size=m))(o:E (f.alloc (.cells z.toArray V)=k)):E (kZ w k/\yz k n x/\yz k l y/\yz k m z):=by
 have a:=(aK i h1).out;have b:=(aK g p).out;have c:=(aK e o).out;have d:=b.1.trans (c.1.mono b.1.size);exact⟨a.1.trans (d.mono a.1.size),a.2.below d,b.2.below c.1,c.2⟩
def Ry(f:ak)(hf:∀args W,(callFunc f args).run prog W=.ok (.enter f args) W)(F:I->I->I)(n:I)(hn:n<=64)(a b:I->I)(hF:∀i,i<n->yy f #[nv (a i),nv (b i)] (nv (F (a i) (b i))))(va N:Yq)(w:Yp)(h1:SLq Q w va n a)(h2:SLq Q w N n b):
 dZ 151 #[.func (.func f) #[] #[],va,N] w λe w'=>SLq (w.heap.size<=·) w' e n (λi=>F (a i) (b i)):=by
 obtain⟨A,z,c1,rfl,-,-,l1,r1⟩:=h1;obtain⟨O,C,c2,rfl,-,-,l2,r2⟩:=h2;let⟨vf,k⟩:=hE (yDA (.func f) #[] #[])
 let⟨r,o⟩:=hE w.heap.size
 let⟨t,p⟩:=hE (w.alloc (.cells [vf].toArray 237))
 let⟨K,l⟩:=hE t.heap.size
 let⟨L,m⟩:=hE (t.alloc (.cells [qZ A z n c1].toArray 124))
 let⟨M,j⟩:=hE L.heap.size
 let⟨w3,d⟩:=hE (L.alloc (.cells [qZ O C n c2].toArray 124))
 have B:=QJ o p l m j d;have y:E ((ZM 237 vf).run prog w=.ok (jZ r) t):=p.out▸o.out▸k.out▸Hid.mk' kR;have P:=B.2.2.1.2.1 0 _ Z;have T:=mk1 (kA n S 212 (cap:=#[jZ r,jZ K,jZ M]) (λ_ _=>kR) (λi=>F (a i) (b i)) w3 λi W q c=>by
  have bb:=B.1.trans (c.mono B.1.size);have s:=bb.size;exact TM f hf (a i) (b i) _ (hF i q) i r K M A z n c1 O C n c2 q q W (B.2.1.below c).1 (B.2.2.1.below c).1 (B.2.2.2.below c).1 S S (by rw[(B.2.1.below c).2.1 0 _ Z,k.out]) ((B.2.2.1.below c).2.1 0 _ Z) ((B.2.2.2.below c).2.1 0 _ Z) (RG.range_below (r1 i q) bb l1) (RG.range_below (r2 i q) bb l2))
 rw[k.out];go_enter func151,ntmps151;go_wp2_with (first|(refine aG (u:=vf) (v:=jZ r) (w':=t) Z _ (.tmp 0) Z ?_ ?_ ?_;rfl;exact y)|(refine alR 4 l m ?_)|(refine alR 5 j d ?_)|fail)
 refine T.mono ?_;rintro e w4 ⟨v,rfl,x,X⟩;go_wp2;go_ret;exact⟨_,Z,(mk2 (B.1.trans (x.mono B.1.size)) (X.mono λg V=>YA B.1.size V)).out⟩
def SLq.set{B:I}{x:Yq}{a:I->I}(h:SLq (B<=·) W x n a)(b:k<B):SLq (B<=·) (W.setCells k o vs) x n a:=h.keep (Kq.set λg c=>S)
section
variable {Q:Nat->Prop}{w:Yp}{n:Nat}{v u:Yq}{a b c:Nat->Nat}
def IP{x y:Yq}(hx:x.oneCell'=J)(m:y.oneCell'=J)(w:Yp):∃k c i d,E (w.heap.size=k)/\E (w.alloc (.cells [x,y].toArray 126)=c)/\E (c.heap.size=i)/\E (c.alloc (.cells [nZ,nZ].toArray 126)=d)/\E (kZ w d/\yz d k [x,y]/\yz d i [nZ,nZ]/\k<i):=by
 let⟨k,l⟩:=hE w.heap.size
 let⟨c,j⟩:=hE (w.alloc (.cells [x,y].toArray 126))
 let⟨i,b⟩:=hE c.heap.size
 let⟨d,e⟩:=hE (c.alloc (.cells [nZ,nZ].toArray 126))
 have f:=(aK l j).out;have g:=(aK b e).out;exact⟨k,c,i,d,l,j,b,e,f.1.trans (g.1.mono f.1.size),f.2.below g.1,g.2,b.out▸f.2.1⟩
def RH(O:Ord N)(hn:n<=64)(ha:∀i,i<n->a i<N)(hc:∀i,i<n->c i<N)(h:Ln Q w v n a b)(hu:SLq Q w u n c):
 dZ 72 #[v,u] w λe w'=>Ln (λg=>Q g\/w.heap.size<=g) w' e n (λi=>sPl N (a i) (c i)) b:=by
 obtain⟨x,y,rfl,hx,V⟩:=h.ex;obtain⟨h1,g1,o1,c1,rfl⟩:=cF hx;obtain⟨h2,o,f,c2,rfl⟩:=cF V;let⟨k,w1,C,w2,K,s,r,q,Fq⟩:=IP h1 h2 w
 go_enter func72,ntmps72;go_wp2_with (first|(refine alR 2 K s ?_)|(refine alR 4 r q ?_)|fail)
 refine AW.begin 7 7 ?_;refine AW.va 0 (jZ k) ?_;refine AW.ce 1 uSl (λW d=>(Fq.2.1.below d).2.1 0 _ Z) ?_;refine AW.mv 2 ?_;refine AW.va 4 (oZ k 1) ?_;refine AW.ce 5 uSl (λW d=>(Fq.2.1.below d).2.1 1 _ Z) ?_;refine AW.ca 3 (λd=>(mk1 (λ(W:Yp) (d:kZ w W)=>Ry (Q:=λ_=>True) 80 (λ_ _=>kR) (sPl N) n hn a c (λi X=>nP O _ _ (ha i X) (hc i X)) _ _ W ((hx.keep (Kq.of_below d)).mono λ_ _=>trivial) ((hu.keep (Kq.of_below d)).mono λ_ _=>trivial))) _ (Fq.1.trans (d.mono Fq.1.size))) (λe w' h=>h.1) ?_;rintro e T ⟨h0,M⟩;obtain⟨h5,m,l,j,rfl⟩:=cF M;refine AW.va 6 (.agg #[qZ m l n j,qZ o f n c2]) ?_;refine AW.fi (us:=[qZ m l n j,qZ o f n c2]) (Hid.mk' Z) kR iLi (λd=>?_);have P:=Fq.2.2.1.below d;refine⟨P.2.2,?_⟩;let⟨t,p⟩:=hE (T.setCells C 0 [qZ m l n j,qZ o f n c2])
 have R:E (kZ w t/\yz t C [qZ m l n j,qZ o f n c2]/\Ln (λg=>Q g\/w.heap.size<=g) t (.agg #[qZ m l n j,qZ o f n c2]) n (λi=>sPl N (a i) (c i)) b):=by
  have z:w.heap.size<=C:=K.out▸ax Fq.2.2.2;have L:=RG.below_setCells z [qZ m l n j,qZ o f n c2] 0 T (Fq.1.trans (d.mono Fq.1.size));rw[<-p.out];exact⟨L,P.put Z,_,_,Z,(M.set Fq.2.2.1.1).mono λg hg=>YZ (YA Fq.1.size hg),(V.keep (Kq.of_below L)).mono λ_ h=>Y3 h⟩
 rw[p.out];go_wp2_with fail
 refine YB (aC 4 Z R.2.1 Z uLi iLi) Z ?_;exact⟨_,Z,R.1,R.2.2⟩
def Wb(O:Ord N)(hn:n<=64)(T:∀i,i<n->a i<N)(d:∀i,i<n->b i<N)(hc:∀i,i<n->c i<N)(h:Ln Q w v n a b)(hu:SLq Q w u n c):
 dZ 73 #[v,u] w λe w'=>Ln (w.heap.size<=·) w' e n (λi=>sTi N (a i) (c i)) (λi=>sTi N (b i) (c i)):=by
 obtain⟨x,y,rfl,hx,hy⟩:=h.ex;obtain⟨h1,g1,o1,c1,rfl⟩:=cF hx;obtain⟨h2,g2,o2,c2,rfl⟩:=cF hy;let⟨k,w1,V,w2,X,K,A,z,Fq⟩:=IP h1 h2 w
 have hP:=mk1 (λ(x:Yq) (a:I->I) (T:∀i,i<n->a i<N) (hx:SLq Q w x n a) (W:Yp) (d:kZ w W)=>Ry (Q:=λ_=>True) 79 (λ_ _=>kR) (sTi N) n hn a c (λi hi=>kF O _ _ (T i hi) (hc i hi)) _ _ W ((hx.keep (Kq.of_below d)).mono λ_ _=>trivial) ((hu.keep (Kq.of_below d)).mono λ_ _=>trivial));go_enter func73,ntmps73;go_wp2_with (first|(refine alR 2 X K ?_)|(refine alR 4 A z ?_)|fail)
 refine AW.begin 9 9 ?_;refine AW.va 0 (jZ k) ?_;refine AW.ce 1 uSl (λW d=>(Fq.2.1.below d).2.1 0 _ Z) ?_;refine AW.mv 2 ?_;refine AW.va 4 (oZ k 1) ?_;refine AW.ce 5 uSl (λW d=>(Fq.2.1.below d).2.1 1 _ Z) ?_;refine AW.mv 6 ?_;refine AW.ca 3 (λd=>hP _ a T hx _ (Fq.1.trans (d.mono Fq.1.size))) (λe w' h=>h.1) ?_;rintro e W3 ⟨q,hS⟩;obtain⟨h5,r,l,f,rfl⟩:=cF hS;refine AW.ca 7 (λM=>hP _ b d hy _ (Fq.1.trans (M.mono Fq.1.size))) (λe w' h=>h.1) ?_;rintro e W4 ⟨C,j⟩;obtain⟨h6,m,s,o,rfl⟩:=cF j;refine AW.va 8 (.agg #[qZ r l n f,qZ m s n o]) ?_;refine AW.fi (us:=[qZ r l n f,qZ m s n o]) (Hid.mk' Z) kR iLi (λd=>?_);have r4:=Fq.2.2.1.below d;refine⟨r4.2.2,?_⟩;let⟨L,p⟩:=hE (W4.setCells V 0 [qZ r l n f,qZ m s n o])
 have R:E (kZ w L/\yz L V [qZ r l n f,qZ m s n o]/\Ln (w.heap.size<=·) L (.agg #[qZ r l n f,qZ m s n o]) n (λi=>sTi N (a i) (c i)) (λi=>sTi N (b i) (c i))):=by
  have P:w.heap.size<=V:=X.out▸ax Fq.2.2.2;rw[<-p.out];exact⟨RG.below_setCells P _ _ _ (Fq.1.trans (d.mono Fq.1.size)),r4.put Z,_,_,Z,((hS.keep (Kq.of_below C)).set Fq.2.2.1.1).mono λg t=>YA Fq.1.size t,(j.set (Yr Fq.2.2.1.1 q.size)).mono λg t=>YA Fq.1.size (YA q.size t)⟩
 rw[p.out];go_wp2_with fail
 refine YB (aC 4 Z R.2.1 Z uLi iLi) Z ?_;exact⟨_,Z,R.1,R.2.2⟩
end
def Ug(O:Ord N)(x y z:I)(hx:x<N)(X:y<N)(hz:z<N)(i o L t u C c1 p v K c2:I)(h1:i<C)(h2:i<K)(w:Yp)(Q:t<w.heap.size)(P:p<w.heap.size)(M:yz w o [qZ t u C c1,qZ p v K c2])(T:yz w L (wn z))(r1:w.rangeAt t (u+4*i) (wn x))(r2:w.rangeAt p (v+4*i) (wn y)):
 eZ 153 #[iZ i,jZ o,jZ L] w (nv (sPl N x (sTi N y z))):=by
 obtain⟨k,a⟩:=hE (w.heap.size);obtain⟨w1,c⟩:=hE (lZ w (RG.z 4) 49);have n:=aK a c;have A:=kF O y z X hz;have q:=nP O x (sTi N y z) hx (ZL _ O.pos);generalize sTi N y z=s at A q⊢;generalize sPl N x s=r at q⊢;obtain⟨vx,j⟩:=hE (nv x);obtain⟨vy,m⟩:=hE (nv y);obtain⟨vz,g⟩:=hE (nv z);obtain⟨vs,d⟩:=hE (nv s);obtain⟨vr,l⟩:=hE (nv r);rw[m.out,g.out,d.out]at A;rw[j.out,d.out,l.out]at q;go_enter func153,ntmps153;go_wp2_with (first|(refine alR 4 a c ?_)|fail)
 refine AW.begin 13 13 ?_;refine AW.va 0 (jZ o) ?_;refine AW.ce 1 uSl (λW b=>((M.below n.1).below b).2.1 0 _ Z) ?_;refine AW.mv 2 ?_;refine AW.iv 3 (qU (k:=t) (o:=u) (n:=C) (c:=c1) (i:=i) h1) ?_;refine AW.ro 4 (λW b=>row_of n.1 Q r1 b) j rSc nSc ?_;refine AW.va 5 (oZ o 1) ?_;refine AW.ce 6 uSl (λW b=>((M.below n.1).below b).2.1 1 _ Z) ?_;refine AW.mv 7 ?_;refine AW.iv 8 (qU (k:=p) (o:=v) (n:=K) (c:=c2) (i:=i) h2) ?_;refine AW.ro 9 (λW b=>row_of n.1 P r2 b) m rSc nSc ?_;refine AW.ro 10 (λW b=>((T.below n.1).below b).2.1) g rSc nSc ?_;refine AW.gi 11 (λ_=>A _) λW3 _=>?_
 refine AW.gi 12 (λ_=>q _) λV _=>?_
 refine AW.fi (us:=wn r) l (aM (n:=r)) zy (λb=>?_);obtain⟨W5,f⟩:=hE (V.setCells k 0 (wn r));have R:=uN a c b f;rw[f.out];refine⟨R.1,?_⟩;go_wp2_with fail
 refine YB (aC 4 (T:=49) Z R.2.2 Z u40 zy) Z ?_;exact⟨_,Z,R.2.1,Z⟩
def Wg(O:Ord N)(hn:n<=64){a b:I->I}(ha:∀i,i<n->a i<N)(X:∀i,i<n->b i<N){z:I}(hz:z<N)(h:Ln Q w v n a b):
 dZ 77 #[v,nv z] w λe w'=>SLq (w.heap.size<=·) w' e n (λi=>sPl N (a i) (sTi N (b i) z)):=by
 obtain⟨x,y,rfl,hx,hy⟩:=h.ex;obtain⟨q,p,c1,rfl,-,-,l1,r1⟩:=hx;obtain⟨K,r,c2,rfl,-,-,l2,r2⟩:=hy;let⟨k,u⟩:=hE w.heap.size
 let⟨C,l⟩:=hE (w.alloc (.cells [qZ q p n c1,qZ K r n c2].toArray 126))
 let⟨t,d⟩:=hE C.heap.size
 let⟨P,j⟩:=hE (lZ C (wn z) 49)
 have f:=aK u l;have g:=aK d j;have F:=mk3 (f.1.trans (g.1.mono f.1.size)) (f.2.below g.1) g.2;have L:=mk1 (kA n S 153 (cap:=#[jZ k,jZ t]) (λ_ _=>kR) (λi=>sPl N (a i) (sTi N (b i) z)) P λi W c m=>by
  have bb:=F.1.trans (m.mono F.1.size);have s:=bb.size;exact Ug O (a i) (b i) z (ha i c) (X i c) hz i k t q p n c1 K r n c2 c c W S S (F.2.1.below m) (F.2.2.below m) (RG.range_below (r1 i c) bb l1) (RG.range_below (r2 i c) bb l2))
 have T:=F.2.1.2.1 0 _ Z;go_enter func77,ntmps77;go_wp2_with (first|(refine alR 2 u l ?_)|(refine alR 3 d j ?_)|fail)
 refine L.mono ?_;rintro e w4 ⟨v,rfl,o,V⟩;go_wp2;go_ret;exact⟨_,Z,(mk2 (F.1.trans (o.mono F.1.size)) (V.mono λg M=>YA F.1.size M)).out⟩
def Wc(O:Ord N)(hn:n<=64){a b c d:I->I}(A:∀i,i<n->a i<N/\b i<N/\c i<N/\d i<N)(h:Ln Q w v n a b)(h':Ln Q w u n c d):
 eZ 75 #[v,u] w (.tuple #[nv (sPl N (prS N a d n) (prS N b c n)),nv (prS N b d n)]):=by
 obtain⟨x,y,rfl,hx,hy⟩:=h.ex;obtain⟨-,g1,o1,c1,rfl⟩:=cF hx;obtain⟨-,g2,o2,c2,rfl⟩:=cF hy;obtain⟨x',y',rfl,h0,t⟩:=h'.ex;obtain⟨-,g3,o3,c3,rfl⟩:=cF h0;obtain⟨-,g4,o4,c4,rfl⟩:=cF t;obtain⟨k,hk⟩:=hE (w.heap.size);obtain⟨w1,s⟩:=hE (w.alloc (.cells [qZ g1 o1 n c1,qZ g2 o2 n c2].toArray 126));obtain⟨k3,m⟩:=hE (w1.heap.size);obtain⟨w2,o⟩:=hE (w1.alloc (.cells [qZ g3 o3 n c3,qZ g4 o4 n c4].toArray 126));obtain⟨C,z⟩:=hE (w2.heap.size);obtain⟨w3,M⟩:=hE (lZ w2 (RG.z 4) 49);obtain⟨V,r⟩:=hE (w3.heap.size);obtain⟨w4,T⟩:=hE (lZ w3 (RG.z 4) 49);have f:=QJ hk s m o z M;have g:=aK r T;have F:=mk5 (f.1.trans (g.1.mono f.1.size)) (f.2.1.below g.1) (f.2.2.1.below g.1) (f.2.2.2.below g.1) g.2;have h6:w.heap.size<=C/\C<V:=⟨z.out▸YA (aK hk s).1.size (aK m o).1.size,r.out▸f.2.2.2.1⟩
 have HC:E (∀ {p q:I->I}{x y:Yq},(∀i,i<n->p i<N/\q i<N)->SLq Q w x n p->SLq Q w y n q->∀W,kZ w4 W->eZ 78 #[x,y] W (nv (prS N p q n))):=λ{p q x y} hp h1 h2 W j=>by
  have b:=F.1.trans (j.mono F.1.size);exact Hb O (Q:=Q) n S p q (λi l=>(hp i l).1) (λi l=>(hp i l).2) x y W (h1.keep (Kq.of_below b)) (h2.keep (Kq.of_below b))
 have C1:=HC (λi l=>⟨(A i l).1,(A i l).2.2.2⟩) hx t;have C2:=HC (λi l=>⟨(A i l).2.1,(A i l).2.2.1⟩) hy h0;have C3:=HC (λi l=>⟨(A i l).2.1,(A i l).2.2.2⟩) hy t;have HP:=nP O _ _ (Cy O.pos (a:=a) (b:=d) n) (Cy O.pos (a:=b) (b:=c) n);generalize prS N a d n=p1 at C1 HP⊢;generalize prS N b c n=p2 at C2 HP⊢;generalize prS N b d n=p3 at C3⊢;generalize sPl N p1 p2=K at HP⊢;obtain⟨v1,L⟩:=hE (nv p1);obtain⟨v2,h3⟩:=hE (nv p2);obtain⟨v3,P⟩:=hE (nv p3);obtain⟨v4,h4⟩:=hE (nv K);rw[L.out]at C1;rw[h3.out]at C2;rw[P.out]at C3;rw[L.out,h3.out,h4.out]at HP;go_enter func75,ntmps75;go_wp2_with (first|(refine alR 2 hk s ?_)|(refine alR 3 m o ?_)|(refine alR 4 z M ?_)|(refine alR 5 r T ?_)|fail)
 refine AW.begin 16 15 ?_;refine AW.va 0 (jZ k) ?_;refine AW.ce 1 uSl (λW j=>(F.2.1.below j).2.1 0 _ Z) ?_;refine AW.va 2 (oZ k3 1) ?_;refine AW.ce 3 uSl (λW j=>(F.2.2.1.below j).2.1 1 _ Z) ?_;refine AW.va 5 (oZ k 1) ?_;refine AW.ce 6 uSl (λW j=>(F.2.1.below j).2.1 1 _ Z) ?_;refine AW.va 7 (jZ k3) ?_;refine AW.ce 8 uSl (λW j=>(F.2.2.1.below j).2.1 0 _ Z) ?_;refine AW.va 11 (oZ k 1) ?_;refine AW.ce 12 uSl (λW j=>(F.2.1.below j).2.1 1 _ Z) ?_;refine AW.va 13 (oZ k3 1) ?_;refine AW.ce 14 uSl (λW j=>(F.2.2.1.below j).2.1 1 _ Z) ?_;refine AW.gi 4 (λj=>C1 _ j) λW1 _=>?_
 refine AW.gi 9 (λj=>C2 _ j) λW2 _=>?_
 refine AW.gi 10 (λ_=>HP _) λW3 _=>?_
 refine AW.gi 15 (λj=>C3 _ j) λW4 _=>?_
 refine AW.f2 (us:=wn K) (us':=wn p3) h4 P aM zy aM zy (λj=>?_);obtain⟨W5,h5⟩:=hE (W4.setCells C 0 (wn K));obtain⟨W6,X⟩:=hE (W5.setCells V 0 (wn p3));have R:E (W4.there C 0 4/\W5.there V 0 4/\yz W6 C (wn K)/\yz W6 V (wn p3)/\kZ w W6):=by
  have r4:=F.2.2.2.1.below j;have r5:yz (W4.setCells C 0 (wn K)) V _:=bB (F.2.2.2.2.below j) S;rw[<-X.out,<-h5.out];exact⟨r4.2.2,r5.2.2,bB (r4.put Z) S,r5.put Z,RG.below_setCells S _ _ _ (RG.below_setCells S _ _ _ (F.1.trans (j.mono F.1.size)))⟩
 rw[h5.out,X.out];refine⟨R.1,R.2.1,?_⟩;go_wp2_with fail
 refine YB (rL 4 5 (T:=49) (e:=49) Z R.2.2.1 R.2.2.2.1 Z Z u40 zy u40 zy) Z ?_;exact⟨_,Z,R.2.2.2.2,Z⟩
def TG(O:Ord N)(p x:I)(hp:p<N)(hx:x<N)(i:Y)(c l:I)(V:l≠c)(w:Yp)(M:yz w c (wn p))(X:yz w l (wn x)):
 cZ 152 #[iZ i,jZ c,jZ l] w (Ret λe w'=>Kz (·≠c) w w'/\(yz w' c (wn (sTi N p x))/\yz w' l (wn x))/\e=nv p):=by
 have T:=kF O p x hp hx;generalize sTi N p x=q at T⊢;obtain⟨vp,k⟩:=hE (nv p);obtain⟨vx,s⟩:=hE (nv x);obtain⟨vq,v⟩:=hE (nv q);rw[k.out,s.out,v.out]at T;obtain⟨z,g⟩:=hE (w.heap.size);obtain⟨w1,a⟩:=hE (lZ w (RG.z 4) 49);obtain⟨K,j⟩:=hE (w1.heap.size);obtain⟨W,r⟩:=hE (lZ w1 (RG.z 4) 49);obtain⟨n,o⟩:=hE (W.setCells K 0 (wn p));have u:=aK g a;have A:=aK j r;have L:=u.1.trans (A.1.mono u.1.size);have l1:=M.1;have l2:=X.1;have l4:=u.2.1;have e4:=g.out;have e5:=j.out;have d:E (kZ w n/\yz n c (wn p)/\yz n l (wn x)/\yz n z (RG.z 4)/\yz n K (wn p)/\W.there K 0 4):=by
  rw[<-o.out];exact⟨RG.below_setCells S _ _ _ L,bB (M.below L) S,bB (X.below L) S,bB (u.2.below A.1) S,A.2.put Z,A.2.2.2⟩
 have h0:=mk1 (M.below L);go_enter func152,ntmps152;go_wp2_with (first|(refine alR 4 g a ?_)|(refine ldR 1 (M.below u.1).2.1 k u40 zy ?_)|(refine alR 5 j r ?_)|(refine stR 5 o k d.2.2.2.2.2 zy (aM (n:=p)) ?_)|(refine ldR 1 d.2.1.2.1 k u40 zy ?_)|(refine ldR 2 d.2.2.1.2.1 s u40 zy ?_)|fail)
 refine(T n).mono ?_;rintro e P ⟨uu,rfl,b,rfl⟩;obtain⟨Q,t⟩:=hE (P.setCells c 0 (wn q));obtain⟨C,y⟩:=hE (Q.setCells z 0 (wn p));have m:=mk5 (d.1.trans (b.mono d.1.size)) (d.2.1.below b) (d.2.2.1.below b) (d.2.2.2.1.below b) (d.2.2.2.2.1.below b);have f:E (P.there c 0 4/\yz Q K (wn p)/\Q.there z 0 4/\Kz (·≠c) w C/\yz C c (wn q)/\yz C l (wn x)/\yz C z (wn p)):=by
  have r4:yz (P.setCells c 0 (wn q)) z _:=bB m.2.2.2.1 S;rw[<-y.out,<-t.out];exact⟨m.2.1.2.2,bB m.2.2.2.2 S,r4.2.2,((Kz.of m.1).set (YZ (by simp))).set (Y3 S),bB (m.2.1.put Z) S,bB (bB m.2.2.1 V) S,r4.put Z⟩
 go_wp2_with (first|(refine stR 1 t v f.1 zy (aM (n:=q)) ?_)|(refine ldR 5 f.2.1.2.1 k u40 zy ?_)|(refine stR 4 y k f.2.2.1 zy (aM (n:=p)) ?_)|fail)
 refine YB (aC 4 (T:=49) Z f.2.2.2.2.2.2 Z u40 zy) Z ?_;exact⟨_,Z,f.2.2.2.1,⟨f.2.2.2.2.1,f.2.2.2.2.2.1⟩,Z⟩
def pwN(N x:I):I->I
 | 0=>1
 | i+1=>sTi N (pwN N x i) x
def yV{x:I}(O:Ord N):∀i,pwN N x i<N
 | 0=>by show 1<N;have:=O.n2;omega
 | _+1=>ZL _ O.pos
def Iz[NeZero N](h1:1<N)(x:B N):∀i,(pwF x i).val=pwN N x.val i
 | 0=>YL h1
 | i+1=>by
  show(pwF x i*x).val=_;rw[jN,Iz h1 x i];rfl
def Kz.bw{Z:I->Prop}{d c:Yp}(h:kZ w d)(k:Kz Z d c)(e:∀g,g<w.heap.size->Z g):kZ w c:=⟨k.os.trans h.os,k.tape.trans h.tape,k.output.trans h.output,YA h.size k.size,λg b=>(k.block g (Yr b h.size) (e g b)).trans (h.block g b)⟩
def IB(O:Ord N)(x:I)(hx:x<N)(n:I)(V:n<=512)(w:Yp):
 dZ 74 #[nv x,iZ n] w λe w'=>SLq (w.heap.size<=·) w' e n (pwN N x)/\∃g c,e=sZ g n c:=by
 obtain⟨L,q⟩:=hE (nv x);obtain⟨v1,r⟩:=hE (nv 1);have X:E (yy 70 #[U 1] v1):=by rw[<-r.out];exact Rz
 obtain⟨j,k⟩:=hE (w.heap.size);obtain⟨A,m⟩:=hE (lZ w (wn x) 49);have a:E ((ZM 49 L).run prog w=.ok (jZ j) A):=by rw[<-q.out,<-m.out,<-k.out];exact boxS x w
 have C:=aK k m;rw[q.out];go_enter func74,ntmps74;go_wp2_with (first|(refine aG (u:=L) (v:=jZ j) (w':=A) Z _ (.tmp 0) Z ?_ ?_ ?_;rfl;exact a.out)|fail)
 refine(X A).mono ?_;rintro e M ⟨uu,rfl,s,rfl⟩;obtain⟨p,b⟩:=hE (M.heap.size);obtain⟨w3,f⟩:=hE (lZ M (RG.z 4) 49);obtain⟨T,l⟩:=hE (w3.setCells p 0 (wn 1));have y:=CG b f l Z;have r2:=C.2.below s;have t:=r2.1;rw[b.out]at t;have Q:=C.1.trans (s.mono C.1.size);have d:=mk4 (Q.trans (y.2.1.mono Q.size)) (r2.below y.2.1) y.2.2 t;have s4:=d.2.2.1.1;go_wp2_with (first|(refine alR 5 b f ?_)|(refine stR 5 l r y.1 zy (aM (n:=1)) ?_)|fail)
 refine(mk1 (BN n V 152 #[jZ p,jZ j] (λ_ _=>kR) (pwN N x) (·≠p) (λi W=>yz W p (wn (pwN N x i))/\yz W j (wn x)) T (λg z=>S) (λW P=>⟨d.2.2.1.below P,d.2.1.below P⟩) (λi W K o vs hK h=>⟨bB h.1 S,bB h.2 S⟩) λi W hi _ h=>TG O _ x (yV O (x:=x) i) hx _ p j S W h.1 h.2)).mono ?_;rintro e w5 ⟨v,rfl,hz,-,hS,hO⟩;have e2:=k.out;have K5:=mk3 (Kz.bw d.1 hz λg z=>oN d.2.2.2) (hS.mono λg z=>YA d.1.size z) hO;go_wp2;go_ret;exact⟨_,Z,K5.out⟩
def VR{x:I}(O:Ord N)(hx:x<N)(k:n<=512):
 dZ 74 #[nv x,iZ n] w λe w'=>SLq (w.heap.size<=·) w' e n (pwN N x):=
 (IB O x hx n k w).mono λ_ _ ⟨v,h,h1,b,_⟩=>⟨v,h,h1,b⟩
def uLs:wZ 129:=wQ
def uSm:wZ 131:=wQ
def SK(O:Ord N)(l:LB)(hl:TOk N l)(d:l.length<=512)(z:I)(M:z<N)(i o s f j q c1 m n r c2:I)(v0 v2 x:Yq)(h1:i<q)(P:i<r)(w:Yp)(v:f<w.heap.size)(u:m<w.heap.size)(T:yz w o [v0,qZ f j q c1,v2])(y:yz w s [qZ m n r c2])(Q:w.cell? ⟨f,j+1*i,G⟩=F x)(hx:Sm 0 w x l)(r2:w.rangeAt m (n+4*i) (wn z)):
 dZ 163 #[iZ i,jZ o,jZ s] w λe w'=>Sm w.heap.size w' e (l.map (tmT N z)):=by
 obtain⟨V,b⟩:=hE (nv z);have t:=mk1 (λ(W:Yp) (k:kZ w W)=>gW O M 0 x l d hl.szm hl.lt W (hx.grow k));rw[b.out]at t;obtain⟨C,a⟩:x.oneCell'=J/\∃g c,x=sZ g l.length c:=by
  obtain⟨g,c,rfl,-⟩:=hx;exact⟨Z,_,_,Z⟩
 go_enter func163,ntmps163;go_wp2_with fail
 refine AW.begin 10 10 ?_;refine AW.va 0 (oZ o 1) ?_;refine AW.ce 1 uLs (λW k=>(T.below k).2.1 1 _ Z) ?_;refine AW.mv 2 ?_;refine AW.iv 3 (atS f j (n:=q) c1 (i:=i) h1) ?_;refine AW.ce 4 uSm (λW k=>by rw[k.cell (p:=⟨f,j+1*i,G⟩) v];exact Q) ?_;refine AW.ce 5 uSl (λW k=>(y.below k).2.1 0 _ Z) ?_;refine AW.mv 6 ?_;refine AW.iv 7 (qU (k:=m) (o:=n) (n:=r) (c:=c2) (i:=i) P) ?_;refine AW.ro 8 (λW k=>RG.range_below r2 k u) b rSc nSc ?_;refine AW.ca 9 (λk=>t _ k) (λe w' h=>h.1) ?_;rintro e L ⟨K,A⟩;refine AW.nx 10 e ?_;refine AW.dn λk=>?_
 go_wp2;go_ret;exact⟨_,Z,(mk2 k (show Sm w.heap.size L e _ from A)).out⟩
def S5(O:Ord N)(z q y t:I)(hz:z<N)(hq:q<N)(hy:y<N)(ht:t<N)(i X T V k4 v A M c1 u C Q c2:I)(h1:i<M)(h2:i<Q)(w:Yp)(lg:v<w.heap.size)(lh:u<w.heap.size)(R1:yz w X (wn z))(R2:yz w T [qZ v A M c1])(R3:yz w V (wn q))(R4:yz w k4 [qZ u C Q c2])(r1:w.rangeAt v (A+4*i) (wn y))(r2:w.rangeAt u (C+4*i) (wn t)):
 eZ 150 #[iZ i,jZ X,jZ T,jZ V,jZ k4] w (nv (sPl N (sTi N z y) (sTi N q t))):=by
 obtain⟨k,K⟩:=hE (w.heap.size);obtain⟨w1,d⟩:=hE (lZ w (RG.z 4) 49);have f:=aK K d;have L:=kF O z y hz hy;have x:=kF O q t hq ht;have l1:sTi N z y<N:=ZL _ O.pos;have l2:sTi N q t<N:=ZL _ O.pos;generalize sTi N z y=a at L l1⊢;generalize sTi N q t=b at x l2⊢;have P:=nP O a b l1 l2;generalize sPl N a b=r at P⊢;obtain⟨vz,m⟩:=hE (nv z);obtain⟨vq,o⟩:=hE (nv q);obtain⟨vy,p⟩:=hE (nv y);obtain⟨vt,g⟩:=hE (nv t);obtain⟨va,s⟩:=hE (nv a);obtain⟨vb,j⟩:=hE (nv b);obtain⟨vr,n⟩:=hE (nv r);rw[m.out,p.out,s.out]at L;rw[o.out,g.out,j.out]at x;rw[s.out,j.out,n.out]at P;go_enter func150,ntmps150;go_wp2_with (first|(refine alR 6 K d ?_)|fail)
 refine AW.begin 13 13 ?_;refine AW.ro 0 (λW c=>((R1.below f.1).below c).2.1) m rSc nSc ?_;refine AW.ce 1 uSl (λW c=>((R2.below f.1).below c).2.1 0 _ Z) ?_;refine AW.mv 2 ?_;refine AW.iv 3 (qU (k:=v) (o:=A) (n:=M) (c:=c1) (i:=i) h1) ?_;refine AW.ro 4 (λW c=>row_of f.1 lg r1 c) p rSc nSc ?_;refine AW.ro 6 (λW c=>((R3.below f.1).below c).2.1) o rSc nSc ?_;refine AW.ce 7 uSl (λW c=>((R4.below f.1).below c).2.1 0 _ Z) ?_;refine AW.mv 8 ?_;refine AW.iv 9 (qU (k:=u) (o:=C) (n:=Q) (c:=c2) (i:=i) h2) ?_;refine AW.ro 10 (λW c=>row_of f.1 lh r2 c) g rSc nSc ?_;refine AW.gi 5 (λ_=>L _) λW2 _=>?_
 refine AW.gi 11 (λ_=>x _) λW3 _=>?_
 refine AW.gi 12 (λ_=>P _) λW4 _=>?_
 refine AW.fi (us:=wn r) n (aM (n:=r)) zy (λc=>?_);obtain⟨W5,l⟩:=hE (W4.setCells k 0 (wn r));have R:=uN K d c l;rw[l.out];refine⟨R.1,?_⟩;go_wp2_with fail
 refine YB (aC 6 (T:=49) Z R.2.2 Z u40 zy) Z ?_;exact⟨_,Z,R.2.1,Z⟩
namespace RG
variable {P:Zw}{ops:Array Y9}{Q:Exit->Act->Yp->Prop}{w:Yp}{a0:Act}{L:Array Bool}{F:Flow}{m:Nat}
def Fr(a k:Act)(d:zb Tmp):Prop:=∃v,k.tmps=(a.put d v).tmps
def OW{o:Y9}{a:Act}:∀ {r:Result Next},o.upon P a K Q r->o.upon P a (λk w'=>K k w'/\Fr a k o.dst) Q r
 | .ok (.value v) _,h=>⟨h,v,Z⟩
 | .ok .skip _,h=>⟨h,ae,Z⟩
 | .ok (.defer d) _,h=>⟨h,ae,by cases o.dst<;>rfl⟩
 | .ok (.enter f args) _,h=>Calls.mono h λe w' h1=>by
  cases e with
  | returned v=>exact⟨h1,v,Z⟩
  | panicked c=>exact h1
  | outgrown=>exact h1
 | .ok (.row row args) _,h=>Rows.mono h λv w' h1=>⟨h1,v,Z⟩
 | .halt (.panic v) _,h=>h
 | .halt (.exit _) _,h=>h.elim
def OS{i:I}{o:Y9}{a:Act}(ho:ops[i]? = some o)(h:wpOp P ops Q i K a w):wpOp P ops Q i (λk w'=>K k w'/\Fr a k o.dst) a w:=by
 unfold wpOp at *;rw[ho]at h⊢;dsimp only at h⊢;split
 .rename_i hw
  rw[zd hw]at h;rcases h with h|h
  .exact Y3 (OW h)
  exact YZ h
 rename_i hw
 rw[zi hw]at h;exact⟨h,ae,Z⟩
def Ls{i:I}{o:Y9}{a:Act}{e:Yp}(ho:ops[i]? = some o)(d:o.guard=G)(c:(Za a.eval o).run P w=.ok (.value v) e)(h:wpOp P ops Q i K a w):wpOp P ops Q i (λk w'=>K k w'/\k=a.put o.dst v) a w:=by
 unfold wpOp at *;rw[ho]at h⊢;dsimp only at h⊢;have b:gE o (yielded ops a.tmps)=J:=by
  rw[gE,d]
 rw[zd b]at h⊢;rcases h with h|h
 .unfold ZY at h⊢;rw[c]at h⊢;exact Y3 ⟨h,Z⟩
 exact YZ h
def qT(k:yt Y9)(i:I):zk:=match k[i]? with
 | some o=>match o.op with | .alloc _=>J|_=>D
 | none=>D
def Sep(k:yt Y9)(L:yt zk)(a:Act):Prop:=∀i j b c,on L i=J->on L j=J->i≠j->qT k i=J->qT k j=J->aP k i=some b->aP k j=some c->a.tmps[b]?≠a.tmps[c]?
def Als(P:Zw)(F:Flow)(b:yt Y9)(n:I):Prop:=∀i o,i<n->b[i]? = some o->qT b i=J->o.guard=G/\F.kill i=[]/\(∀(a:Act) w,∃c,(Za a.eval o).run P w=.ok (.value (jZ w.heap.size)) c)/\∀v w,F.R i v w->∃k,v=jZ k/\k<w.heap.size
def lB{a:Act}{d e:Tmp}(h:d≠e):(a.put (some d) v).tmps[e]? = a.tmps[e]?:=by
 unfold Zo;dsimp only;rw[r9,zi h]
def stepS{o:Y9}{a:Act}(R:RegF P Q F ops a0 m)(hA:Als P F ops m)(O:k<m)(W:∀i,on L i=J->i<m)(ho:ops[k]? = some o)(h0:on L k=D)(N:∀e∈o.after,ZH .any e=J->on L e.on=J)(h:InvF F ops a0 L a w)(hS:Sep ops L a):
 wpOp P ops Q k (λa' w'=>InvF F ops a0 (L.setIfInBounds k J) a' w'/\Sep ops (L.setIfInBounds k J) a') a w:=by
 have h1:=LN R O W ho h0 N h;have h2:k<L.size:=by rw[h.size];exact(YX.1 ho).1
 have T:=fG ho;have c:∀i,on (L.setIfInBounds k J) i=J->i≠k->on L i=J:=λi l M=>by
  rw[fF h2]at l;rcases tr _ _ ▸ l with l|l
  .exact l
  exact absurd (by simpa using l:k=i).symm M
 have d:∀i g s,i≠k->aP ops i=some g->o.dst=some s->s≠g:=λi g s M l hk e=>by
  subst e;exact M ((R.of ho).2 s hk |>.2 i l)
 cases K:qT ops k with
 | false =>
  refine wpOp_mono (λa' w' hh=>⟨hh.1,λi j g z l hj f r u b n=>?_⟩) (OS ho h1);have t:i≠k:=by rintro rfl;rw[K]at r;cases r
  have y:j≠k:=by rintro rfl;rw[K]at u;cases u
  have p:=hS i j g z (c i l t) (c j hj y) f r u b n;let⟨v,hv⟩:=hh.2
  rw[hv];cases hd:o.dst with
  | none=>exact p
  | some s=>rw[lB (d i g s t b hd),lB (d j z s y n hd)];exact p
 | true =>
  obtain⟨hg,-,X,-⟩:=hA k o O ho K;let⟨w1,hr⟩:=X a w
  let⟨V,h4,h5⟩:=h.all
  have A:∀i g,i≠k->on L i=J->qT ops i=J->aP ops i=some g->a.tmps[g]?≠some (jZ w.heap.size):=λi g t l r b e=>by
   have h3:i<ops.size:=by rw[<-h.size];exact IG l
   obtain⟨-,C,-,hb⟩:=hA i _ (W i l) (yt.getElem?_eq_getElem h3) r;let⟨q,hq,h6⟩:=hb (V i) w (h5 i l λx hx=>by rw[C]at hx;cases hx)
   rw[h4 i g l b,hq]at e;injection e with e
   injection e with e
   injection e with e
   injection e with e
   omega
  refine wpOp_mono (λa' w' hh=>⟨hh.1,λi j g z l hj f r u b n=>?_⟩) (Ls ho hg hr h1);rw[hh.2];have C:∀s,o.dst=some s->(a.put o.dst (jZ w.heap.size)).tmps[s]? = some (jZ w.heap.size):=λs hd=>by
   rw[hd];unfold Zo;dsimp only;rw[r9,zd Z,zd (by rw[h.sz];exact((R.of ho).2 s hd).1)]
  by_cases t:i=k
  .subst t;have hd:o.dst=some g:=by rw[<-T];exact b
   rw[C g hd,hd,lB (d j z g (qs f) n hd)];exact(A j z (qs f) (c j hj (qs f)) u n).symm
  by_cases y:j=k
  .subst y;have hd:o.dst=some z:=by rw[<-T];exact n
   rw[C z hd,hd,lB (d i g z f b hd)];exact A i g f (c i l f) r b
  have p:=hS i j g z (c i l t) (c j hj y) f r u b n;cases hd:o.dst with
  | none=>exact p
  | some s=>rw[lB (d i g s t b hd),lB (d j z s y n hd)];exact p
structure Al1(P:Zw)(G:Gw)(ops:yt Y9)(i:I):Prop where
 o:∃o,ops[i]? = some o/\o.guard=none/\(∀(a:Act) w,∃w1,(Za a.eval o).run P w=.ok (.value (jZ w.heap.size)) w1)
 r:∀v w,G.R i v w->∃k,v=jZ k/\k<w.heap.size
def AlL(P:Zw)(G:Gw)(k:yt Y9):H I->Prop
 | []=>True
 | i :: r=>Al1 P G k i/\AlL P G k r
def AlL.of{G:Gw}{i:I}:∀ {l:H I},AlL P G ops l->l.contains i=J->Al1 P G ops i
 | [],_,h=>by cases h
 | x :: r,hl,h=>by
  rw[H.contains_cons,tr]at h;rcases h with h|h
  .rw[show i=x by simpa using h];exact hl.1
  exact hl.2.of h
def H5{l:H I}{G:Gw}(h:AlL P G ops l)(hl:(ZD n).all (λi=>!qT ops i || l.contains i)=J:=by kernel_rfl):Als P G.flow ops n:=λi o f ho k=>by
 have h1:=H.all_eq_true.1 hl i (Z6.2 f);rw[k,yDO,yD3]at h1;let⟨⟨b,g,c,e⟩,d⟩:=h.of h1
 obtain rfl:o=b:=YR.inj (ho.symm.trans g);exact⟨c,Z,e,d⟩
def al1{G:Gw}{i:I}(cs:H Yq)(T:YW)(b:∀v w,G.R i v w->∃k,v=jZ k/\k<w.heap.size)(ho:(ops[i]?.map (·.guard))=some none:=by kernel_rfl)(hs:∀o,ops[i]? = some o->∀W,(cI [] o,(Za (evo (evl [])) o).run P W)=(J,.ok (.value (jZ W.heap.size)) (W.alloc (.cells cs.toArray T))):=by(intro _ h _;cases h;kernel_rfl)):Al1 P G ops i:=by
 refine⟨?_,b⟩;cases h:ops[i]? with
 | none=>rw[h]at ho;cases ho
 | some o =>
  rw[h]at ho;refine⟨o,Z,YR.inj ho,λa w=>?_⟩;have h1:=hs o h w;simp only[ZV.injEq]at h1;exact⟨_,by rw[qG (a:=a) (evl []) [] h1.1 (λt c=>by cases c)];exact h1.2⟩
def Gw.lateC{id:I}(G:Gw)(n:I)(l:H I)(q:∀j∈l,(LateP P G.flow ops n l j/\qT ops j=false)/\(∀c (a:Act) t v w,Q (.panic c) (a.put (some t) v) w->Q (.panic c) a w)/\sw ops=J)(hA:Als P G.flow ops n)(hn:n<ops.size)(X:oQ ops n l=J)(hm:P.follows .mixedOrders=J)(hc:C7 ops a0.tmps.size=J)(h:jQ P Q G.flow ops a0 0 (ops.toList.take n))(hB:G.B w.drew)
 (hp:∀(V:I->Yq) (w':Yp),(∀i,i<n->G.R i (V i) w')->G.B w'->(∀i j,i<n->j<n->i≠j->qT ops i=J->qT ops j=J->(aP ops i).isSome=J->(aP ops j).isSome=J->V i≠V j)->wpList P ops Q (ops.toList.drop n) (dF V (ops.toList.take n) 0 a0) w'):(ZP id ops J).wp P Q a0 w:=by
 have R:RegF P Q G.flow ops a0 n:=Gw.reg hc h;refine Al G.flow l (Sep ops) (λj A=>⟨(q j A).1.1,(q j A).2.1,(q j A).2.2,λo L a w u ho hI hS=>?_⟩) hn X hm R (λ_=>hB) (λL h i j m M b=>by rw[h]at b;cases b) (λk o L a w h1 h2 h3 h4 h5 h6 h7=>stepS R hA h1 h2 h3 h4 h5 h6 h7) λV w' h1 h2 h3=>hp V w' (λi b=>h1 i b Z) (h2 0 Z) λi j b A C g f d p e=>?_
 .have O:=(q j A).1.2;have h0:=(YX.1 ho).1;have s:∀i,on (L.setIfInBounds j J) i=J->i≠j->on L i=J:=λi b K=>by
   rw[fF (by rw[hI.size];exact h0)]at b;rcases tr _ _ ▸ b with b|b
   .exact b
   exact absurd (by simpa using b:j=i).symm K
  exact λi W m M b h8 C g f d r=>by
   have N:i≠j:=by rintro rfl;rw[O]at g;cases g
   have T:W≠j:=by rintro rfl;rw[O]at f;cases f
   have x:=hS i W m M (s i b N) (s W h8 T) C g f d r;have y:∀i m z,i≠j->aP ops i=some m->o.dst=some z->z≠m:=λi m z K b hk e=>by
    subst e;exact K ((R.of ho).2 z hk |>.2 i b)
   cases hd:o.dst with
   | none=>exact x
   | some z=>rw[lB (y i m z N d hd),lB (y W M z T r hd)];exact x
 let⟨L,a,hS,r⟩:=h3
 let⟨m,d⟩:=ZT.1 d
 let⟨M,p⟩:=ZT.1 p
 refine hS i j m M (r i b).1 (r j A).1 C g f d p ?_;rw[(r i b).2 m d,(r j A).2 M p,e]
def Gw.tail3{id:I}(G:Gw)(n:I)(e:Als P G.flow ops n)(k:(decide (n<ops.size) && lL ops n)=J)(f:P.follows .mixedOrders=J)(c:C7 ops a0.tmps.size=J)(h:jQ P Q G.flow ops a0 0 (ops.toList.take n))(d:G.B w.drew)
 (b:∀(V:I->Yq) (w':Yp),(∀i,i<n->G.R i (V i) w')->G.B w'->(∀i j,i<n->j<n->i≠j->qT ops i=J->qT ops j=J->(aP ops i).isSome=J->(aP ops j).isSome=J->V i≠V j)->wpList P ops Q (ops.toList.drop n) (dF V (ops.toList.take n) 0 a0) w'):(ZP id ops J).wp P Q a0 w:=by
 rw[YJ,decide_eq_true_eq]at k;exact Gw.lateC G n [] (λ_ h=>by cases h) e k.1 (by simpa[lL,oQ]using k.2) f c h d b
end RG
def SLq.from{B:I}{x:Yq}{a:I->I}(h:B<=W.heap.size)(k:SLq (W.heap.size<=·) W' x n a):SLq (B<=·) W' x n a:=k.mono λg b=>YA h b
def pZ(B n:I)(a:I->I):S1:=⟨λv w=>SLq (B<=·) w v n a/\∃g c,v=sZ g n c,λ_ _ _ k h=>⟨h.1.keep (Kq.of_below k),h.2⟩⟩
def yJ{a:I->I}{r:H Yq}(h:SLq Q W (sZ g n c) n a)(d:0<n)(R:yz W k (u :: r))(f:u≠U ((a 0%18446744073709551616:I):Y)):g≠k:=by
 rintro rfl;obtain⟨l,j,c',e,-,-,-,i⟩:=h;injection e with e
 injection e with e
 injection e with e1 e2
 subst e1 e2;have b:=i 0 d 0 _ Z;rw[R.2.1 0 u Z]at b;exact f (YR.inj b)
def rH{B:I}{a:I->I}(h:SLq (B<=·) W (sZ g n c) n a)(b:g≠k):SLq (B<=·) (W.setCells k 0 vs) (sZ g n c) n a:=by
 let⟨o,f,c',e,h1,m,l,d⟩:=h
 have e':=e;injection e with e
 injection e with e
 injection e with e1 e2
 subst e1;exact⟨g,f,c',e',h1,m,by rw[setCells_size];exact l,λj i=>Zv (d j i) k 0 vs (Y3 b)⟩
section
variable {P:Zw}{ops:Array Y9}{rest:List Y9}{op:Y9}{a:Act}{w w':Yp}{Q:Exit->Act->Yp->Prop}{T:YW}{y:am}{g o:Nat}{u:Yq}
def O7(t:Tmp)(d:E (w.setCells g o [u]=w'))(th:w.there g o 1)(c:(P.info? T).map (·.size)=F 1)(hv:u.cells=#[u])(h1:u.oneCell'=J)(h:wpList P ops Q rest (a.put op.dst ae) w')(k:op.guard=G:=by rfl)(ho:op.op=.store T (.tmp t) y:=by rfl)(hx:a.eval (.tmp t)=oZ g o:=by rfl)(i:a.eval y=u:=by rfl):wpList P ops Q (op :: rest) a w:=
 gH k λK f=>by
  have b:=run_storeVar_mid (P:=P) w g o T #[u] th c (by simp[h1]);have e:storeVar T ⟨g,o,G⟩ u=storeVar T ⟨g,o,G⟩ (.agg #[u]):=by
   rw[storeVar,hv];rfl
  rw[show(#[u]:yt Yq).toList=[u] from Z,d.out]at b;unfold ZY Za;simp only[ho,hx,i,Instr.storeAt,Instr.sureAddr,YU,Sem.run_pure,Result.andThen_ok,e,b];exact f _ _ h
def inR{I:Sem Yq}(t:Tmp)(c:I.run P w=.ok v w')(h:wpList P ops Q rest (a.put op.dst v) w')(hd:op.dst=F t:=by rfl)(k:op.guard=G:=by rfl)(b:Za a.eval op=I >>= λv=>pure (Next.value v):=by kernel_rfl):wpList P ops Q (op :: rest) a w:=
 gH k λK d=>by
  rw[ZY,b,YU,c];exact d _ _ h
end
def X6:(Z0 124 1 #[(0,nv n)]).run prog w=.ok (sZ w.heap.size 1 1) (w.alloc (.cells (wn n).toArray 49)):=kR
def iSl:gZ 124 1:=gQ
def wH{B:I}{cs:H Yq}(v:Yq)(W:Yp)(h:(RG.pN B cs).p v W):∃k,v=jZ k/\k<W.heap.size:=by
 obtain⟨k,h1,-,b⟩:=h;exact⟨k,h1,b.1⟩
def Vt(O:Ord N)(h2:2<N)(y z:Nat)(hy:y<N)(hz:z<N)(n:Nat)(hn:n<=512)(w:Yp)(hr:∀x g W,yz W g (wn x)->dZ 148 #[sZ g 1 1,iZ n] W λe W'=>SLq (W.heap.size<=·) W' e n (λ_=>x)):
 dZ 71 #[nv y,nv z,iZ n] w λe w'=>∃l r,e=.tuple #[l,r]/\SLq (w.heap.size<=·) w' l n (λ_=>sMi N 0 z)/\SLq (w.heap.size<=·) w' r n (λi=>sPl N (sTi N z (pwN N y i)) (sTi N (sTi N z z) (pwN N 2 i))):=by
 obtain⟨vy,hp⟩:=hE (nv y);obtain⟨vz,M⟩:=hE (nv z);obtain⟨k3,h9⟩:=hE (w.heap.size);obtain⟨w1,hg⟩:=hE (lZ w (wn y) 49);obtain⟨k4,ht⟩:=hE (w1.heap.size);obtain⟨f,he⟩:=hE (lZ w1 (wn z) 49);have k1:E ((ZM 49 vy).run prog w=.ok (jZ k3) w1):=by rw[<-hp.out,<-hg.out,<-h9.out];exact boxS y w
 have k5:E ((ZM 49 vz).run prog w1=.ok (jZ k4) f):=by rw[<-M.out,<-he.out,<-ht.out];exact boxS z w1
 have F1:=aK h9 hg;have F2:=aK ht he;rw[hp.out,M.out];have X:=mk3 (F1.1.trans (F2.1.mono F1.1.size)) (F1.2.below F2.1) F2.2;go_enter func71,ntmps71;go_wp2_with (first|(refine aG (u:=vy) (v:=jZ k3) (w':=w1) Z _ (.tmp 0) Z ?_ ?_ ?_;rfl;exact k1.out)|(refine aG (u:=vz) (v:=jZ k4) (w':=f) Z _ (.tmp 1) Z ?_ ?_ ?_;rfl;exact k5.out)|fail)
 obtain⟨b,hb⟩:=hE (f.heap.size);have t:∀ {W},kZ f W->b<=W.heap.size:=λh=>hb.out ▸ h.size
 refine(gwL [pE (nv y),pE (iZ n),pZ b n (pwN N y),pE (nv 2),pE (iZ n),pZ b n (pwN N 2),pE (nv z),pE (nv z),pE (nv (sTi N z z)),RG.pN b [nZ],RG.pN b [nZ],RG.pN b (RG.z 4)] (λW=>kZ f W) (λW W' hb h=>h.trans (hb.mono h.size))).tail3 12 (H5 (l:=[9,10,11]) ⟨al1 [nZ] 124 wH,al1 [nZ] 124 wH,al1 (RG.z 4) 49 wH,yw⟩) kR kR kR ⟨
  gLo 3 (λW c=>(X.2.1.below c).2.1) u40 zy,
  RG.gO 2 (iZ n),
  jJ 0 11 1 12 74 (λx y=>#[x,y]) (λx u W Q P c=>by
   obtain rfl:x=nv y:=Q;obtain rfl:u=iZ n:=P;exact(IB O y hy n hn W).mono λe W' ⟨v,h1,h2,d,k⟩=>⟨v,h1,h2,d.from (t c),k⟩),
  RU 70 #[U 2] (λW _=>II 2 S W),
  RG.gO 2 (iZ n),
  jJ 3 14 4 15 74 (λx y=>#[x,y]) (λx u W Q P c=>by
   obtain rfl:x=nv 2:=Q;obtain rfl:u=iZ n:=P;exact(IB O 2 h2 n hn W).mono λe W' ⟨v,h1,h2,d,k⟩=>⟨v,h1,h2,d.from (t c),k⟩),
  gLo 4 (λW c=>(X.2.2.below c).2.1) u40 zy,
  gLo 4 (λW c=>(X.2.2.below c).2.1) u40 zy,
  gC2 6 17 7 18 (λW=>kF O z z hz hz W),
  ED [nZ] 124 (λW W' h c=>⟨_,Z,t c,h⟩),
  ED [nZ] 124 (λW W' h c=>⟨_,Z,t c,h⟩),
  ED (RG.z 4) 49 (λW W' h c=>⟨_,Z,t c,h⟩),yw⟩ ⟨Z,Z,Z,Ys _,λ_ _=>rfl⟩ ?_
 intro V w3 hR c hD;obtain⟨S1,g1,c1,P⟩:=hR 2 dC;obtain⟨S2,g2,c2,e5⟩:=hR 5 dC;rw[P]at S1;rw[e5]at S2;obtain⟨C,e9,l8,R8⟩:=hR 9 dC;obtain⟨K,h8,l9,R9⟩:=hR 10 dC;obtain⟨k,h6,kh,h7⟩:=hR 11 dC;have d1:=hD 9 10 dC dC dC kR kR kR kR;have d2:=hD 9 11 dC dC dC kR kR kR kR;have d3:=hD 10 11 dC dC dC kR kR kR kR;dsimp only[dF,Zs,gD,qg];simp only[Zo,Yw,Yy,Yz];rw[P,e5,hR 8 dC,e9,h8,h6];rw[e9,h8]at d1;rw[e9,h6]at d2;rw[h8,h6]at d3;have n1:C≠K:=λe=>d1 (by rw[e])
 have n2:C≠k:=λe=>d2 (by rw[e])
 have n3:K≠k:=λe=>d3 (by rw[e])
 obtain⟨q,hq⟩:=hE (sTi N z z);obtain⟨kg,T⟩:=hE (nv q);rw[hq.out,T.out];obtain⟨l1,a⟩:=hE (sZ g1 n c1);obtain⟨l2,A⟩:=hE (sZ g2 n c2);have x1:0<n->(g1≠C/\g1≠K/\g1≠k)/\g2≠C/\g2≠K/\g2≠k:=λs=>⟨⟨yJ S1 s R8 (by simp),yJ S1 s R9 (by simp),yJ S1 s h7 (by simp[pwN])⟩,yJ S2 s R8 (by simp),yJ S2 s R9 (by simp),yJ S2 s h7 (by simp[pwN])⟩
 obtain⟨w4,o⟩:=hE (w3.setCells C 0 [l1]);obtain⟨w5,j⟩:=hE (w4.setCells K 0 [l2]);obtain⟨w6,hw⟩:=hE (w5.setCells k 0 (wn q));have ki:=hb.out;have q8:yz w4 C [l1]:=by rw[<-o.out];exact R8.put Z
 have q9:yz w4 K [nZ]:=by rw[<-o.out];exact R9.other (qs n1)
 have k6:yz w4 k (RG.z 4):=by rw[<-o.out];exact h7.other (qs n2)
 have u8:yz w5 C [l1]:=by rw[<-j.out];exact q8.other n1
 have u9:yz w5 K [l2]:=by rw[<-j.out];exact q9.put Z
 have u10:yz w5 k (RG.z 4):=by rw[<-j.out];exact k6.other (qs n3)
 have HT:=mk3 R8.2.2 q9.2.2 u10.2.2;have HV:E ((l1.cells=#[l1]/\l1.oneCell'=J)/\l2.cells=#[l2]/\l2.oneCell'=J):=by rw[<-a.out,<-A.out];exact⟨⟨Z,Z⟩,Z,Z⟩
 have L:E (kZ f w6/\yz w6 C [l1]/\yz w6 K [l2]/\yz w6 k (wn q)/\(0<n->SLq (b<=·) w6 l1 n (pwN N y)/\SLq (b<=·) w6 l2 n (pwN N 2))):=by
  have B4:kZ f w4:=by rw[<-o.out];exact RG.below_setCells S _ _ _ c
  have B5:kZ f w5:=by rw[<-j.out];exact RG.below_setCells S _ _ _ B4
  rw[<-hw.out];refine⟨RG.below_setCells S _ _ _ B5,u8.other n2,u9.other n3,u10.put Z,λs=>?_⟩;rw[<-j.out,<-o.out];obtain⟨⟨d,a2,a3⟩,a4,p,a6⟩:=x1 s;rw[<-a.out,<-A.out];exact⟨rH (rH (rH S1 d) a2) a3,rH (rH (rH S2 a4) p) a6⟩
 rw[a.out,A.out];refine O7 (w:=w3) 8 o HT.1 iSl HV.1.1 HV.1.2 ?_;refine O7 (w:=w4) 9 j HT.2.1 iSl HV.2.1 HV.2.2 ?_;refine stR (w:=w5) 10 hw T HT.2.2 zy (aM (n:=q)) ?_;go_wp2_with (first|(refine ldR 4 (X.2.2.below L.1).2.1 M u40 zy ?_)|fail)
 have HO:=mk1 (TS O hz w6);rw[M.out]at HO;refine HO.mono ?_;rintro e w7 ⟨uu,rfl,hc,rfl⟩;obtain⟨m,hm⟩:=hE (sMi N 0 z);rw[hm.out];obtain⟨vo,hk⟩:=hE (nv m);obtain⟨hu,h5⟩:=hE (w7.heap.size);obtain⟨w8,ha⟩:=hE (lZ w7 (wn m) 49);have ke:E ((Z0 124 1 #[(0,vo)]).run prog w7=.ok (sZ hu 1 1) w8):=by rw[<-hk.out,<-ha.out,<-h5.out];exact X6 (n:=m) (w:=w7)
 have F8:=aK h5 ha;have b68:=mk1 (hc.trans (F8.1.mono hc.size));rw[hk.out];go_wp2_with (first|(refine inR 22 (I:=(Z0 124 1 #[(0,vo)])) ke.out ?_)|fail)
 refine(mk1 (hr m hu w8 F8.2)).mono ?_;rintro e w9 ⟨lv,rfl,k2,kb⟩;have d:=b68.trans (k2.mono b68.size);have b9:=mk1 (X.1.trans ((L.1.trans (d.mono L.1.size)).mono X.1.size));have KZ:=mk6 ((X.2.2.below L.1).below d) (L.2.1.below d) (L.2.2.2.1.below d) (L.2.2.1.below d) (λ(s:0<n)=>And.intro ((L.2.2.2.2 s).1.keep (Kq.of_below d)) ((L.2.2.2.2 s).2.keep (Kq.of_below d))) b9;have lq:q<N:=by rw[<-hq.out];exact ZL _ O.pos
 have HL:=mk1 (kA n hn 150 (cap:=#[jZ k4,jZ C,jZ k,jZ K]) (λ_ _=>kR) (λi=>sPl N (sTi N z (pwN N y i)) (sTi N q (pwN N 2 i))) w9 λi W hi p=>by
  obtain⟨T1,T2⟩:=KZ.2.2.2.2.1 S;rw[<-a.out]at T1;rw[<-A.out]at T2;have Rb:=(KZ.2.1.below p)
  have Rd:=(KZ.2.2.2.1.below p)
  rw[<-a.out]at Rb;rw[<-A.out]at Rd;obtain⟨kd,k0,kf,Q,-,-,t1,f1⟩:=T1.keep (Kq.of_below p);obtain⟨ka,kc,k7,P,-,-,t2,f2⟩:=T2.keep (Kq.of_below p);rw[Q]at Rb;rw[P]at Rd;exact S5 O z q (pwN N y i) (pwN N 2 i) hz lq (yV O (x:=y) i) (yV O (x:=2) i) i k4 C k K kd k0 n kf ka kc n k7 hi hi W t1 t2 (KZ.1.below p) Rb (KZ.2.2.1.below p) Rd (f1 i hi) (f2 i hi))
 go_wp2_with fail
 refine HL.mono ?_;rintro e kj ⟨rv,rfl,Q,hj⟩;have KE:=mk3 (b9.trans (Q.mono b9.size)) ((mk1 (SLq.from (YA X.1.size (YA L.1.size b68.size)) kb)).keep (Kq.of_below Q)) (SLq.from b9.size hj);go_wp2
 go_ret2
 rw[<-hm.out,<-hq.out]at KE;exact⟨_,Z,KE.1,_,_,Z,KE.2.1,KE.2.2⟩
def FV{t sT y k:YW}{b e:I}{a:ai}{cs:H Yq}{P:Zw}(u:P.underlying t=F (.slice k))(hs:(P.info? k).map (·.size)=F s)(x:n=qi c d)(hl:cs.length=n*s)(f:∀j v,cs[j]? = F v->w.cell? (a.add j)=F v)(r:w.there b o cs.length)(h1:∀v∈cs,v.oneCell'=J):
 (uk #[t,sT] y #[qZ b o d e,.slice (F a) c g]).run P w=.ok (goInt n) (w.setCells b o cs):=by
 have l:=run_loadCells_list (P:=P) w a cs f;have m:=run_storeCells_cells (P:=P) b o cs 0 w (λj p=>by rw[ao];exact(r j p).1) (λj p=>by rw[ao];exact(r j p).2) h1;rw[hl]at l;cases q:P.info? k with
 | none=>simp[q]at hs
 | some i =>
  have z:i.size=s:=by simpa[q]using hs
  simp[uk,run_underlying u,Builtin.lenOf,Builtin.firstCells,sizeOf,typeInfo,q,z,<-x,l,m]
def cw(x i:I):Yq:=(wn x).getD (i%4) ae
def UD{x i:I}:(cw x i).oneCell'=J:=by
 unfold cw;have:i%4=0\/i%4=1\/i%4=2\/i%4=3:=S;rcases this with h|h|h|h<;>rw[h]<;>rfl
structure Rs(g m n x:I)(w:Yp):Prop where
 lt:g<w.heap.size
 th:w.there g 0 (4*m)
 c:∀i,i<4*n->w.cell? ⟨g,i,G⟩=F (cw x i)
def Rs.copy{m sl sc dc x:I}(h:Rs g m n x w)(s:k=qi sl (m-n))(y:n<=m)(e:∀i,i<4*k->w.cell? ⟨r,i,G⟩=F (cw x i)):
 ∃w',(∀l,(uk #[124,124] l #[qZ g (n*4) (m-n) dc,sZ r sl sc]).run prog w=.ok (goInt k) w')/\Rs g m (n+k) x w'/\(∀B,B<=g->Below B w w'):=by
 have u:n+k<=m:=by have:qi sl (m-n)<=m-n:=yDD _ _;omega
 let⟨cs,d⟩:∃cs,cs=(ZD (4*k)).map (cw x):=⟨_,Z⟩
 have o:cs.length=4*k:=by rw[d,YO,H.length_range]
 have c:∀j,j<4*k->cs[j]? = F (cw x j):=λj b=>by rw[d,ZE,uy b];rfl
 have p:w.there g (n*4) cs.length:=λj b=>by
  have:=h.th (n*4+j) S;rwa[Yv]at this
 refine⟨w.setCells g (n*4) cs,λl=>FV uS4 zy s S (λj v b=>?_) p (λv hv=>?_),⟨by rw[setCells_size];exact h.lt,tS h.th _ _ _,λi z=>?_⟩,λB t=>RG.below_setCells t _ _ _ (YH _ _)⟩
 .have f:j<4*k:=oN ((YF.1 b).1);rw[c j f]at b;rw[Addr.add_mid,Yv,e j f];exact b
 .rw[d]at hv;obtain⟨i,-,rfl⟩:=H.mem_map.1 hv;exact UD
 by_cases f:i<4*n
 .rw[World.cell?_setCells_out g cs (n*4) w ⟨g,i,G⟩ (λ_ _=>Y3 (by show i<n*4;omega))];exact h.c i f
 have b:i-n*4<cs.length:=S;have q:=World.cell?_setCells_in g cs (n*4) w (λj b=>(p j b).1) (i-n*4) b;rw[show n*4+(i-n*4)=i by omega]at q;rw[q,<-YC b,c _ S];unfold cw;rw[show(i-n*4)%4=i%4 by omega]
def T8(m:I)(d:m<=1000)(w:Yp):cZ 174 #[U 1,U m] w λe w'=>e=.returned (.tuple #[U 0,U m])/\w'=w:=by
 have f:bits .and .u64 1 4294967295=1:=rfl;have k:bits .and .u64 (m:Y) 4294967295=(m:Y):=by
  have h:=bits_and_u64_nat m 4294967295 S S;rw[show(4294967295:I)=2^32-1 from Z,I.and_two_pow_sub_one_eq_mod,YL S]at h;exact h
 have a0:bits .and .u64 0 4294967295=0:=rfl;have b:(m:Y)/4294967296=0:=S;have c:Zk.wrap (m:Y)=(m:Y):=by rw[rj];omega
 go_enter func174,ntmps174;go_wp2
 go_ret2
 exact⟨Z,Z⟩
def TZ{m:I}(k:m<=1000):cZ 211 #[U 1,U m] w λe w'=>e=.returned (.tuple #[U 0,U m])/\w'=w:=by
 go_enter func211,ntmps211;go_wp2_with fail
 apply(T8 m k w).mono;rintro e w' ⟨rfl,rfl⟩;go_wp2
 go_ret2
 exact⟨Z,Z⟩
def DD{t b:YW}{c:Yq}{P:Zw}{k:yt Y9}{o:Y9}{a:Act}{Q:Exit->Act->Yp->Prop}{E:Prop}(e:o.guard=G)(d s:am)(ho:o.op=.call { callee:=.builtin .copy,args:=#[d,s],argTypes:=#[t,b] })(hd:a.eval d=v)(hs:a.eval s=u)(f:(uk #[t,b] o.type #[v,u]).run P w=.ok c w')(h:K (a.put o.dst c) w'):if gE o (yielded k a.tmps)=J then ZY P o a w K Q else E:=by
 rw[zd (by simp[gE,e])];exact Lib.wp_copy_run w d s t b ho v u hd hs f h
theorem To(x r m:I)(hm:m<=512)(w:Yp)(hR:yz w r (wn x)):
 Zl prog 148 #[.slice (some ⟨r,0,G⟩) 1 1,.int .i64 m] w (Ret λe w'=>Below w.heap.size w w'/\SLq (w.heap.size<=·) w' e m (λ_=>x)):=by
 have w1:Zk.wrap (m:Y)=(m:Y):=by rw[rj];omega
 obtain⟨C0,y,a⟩:=Eo uS4 iS4 m hm;obtain⟨g,s⟩:=hE (w.heap.size);obtain⟨V,p⟩:=hE (w.alloc (.cells C0.toArray 49));have F:=aK s p;have A:Rs g m 0 x V:=⟨F.2.1,by have:=F.2.2.2;rwa[y]at this,λi N=>absurd N (p9 _)⟩
 have f:=hR.below F.1;have M:∀i,i<4->V.cell? ⟨r,i,G⟩=some (cw x i):=λi N=>by
  have W:i=0\/i=1\/i=2\/i=3:=S;rcases W with rfl|rfl|rfl|rfl
  .exact f.2.1 0 _ Z
  .exact f.2.1 1 _ Z
  .exact f.2.1 2 _ Z
  .exact f.2.1 3 _ Z
 obtain⟨u,c,d,l⟩:=A.copy (k:=qi 1 m) (r:=r) (sl:=1) (sc:=1) (dc:=m) (by rw[qp]) (I.zero_le _) (λi N=>M i (by have:qi 1 m<=1:=yDM _ _;omega));rw[qp,I.zero_mul]at c;rw[Yv]at d;have KI:E (Below w.heap.size w u/\Rs g m (qi 1 m) x u):=⟨F.1.trans (l _ (xD s)),d⟩
 have P:qi 1 m<=m:=yDD _ _;have O:0<m->0<qi 1 m:=λh=>by show 0<min 1 m;omega
 have b:=c 3;have C:=a w;rw[p.out,s.out]at C;generalize qi 1 m=n1 at *;unfold goInt at b;clear A f hR M l d c F a y p;go_enter func148,ntmps148;go_wp2_with fail
 apply(TZ (m:=m) S (w:=w)).mono;rintro e w' ⟨rfl,rfl⟩;go_wp2_with (at_builtin;refine Lib.wpList_copy_run _ Z _ _ 124 124 Z _ _ Z Z b ?_)
 go_loopg [8] m (λgk s8 wr=>∃n:I,n<=m/\(0<m->0<n)/\m<=n+gk/\s8=.int .i64 n/\E (Below w'.heap.size w' wr/\Rs g m n x wr))
 case atStart=>exact⟨n1,P,O,S,Z,KI⟩
 case round =>
  obtain⟨n,z,X,h3,rfl,o⟩:=hrel;by_cases T:n<m
  .have K:=S;have h5:0<qi n (m-n):=by show 0<min n (m-n);omega
   have Q:n+qi n (m-n)<=m:=by show n+min n (m-n)<=m;omega
   have h0:qi n (m-n)<=n:=yDM _ _;have q:Rs g m n x wr.drew:=⟨o.2.lt,o.2.th,o.2.c⟩
   obtain⟨u,c,d,l⟩:=q.copy (k:=qi n (m-n)) (r:=g) (sl:=n) (sc:=m) (dc:=m-n) Z z (λi N=>q.c i S);have b:=c 3;have h2:=FS g 0 m m n z;have L:=FO g 0 (n:=m) (c:=m) n T (Ys _);rw[Yv]at L;have KN:E (Below w'.heap.size w' u/\Rs g m (n+qi n (m-n)) x u):=⟨o.1.drew.trans (l _ (xD s)),d⟩
   generalize qi n (m-n)=k at *;unfold goInt at b;clear c d l q o;go_wp2_with fail
   go_region_law (refine DD Z (.tmp 41) (.tmp 44) (t:=124) (b:=124) Z (v:=(.slice (some ⟨g,n*4,G⟩) (m-n) (m-n))) (u:=(.slice (some ⟨g,0,G⟩) n m)) (by simp[Act.eval,Zo]) (by simp[Act.eval,Zo]) b ?_)
   go_wp2;go_roundg (gk-1)
   case measure=>omega
   case rel=>exact⟨n+k,Q,λ_=>S,S,congrArg (Value.int YQ) (show YQ.wrap ((n:Y)+(k:Y))=((n+k:I):Y) by rw[Zy];omega),KN⟩
  .have K:=S;obtain rfl:n=m:=S;have L:E (Below w'.heap.size w' wr/\SLq (w'.heap.size<=·) wr (.slice (some ⟨g,0,G⟩) n n) n (λ_=>x)):=⟨o.1,g,0,n,Z,Ys _,xD s,o.2.lt,λj Q t v q=>by
    have W:t<4:=(YF.1 q).1;rw[Yv,o.2.c (4*j+t) S];rw[cw,show(4*j+t)%4=t by omega,H.getD_eq_getElem?_getD,q];rfl⟩
   go_wp2;go_ret;exact⟨_,Z,L⟩
def Pi{z:I}(O:Ord N)(d:2<N)(b:y<N)(c:z<N)(n:I)(k:n<=512)(w:Yp):
 dZ 71 #[nv y,nv z,iZ n] w λe w'=>∃l r,e=.tuple #[l,r]/\SLq (w.heap.size<=·) w' l n (λ_=>sMi N 0 z)/\SLq (w.heap.size<=·) w' r n (λi=>sPl N (sTi N z (pwN N y i)) (sTi N (sTi N z z) (pwN N 2 i))):=
 Vt O d y z b c n k w λx g W hR=>To x g n k W hR
def JF(N y:I)(H:I->LB)(i:I):LB:=(H i).map (tmT N (pwN N (sIn N y) i))
def SJ(O:Ord N)(n:I)(kc:0<n)(hn:n<=64)(G H:I->LB)(U:LB)(hH:∀i,i<n->TOk N (H i)/\(H i).length<=512)(hU:TOk N U)(ke:U.length<=512)(y z:I)(hy:y<N)(hz:z<N)(v:Yq)(w:Yp)(hQ:∀g,w.heap.size<=g->Q g)(h0:GRq Q w v n G H U):
 dZ 84 #[v,nv y,nv z] w λe w'=>GRq Q w' e n G (JF N y H) (U.map (tmT N z)):=by
 obtain⟨vg,vh,vu,rfl,h3,h4,h5⟩:=h0.ex;obtain⟨T,M,K,eg⟩:∃g o c,vg=qZ g o n c:=by obtain⟨g,o,c,h,-⟩:=h3;exact⟨g,o,c,h⟩
 subst eg;obtain⟨gh,oh,ch,rfl,kj,kl,k9,k8⟩:=h4;obtain⟨X,C⟩:=hE (sIn N y);have ka:X<N:=C.out▸ZL _ O.pos;have HI:=mk1 (λW=>Cq O y hy W);rw[C.out]at HI;obtain⟨vy,k0⟩:=hE (nv y);obtain⟨vz,A⟩:=hE (nv z);obtain⟨k,hk⟩:=hE (w.heap.size);obtain⟨w1,hu⟩:=hE (w.alloc (.cells [qZ T M n K,qZ gh oh n ch,vu].toArray 133));obtain⟨k4,k1⟩:=hE (w1.heap.size);obtain⟨w2,hq⟩:=hE (lZ w1 (wn y) 49);obtain⟨k5,ht⟩:=hE (w2.heap.size);obtain⟨w3,hm⟩:=hE (lZ w2 (wn z) 49);obtain⟨k6,ha⟩:=hE (w3.heap.size);obtain⟨s,hp⟩:=hE (w3.alloc (.cells [nZ,nZ,nZ].toArray 133));have f:=QJ hk hu k1 hq ht hm;have g6:=aK ha hp;have F:=mk5 (f.1.trans (g6.1.mono f.1.size)) (f.2.1.below g6.1) (f.2.2.1.below g6.1) (f.2.2.2.below g6.1) g6.2;have h9:w.heap.size<=k6:=ha.out▸f.1.size;obtain⟨v0,hw⟩:=hE (Y8 #[qZ T M n K,qZ gh oh n ch,vu]);have B0:E ((ZM 133 v0).run prog w=.ok (jZ k) w1):=hw.out▸hu.out▸hk.out▸UQ;have B1:E ((ZM 49 vy).run prog w1=.ok (jZ k4) w2):=k0.out▸hq.out▸k1.out▸boxS y w1;have B2:E ((ZM 49 vz).run prog w2=.ok (jZ k5) w3):=A.out▸hm.out▸ht.out▸boxS z w2;rw[k0.out,A.out,hw.out];have HT:=mk2 hH (λ(W:Yp) (d:kZ w W)=>gW O hz 0 vu U ke hU.szm hU.lt W (h5.sm.grow d));rw[A.out]at HT;have h6:=mk2 k8 k9;have HK:=mk3 h3 hQ C;go_enter func84,ntmps84;go_wp2_with (first|(refine aG (u:=v0) (v:=jZ k) (w':=w1) Z _ (.tmp 0) Z ?_ ?_ ?_;rfl;exact B0)|(refine aG (u:=vy) (v:=jZ k4) (w':=w2) Z _ (.tmp 1) Z ?_ ?_ ?_;rfl;exact B1)|(refine aG (u:=vz) (v:=jZ k5) (w':=w3) Z _ (.tmp 2) Z ?_ ?_ ?_;rfl;exact B2)|(refine alR 6 ha hp ?_)|fail)
 obtain⟨b,d⟩:=hE (s.heap.size);have hr:∀ {W},kZ s W->b<=W.heap.size:=λh=>d.out ▸ h.size
 refine(gwL [pE (nv y),pE (nv X),pE (oZ k 1),pE (qZ gh oh n ch),pE (iZ n),pZ b n (pwN N X),RG.pN b [nZ]] (λW=>kZ s W) (λW W' d h=>h.trans (d.mono h.size))).tail2 7 kR kR kR ⟨
  gLo 4 (λW r=>(F.2.2.1.below r).2.1) u40 zy,
  IZ 0 9 159 (λx=>#[x]) (λx W j r=>by
   obtain rfl:x=nv y:=j;exact HI W),
  gP 3 (jZ k) (oZ k 1),
  zZ 2 11 k 1 (qZ gh oh n ch) uGL (λx W h=>h) (λW r=>(F.2.1.below r).2.1 1 _ Z) (λ_=>rfl),
  Nw 3 12 (qZ gh oh n ch) (iZ n) (λx W h=>h) (λ_=>rfl),
  jJ 1 10 4 13 74 (λx y=>#[x,y]) (λx u W j l r=>by
   obtain rfl:x=nv X:=j;obtain rfl:u=iZ n:=l;exact(IB O X ka n S W).mono λe W' ⟨v,h1,t,h3,h4⟩=>⟨v,h1,t,h3.from (hr r),h4⟩),
  ED [nZ] 124 (λW W' h r=>⟨_,Z,hr r,h⟩),yw⟩ ⟨Z,Z,Z,Ys _,λ_ _=>rfl⟩ ?_
 intro V w5 hR r;obtain⟨S1,g1,c1,e5⟩:=hR 5 dC;rw[e5]at S1;obtain⟨k7,e6,l7,R7⟩:=hR 6 dC;dsimp only[dF,Zs,gD,qg];simp only[Zo,Yw,Yy,Yz];rw[e5,e6];obtain⟨l1,h7⟩:=hE (sZ g1 n c1);obtain⟨w6,k2⟩:=hE (w5.setCells k7 0 [l1]);have P:E (kZ s w6/\yz w6 k7 [l1]/\SLq (b<=·) w6 l1 n (pwN N X)):=by
  rw[<-k2.out,<-h7.out];exact⟨RG.below_setCells (d.out▸l7) _ _ _ r,R7.put Z,rH S1 (yJ S1 kc R7 (by simp))⟩
 have h8:=mk2 R7.2.2 (show l1.cells=#[l1]/\l1.oneCell'=J by rw[<-h7.out];exact⟨Z,Z⟩);rw[h7.out];refine O7 (w:=w5) 7 k2 h8.1 iSl h8.2.1 h8.2.2 ?_;have kk:=(F.2.1.below P.1).2.1 1 _ Z;have hj:=F.1.trans (P.1.mono F.1.size);have HL:=mk1 (BO n S 163 #[jZ k,jZ k7] (λ_ _=>kR) (JF N y H) w6 λi W hi t=>by
  have bb:=hj.trans (t.mono hj.size);obtain⟨x,kf,L⟩:=h6.1 i hi;have Rb:=P.2.1.below t;obtain⟨kg,l,kh,j,-,-,t1,f1⟩:=P.2.2.keep (Kq.of_below t);rw[j]at Rb;have hT:=SK O (H i) (HT.1 i hi).1 (HT.1 i hi).2 (pwN N X i) (yV O i) i k k7 gh oh n ch kg l n kh _ vu x hi hi W (Yr h6.2 bb.size) t1 ((F.2.1.below P.1).below t) Rb (by rw[I.one_mul,bb.cell (p:=⟨gh,oh+i,none⟩) h6.2];exact kf) (L.sm.grow bb) (f1 i hi);rw[<-C.out]at hT;exact hT)
 go_wp2_with fail
 refine HL.mono ?_;rintro e w7 ⟨vn,rfl,kb,he⟩;obtain⟨gn,on,cn,en⟩:∃g o c,vn=qZ g o n c:=by obtain⟨g,o,c,h,-⟩:=he;exact⟨g,o,c,h⟩
 subst en;have L:=mk3 (P.1.trans (kb.mono P.1.size)) (he.mono (Q':=(s.heap.size<=·)) λg hg=>YA P.1.size hg) h9;go_wp2_with fail
 refine AW.begin 8 8 ?_;refine AW.va 0 (jZ k) ?_;refine AW.ce 1 uGL (λW d=>((F.2.1.below L.1).below d).2.1 0 _ Z) ?_;refine AW.mv 2 ?_;refine AW.va 3 (oZ k 2) ?_;refine AW.ce 4 Fu (λW d=>((F.2.1.below L.1).below d).2.1 2 _ Z) ?_;refine AW.ro 5 (λW d=>((F.2.2.2.1.below L.1).below d).2.1) A u40 zy ?_;have j:=mk1 (F.1.trans (L.1.mono F.1.size));refine AW.ca 6 (λd=>HT.2 _ (j.trans (d.mono j.size))) (λe w' h=>h.1) ?_;rintro e w8 ⟨ki,k3⟩;obtain⟨ge,me,ce,ee⟩:∃g m c,e=sZ g m c:=by obtain⟨g,c,h,-⟩:=k3;exact⟨g,_,c,h⟩
 subst ee;refine AW.nx 7 (.agg #[qZ T M n K,qZ gn on n cn,sZ ge me ce]) ?_;refine AW.fi (us:=[qZ T M n K,qZ gn on n cn,sZ ge me ce]) (Hid.mk' Z) kR iGr (λd=>?_);obtain⟨w9,l⟩:=hE (w8.setCells k6 0 [qZ T M n K,qZ gn on n cn,sZ ge me ce]);have KE:E (w8.there k6 0 3/\yz w9 k6 [qZ T M n K,qZ gn on n cn,sZ ge me ce]/\kZ w w9/\GRq Q w9 (.agg #[qZ T M n K,qZ gn on n cn,sZ ge me ce]) n G (JF N y H) (U.map (tmT N z))):=by
  have r6:=F.2.2.2.2.below (L.1.trans (d.mono L.1.size));have l6:=F.2.2.2.2.1;have kq:Kq (s.heap.size<=·) w8 w9:=by rw[<-l.out];exact Kq.set λg hg=>S
  have kd:Kq Q w w9:=by
   have hc:kZ w (w8.setCells k6 0 [qZ T M n K,qZ gn on n cn,sZ ge me ce]):=RG.below_setCells h9 _ _ _ (j.trans (d.mono j.size));rw[l.out]at hc;exact Kq.of_below hc
  rw[<-l.out];refine⟨r6.2.2,r6.put Z,RG.below_setCells h9 _ _ _ (j.trans (d.mono j.size)),?_⟩;rw[l.out];have q:∀g,s.heap.size<=g->Q g:=λg hg=>HK.2.1 g (YA F.1.size hg)
  exact⟨_,_,_,Z,HK.1.keep kd,((L.2.1.keep (Kq.of_below d)).keep kq).mono q,((k3.q.mono λg hg=>YA L.1.size hg).keep kq).mono q⟩
 rw[l.out];refine⟨KE.1,?_⟩;go_wp2_with fail
 refine YB (aC 6 Z KE.2.1 Z uGr iGr) Z ?_;exact⟨_,Z,KE.2.2.1,KE.2.2.2⟩
section
variable {P:Zw}{ops:Array Y9}{Q:Exit->Act->Yp->Prop}{p r:Nat}{I:Iv}{fuel:Nat}{o:Y9}{listed:Array Bool}{a:Act}{w:Yp}{d:Option Tmp}
def AW.fc{args:yt Yq}{R:Yq->Yp->Prop}(c:I.p w->Zl P f args w (Ret R))(h:∀e w',I.p w->R e w'->Q .normal (a.put d e) w')(ho:ops[p]? = F o:=by(simp only[YV,YP,YS])<;>rfl)(hd:o.dst=d:=by rfl)(g:o.guard=G:=by rfl)(hx:(Za a.eval o).run P w=.ok (.enter f args) w:=by kernel_rfl)(k:(Y6 .any ops listed,Y6 .any ops (listed.setIfInBounds p J),I.b,(listed.setIfInBounds p J).getD p false,(listed.setIfInBounds p J).getD r false)=([p],[],J,J,J):=by kernel_rfl):AW P ops Q p r I (fuel+1) listed a w:=λb=>by
 simp only[ZV.injEq]at k;exact anyS.cal ho (c b) (λe w' hR=>⟨Y3 k.2.2,anyS.done k.2.1 (h e w' b hR) _⟩) k.1 g hx hd
end
def rnF(h:W.rangeAt k o (xs++ys)):W.rangeAt k o xs:=λj v b=>h j v (by rw[Zc (YF.1 b).1];exact b)
def rnB{m:I}(h:W.rangeAt k o (xs++ys))(c:o+xs.length=m):W.rangeAt k m ys:=λj v b=>by
 have:=h (xs.length+j) v (by rw[Zx S,tT];exact b);rw[<-oz,c]at this;exact this
def rnC{m:I}(h1:W.rangeAt k o xs)(c:W.rangeAt k m ys)(d:o+xs.length=m):W.rangeAt k o (xs++ys):=λj v b=>by
 by_cases h:j<xs.length
 .exact h1 j v (by rwa[Zc h]at b)
 rw[Zx S]at b;have:=c (j-xs.length) v b;rwa[<-d,oz,I.add_sub_cancel' S]at this
def Row.mid{m:I}{zs l l':H Yq}(h:yz W k l)(e:l=xs++(ys++zs))(e':l'=xs++(us++zs))(hl:us.length=ys.length)(f:xs.length=m):W.there k m us.length/\yz (W.setCells k m us) k l':=by
 subst e e' f;let⟨h1,d,c⟩:=h
 have b:W.there k xs.length us.length:=λj g=>by
  have:=c (xs.length+j) (by simp only[Yx];omega);rwa[Yv]at this
 have z:=Yv xs.length;refine⟨b,by rw[setCells_size];exact h1,rnC (Zv (rnF d) k _ us (YZ (Y3 S))) (rnC (sg W k _ us b) (Zv (rnB (rnB d z) Z) k _ us (YZ (YZ S))) (by rw[hl])) z,?_⟩;have:=tS c k xs.length us;simp only[Yx,hl]at this⊢;exact this
structure Rp where
 a:Bs
 s:Bs
 c:Bs
 d:Bs
 u:I
 m:I
 t:I
namespace Rp
def l(p:Rp):H Yq:=aA p.a++(aA p.s++(aA p.c++(aA p.d++(wn p.u++(wn p.m++wn p.t)))))
structure Ok(p:Rp):Prop where
 a:p.a.size=33
 s:p.s.size=33
 c:p.c.size=33
 d:p.d.size=33
variable {p:Rp}{W:Yp}{k:Nat}
def len(h:p.Ok):p.l.length=144:=by
 unfold l;simp only[Yx,aB h.a,aB h.s,aB h.c,aB h.d];rfl
def at7(h:p.Ok)(e:W.rangeAt k 0 p.l):W.rangeAt k 0 (aA p.a)/\W.rangeAt k 33 (aA p.s)/\W.rangeAt k 66 (aA p.c)/\W.rangeAt k 99 (aA p.d)/\W.rangeAt k 132 (wn p.u)/\W.rangeAt k 136 (wn p.m)/\W.rangeAt k 140 (wn p.t):=by
 have h1:=rnB (m:=33) e (by rw[aB h.a]);have f:=rnB (m:=66) h1 (by rw[aB h.s]);have b:=rnB (m:=99) f (by rw[aB h.c]);have d:=rnB (m:=132) b (by rw[aB h.d]);have c:=rnB (m:=136) d Z;exact⟨rnF e,rnF h1,rnF f,rnF b,rnF d,rnF c,rnB (m:=140) c Z⟩
def Xy(h:p.Ok)(b:yz W k p.l){x:Bs}(hx:x.size=33):W.there k 0 (aA x).length/\yz (W.setCells k 0 (aA x)) k { p with a:=x }.l/\{ p with a:=x }.Ok:=by
 let⟨h1,c⟩:=Row.mid (xs:=[]) (us:=aA x) (l':={ p with a:=x }.l) b Z Z (by rw[aB hx,aB h.a]) Z
 exact⟨h1,c,hx,h.s,h.c,h.d⟩
def sets(h:p.Ok)(b:yz W k p.l){x:Bs}(hx:x.size=33):W.there k 33 (aA x).length/\yz (W.setCells k 33 (aA x)) k { p with s:=x }.l/\{ p with s:=x }.Ok:=by
 let⟨h1,c⟩:=Row.mid (xs:=aA p.a) (us:=aA x) (l':={ p with s:=x }.l) b Z Z (by rw[aB hx,aB h.s]) (aB h.a)
 exact⟨h1,c,h.a,hx,h.c,h.d⟩
def Xx(h:p.Ok)(b:yz W k p.l){x:Bs}(hx:x.size=33):W.there k 66 (aA x).length/\yz (W.setCells k 66 (aA x)) k { p with c:=x }.l/\{ p with c:=x }.Ok:=by
 let⟨h1,d⟩:=Row.mid (m:=66) (xs:=aA p.a++aA p.s) (ys:=aA p.c) (zs:=aA p.d++(wn p.u++(wn p.m++wn p.t))) (us:=aA x) (l':={ p with c:=x }.l) b (by unfold l;simp only[pk]) (by unfold l;simp only[pk]) (by rw[aB hx,aB h.c]) (by rw[Yx,aB h.a,aB h.s])
 exact⟨h1,d,h.a,h.s,hx,h.d⟩
def Xw(h:p.Ok)(b:yz W k p.l){x:Bs}(hx:x.size=33):W.there k 99 (aA x).length/\yz (W.setCells k 99 (aA x)) k { p with d:=x }.l/\{ p with d:=x }.Ok:=by
 let⟨h1,c⟩:=Row.mid (m:=99) (xs:=aA p.a++(aA p.s++aA p.c)) (ys:=aA p.d) (zs:=wn p.u++(wn p.m++wn p.t)) (us:=aA x) (l':={ p with d:=x }.l) b (by unfold l;simp only[pk]) (by unfold l;simp only[pk]) (by rw[aB hx,aB h.d]) (by simp only[Yx,aB h.a,aB h.s,aB h.c])
 exact⟨h1,c,h.a,h.s,h.c,hx⟩
def Xt(h:p.Ok)(b:yz W k p.l)(x:I):W.there k 132 (wn x).length/\yz (W.setCells k 132 (wn x)) k { p with u:=x }.l/\{ p with u:=x }.Ok:=by
 let⟨h1,c⟩:=Row.mid (m:=132) (xs:=aA p.a++(aA p.s++(aA p.c++aA p.d))) (ys:=wn p.u) (zs:=wn p.m++wn p.t) (us:=wn x) (l':={ p with u:=x }.l) b (by unfold l;simp only[pk]) (by unfold l;simp only[pk]) Z (by simp only[Yx,aB h.a,aB h.s,aB h.c,aB h.d])
 exact⟨h1,c,h.a,h.s,h.c,h.d⟩
def Xv(h:p.Ok)(b:yz W k p.l)(x:I):W.there k 136 (wn x).length/\yz (W.setCells k 136 (wn x)) k { p with m:=x }.l/\{ p with m:=x }.Ok:=by
 let⟨h1,c⟩:=Row.mid (m:=136) (xs:=aA p.a++(aA p.s++(aA p.c++(aA p.d++wn p.u)))) (ys:=wn p.m) (zs:=wn p.t) (us:=wn x) (l':={ p with m:=x }.l) b (by unfold l;simp only[pk]) (by unfold l;simp only[pk]) Z (by simp only[Yx,aB h.a,aB h.s,aB h.c,aB h.d];rfl)
 exact⟨h1,c,h.a,h.s,h.c,h.d⟩
def Xu(h:p.Ok)(b:yz W k p.l)(x:I):W.there k 140 (wn x).length/\yz (W.setCells k 140 (wn x)) k { p with t:=x }.l/\{ p with t:=x }.Ok:=by
 let⟨h1,c⟩:=Row.mid (m:=140) (xs:=aA p.a++(aA p.s++(aA p.c++(aA p.d++(wn p.u++wn p.m))))) (ys:=wn p.t) (zs:=[]) (us:=wn x) (l':={ p with t:=x }.l) b (by unfold l;simp only[pk,po]) (by unfold l;simp only[pk,po]) Z (by simp only[Yx,aB h.a,aB h.s,aB h.c,aB h.d];rfl)
 exact⟨h1,c,h.a,h.s,h.c,h.d⟩
end Rp
def uRd:yZ 137:=yQ
def iRd:gZ 137 144:=gQ
def UP{p:Rp}(h:p.Ok)(w:Yp):(ZM 137 (.agg p.l.toArray)).run prog w=.ok (jZ w.heap.size) (w.alloc (.cells p.l.toArray 137)):=by
 rw[Rp.l,gU h.a,gU h.s,gU h.c,gU h.d];kernel_rfl
def S8{f:I}{L:Bs}{k:R}{g:zb ai}{b:H yv}(c:k.size<=1048576)(i:hZ w r 0 L)(hl:L.size=32)(hT:PartOk w (.slice g d f) b):
 cZ 145 #[jZ r,.string k,.slice g d f] w (Ret λe w'=>e=.tuple #[]/\SP.Only r 0 32 w w'/\hZ w' r 0 (iF L k.data.toList b)):=
 (Dl r L k g d f b w c (SU i) hl hT).mono λ_ _ ⟨h1,l,j⟩=>⟨_,h1,Z,l,SS j⟩
def bgL(V:Bs)(n:I)(A S:Bs):Bs:=jR [102,105,114,115,116] [115,101,99,111,110,100] (iF (iF (newL [114,97,110,103,101]) [99,111,109,109,105,116] V.toList) [98,105,116,115] [aR n 1]) A S
structure BgI(w W:Yp)(k r:I)(p:Rp)(V:Bs)(y z:I)(L:Bs):Prop where
 bl:kZ w W
 r3:yz W k p.l
 r4:yz W (k+1) (aA V)
 r6:yz W (k+2) [jZ r]
 r7:yz W (k+3) (wn y)
 r8:yz W (k+4) (wn z)
 rk:w.heap.size=k/\k+5<=r
 lg:hZ W r 0 L
 ls:L.size=32
section
variable {w W W':Yp}{k r:Nat}{p:Rp}{V:Bs}{y z:Nat}{L L':Bs}
def BgI.lt(h:BgI w W k r p V y z L):r<W.heap.size:=Holds.lt h.lg (by rw[h.ls];decide)
def BgI.grow(h:BgI w W k r p V y z L)(b:kZ W W'):BgI w W' k r p V y z L:=
 ⟨h.bl.trans (b.mono h.bl.size),h.r3.below b,h.r4.below b,h.r6.below b,h.r7.below b,h.r8.below b,h.rk,Holds.below h.lg b h.lt,h.ls⟩
def BgI.say(h:BgI w W k r p V y z L)(b:SP.Only r 0 32 W W')(c:hZ W' r 0 L')(hl:L'.size=32):BgI w W' k r p V y z L':=by
 have e:=h.rk.2;have d:=h.rk.1;exact⟨h.bl.trans (zH b h.bl.size S),h.r3.only b S,h.r4.only b S,h.r6.only b S,h.r7.only b S,h.r8.only b S,h.rk,c,hl⟩
def BgI.put(h:BgI w W k r p V y z L)(b c:I)(j:I)(us:H Yq)(m:j<5)(e:yz (W.setCells (k+j) 0 us) (k+2) [jZ r])(d:yz (W.setCells (k+j) 0 us) (k+3) (wn b))(f:yz (W.setCells (k+j) 0 us) (k+4) (wn c))(l:2<=j):BgI w (W.setCells (k+j) 0 us) k r p V b c L:=by
 have i:=h.rk.2;have g:=h.rk.1;exact⟨RG.below_setCells S _ _ _ h.bl,bB h.r3 S,bB h.r4 S,e,d,f,h.rk,iK h.lg S,h.ls⟩
def BgI.p6(h:BgI w W k r p V y z L)(e:Hid (W.setCells (k+2) 0 [jZ r]=W')):BgI w W' k r p V y z L:=by
 rw[<-e.out];exact h.put y z 2 _ S (h.r6.put Z) (bB h.r7 S) (bB h.r8 S) S
def BgI.p7(h:BgI w W k r p V y z L){b:I}(e:Hid (W.setCells (k+3) 0 (wn b)=W')):BgI w W' k r p V b z L:=by
 rw[<-e.out];exact h.put b z 3 _ S (bB h.r6 S) (h.r7.put Z) (bB h.r8 S) S
def BgI.p8(h:BgI w W k r p V y z L){b:I}(e:Hid (W.setCells (k+4) 0 (wn b)=W')):BgI w W' k r p V y b L:=by
 rw[<-e.out];exact h.put y b 4 _ S (bB h.r6 S) (bB h.r7 S) (h.r8.put Z) S
end
def DV{m c:YW}{P:Zw}{x:Func}{q e:I}{n:H Yq}(t w j:Tmp)(y:x.results=#[.cell t T,.cell w m,.cell j c])(h:yz W k vs)(z:yz W q us)(r:yz W e n)(a:tmps[t]? = F (jZ k))(u:tmps[w]? = F (jZ q))(i:tmps[j]? = F (jZ e))(p:(P.underlying T).map (·.isRow)=F J)(L:(P.info? T).map (·.size)=F vs.length)(f:(P.underlying m).map (·.isRow)=F J)(s:(P.info? m).map (·.size)=F us.length)(b:(P.underlying c).map (·.isRow)=F J)(g:(P.info? c).map (·.size)=F n.length):(results x tmps).run P W=.ok (.tuple #[.agg vs.toArray,.agg us.toArray,.agg n.toArray]) W:=by
 let⟨d,p,hd⟩:=Yu.1 p
 let⟨A,f,o⟩:=Yu.1 f
 let⟨v,b,l⟩:=Yu.1 b
 have h1:=oX (P:=P) W k 0 T vs d h.2.1 p hd L;have K:=oX (P:=P) W q 0 m us A z.2.1 f o s;have C:=oX (P:=P) W e 0 c n v r.2.1 b l g;unfold results;simp[y,a,u,i,h1,K,C,asAddr]
def WU(O:Ord N)(p:Rp)(hp:p.Ok)(V:Bs)(hV:V.size=33)(n:Nat)(hn:n<256)(w:Yp):
 dZ 68 #[.agg p.l.toArray,pvl V,iZ n] w λe w'=>∃r,e=.tuple #[lgV r,nv (chS N (bgL V n p.a p.s)),nv (chS N (aN (bgL V n p.a p.s)))]/\w.heap.size<=r/\hZ w' r 0 (aN (aN (bgL V n p.a p.s))):=by
 obtain⟨L0,h0⟩:=hE (newL [114,97,110,103,101]);obtain⟨L1,a⟩:=hE (iF L0 [99,111,109,109,105,116] V.toList);obtain⟨L2,f⟩:=hE (iF L1 [98,105,116,115] [aR n 1]);have e3:bgL V n p.a p.s=jR [102,105,114,115,116] [115,101,99,111,110,100] L2 p.a p.s:=by unfold bgL;rw[h0.out,a.out,f.out]
 have s0:L0.size=32:=by rw[<-h0.out];exact uY
 have s1:L1.size=32:=by rw[<-a.out];exact bV
 have s2:L2.size=32:=by rw[<-f.out];exact bV
 obtain⟨L3,h9⟩:=hE (jR [102,105,114,115,116] [115,101,99,111,110,100] L2 p.a p.s);obtain⟨L4,x⟩:=hE (aN L3);obtain⟨L5,P⟩:=hE (aN L4);have s4:L4.size=32:=by rw[<-x.out];exact aW
 have s5:L5.size=32:=by rw[<-P.out];exact aW
 obtain⟨y,hy⟩:=hE (chS N L3);obtain⟨z,hz⟩:=hE (chS N L4);rw[e3,h9.out,x.out,P.out,hy.out,hz.out];have HA:E (∀(r:Nat) (W:Yp),hZ W r 0 L2->cZ 146 #[lgV r,.string ⟨#[102,105,114,115,116]⟩,pvl p.a,.string ⟨#[115,101,99,111,110,100]⟩,pvl p.s] W (Ret λe w'=>SP.Only r 0 32 W w'/\hZ w' r 0 L4/\e=nv y)):=λr W h=>by
  rw[<-hy.out,<-x.out,<-h9.out];exact vN O r L2 p.a p.s ⟨#[102,105,114,115,116]⟩ ⟨#[115,101,99,111,110,100]⟩ dC dC hp.a hp.s W h s2
 have HC:E (∀(r:Nat) (W:Yp),hZ W r 0 L4->cZ 147 #[lgV r] W (Ret λe w'=>SP.Only r 0 32 W w'/\hZ w' r 0 L5/\e=nv z)):=λr W h=>by
  rw[<-hz.out,<-P.out];exact AA O r L4 W h s4
 have HN:E (∀W:Yp,dZ 144 #[.string ⟨#[114,97,110,103,101]⟩] W λe w'=>∃r,e=lgV r/\W.heap.size<=r/\r<w'.heap.size/\hZ w' r 0 L0):=λW=>by
  rw[<-h0.out];exact J3 ⟨#[114,97,110,103,101]⟩ W dC
 obtain⟨k,hk⟩:=hE (w.heap.size);obtain⟨w1,X⟩:=hE (lZ w p.l 137);obtain⟨w2,T⟩:=hE (lZ w1 (aA V) 103);obtain⟨w3,M⟩:=hE (w2.alloc (.cells [.pointer G].toArray 145));obtain⟨w4,Q⟩:=hE (lZ w3 (RG.z 4) 49);obtain⟨w5,C⟩:=hE (lZ w4 (RG.z 4) 49);have z1:E (w1.heap.size=k+1):=by rw[<-X.out,YE,hk.out];rfl
 have z2:E (w2.heap.size=k+2):=by rw[<-T.out,YE,z1.out];rfl
 have z3:E (w3.heap.size=k+3):=by rw[<-M.out,YE,z2.out];rfl
 have z4:E (w4.heap.size=k+4):=by rw[<-Q.out,YE,z3.out];rfl
 have z5:E (w5.heap.size=k+5):=by rw[<-C.out,YE,z4.out];rfl
 have f1:=aK hk X;have f2:=aK z1 T;have f3:=aK z2 M;have f4:=aK z3 Q;have f5:=aK z4 C;have h5:=f4.1.trans (f5.1.mono f4.1.size);have h6:=f3.1.trans (h5.mono f3.1.size);have h4:=f2.1.trans (h6.mono f2.1.size);have F:=mk6 (f1.1.trans (h4.mono f1.1.size)) (f1.2.below h4) (f2.2.below h6) (f3.2.below h5) (f4.2.below f5.1) f5.2;obtain⟨vp,he⟩:=hE (Y8 p.l.toArray);obtain⟨vV,h8⟩:=hE (pvl V);have B1:E ((ZM 137 vp).run prog w=.ok (jZ k) w1):=by rw[<-he.out,<-X.out,<-hk.out];exact UP hp w
 have B2:E ((ZM 103 vV).run prog w1=.ok (jZ (k+1)) w2):=by rw[<-h8.out,<-T.out,<-z1.out];exact AP hV w1
 rw[he.out,h8.out];have HP:=mk2 hp hV;go_enter func68,ntmps68;go_wp2_with (first|(refine aG (u:=vp) (v:=jZ k) (w':=w1) Z _ (.tmp 0) Z ?_ ?_ ?_;rfl;exact B1.out)|(refine aG (u:=vV) (v:=jZ (k+1)) (w':=w2) Z _ (.tmp 1) Z ?_ ?_ ?_;rfl;exact B2.out)|(refine alR 6 z2 M ?_)|(refine alR 7 z3 Q ?_)|(refine alR 8 z4 C ?_)|fail)
 refine(HN w5).mono ?_;rintro e w6 ⟨uu,rfl,b,r,rfl,hi,k3,d⟩;obtain⟨w7,hc⟩:=hE (w6.setCells (k+2) 0 [jZ r]);have k0:=mk1 (F.2.2.2.1.below b).2.2;have K7:E (BgI w w7 k r p V 0 0 L0):=by
  rw[z5.out]at hi;rw[<-hc.out];have c:=hk.out;exact⟨RG.below_setCells S _ _ _ (F.1.trans (b.mono F.1.size)),bB (F.2.1.below b) S,bB (F.2.2.1.below b) S,(F.2.2.2.1.below b).put Z,bB (F.2.2.2.2.1.below b) S,bB (F.2.2.2.2.2.below b) S,⟨hk.out,hi⟩,iK d S,s0⟩
 unfold lgV;go_wp2_with (first|(refine stR 6 hc (Hid.mk' Z) k0.out iLg kR ?_)|fail)
 refine AW.begin 4 4 ?_;refine AW.va 0 (jZ (k+2)) ?_;refine AW.va 1 (jZ (k+2)) ?_;refine AW.ce 2 uLp (λW l=>(K7.grow l).r6.2.1 0 _ Z) ?_;refine AW.va 3 (sZ (k+1) 33 33) ?_;refine AW.fc (λl=>S8 (r:=r) (L:=L0) (k:=⟨#[99,111,109,109,105,116]⟩) (g:=(some ⟨k+1,0,G⟩)) (d:=33) (f:=33) (b:=V.toList) dC (K7.grow l).lg s0 (yO HP.2 (K7.grow l).r4)) ?_;rintro e w8 l ⟨rfl,s,d⟩;rw[show(⟨#[99,111,109,109,105,116]⟩:R).data.toList=[99,111,109,109,105,116] from Z,a.out]at d;have K8:=mk1 ((K7.grow l).say s d s1);have c6:=K8.r6.2.1 0 _ Z;have hw:∀W:Yp,(convert 3 5 (iZ n)).run prog W=.ok (.int .u8 (SP.ub (aR n 1))) W:=λW=>by
  have c:=oI n;rw[<-c];rfl
 have HL:=mk1 (rfl:aR n 1=aR n 1);generalize aR n 1=t at f hw;obtain⟨w9,A⟩:=hE (w8.alloc (.cells #[.int .u8 (SP.ub t)] 5));obtain⟨k9,hq⟩:=hE (w8.heap.size);have hm:E ((Z0 23 1 #[(0,.int .u8 (SP.ub t))]).run prog w8=.ok (sZ k9 1 1) w9):=by rw[<-A.out,<-hq.out];show _=_;kernel_rfl
 have f9:E (kZ w8 w9/\yz w9 k9 [.int .u8 (SP.ub t)]):=by rw[<-A.out,<-hq.out];exact⟨aD _,aF (w:=w8) (c:=[.int .u8 (SP.ub t)]) (T:=5)⟩
 have K9:=mk2 (K8.grow f9.1) (show PartOk w9 (sZ k9 1 1) [t] from⟨_,k9,0,1,#[t],Z,Z,Ys _,(by show 1<=1099511627776;decide),YZ ⟨Z,λj hj=>by
  obtain rfl:j=0:=by simp at hj;omega
  exact⟨f9.2.2.1 0 _ Z,(f9.2.2.2 0 yFA).2⟩⟩⟩)
 go_wp2_with (first|(refine inR 20 (I:=(Z0 23 1 #[(0,.int .u8 (SP.ub t))])) hm.out ?_)|fail)
 refine(S8 (r:=r) (L:=L1) (k:=⟨#[98,105,116,115]⟩) (g:=(some (aZ k9))) (d:=1) (f:=1) (b:=[t]) (w:=w9) dC K9.1.lg s1 K9.2).mono ?_;rintro e k2 ⟨uu,rfl,rfl,s,d⟩;rw[show(⟨#[98,105,116,115]⟩:R).data.toList=[98,105,116,115] from Z,f.out]at d;have KA:=mk1 (K9.1.say s d s2);clear K9 s d K8 f9 hm A c6;obtain⟨vl,c⟩:=hE (lgV r);obtain⟨vA,hvA⟩:=hE (pvl p.a);obtain⟨vS,h7⟩:=hE (pvl p.s);have iA:gZ 103 (aA p.a).length:=by rw[aB HP.1.a];exact iCP
 have iS:gZ 103 (aA p.s).length:=by rw[aB HP.1.s];exact iCP
 have H7:=Rp.at7 HP.1 KA.r3.2.1;have K:=mk1 (HA r k2 KA.lg);rw[c.out,hvA.out,h7.out]at K;go_wp2_with (first|(refine ldR 6 KA.r6.2.1 c uLg iLg ?_)|(refine ldR 23 H7.1 hvA uCP iA ?_)|(refine ldR 25 H7.2.1 h7 uCP iS ?_)|fail)
 refine K.mono ?_;clear K H7;rintro e hu ⟨uu,rfl,s,d,rfl⟩;have KB:=mk1 (KA.say s d s4);obtain⟨ha,m⟩:=hE (hu.setCells (k+3) 0 (wn y));obtain⟨vy,g⟩:=hE (nv y);rw[g.out];go_wp2_with (first|(refine stR 7 m g KB.r7.2.2 zy (aM (n:=y)) ?_)|fail)
 have KC:=mk1 (KB.p7 m);refine AW.beg 6 6 (J:=⟨λW=>∃z L,BgI w W k r p V y z L,λ_ _ l ⟨z,L,h⟩=>⟨z,L,h.grow l⟩,true⟩) ⟨_,_,KC.grow ⟨Z,Z,Z,Ys _,λ_ _=>rfl⟩⟩ ?_;refine AW.ro 0 (λW ⟨_,_,h⟩=>h.r6.2.1) c uLg iLg ?_;refine AW.ro 1 (λW ⟨_,_,h⟩=>h.r7.2.1) g u40 zy ?_;refine AW.ro 2 (λW ⟨_,_,h⟩=>h.r6.2.1) c uLg iLg ?_;have KD:=mk1 (KC.grow (W':=ha.drew) ⟨Z,Z,Z,Ys _,λ_ _=>rfl⟩);have h2:=mk1 (HC r ha.drew KD.lg);rw[c.out]at h2;refine AW.cw 3 (λ_=>h2.out) (λe w' _ h=>⟨_,_,KD.say h.1 h.2.1 s5⟩) ?_;rintro e ht ⟨s,d,rfl⟩;have KE:=mk1 (KD.say s d s5);obtain⟨k1,o⟩:=hE (ht.setCells (k+2) 0 [jZ r]);obtain⟨hr,i⟩:=hE (k1.setCells (k+3) 0 (wn y));obtain⟨k4,q⟩:=hE (hr.setCells (k+4) 0 (wn z));have KF:=mk1 (KE.p6 o);have KG:=mk1 (KF.p7 i);have KH:=mk1 (KG.p8 q);obtain⟨vz,hg⟩:=hE (nv z);rw[hg.out];refine AW.ss 4 c kR iLg o (λ_=>⟨KE.r6.2.2,_,_,KF.out⟩) ?_;refine AW.ss 5 g (aM (n:=y)) zy i (λ_=>⟨KF.r7.2.2,_,_,KG.out⟩) ?_;refine AW.fi (us:=wn z) hg (aM (n:=z)) zy (λ_=>⟨KG.r8.2.2,?_⟩);rw[q.out];go_wp2_with fail
 refine YB (DV 6 7 8 (T:=145) (m:=49) (c:=49) Z KH.r6 KH.r7 KH.r8 Z Z Z uLg iLg u40 zy u40 zy) Z ?_;exact⟨_,Z,KH.bl,r,Z,oN KH.rk,KH.lg⟩
structure MdI(w W:Yp)(k r:I)(p:Rp)(y:I)(L:Bs):Prop where
 on:SP.Only r 0 32 w W
 r2:yz W k p.l
 r3:yz W (k+1) [jZ r]
 r4:yz W (k+2) (wn y)
 rk:w.heap.size=k/\r<k
 lg:hZ W r 0 L
 ls:L.size=32
section
variable {w W W':Yp}{k r:Nat}{p:Rp}{y:Nat}{L L':Bs}
def MdI.lt(h:MdI w W k r p y L):r<W.heap.size:=Holds.lt h.lg (by rw[h.ls];decide)
def MdI.grow(h:MdI w W k r p y L)(b:kZ W W'):MdI w W' k r p y L:=
 ⟨h.on.trans (SP.Only.of_below b Z h.lt),h.r2.below b,h.r3.below b,h.r4.below b,h.rk,Holds.below h.lg b h.lt,h.ls⟩
def MdI.say(h:MdI w W k r p y L)(b:SP.Only r 0 32 W W')(c:hZ W' r 0 L')(hl:L'.size=32):MdI w W' k r p y L':=by
 have:=h.rk;exact⟨h.on.trans b,h.r2.only b S,h.r3.only b S,h.r4.only b S,h.rk,c,hl⟩
def MdI.put(h:MdI w W k r p y L){b:I}(e:Hid (W.setCells (k+2) 0 (wn b)=W')):MdI w W' k r p b L:=by
 have:=h.rk;rw[<-e.out];exact⟨LX h.on h.rk.1 h.rk.2 S,bB h.r2 S,bB h.r3 S,h.r4.put Z,h.rk,iK h.lg S,h.ls⟩
def Ni(q:p.Ok)(n:hZ w r 0 L)(hl:L.size=32):∃k c e o,E (w.heap.size=k)/\E (e.heap.size=k+2)/\E (e.alloc (.cells (RG.z 4).toArray 49)=o)/\E ((ZM 137 (.agg p.l.toArray)).run prog w=.ok (jZ k) c)/\E ((ZM 145 (lgV r)).run prog c=.ok (jZ (k+1)) e)/\E (MdI w o k r p 0 L):=by
 have j:=Holds.lt n (by rw[hl];decide);have f1:=aK (T:=137) (Hid.mk' (rfl:w.heap.size=_)) (Hid.mk' (rfl:w.alloc (.cells p.l.toArray 137)=_));have g:(w.alloc (.cells p.l.toArray 137)).heap.size=w.heap.size+1:=YE _ _;have l:=WR r (w.alloc (.cells p.l.toArray 137));generalize m:w.alloc (.cells p.l.toArray 137)=c at f1 g l;have f2:=aK (T:=145) (z:=[jZ r]) (Hid.mk' g) (Hid.mk' Z);have i:(c.alloc (.cells [jZ r].toArray 145)).heap.size=w.heap.size+2:=by rw[YE,g]
 rw[g]at l;have f:(ZM 145 (lgV r)).run prog c=.ok (jZ (w.heap.size+1)) (c.alloc (.cells [jZ r].toArray 145)):=l;generalize c.alloc (.cells [jZ r].toArray 145)=e at f2 i f;have f3:=aK (T:=49) (z:=RG.z 4) (Hid.mk' i) (Hid.mk' Z);refine⟨_,c,e,_,Z,i,Z,?_,f,?_⟩
 .rw[<-m];exact UP q w
 have d:=f2.1.trans (f3.1.mono f2.1.size);have b:=f1.1.trans (d.mono f1.1.size);exact⟨SP.Only.of_below b Z j,f1.2.below d,f2.2.below f3.1,f3.2,⟨Z,j⟩,Holds.below n b j,hl⟩
end
def mdL(L C D:Bs):Bs:=jR [116,104,105,114,100] [102,111,117,114,116,104] L C D
def V9(O:Ord N)(p:Rp)(d:p.Ok)(r:I)(L:Bs)(w:Yp)(hL:hZ w r 0 L)(hl:L.size=32):
 cZ 76 #[.agg p.l.toArray,lgV r] w (Ret λe w'=>SP.Only r 0 32 w w'/\hZ w' r 0 (aN (mdL L p.c p.d))/\e=nv (chS N (mdL L p.c p.d))):=by
 let⟨a,f⟩:=hE (mdL L p.c p.d)
 let⟨t,c⟩:=hE (aN a)
 let⟨x,hx⟩:=hE (chS N a)
 have s2:t.size=32:=c.out▸aW;rw[f.out,c.out,hx.out];have Q:E (∀(W:Yp),hZ W r 0 L->cZ 146 #[lgV r,.string ⟨#[116,104,105,114,100]⟩,pvl p.c,.string ⟨#[102,111,117,114,116,104]⟩,pvl p.d] W (Ret λe w'=>SP.Only r 0 32 W w'/\hZ w' r 0 t/\e=nv x)):=λW h=>by
  rw[<-hx.out,<-c.out,<-f.out];exact vN O r L p.c p.d ⟨#[116,104,105,114,100]⟩ ⟨#[102,111,117,114,116,104]⟩ dC dC d.c d.d W h hl
 let⟨k,w1,P,w3,hk,M,o,C,z,n⟩:=Ni d hL hl
 let⟨V,g⟩:=hE (Y8 p.l.toArray)
 let⟨vl,b⟩:=hE (lgV r)
 let⟨vC,i⟩:=hE (pvl p.c)
 let⟨vD,m⟩:=hE (pvl p.d)
 rw[g.out]at C;have y:=mk1 (Q w3 n.lg);rw[b.out]at z;rw[b.out,i.out,m.out]at y;rw[g.out,b.out];have iC:gZ 103 (aA p.c).length:=by rw[aB d.c];exact iCP
 have T:gZ 103 (aA p.d).length:=by rw[aB d.d];exact iCP
 have A:=mk1 (Rp.at7 d n.r2.2.1);go_enter func76,ntmps76;go_wp2_with (first|(refine aG (u:=V) (v:=jZ k) (w':=w1) Z _ (.tmp 0) Z ?_ ?_ ?_;rfl;exact C)|(refine aG (u:=vl) (v:=jZ (k+1)) (w':=P) Z _ (.tmp 1) Z ?_ ?_ ?_;rfl;exact z)|(refine alR 4 M o ?_)|(refine ldR 3 n.r3.2.1 b uLg iLg ?_)|(refine ldR 6 A.2.2.1 i uCP iC ?_)|(refine ldR 8 A.2.2.2.1 m uCP T ?_)|fail)
 refine y.mono ?_;rintro e K ⟨uu,rfl,X,hH,rfl⟩;have s:=mk1 (n.say X hH s2);let⟨w5,l⟩:=hE (K.setCells (k+2) 0 (wn x))
 have q:=mk1 (s.put l);let⟨vx,j⟩:=hE (nv x)
 rw[j.out];go_wp2_with (first|(refine stR 4 l j s.r4.2.2 zy aM ?_)|fail)
 refine YB (aC 4 Z q.r4 Z u40 zy) Z ?_;exact⟨_,Z,q.on,q.lg,Z⟩
def WM{L:I->Bs}:jP L 3=(L 0).toList++((L 1).toList++(L 2).toList):=by simp[jP,xm]
def J1{B:I}{x:H yv}(h:w.ownsRow B 5 1 v n (x.map encB))(b:0<n)(i:n<=1000000):∃q c,v=.slice q n c/\PartOk w v x:=by
 have hl:x.length=n:=by have:=h.1;rw[YO,ay]at this;exact this
 rcases id h with⟨-,⟨rfl,b⟩|⟨g,cap,cur,rfl,h1,e,m,l,f,o⟩⟩
 .omega
 have hx:x.toArray.size=n:=by rw[Zq];exact hl
 refine⟨_,_,Z,F (aZ g),g,0,cap,x.toArray,by rw[hx],Z,S,S,YZ ⟨Z,λj d=>?_⟩⟩;have k:=h.cells (g:=g) Z j (encB x[j]) (by rw[ZE,YC S];rfl);rw[oW]at k;refine⟨by rw[k,getElem!_pos _ j d];simp;rfl,?_⟩;simp[World.frozen?,e]
def Ya{b:I}:(Z0 24 3 #[(0,r32 g),(1,r32 b),(2,r32 k)]).run prog w=.ok (sZ w.heap.size 3 3) (w.alloc (.cells #[r32 g,r32 b,r32 k] 23)):=kR
def enB(u m t:I):H yv:=(bx u).toList++((bx m).toList++(bx t).toList)
def enL(L:Bs)(u m t:I):Bs:=iF L [115,117,109,115] (enB u m t)
def ElQ.el{m:I}{x:Yq}{b:Bs}(h:ElQ Q m W x b):El m W x b:=by
 obtain⟨k,c,h1,f,d,-,e,g⟩:=h;exact⟨k,c,h1,f,d,e,g⟩
def WF(O:Ord N)(p:Rp)(hp:p.Ok)(hu:p.u<N)(hm:p.m<N)(ht:p.t<N)(r:I)(L:Bs)(w:Yp)(hL:yx encB w r 0 L)(hl:L.size=32):
 Zl prog 81 #[.agg p.l.toArray,lgV r] w (Ret λe w'=>SP.Only r 0 32 w w'/\yx encB w' r 0 (aN (enL L p.u p.m p.t))/\e=nv (chS N (enL L p.u p.m p.t))):=by
 obtain⟨K,c⟩:=hE (enL L p.u p.m p.t);obtain⟨L2,f⟩:=hE (aN K);obtain⟨x,hx⟩:=hE (chS N K);have s1:K.size=32:=by rw[<-c.out];exact bV
 have s2:L2.size=32:=by rw[<-f.out];exact aW
 have HC:E (∀(W:Yp),yx encB W r 0 K->Zl prog 147 #[lgV r] W (Ret λe w'=>SP.Only r 0 32 W w'/\yx encB w' r 0 L2/\e=nv x)):=λW h=>by
  rw[<-hx.out,<-f.out];exact AA O r K W h s1
 rw[c.out,f.out,hx.out];unfold enL enB at c;have d:=λ(a:I) (ha:a<N) (W:Yp)=>iE O ha W
 have b1:=λW=>d p.u hu W
 have b2:=λW=>d p.m hm W
 have b3:=λW=>d p.t ht W
 have sz:∀a:I,(bx a).size=32:=bP;have i:=mk3 (sz p.u) (sz p.m) (sz p.t);have HB:=mk3 b1 b2 b3;clear b1 b2 b3 d hu hm ht sz f hx;generalize bx p.u=o at *;generalize bx p.m=m at *;generalize bx p.t=n at *;obtain⟨vu,C⟩:=hE (nv p.u);obtain⟨vm,V⟩:=hE (nv p.m);obtain⟨vt,P⟩:=hE (nv p.t);rw[C.out,V.out,P.out]at HB;obtain⟨k,w1,w2,w3,hk,z2,h5,B1,B2,l⟩:=Ni hp hL hl;obtain⟨vp,Q⟩:=hE (Y8 p.l.toArray);obtain⟨vl,g⟩:=hE (lgV r);rw[Q.out]at B1;rw[g.out]at B2;rw[Q.out,g.out];clear hL;have HP:=mk1 hp;go_enter func81,ntmps81;go_wp2_with (first|(refine aG (u:=vp) (v:=jZ k) (w':=w1) Z _ (.tmp 0) Z ?_ ?_ ?_;rfl;exact B1.out)|(refine aG (u:=vl) (v:=jZ (k+1)) (w':=w2) Z _ (.tmp 1) Z ?_ ?_ ?_;rfl;exact B2.out)|(refine alR 4 z2 h5 ?_)|fail)
 have n3:E (k+1≠r):=by have:=l.rk;show _≠_;omega
 have n2:E (k≠r):=by have:=l.rk;show _≠_;omega
 refine AW.beg 14 14 (J:=(Iv.only l.lt)) (SP.Only.of_below (⟨Z,Z,Z,Ys _,λ_ _=>rfl⟩:kZ w3 w3.drew) Z l.lt) ?_;refine AW.va 0 (jZ (k+1)) ?_;refine AW.va 1 (jZ (k+1)) ?_;refine AW.ce 2 uLp (λW b=>(l.r3.only b n3.out).2.1 0 _ Z) ?_;refine AW.va 3 (oZ k 132) ?_;refine AW.ro 4 (λW b=>(Rp.at7 HP.out (l.r2.only b n2.out).2.1).2.2.2.2.1) C u40 zy ?_;refine AW.va 6 (oZ k 136) ?_;refine AW.ro 7 (λW b=>(Rp.at7 HP.out (l.r2.only b n2.out).2.1).2.2.2.2.2.1) V u40 zy ?_;refine AW.va 9 (oZ k 140) ?_;refine AW.ro 10 (λW b=>(Rp.at7 HP.out (l.r2.only b n2.out).2.1).2.2.2.2.2.2) P u40 zy ?_;refine AW.ca 5 (λ_=>HB.1 _) (λe w' h=>h.1) ?_;rintro e w4 ⟨t,h6,g1,rfl⟩;refine AW.ca 8 (λ_=>HB.2.1 _) (λe w' h=>h.1) ?_;rintro e w5 ⟨z,he,M,rfl⟩;refine AW.ca 11 (λ_=>HB.2.2 _) (λe w' h=>h.1) ?_;rintro e T ⟨h0,h7,A,rfl⟩;have y:=aD (w:=T) (.cells #[r32 g1,r32 M,r32 A] 23);have ra:=aF (w:=T) (c:=[r32 g1,r32 M,r32 A]) (T:=23);have q:=z.trans (h0.mono z.size);refine AW.ns 12 (Ya (g:=g1) (b:=M) (k:=A) (w:=T)) y ?_;have s:=mk1 (NV T.heap.size 3 3 (λj=>if j=0 then o else if j=1 then m else n) dC (λj hj=>by
  match j,hj with
  | 0,_=>show o.size<=10000;rw[i.1];decide
  | 1,_=>show m.size<=10000;rw[i.2.1];decide
  | 2,_=>show n.size<=10000;rw[i.2.2];decide) (T.alloc (.cells #[r32 g1,r32 M,r32 A] 23)) ra.1 λj hj=>by
  match j,hj with
  | 0,_=>exact⟨r32 g1,ra.2.1 0 _ Z,by show El o.size _ _ o;rw[i.1];exact((h6.keep (Kq.of_below q)).keep (Kq.of_below y)).el⟩
  | 1,_=>exact⟨r32 M,ra.2.1 1 _ Z,by show El m.size _ _ m;rw[i.2.1];exact((he.keep (Kq.of_below h0)).keep (Kq.of_below y)).el⟩
  | 2,_=>exact⟨r32 A,ra.2.1 2 _ Z,by show El n.size _ _ n;rw[i.2.2];exact(h7.keep (Kq.of_below y)).el⟩)
 have h4:(jP (λj=>if j=0 then o else if j=1 then m else n) 3)=o.toList++(m.toList++n.toList):=WM;rw[h4]at s;have hb:(o.toList++(m.toList++n.toList)).length=96:=by simp only[Yx,yt.length_toList,i.1,i.2.1,i.2.2]
 generalize o.toList++(m.toList++n.toList)=xx at *;rw[hb]at s;have h3:=mk1 (((YH _ w3).drew.trans (t.trans (q.mono t.size))).trans (y.mono (YA t.size q.size)));refine AW.ca 13 (λ_=>s.out) (λe w' h=>h.1) ?_;rintro e w8 ⟨h9,h8⟩;obtain⟨qa,qc,rfl,hc⟩:=J1 h8 dC dC;have K8:=mk1 (l.grow (h3.trans (h9.mono h3.size)));refine AW.cw 14 (λ_=>S8 (r:=r) (L:=L) (k:=⟨#[115,117,109,115]⟩) (g:=qa) (d:=96) (f:=qc) (b:=xx) (w:=w8) dC K8.lg hl hc) (λe w' hI h=>hI.trans h.2.1) ?_;rintro e w9 ⟨rfl,b,hH⟩;rw[show(⟨#[115,117,109,115]⟩:R).data.toList=[115,117,109,115] from Z,c.out]at hH;have K9:=mk1 (K8.say b hH s1);refine AW.dn λ_=>?_
 have HD:=mk1 (HC w9 K9.lg);rw[g.out]at HD;go_wp2_with (first|(refine ldR 3 K9.r3.2.1 g uLg iLg ?_)|fail)
 refine HD.mono ?_;rintro e wA ⟨uu,rfl,b,hH,rfl⟩;have KA:=mk1 (K9.say b hH s2);obtain⟨wB,h2⟩:=hE (wA.setCells (k+2) 0 (wn x));have KB:=mk1 (KA.put h2);obtain⟨vx,X⟩:=hE (nv x);rw[X.out];go_wp2_with (first|(refine stR 4 h2 X KA.r4.2.2 zy (aM (n:=x)) ?_)|fail)
 refine YB (aC 4 (T:=49) Z KB.r4 Z u40 zy) Z ?_;exact⟨_,Z,KB.on,KB.lg,Z⟩
def uAr:yZ 28:=yQ
def iAr:gZ 28 11:=gQ
def WS{a b c d:Yq}:(ZM 26 (.agg #[a,b,c,d])).run prog w=.ok (jZ w.heap.size) (w.alloc (.cells #[a,b,c,d] 26)):=kR
def z11:H Yq:=H.replicate 11 nZ
structure RgT(Q:I->Prop)(W:Yp)(p:Rp)(a b c d e f g:I):Prop where
 a:ElQ Q 33 W (r33 a) p.a
 b:ElQ Q 33 W (r33 b) p.s
 c:ElQ Q 33 W (r33 c) p.c
 d:ElQ Q 33 W (r33 d) p.d
 e:ElQ Q 32 W (r32 e) (bx p.u)
 f:ElQ Q 32 W (r32 f) (bx p.m)
 g:ElQ Q 32 W (r32 g) (bx p.t)
def RgT.keep{p:Rp}{a b e f:I}(h:RgT Q W p a b c d e f g)(k:Kq Q W W'):RgT Q W' p a b c d e f g:=⟨h.a.keep k,h.b.keep k,h.c.keep k,h.d.keep k,h.e.keep k,h.f.keep k,h.g.keep k⟩
def RgT.mono2{p:Rp}{a b e f:I}(h:RgT Q W p a b c d e f g)(k:∀g,g<W.heap.size->Q g->Q' g):RgT Q' W p a b c d e f g:=⟨h.a.mono2 k,h.b.mono2 k,h.c.mono2 k,h.d.mono2 k,h.e.mono2 k,h.f.mono2 k,h.g.mono2 k⟩
def Up7(B a b c d u m t E:I):Prop:=B<=a/\a<b/\b<c/\c<d/\d<u/\u<m/\m<t/\t<E
def ElQ.blk{B m:I}{x:Bs}(h:ElQ (B<=·) m W (sZ g n c) x):B<=g/\g<W.heap.size:=by
 obtain⟨k,c',h1,-,-,b,d,-⟩:=h;obtain rfl:=YR.inj (congrArg tz h1);exact⟨b,d⟩
def SL(O:Ord N)(p:Rp)(hp:p.Ok)(hu:p.u<N)(hm:p.m<N)(ht:p.t<N)(s l x o:Yq)(h1:s.oneCell'=J/\l.oneCell'=J/\x.oneCell'=J/\o.oneCell'=J)(w:Yp):
 dZ 82 #[.agg p.l.toArray,.agg #[s,l,x,o]] w λe w'=>∃a b c d u m t,e=.agg #[r33 a,r33 b,r33 c,r33 d,r32 u,r32 m,r32 t,s,l,x,o]/\RgT (w.heap.size<=·) w' p a b c d u m t/\Up7 w.heap.size a b c d u m t w'.heap.size:=by
 have M:=mk7 (λW=>iI hp.a (w:=W)) (λW=>iI hp.s (w:=W)) (λW=>iI hp.c (w:=W)) (λW=>iI hp.d (w:=W)) (λW=>iE O hu W) (λW=>iE O hm W) (λW=>iE O ht W);obtain⟨va,hn⟩:=hE (pvl p.a);obtain⟨vs,ha⟩:=hE (pvl p.s);obtain⟨vc,h9⟩:=hE (pvl p.c);obtain⟨vd,he⟩:=hE (pvl p.d);obtain⟨vu,h7⟩:=hE (nv p.u);obtain⟨vm,hj⟩:=hE (nv p.m);obtain⟨vt,hc⟩:=hE (nv p.t);rw[hn.out,ha.out,h9.out,he.out,h7.out,hj.out,hc.out]at M;have iP:∀ {b:Bs},b.size=33->gZ 103 (aA b).length:=λh=>by rw[aB h];exact iCP
 obtain⟨k,hk⟩:=hE (w.heap.size);obtain⟨w1,h3⟩:=hE (lZ w p.l 137);obtain⟨k3,Q⟩:=hE (w1.heap.size);obtain⟨w2,h2⟩:=hE (w1.alloc (.cells [s,l,x,o].toArray 26));obtain⟨k4,h6⟩:=hE (w2.heap.size);obtain⟨r,h8⟩:=hE (lZ w2 z11 28);have F:=QJ hk h3 Q h2 h6 h8;have hr:w.heap.size<=k4/\k4<r.heap.size:=⟨h6.out▸YA (aK hk h3).1.size (aK Q h2).1.size,F.2.2.2.1⟩
 have i:=mk2 hr h1;obtain⟨vp,hi⟩:=hE (Y8 p.l.toArray);obtain⟨vi,n⟩:=hE (Y8 #[s,l,x,o]);have B1:E ((ZM 137 vp).run prog w=.ok (jZ k) w1):=hi.out▸h3.out▸hk.out▸UP hp w;have B2:E ((ZM 26 vi).run prog w1=.ok (jZ k3) w2):=n.out▸h2.out▸Q.out▸WS (w:=w1);have HP:=mk1 hp;rw[hi.out,n.out];go_enter func82,ntmps82;go_wp2_with (first|(refine aG (u:=vp) (v:=jZ k) (w':=w1) Z _ (.tmp 0) Z ?_ ?_ ?_;rfl;exact B1)|(refine aG (u:=vi) (v:=jZ k3) (w':=w2) Z _ (.tmp 1) Z ?_ ?_ ?_;rfl;exact B2)|(refine alR 4 h6 h8 ?_)|fail)
 have H7:∀W,kZ r W->_:=λW f=>Rp.at7 HP (F.2.1.below f).2.1
 refine AW.begin 23 23 ?_;refine AW.va 0 (jZ k) ?_;refine AW.ro 1 (λW f=>(H7 W f).1) hn uCP (iP HP.a) ?_;refine AW.va 3 (oZ k 33) ?_;refine AW.ro 4 (λW f=>(H7 W f).2.1) ha uCP (iP HP.s) ?_;refine AW.va 6 (oZ k 66) ?_;refine AW.ro 7 (λW f=>(H7 W f).2.2.1) h9 uCP (iP HP.c) ?_;refine AW.va 9 (oZ k 99) ?_;refine AW.ro 10 (λW f=>(H7 W f).2.2.2.1) he uCP (iP HP.d) ?_;refine AW.va 12 (oZ k 132) ?_;refine AW.ro 13 (λW f=>(H7 W f).2.2.2.2.1) h7 u40 zy ?_;refine AW.va 15 (oZ k 136) ?_;refine AW.ro 16 (λW f=>(H7 W f).2.2.2.2.2.1) hj u40 zy ?_;refine AW.va 18 (oZ k 140) ?_;refine AW.ro 19 (λW f=>(H7 W f).2.2.2.2.2.2) hc u40 zy ?_;refine AW.ro 21 (λW f=>(F.2.2.1.below f).2.1) n SI Ul ?_;refine AW.ca 2 (λ_=>M.1 _) (λe w' h=>h.1) ?_;rintro e w4 ⟨hq,E1,y,rfl⟩;refine AW.ca 5 (λ_=>M.2.1 _) (λe w' h=>h.1) ?_;rintro e w5 ⟨V,E2,K,rfl⟩;refine AW.ca 8 (λ_=>M.2.2.1 _) (λe w' h=>h.1) ?_;rintro e w6 ⟨h5,E3,z,rfl⟩;refine AW.ca 11 (λ_=>M.2.2.2.1 _) (λe w' h=>h.1) ?_;rintro e w7 ⟨X,E4,P,rfl⟩;refine AW.ca 14 (λ_=>M.2.2.2.2.1 _) (λe w' h=>h.1) ?_;rintro e w8 ⟨h4,E5,C,rfl⟩;refine AW.ca 17 (λ_=>M.2.2.2.2.2.1 _) (λe w' h=>h.1) ?_;rintro e w9 ⟨h0,E6,A,rfl⟩;refine AW.ca 20 (λ_=>M.2.2.2.2.2.2 _) (λe w' h=>h.1) ?_;rintro e wA ⟨hw,E7,L,rfl⟩;rw[<-n.out];refine AW.nx 22 (.agg #[r33 y,r33 K,r33 z,r33 P,r32 C,r32 A,r32 L,s,l,x,o]) ?_;have b9:=hw;have b8:=h0.trans (b9.mono h0.size);have b7:=h4.trans (b8.mono h4.size);have b6:=X.trans (b7.mono X.size);have b5:=h5.trans (b6.mono h5.size);have s3:=hq.size;have q:∀ {W:Yp}{m:I}{v:Yq}{b:Bs},r.heap.size<=W.heap.size->ElQ (W.heap.size<=·) m wA v b->ElQ (r.heap.size<=·) m wA v b:=λhW h=>h.mono2 λg _ hg=>YA hW hg
 have t5:=YA s3 V.size;have t6:=YA t5 h5.size;have t7:=YA t6 X.size;have t8:=YA t7 h4.size;have U0:Up7 r.heap.size y K z P C A L wA.heap.size:=by
  have u1:r.heap.size<=y:=E1.blk.1;have:=E1.blk.2;have:=E2.blk;have:=E3.blk;have:=E4.blk;have:=E5.blk;have:=E6.blk;have:=E7.blk
  unfold Up7;omega
 have U:=mk1 U0;have T:E (RgT (r.heap.size<=·) wA p y K z P C A L):=⟨(E1.keep (Kq.of_below (V.trans (b5.mono V.size)))).mono2 λg _ hg=>hg,q s3 (E2.keep (Kq.of_below b5)),q t5 (E3.keep (Kq.of_below b6)),q t6 (E4.keep (Kq.of_below b7)),q t7 (E5.keep (Kq.of_below b8)),q t8 (E6.keep (Kq.of_below b9)),q (YA t8 h0.size) E7⟩
 refine AW.fi (us:=[r33 y,r33 K,r33 z,r33 P,r32 C,r32 A,r32 L,s,l,x,o]) (Hid.mk' Z) (by simp only[H.all_toArray,H.all_cons,H.all_nil,i.2.1,i.2.2.1,i.2.2.2.1,i.2.2.2.2,show ∀g,(r33 g).oneCell'=J from λ_=>rfl,show ∀g,(r32 g).oneCell'=J from λ_=>rfl,zk.and_true]) iAr (λf=>?_);obtain⟨wB,j⟩:=hE (wA.setCells k4 0 [r33 y,r33 K,r33 z,r33 P,r32 C,r32 A,r32 L,s,l,x,o]);have r4:=F.2.2.2.below f;have KE:E (wA.there k4 0 11/\yz wB k4 [r33 y,r33 K,r33 z,r33 P,r32 C,r32 A,r32 L,s,l,x,o]/\kZ w wB/\RgT (w.heap.size<=·) wB p y K z P C A L/\Up7 w.heap.size y K z P C A L wB.heap.size):=by
  have kq:Kq (r.heap.size<=·) wA wB:=by rw[<-j.out];exact Kq.set λg hg=>oN i.1
  refine⟨r4.2.2,j.out▸r4.put Z,j.out▸RG.below_setCells i.1.1 _ _ _ (F.1.trans (f.mono F.1.size)),(T.keep kq).mono2 λg _ hg=>YA F.1.size hg,YA F.1.size U.1,by rw[<-j.out,setCells_size];exact U.2⟩
 rw[j.out];refine⟨KE.1,?_⟩;go_wp2_with fail
 refine YB (aC 4 (T:=28) Z KE.2.1 Z uAr iAr) Z ?_;exact⟨_,Z,KE.2.2.1,_,_,_,_,_,_,_,Z,KE.2.2.2⟩
namespace Mp
variable {w W W':Yp}{rs rs':List (Nat × List Yq)}{S S':List Pq}{k r i:Nat}{c c':List Yq}{L L':Bs}
def wk(h:Mp w W rs S)(i:I)(d:rs[i]? = F (k,c):=by rfl):∃c,Mp w W (rs.set i (k,c)) S:=⟨c,by
 let⟨h1,b⟩:=YF.1 d
 rw[<-b,H.set_getElem_self];exact h⟩
end Mp
abbrev Iv.mx(w:Yp)(rs:H (I × H Yq))(S:H Pq)(i k:I)(b:zk):Iv:=⟨λW=>∃c,Mp w W (rs.set i (k,c)) S,λ_ _ d ⟨c,h⟩=>⟨c,h.grow d⟩,b⟩
section
open SPA
variable {N:Nat}[NeZero N]{M:Type}
structure Rv(N:I) where
 v:I
 n:I
 s:I->B N
 q:I->B N
 al:B N
 rho:B N
 t1:B N
 t2:B N
 k:B N
 y:B N
 z:B N
 x:B N
 w:B N
namespace Rv
variable (R:Rv N)
def l(i:I):B N:=btF N R.v i
def m(i:I):B N:=btF N R.v i-1
def a0(i:I):B N:=R.l i+-R.z
def sh(i:I):B N:=R.z*pwF R.y i+R.z*R.z*pwF (ofF N 2) i
def b0(i:I):B N:=R.m i*pwF R.y i+R.sh i
def b1(i:I):B N:=R.q i*pwF R.y i
def a(i:I):B N:=R.a0 i+R.s i*R.x
def b(i:I):B N:=R.b0 i+R.b1 i*R.x
def c1:B N:=Md.pr R.a0 R.b1 R.n+Md.pr R.s R.b0 R.n
def c2:B N:=Md.pr R.s R.b1 R.n
def t:B N:=Md.pr R.a R.b R.n
def tau:B N:=R.t1*R.x+R.t2*R.x*R.x+R.z*R.z*R.k
def mu:B N:=R.al+R.rho*R.x
variable (D:Md N M) (G H U:M) (g k:Nat->M)
def pA:M:=D.ad (D.ac R.al G) (D.ad (D.dt R.l g R.n) (D.dt R.m k R.n))
def pS:M:=D.ad (D.ac R.rho G) (D.ad (D.dt R.s g R.n) (D.dt R.q k R.n))
def pV:M:=D.cm H G (ofF N R.v) R.k
def p1:M:=D.cm H G R.c1 R.t1
def p2:M:=D.cm H G R.c2 R.t2
def hh(i:I):M:=D.ac (pwF (ivF R.y) i) (k i)
def rg:Md.Rg (B N):=rgF R.v R.s R.q R.y (ivF R.y) R.z R.x
def X3:R.rg.a0=R.a0:=funext λi=>by
 show R.l i-R.z=R.l i+-R.z;grind
def X2:R.rg.b0=R.b0:=funext λi=>by
 show pwF R.y i*(R.m i+R.z)+R.z*R.z*pwF (ofF N 2) i=R.m i*pwF R.y i+(R.z*pwF R.y i+R.z*R.z*pwF (ofF N 2) i);grind
def X1:R.rg.b1=R.b1:=funext λi=>by
 show pwF R.y i*R.q i=R.q i*pwF R.y i;grind
end Rv
end
section
open Go.Shelf
section
variable {P:Zw}{ops:Array Y9}{rest:List Y9}{op:Y9}{a:Act}{w w':Yp}{v:Yq}{Q:Exit->Act->Yp->Prop}
def wpList_build(b:op.guard=G)(e:YW)(n:I)(k:yt (I × am))(_:op.op=.buildSlice e n k)(d:(Za a.eval op).run P w=.ok (.value v) w')(h:wpList P ops Q rest (a.put op.dst v) w'):wpList P ops Q (op :: rest) a w:=
 gH b λK c=>by
  rw[ZY,d];exact c _ _ h
end
variable {P:Nat}[NeZero P]
def dQ:R:=⟨#[118,97,108,117,101]⟩
noncomputable def cmt (P:I) [NeZero P] (n m:I):EC.Pt P:=tot (λj=>if j=0 then .some (hpt P dQ []) else gG P) 2 (λj=>if j=0 then(n:Y) else(m:Y))
def Fh(P:I)[NeZero P](N:I)(w:Yp)(k bs:Bs)(e:Yq)(w':Yp):Prop:=match rq N k,rq N bs with
 | some n,F m=>Ll w (wr (cmt P n m)) e w'
 | _,_=>OI 3 e
def OZ{b:Yq}{bs k:Bs}(T:YW)(h:Arg w v bs)(e:Arg w b k):xT (w.alloc (.cells #[v,b] T)) (F (aZ w.heap.size)) 2 (λj=>if j=0 then bs else k):=λ_ =>
 ⟨w.heap.size,Z,by rw[YE];omega,λj f=>by
  have d:=(Made.alloc w [v,b] T).range;have c:j=0\/j=1:=S;rcases c with rfl|rfl
  .exact⟨v,d 0 _ Z,h.below (aD _)⟩
  exact⟨b,d 1 _ Z,e.below (aD _)⟩⟩
def MW:PartOk w nZ []:=⟨G,0,0,0,#[],Z,Z,Ys _,dC,Y3 Z⟩
def BI{q:B P × B P}:Pair q.1 q.2 (.some q:EC.Pt P):=⟨Z,Z⟩
def UH(C : At P){m:I}(hn : n < top)(hm : m < top){ns : I -> I}{xs ys : I -> B P}(h0 : ns 0 = n)(h1 : ns 1 = m)(hx0 : xs 0 = (hpt P dQ []).1)(hy0 : ys 0 = (hpt P dQ []).2)(hx1 : xs 1 = gX P)(hy1 : ys 1 = gY P):
    vQ (ptP (jO ns xs ys 2 257)).1 (ptP (jO ns xs ys 2 257)).2 = wr (cmt P n m) := by
  have hJ := Dy C (N := 2) (ns := ns) (xs := xs) (ys := ys) (p := λj => if j = 0 then(.some (hpt P dQ []) : EC.Pt P) else gG P)
    (fun j hj => by have : j = 0 ∨ j = 1 := S
                    rcases this with rfl | rfl
                    · rw [h0]; exact hn
                    rw [h1]; exact hm)
    (fun j hj => by have : j = 0 ∨ j = 1 := S
                    rcases this with rfl | rfl
                    · rw [hx0, hy0]; exact BI
                    rw [hx1, hy1]; exact BI (q:=(gX P, gY P)))
    (fun j hj => by have : j = 0 ∨ j = 1 := S
                    rcases this with rfl | rfl
                    · exact zX C
                    exact Ae C)
  have e1 := xO C (hJ.pair C) hJ.2;have e2 : tot (λj => if j = 0 then(.some (hpt P dQ []) : EC.Pt P) else gG P) 2 (λj => (ns j : Y)) = cmt P n m := eJ 2 λj hj => by
    have : j = 0 \/ j = 1 := S;rcases this with rfl | rfl
    · rw [h0]; rfl
    rw [h1]; rfl
  rw [e2]at e1;exact e1
def OL(C:At P)(hG:Gap 4624529908474429119 4994812053365940164 1 N)(hN:N<=top)(v0 v1:Yq)(p bs:Bs)(w:Yp)(h0:Arg w v0 p)(h1:Arg w v1 bs):
 dZ 11 #[v0,v1] w λe w'=>Fh P N w p bs e w':=by
 have hA:=OZ 23 h0 h1;obtain⟨p0,n0,c0,rfl,-,-⟩:=h0;obtain⟨p1,n1,c1,rfl,-,-⟩:=h1;have hS:=Sq hG 2 2 dC _ _ _ hA;go_enter func11,ntmps11;go_wp2_with fail
 refine hS.mono ?_;rintro e o ⟨v,rfl,h6,⟨k,ht,hg,rfl,a⟩|⟨⟨j,X,b⟩,rfl⟩⟩
 .obtain⟨n,hn,he⟩:=a 0 dC;obtain⟨m,hm,hr⟩:=a 1 dC;have HB:=mk1 ((aD (w:=w) _).trans (h6.mono (by rw[YE];omega)));have HK:=mk3 hg he hr;have O:E (rq N p=F n/\rq N bs=F m):=⟨hn,hm⟩
  go_wp2_with fail
  refine(yX (k:=dQ) (a:=G) (m:=0) (c:=0) (w:=o)).mono ?_;rintro e w2 ⟨v,rfl,rfl,rfl⟩;have hF:=BR C dQ (a:=G) (m:=0) (c:=0) (b:=[]) (w:=o) dC (MW (w:=o));obtain⟨q,hq⟩:=hE (hpt P dQ []);rw[hq.out]at hF;obtain⟨x,y⟩:=q;obtain⟨gx,h4⟩:=hE (gX P);obtain⟨u,h7⟩:=hE (gY P);have K:=Hy C;rw[h4.out,h7.out]at K;obtain⟨v4,h5⟩:=hE (pv x y);obtain⟨v5,Q⟩:=hE (pv gx u);replace hF:cZ 49 #[.func (.func 112) #[] #[jZ o.heap.size,jZ (o.heap.size+1)]] ((o.alloc (.cells #[.string dQ] 9)).alloc (.cells #[nZ] 23)) (rZ o λe w'=>e=v4):=by rw[<-h5.out];exact hF
  rw[Q.out]at K;go_wp2_with fail
  refine hF.mono ?_;rintro e w3 ⟨v,rfl,t,rfl⟩;have V:=mk1 (HB.out.trans (t.mono HB.out.size));have c:=mk3 (Yr HK.out.1 t.size) (RG.range_below HK.out.2.1 t HK.out.1) (RG.range_below HK.out.2.2 t HK.out.1);go_wp2_with fail
  refine(K _).mono ?_;rintro e L ⟨v,rfl,r,rfl⟩;have h3:=mk1 (V.out.trans (r.mono V.out.size));have f:=mk3 (Yr c.out.1 r.size) (RG.range_below c.out.2.1 r c.out.1) (RG.range_below c.out.2.2 r c.out.1);obtain⟨l,W⟩:=hE (L.alloc (.cells ((ws x++ws y)++(ws gx++ws u)).toArray 93));go_wp2_with (refine wpList_build (v:=sZ L.heap.size 2 2) (w':=l) Z 100 2 _ Z ?_ ?_;rw[<-W.out,<-h5.out,<-Q.out];kernel_rfl;refine ru ?_)
  have M:E (kZ w l/\k<l.heap.size/\L.heap.size<l.heap.size/\(∀i,i<2->l.rangeAt k (4*i) (wn (if i=0 then n else m)))/\∀i,i<2->l.rangeAt L.heap.size (8*i) (ws (if i=0 then x else gx)++ws (if i=0 then y else u))):=by
   have d:=Made.alloc L ((ws x++ws y)++(ws gx++ws u)) 93;have hw:=W.out;rw[hw]at d;refine⟨h3.out.trans (d.bel.mono h3.out.size),Yr f.out.1 d.bel.size,d.lt,λi T=>?_,λi T=>?_⟩
   .have:i=0\/i=1:=S;rcases this with rfl|rfl
    .exact RG.range_below f.out.2.1 d.bel f.out.1
    exact RG.range_below f.out.2.2 d.bel f.out.1
   have:i=0\/i=1:=S;rcases this with rfl|rfl
   .intro j v X;have A:=(YF.1 X).1;have:=d.range j v (by rw[Zc (show j<(ws x++ws y).length from A)];exact X);exact this
   intro j v X;have:=d.range (8+j) v (by rw[Zx (show(ws x++ws y).length<=8+j from I.le_add_right 8 j),show 8+j-(ws x++ws y).length=j from tT 8 j];exact X);rw[Yv]at this;exact this
  show wpList _ _ _ _ _ _;have hS:eZ 48 #[sZ k 2 2,sZ L.heap.size 2 2] l (pv (ptP (jO (λi=>if i=0 then n else m) (λi=>if i=0 then x else gx) (λi=>if i=0 then y else u) 2 257)).1 (ptP (jO (λi=>if i=0 then n else m) (λi=>if i=0 then x else gx) (λi=>if i=0 then y else u) 2 257)).2):=by
   refine(LK C 2 dC (λi=>if i=0 then n else m) (λi=>if i=0 then x else gx) (λi=>if i=0 then y else u) (λi T=>?_) k L.heap.size l M.out.2.1 M.out.2.2.1 M.out.2.2.2.1 M.out.2.2.2.2).mono ?_
   .have:i=0\/i=1:=S;rcases this with rfl|rfl
    .exact yM hN O.out.1
    exact yM hN O.out.2
   rintro e w' ⟨v,rfl,d,s,rfl,rfl⟩;exact⟨_,Z,d,Z⟩
  have hW:=UH C (n:=n) (m:=m) (yM hN O.out.1) (yM hN O.out.2) (ns:=λi=>if i=0 then n else m) (xs:=λi=>if i=0 then x else gx) (ys:=λi=>if i=0 then y else u) Z Z (by rw[hq.out];rfl) (by rw[hq.out];rfl) (by rw[h4.out];rfl) (by rw[h7.out];rfl);generalize ptP (jO (λi=>if i=0 then n else m) (λi=>if i=0 then x else gx) (λi=>if i=0 then y else u) 2 257)=z at hS hW;have h2:∀w,dZ 52 #[pv z.1 z.2] w λe w'=>mY w (vQ z.1 z.2) e w':=xN C
  rw[hW]at h2;go_wp2_with fail
  refine hS.mono ?_;rintro e w6 ⟨v,rfl,hk,rfl⟩;have A:=mk1 (M.out.1.trans (hk.mono M.out.1.size));go_wp2_with fail
  refine(h2 _).mono ?_;rintro e w7 ⟨v,rfl,ha,g,d,rfl,hp,h8,T,hc⟩;have h9:=mk1 (A.out.trans (ha.mono A.out.size));have HO:E (Fh P N w p bs (.tuple #[sZ g 33 d,iZ 0]) w7):=by
   show Fh P N w p bs (.tuple #[sZ g 33 d,iZ 0]) w7;unfold Fh;rw[O.out.1,O.out.2];exact⟨g,d,Z,hp,YA A.out.size h8,T,hc⟩
  go_wp2
  go_ret2
  exact⟨_,Z,h9.out,HO.out⟩
 have HB:=mk1 ((aD (w:=w) _).trans (h6.mono (by rw[YE];omega)));have HO:E (Fh P N w p bs (.tuple #[nZ,iZ 3]) o):=by
  show Fh P N w p bs (.tuple #[nZ,iZ 3]) o;unfold Fh;have:j=0\/j=1:=S;rcases this with rfl|rfl
  .have b:rq N p=G:=b;rw[b];rfl
  have b:rq N bs=G:=b;rw[b];cases rq N p<;>rfl
 go_wp2
 go_ret2
 exact⟨_,Z,HB.out,HO.out⟩
end
def FW(O:Ord N)(k:n<N):rq N (bx n)=F n:=by
 rw[rq,Df (Yr k O.le),zd ⟨bP n,k⟩]
def Ez(W:Yp)(v:Yq)(T:Bs):Prop:=∃g c,v=sZ g 33 c/\33<=c/\g<W.heap.size/\hZ W g 0 T
def Ez.grow{T:Bs}(h:Ez W v T)(b:kZ W W'):Ez W' v T:=by
 let⟨g,c,h1,e,k,d⟩:=h
 exact⟨g,c,h1,e,Yr k b.size,Holds.below d b k⟩
def Et(W:Yp)(v:Yq)(T:Bs):Prop:=∃u,v=.tuple #[u,iZ 0]/\Ez W u T
section
variable (w:Yp) (k2 k3 k4 a b:Nat) (T:Bs)
def RC1:I->Yq->Yp->Prop
 | 0,v,_=>v=nv a
 | 1,v,W=>El 32 W v (bx a)
 | 2,v,_=>v=nv b
 | 3,v,W=>El 32 W v (bx b)
 | 4,v,W=>Et W v T
 | 5,v,W=>Et W v T
 | 6,v,W=>Ez W v T
 | 7,v,_=>v=iZ 0
 | 8,v,W=>Ez W v T
 | 9,v,_=>v=iZ 0
 | _,_,_=>True
def GC1:Gw:=⟨RC1 a b T,λW=>Kp w W [(k4,z33),(k3,wn b),(k2,wn a)],λi v W W' k h=>by
 match i,h with
 | 0,h=>exact h
 | 1,h=>exact El.below h k (Ys _)
 | 2,h=>exact h
 | 3,h=>exact El.below h k (Ys _)
 | 4,h=>let⟨u,h1,c⟩:=h;exact⟨u,h1,c.grow k⟩
 | 5,h=>let⟨u,h1,c⟩:=h;exact⟨u,h1,c.grow k⟩
 | 6,h=>exact Ez.grow h k
 | 7,h=>exact h
 | 8,h=>exact Ez.grow h k
 | 9,h=>exact h
 | _+10,_=>trivial,λW W' k h=>h.grow k⟩
end
def vP(C:At P)(O:Ord N){a b:I}(ha:a<N)(hb:b<N):yy 69 #[nv a,nv b] (pvl (wr (cmt P a b))):=by
 intro w;obtain⟨T,hT⟩:=hE (wr (cmt P a b));have L:T.size=33:=by rw[<-hT.out];exact aY _
 have s:=mk3 O ha hb;have HC:E (∀(v0 v1:Yq) (W:Yp),El 32 W v0 (bx a)->El 32 W v1 (bx b)->Zl prog 11 #[v0,v1] W (rZ W λe w'=>Et w' e T)):=λv0 v1 W h0 h1=>by
  apply(OL (N:=N) C O.gap O.le v0 v1 (bx a) (bx b) W h0.arg h1.arg).mono;rintro e W' ⟨u,rfl,k,hR⟩;unfold Fh at hR;rw[FW O ha,FW O hb]at hR;obtain⟨g,c,rfl,o,t,q,f⟩:=hR;rw[hT.out]at f;exact⟨_,Z,k,_,Z,g,c,Z,o,q,f⟩
 rw[hT.out];obtain⟨va,r⟩:=hE (nv a);obtain⟨vb,p⟩:=hE (nv b);have bA:=boxS a w;obtain⟨j,m⟩:=hE (w.alloc (.cells (wn a).toArray 49));have A:=boxS b j;obtain⟨i,l⟩:=hE (j.alloc (.cells (wn b).toArray 49));obtain⟨n,f⟩:=hE (i.alloc (.cells z33.toArray 103));rw[r.out,m.out]at bA;rw[p.out,l.out]at A;rw[r.out,p.out];have K:j.heap.size=w.heap.size+1:=by rw[<-m.out,YE]
 have e2:i.heap.size=w.heap.size+2:=by rw[<-l.out,YE,K]
 rw[K]at A;have y:E (Kp w n [(w.heap.size+2,z33),(w.heap.size+1,wn b),(w.heap.size,wn a)]):=by
  have o:yz j w.heap.size (wn a):=by rw[<-m.out];exact aF
  have t:yz i (w.heap.size+1) (wn b):=by rw[<-l.out,<-K];exact aF
  have q:yz n (w.heap.size+2) z33:=by rw[<-f.out,<-e2];exact aF
  have b1:kZ w j:=by rw[<-m.out];exact aD _
  have z:kZ j i:=by rw[<-l.out];exact aD _
  have k:kZ i n:=by rw[<-f.out];exact aD _
  refine⟨(b1.trans (z.mono S)).trans (k.mono S),λx hx=>?_⟩;simp only[Zb,YI,or_false]at hx;rcases hx with rfl|rfl|rfl
  .exact q
  .exact t.below k
  exact(o.below z).below k
 go_enter func69,ntmps69;go_wp2_with (first|(refine aG (u:=va) (v:=jZ w.heap.size) (w':=j) Z 49 (.tmp 0) Z ?_ ?_ ?_;rfl;exact(Hid.mk' bA).out)|(refine aG (u:=vb) (v:=jZ (w.heap.size+1)) (w':=i) Z 49 (.tmp 1) Z ?_ ?_ ?_;rfl;exact(Hid.mk' A).out)|(refine bY (v:=jZ (w.heap.size+2)) (w:=i) (w':=n) Z (.alloc 103) Z ?_ ?_;(rw[<-f.out,<-(Hid.mk' e2).out];kernel_rfl))|fail)
 refine(GC1 w w.heap.size (w.heap.size+1) (w.heap.size+2) a b T).draws kR kR ⟨
  jA 2 Z u40 λx W k=>⟨w.heap.size,0,wn a,k.o 2 kR,(k.b.at 2 Z).2.1,zy,Z⟩,
  fC λx W k=>⟨[(8,nv a)],141,#[nv a],⟨k.n 0 8 kR kR,yw⟩,kR,by
   apply(sK s.1 s.2.1 W).mono;rintro e W' ⟨u,rfl,q,o,rfl⟩;exact⟨_,Z,o.bel,El.of_made o (bP a)⟩⟩,
  jA 3 Z u40 λx W k=>⟨w.heap.size+1,0,wn b,k.o 3 kR,(k.b.at 1 Z).2.1,zy,Z⟩,
  fC λx W k=>⟨[(10,nv b)],141,#[nv b],⟨k.n 2 10 kR kR,yw⟩,kR,by
   apply(sK s.1 s.2.2 W).mono;rintro e W' ⟨u,rfl,q,o,rfl⟩;exact⟨_,Z,o.bel,El.of_made o (bP b)⟩⟩,
  fC λx W k=>⟨[(9,x.eval (.tmp 9)),(11,x.eval (.tmp 11))],11,#[x.eval (.tmp 9),x.eval (.tmp 11)],⟨Z,Z,yw⟩,kR,HC _ _ W (k.n 1 9 kR kR) (k.n 3 11 kR kR)⟩,
  bE λx W k=>⟨[(12,x.eval (.tmp 12))],x.eval (.tmp 12),W,⟨Z,yw⟩,kR,YH _ _,k.n 4 12 kR kR⟩,
  bE λx W k=>by
   obtain⟨u,o,q⟩:=show Et W (x.eval (.tmp 7)) T from k.n 5 7 kR kR
   exact⟨[(7,.tuple #[u,iZ 0])],u,W,⟨o,yw⟩,kR,YH _ _,q⟩,
  bE λx W k=>by
   obtain⟨u,o,q⟩:=show Et W (x.eval (.tmp 7)) T from k.n 5 7 kR kR
   exact⟨[(7,.tuple #[u,iZ 0])],iZ 0,W,⟨o,yw⟩,kR,YH _ _,Z⟩,
  bE λx W k=>⟨[(13,x.eval (.tmp 13))],x.eval (.tmp 13),W,⟨Z,yw⟩,kR,YH _ _,k.n 6 13 kR kR⟩,
  bE λx W k=>⟨[(14,iZ 0)],iZ 0,W,⟨k.n 7 14 kR kR,yw⟩,kR,YH _ _,Z⟩,yw⟩ y.drew ?_
 intro V M h3 Q;obtain⟨g,cg,h4,-,k3,k4⟩:=show Ez M (V 8) T from h3 8 (I.lt_of_succ_le (Zh kR))
 have q:=Q;have z:=mk3 (q.at 0 Z) q.bl (nQ k4 k3);dsimp only[dF,Zs];rw[h4];have h5:=Jp g cg;obtain⟨n,f⟩:=hE (M.setCells (w.heap.size+2) 0 (aA T));have k:=aB L;have y:E (yz n (w.heap.size+2) (aA T)/\kZ w n):=by rw[<-f.out];exact⟨z.1.put (by rw[k];rfl),RG.below_setCells S _ _ _ z.2.1⟩
 obtain⟨vt,o⟩:=hE (Y8 (aA T).toArray);obtain⟨d,h2,X⟩:=Yu.1 uCP;have HD:=mk2 h2 X;have t:E ((prog.info? 103).map (·.size)=F (aA T).length/\M.there (w.heap.size+2) 0 (aA T).toArray.size/\(prog.info? 103).map (·.size)=F (aA T).toArray.size):=by
  have e:(aA T).toArray.size=33:=by rw[Zq];exact k
  refine⟨by rw[k];exact gI,by rw[e];exact z.1.2.2,by rw[e];exact gI⟩
 go_wp2_with (first|(refine wpList_load_mid Z 103 _ Z g 0 ?_ (aA T) d ?_ ?_ ?_ ?_ ?_;rfl;exact z.2.2.2.1;exact HD.1;exact HD.2;exact t.1;rw[o.out])|(refine ZJ Z 103 _ _ Z (w.heap.size+2) 0 (aA T).toArray ?_ ?_ ?_ ?_ ?_ ?_;rfl;exact o.symm;exact t.2.1;exact t.2.2;exact eH;rw[show(aA T).toArray.toList=aA T from Z,f.out])|fail)
 refine YB (aC 4 Z y.1 Z uCP t.1) Z ?_;exact⟨_,Z,y.2,Z⟩
section
open SPA
noncomputable def gPG (C:At P):OnP P:=⟨gG P,Ae C⟩
noncomputable def hPV (C:At P):OnP P:=lPt C dQ []
def QC(n m:I):cmt P n m=EC.add (mul n (.some (hpt P dQ []))) (mul m (gG P)):=by
 unfold cmt;generalize (.some (hpt P dQ []):EC.Pt P)=H;show EC.add (EC.add G (dW ((n:I):Y) H)) (dW ((m:I):Y) (gG P))=_;rw[jH];rfl
section
variable [NeZero N]
def Aw(C:At P)(k:∀r:EC.Pt P,On r->mul N r=G)(a b:B N):wr (cmt P a.val b.val)=wP ((aI C k).cm (hPV C) (gPG C) a b):=by
 rw[QC];rfl
structure RvL(C:At P)(hord:∀r:EC.Pt P,On r->mul N r=G)(R:Rv N)(V A S C1 C2 L3 L6 L8:Bs):Prop where
 eV:V=wP (R.pV (aI C hord) (gPG C) (hPV C))
 eA:A=wP (R.pA (aI C hord) (gPG C) (gPt C ⟨#[108,101,102,116]⟩) (gPt C ⟨#[114,105,103,104,116]⟩))
 eS:S=wP (R.pS (aI C hord) (gPG C) (gPt C ⟨#[108,101,102,116]⟩) (gPt C ⟨#[114,105,103,104,116]⟩))
 e1:C1=wP (R.p1 (aI C hord) (gPG C) (hPV C))
 e2:C2=wP (R.p2 (aI C hord) (gPG C) (hPV C))
 l3:L3=bgL V R.n A S
 y:R.y=rW N L3
 z:R.z=rW N (aN L3)
 l6:L6=mdL (aN (aN L3)) C1 C2
 x:R.x=rW N L6
 l8:L8=enL (aN L6) R.tau.val R.mu.val R.t.val
 w:R.w=rW N L8
structure RvS(R:Rv N)(sd:H yv):Prop where
 s:∀i,(R.s i).val=chL N [115,108] [sd,(dL i).toList]
 q:∀i,(R.q i).val=chL N [115,114] [sd,(dL i).toList]
 al:R.al.val=chL N [97,108,112,104,97] [sd]
 rho:R.rho.val=chL N [114,104,111] [sd]
 t1:R.t1.val=chL N [116,97,117,49] [sd]
 t2:R.t2.val=chL N [116,97,117,50] [sd]
end
def X9:(Z0 24 1 #[(0,.slice q n c)]).run prog w=.ok (sZ w.heap.size 1 1) (w.alloc (.cells #[.slice q n c] 23)):=kR
def C9(O:Ord N)(d:R)(i:d.size<=1000)(g:H yv)(q:zb ai)(n c:I)(w:Yp)(l:PartOk w (.slice q n c) g){x:I}(hx:x=chL N d.data.toList [g]):
 ∃k f,E ((Z0 24 1 #[(0,.slice q n c)]).run prog w=.ok (sZ k 1 1) f)/\E (kZ w f)/\E (eZ 60 #[.string d,sZ k 1 1] f (nv x)):=by
 have b:=aD (w:=w) (.cells #[.slice q n c] 23);refine⟨_,_,X9 (q:=q) (n:=n) (c:=c) (w:=w),b,?_⟩;rw[hx];refine ER O d _ 1 1 [g] _ S Z dC (YZ ⟨_,_,Z,λj f=>?_⟩);obtain rfl:j=0:=by simp at f;omega
 exact⟨_,(aF (w:=w) (c:=[.slice q n c]) (T:=23)).2.1 0 _ Z,l.below b⟩
def rp0:Rp:=⟨o33,o33,o33,o33,0,0,0⟩
def Tj:rp0.Ok:=⟨Z,Z,Z,Z⟩
end
namespace RG
variable {P:Zw}{ops:Array Y9}{Q:Exit->Act->Yp->Prop}{w:Yp}{a0:Act}{L:Array Bool}{F:Flow}{m:Nat}
def lz(m n:I)(late:H I):yt zk:=((ZD m).map λi=>decide (i<n) && !late.contains i).toArray
def late1{G:Gw}{late:H I}(p m:I)(t:Tmp)(b:∀v w,G.R m v w->∃u,G.R j u w/\∀o,ops[j]? = some o->∀W,(cI [t] o,(Za (evo λ_=>v) o).run P W)=(J,.ok (.value u) W))
 (z:(decide (j<n) && decide (n<=p) && waits ops p j && Region.free .any ops (lz ops.size n late) j && !qT ops j && (match ops[j]? with|some o=>o.guard.isNone && o.after.all (λe=>!ZH .any e || (decide (e.on<n) && !late.contains e.on)) && bZ o m|none=>D))=J:=by kernel_rfl) (hd:aP ops m=some t:=by kernel_rfl):LateP P G.flow ops n late j/\qT ops j=D:=by
 simp only[YJ,decide_eq_true_eq,yEx]at z;let⟨⟨⟨⟨⟨h1,N⟩,g⟩,C⟩,A⟩,l⟩:=z
 cases ho:ops[j]? with
 | none=>rw[ho]at l;cases l
 | some o =>
  rw[ho]at l;simp only[YJ]at l;let⟨⟨M,K⟩,L⟩:=l
  refine⟨⟨h1,o,ho,(by simpa using M),λi O d x k q=>Region.free_spec ho C i O d x ?_ q,?_,λe c f=>?_,m,t,L,hd,Z,λv w hv=>?_⟩,A⟩
  .have r:=(YX.1 d).1;rw[lz,YG,YV,ZE,uy r,zb.map_some,zb.getD_some];rcases k with k|k
   .rw[H.contains_iff_mem.2 k,yDO,zk.and_false]
   rw[decide_eq_false S,zk.false_and]
  .unfold waits at g;cases r:ops[p]? with
   | none=>rw[r]at g;cases g
   | some op =>
    rw[r]at g;let⟨e,c,f⟩:=yt.any_eq_true'.1 g
    simp only[YJ,beq_iff_eq]at f;exact⟨p,op,N,r,e,c,f.1,f.2⟩
  .have:=oT.1 K e c;rw[f,yDO,yD3,YJ,decide_eq_true_eq,yEx]at this;exact⟨this.1,by simpa using this.2⟩
  let⟨u,r,s⟩:=b v w hv
  refine⟨u,r,YH _ _,λa W c=>?_⟩;have h:=s o ho W;rw[ZV.injEq]at h;rw[qG (a:=a) (λ_=>v) [t] h.1 (λQ y=>by rw[ZX.1 y];exact c)];exact h.2
def Gw.late{id:I}(G:Gw)(n:I)(l:H I)(b:∀j∈l,LateP P G.flow ops n l j/\qT ops j=false)(e:Als P G.flow ops n)(k:(decide (n<ops.size) && oQ ops n l && sw ops)=J)(f:P.follows .mixedOrders=J)(o:C7 ops a0.tmps.size=J)(h:jQ P Q G.flow ops a0 0 (ops.toList.take n))(g:G.B w.drew)
 (d:∀(V:I->Yq) (w':Yp),(∀i,i<n->G.R i (V i) w')->G.B w'->(∀i j,i<n->j<n->i≠j->qT ops i=J->qT ops j=J->(aP ops i).isSome=J->(aP ops j).isSome=J->V i≠V j)->wpList P ops Q (ops.toList.drop n) (dF V (ops.toList.take n) 0 a0) w') (p:∀c (a:Act) t v w,Q (.panic c) (a.put (some t) v) w->Q (.panic c) a w:=by exact λ_ _ _ _ _ h=>h):(ZP id ops J).wp P Q a0 w:=by
 rw[YJ,YJ,decide_eq_true_eq]at k;exact Gw.lateC G n l (λj m=>⟨b j m,p,k.2⟩) e k.1.1 k.1.2 f o h g d
end RG
end Go.Proofs.YtdoammpgchejcaaGreat
