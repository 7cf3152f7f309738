import Derived.Lib.LazyBuf
import Derived.Deep.LoopGhost
import Derived.ChangeSlices
import Derived.Deep.Slices
import Derived.Lib.SmallJoins
import Derived.ChangeOld
import Derived.Below
import Derived.WalkKit
import Derived.ProofKit
import Derived.OpenShut
import Derived.ShutString
import Derived.SliceStrings
import Derived.SizedLaws
import Derived.Test.YtndpeoebngkhmaaGreatsv7
set_option linter.unusedVariables false
set_option linter.defProp false
set_option linter.constructorNameAsVariable false
set_option linter.unusedSimpArgs false
set_option maxRecDepth 1000000
set_option maxHeartbeats 4000000
namespace Go.Proofs.YtndpeoebngkhmaaGreat
open _root_ renaming Array->R,Bool->Hc,ByteArray->Fd,Fin->B,Int->Y,List->G,Nat->I,Option->GJ,UInt8->Fk,rfl->Z
open Go.Proofs.YtndpeoebngkhmaaGreat renaming Fld->IO,FracT->IN,Gives->FL,Row->FJ,i40->In,oM->S,uZ->U,yGP->GD,yGQ->Id,yGR->Fs
open Go.RowKit renaming Hid->E
open Go.Sort renaming Holds->FE
open _root_.Bool renaming false->D,true->H
open _root_.Option renaming none->F,some->J
open EC NT RG SP
open _root_.And renaming intro->gF
open _root_.Array renaming all_eq_true'->ul,getD_eq_getD_getElem?->ZB,getElem?_eq_some_iff->ZO,length_toList->ZE,toList_append->yDg
open _root_.Bool renaming and_eq_true->ZD,eq_iff_iff->yEr,false_ne_true->uw
open _root_.ByteArray renaming data_append->yDj,size_append->yDs
open _root_.Fin renaming isLt->yFN,ofNat->rz
open _root_.Go renaming Addr->gE,Oper->Z4,Program->ai,TypeId->ZR,Value->Zm,World->Zl,bodyPost_ret->Zx,execOp->Z0,run_append_own->yDJ,run_loadVar_mid->um,undef->am,wpList_load_mid->gS,wpList_store_mid->ZZ,wp_block->ay,wp_cond_false->Z2,wp_cond_true->Z6,wp_exit->tT,wp_ret->ag,wp_seq->Zq,wp_skip->aw
open _root_.Go.Act renaming put->ah
open _root_.Go.Addr renaming add->ts
open _root_.Go.Builtin renaming append_->oT
open _root_.Go.DataW renaming trod->yFk
open _root_.Go.Exit renaming inBlock->yr
open _root_.Go.Instr renaming box->aj,build->CI,buildSlice->pg,indexAt->iB,sliceAt->ux
open _root_.Go.IntKind renaming i64->ZN,wrap_i64->pk
open _root_.Go.Next renaming value->pi
open _root_.Go.RowKit.Below renaming mono->yEC,refl->ZF
open _root_.Go.Sem renaming run_bind->ZK
open _root_.Go.Value renaming agg->ZM,tuple->yGj
open _root_.Go.World renaming block_lt_of_cell?->vj,cell?_of_block->ZP,cell?_spot->yFz,rangeAt->yF8,size_alloc->Zy
open _root_.Int renaming cast_ofNat_Int->yFx,natCast_one->yF6
open _root_.List renaming cons->sw,drop->tr,getElem?_eq_getElem->ZH,getElem?_eq_some_iff->Zz,length_map->ZI,mem_append_left->xy,mem_append_right->xz,mem_map->Z1,mem_of_getElem?->oE,mem_range->p9,not_mem_nil->ZJ,range->fo,setIfInBounds_toArray->Zr,set_cons_succ->Zt,set_cons_zero->Zu,take->r9
open _root_.Nat renaming add_sub_cancel->CA,div_eq_of_lt->qv,div_one->yDN,le_refl->Zo,le_succ->yo,le_trans->Zw,lt_of_lt_of_le->Zn,lt_trans->yEm,mod_eq_of_lt->ZC,mul_add->te,mul_le_mul->qm,mul_one->ri,ne_of_gt->pe,ne_of_lt->qh,not_lt_zero->uv,pow_le_pow_right->qp,pow_pos->rj,pow_succ->oB,pow_zero->rx,reduceAdd->mi,reducePow->yER,sub_self->ww,zero_add->Zs
open _root_.Option renaming isSome_iff_exists->Z8,map_eq_some_iff->Zp
open _root_.Or renaming inl->Z5,inr->ZW
open _root_.Prod renaming mk->an
open _root_.Subtype renaming ext->At,ext_iff->yFg
open _root_.UInt8 renaming ofNat->ZG,toNat_ofNat'->yCh
open Go.Proofs.Tryz
open Go.RowKit Go.Sort Go.Deep
variable {P:Nat}[NeZero P]{N:Nat}
variable {Q:Nat->Prop}{T e:ZR}{W w:Zl}{a:Nat->Nat}{b:List UInt8}{base c g i j m n o s t x1 x2 y:Nat}{f f':Nat->List Zm}{k:ByteArray}{p:Prop}{q q1 q2:Option gE}{sp:Zm->Pq}{tmps:Array Zm}{u v vA vB:Zm}{us vs xs ys:List Zm}{x:DataW H × List MemPlace}
section
open SPA
variable {P:Nat}[NeZero P]{N:Nat}[NeZero N]
def VS(C:IO P)(O:Ord N)(b:∀r:EC.Pt P,On r->mul N r=F)(v n:I)(k:B N)(d:G Fk):∃(R:Rv N) (V A S m j e f o:Bs),R.v=v/\R.n=n/\R.k=k/\RvL C b R V A S m j e f o/\RvS R d:=by
 have lt:∀l K,chL N l K<N:=λl K=>qP O
 let⟨s,hs⟩:∃s:I->B N,∀i,(s i).val=chL N [115,108] [d,(fG i).toList]:=⟨λi=>⟨_,lt _ _⟩,λ_=>rfl⟩
 let⟨q,Q⟩:∃s:I->B N,∀i,(s i).val=chL N [115,114] [d,(fG i).toList]:=⟨λi=>⟨_,lt _ _⟩,λ_=>rfl⟩
 let⟨al,u⟩:∃x:B N,x.val=chL N [97,108,112,104,97] [d]:=⟨⟨_,lt _ _⟩,Z⟩
 let⟨c,g⟩:∃x:B N,x.val=chL N [114,104,111] [d]:=⟨⟨_,lt _ _⟩,Z⟩
 let⟨t1,p⟩:∃x:B N,x.val=chL N [116,97,117,49] [d]:=⟨⟨_,lt _ _⟩,Z⟩
 let⟨t2,t⟩:∃x:B N,x.val=chL N [116,97,117,50] [d]:=⟨⟨_,lt _ _⟩,Z⟩
 let⟨V,T⟩:∃V,V=wP ((⟨v,n,s,q,al,c,t1,t2,k,0,0,0,0⟩:Rv N).pV (aC C b) (gPG C) (hPV C)):=⟨_,Z⟩
 let⟨A,W⟩:∃A,A=wP ((⟨v,n,s,q,al,c,t1,t2,k,0,0,0,0⟩:Rv N).pA (aC C b) (gPG C) (gPt C ⟨#[108,101,102,116]⟩) (gPt C ⟨#[114,105,103,104,116]⟩)):=⟨_,Z⟩
 let⟨S,hS⟩:∃A,A=wP ((⟨v,n,s,q,al,c,t1,t2,k,0,0,0,0⟩:Rv N).pS (aC C b) (gPG C) (gPt C ⟨#[108,101,102,116]⟩) (gPt C ⟨#[114,105,103,104,116]⟩)):=⟨_,Z⟩
 let⟨e,h3⟩:∃L,L=bgL V n A S:=⟨_,Z⟩
 let⟨y,hy⟩:∃y,y=lB N e:=⟨_,Z⟩
 let⟨z,X⟩:∃z,z=lB N (aS e):=⟨_,Z⟩
 let⟨m,h1⟩:∃A,A=wP ((⟨v,n,s,q,al,c,t1,t2,k,y,z,0,0⟩:Rv N).p1 (aC C b) (gPG C) (hPV C)):=⟨_,Z⟩
 let⟨j,M⟩:∃A,A=wP ((⟨v,n,s,q,al,c,t1,t2,k,y,z,0,0⟩:Rv N).p2 (aC C b) (gPG C) (hPV C)):=⟨_,Z⟩
 let⟨f,h6⟩:∃L,L=mdL (aS (aS e)) m j:=⟨_,Z⟩
 let⟨x,hx⟩:∃x,x=lB N f:=⟨_,Z⟩
 let⟨o,h8⟩:∃L,L=enL (aS f) (⟨v,n,s,q,al,c,t1,t2,k,y,z,x,0⟩:Rv N).tau.val (⟨v,n,s,q,al,c,t1,t2,k,y,z,x,0⟩:Rv N).mu.val (⟨v,n,s,q,al,c,t1,t2,k,y,z,x,0⟩:Rv N).t.val:=⟨_,Z⟩
 let⟨w,hw⟩:∃w,w=lB N o:=⟨_,Z⟩
 exact⟨⟨v,n,s,q,al,c,t1,t2,k,y,z,x,w⟩,V,A,S,m,j,e,f,o,Z,Z,Z,⟨T,W,hS,h1,M,h3,hy,X,h6,hx,h8,hw⟩,⟨hs,Q,u,g,p,t⟩⟩
def V8{S R M:Type}(s:S)(a b:I->R)(g h:I->M):∃q:Md.Ps S R M,q.s=s/\q.a=a/\q.b=b/\q.g=g/\q.h=h:=⟨⟨s,a,b,g,h⟩,Z,Z,Z,Z,Z⟩
end
section
open SPA
def fnB(f:I->Fk):Bs:=R.ofFn (n:=32) λi=>f i.val
def vbF(v i j:I):Fk:=if 31-j<i then ZG (v/2^(8*(31-j))) else 0
def Vz(v:I)(hv:v<2^64):fnB (vbF v 8)=bx v:=by
 apply R.ext';unfold bx;rw[Cj,ZC hv,qv hv,qv (show v<340282366920938463463374607431768211456 by omega),qv (show v<6277101735386680763835789423207666416102355444464034512896 by omega)];have e:ZG v=ZG (v/1):=by rw[yDN]
 rw[e];unfold fnB;rw[R.toList_ofFn];rfl
def Xm[NeZero P](C:IO P)(O:Ord N){k bs:Bs}(h1:rq N k=J n)(b:rq N bs=J m)(v0 v1:Zm)(W:Zl)(a0:Arg W v0 k)(l:Arg W v1 bs):dZ 8 #[v0,v1] W λe W'=>∃g c,e=.tuple #[sZ g 33 c,iZ 0]/\Arg33 W' (sZ g 33 c) (wr (cmt P n m)):=by
 apply(Fj C O.gap O.le v0 v1 k bs W a0 l).mono;rintro e W' ⟨v,rfl,d,hR⟩;unfold Dw at hR;rw[h1,b]at hR;obtain⟨g,c,rfl,i,o,f,j⟩:=hR;exact⟨_,Z,d,g,c,Z,J (aZ g),33,c,Z,aR _,λ_=>⟨g,0,Z,i,f,j⟩⟩
end
section
open SPA
variable {P:Nat}[NeZero P]{N:Nat}[NeZero N]
def PArg(w:Zl)(q:GJ gE)(n:I)(L:I->Bs):Prop:=0<n->∃k o,q=J ⟨k,o,F⟩/\k<w.heap.size/\∀j,j<n->∃v,w.cell? ⟨k,o+j,F⟩=J v/\Arg33 w v (L j)
def PArg.below{L:I->Bs}(h:PArg w q n L)(k:kZ w W):PArg W q n L:=λi=>by
 let⟨g,o,h1,b,f⟩:=h i
 refine⟨g,o,h1,Zn b k.size,λj c=>?_⟩;let⟨v,d,e⟩:=f j c
 exact⟨v,by rw[k.cell (p:=⟨g,o+j,F⟩) b];exact d,e.below k⟩
def okP(P:I)[NeZero P](n:I)(L:I->Bs):Prop:=∀j,j<n->∃p,rd P (L j)=J p
omit [NeZero N] in
theorem Dq(C:IO P){L:I->Bs}(d:n<=512)(W:Zl)(h:PArg W q n L):dZ 53 #[.func (.func 11) #[] #[],.slice q n c] W λe w'=>∃s ok,e=.tuple #[s,.bool ok]/\(ok=H↔okP P n L)/\(ok=H->∃K,s=sZ K n n/\PtL (W.heap.size<=·) w' K n L):=by
 rcases I.eq_zero_or_pos n with f|f
 .subst f;apply(OL q c W).mono;rintro e w' ⟨v,rfl,b,K,rfl⟩;exact⟨_,Z,b,_,H,Z,iff_of_true Z λj k=>absurd k (uv _),λ_=>⟨K,Z,λj k=>absurd k (uv _)⟩⟩
 obtain⟨g,o,rfl,h1,l⟩:=h f;apply(Ve C g o n c d L W h1 l).mono;rintro e w' ⟨v,rfl,b,h⟩;rcases h with⟨r,K,rfl,i,u,-,m⟩|⟨⟨j,k,d⟩,rfl⟩
 .exact⟨_,Z,b,_,H,Z,iff_of_true Z r,λ_=>⟨K,Z,λj k=>⟨i,u,m j k⟩⟩⟩
 refine⟨_,Z,b,_,D,Z,iff_of_false uw λh=>?_,λh=>absurd h uw⟩;let⟨p,t⟩:=h j k
 rw[t]at d;cases d
def Xz{b:GJ gE}{k c':I}:(pg 23 2 #[(0,.slice q n c),(1,.slice b k c')]).run prog w=.ok (sZ w.heap.size 2 2) (w.alloc (.cells #[.slice q n c,.slice b k c'] 22)):=kR
def boxJ{d g f k:GJ gE}{c1 b c2 e l:I}:(aj 25 (.agg #[.slice d c c1,.slice g b c2,.slice f i e,.slice k j l])).run prog w=.ok (jZ w.heap.size) (w.alloc (.cells #[.slice d c c1,.slice g b c2,.slice f i e,.slice k j l] 25)):=kR
omit [NeZero N] in
theorem Vf(O:Ord N){x y:Zm}{b c:Bs}(W:Zl)(hx:Arg W x b)(o:Arg W y c):cZ 54 #[(.func (.func 46) #[] #[]),sZ W.heap.size 2 2] (W.alloc (.cells #[x,y] 22)) (Ret λe w'=>Below (W.alloc (.cells #[x,y] 22)).heap.size (W.alloc (.cells #[x,y] 22)) w'/\∃s ok,e=.tuple #[s,.bool ok]/\(ok=H↔(rq N b).isSome=H/\(rq N c).isSome=H)/\(ok=H->∃k,s=sZ k 2 2/\W.heap.size<k/\w'.rangeAt k 0 (wn ((rq N b).getD 0))/\w'.rangeAt k 4 (wn ((rq N c).getD 0)))):=by
 have bb:=aD (w:=W) (.cells #[x,y] 22);have g:=aE (w:=W) (c:=[x,y]) (T:=22);have p:(W.alloc (.cells #[x,y] 22)).heap.size=W.heap.size+1:=Zy _ _;apply(JC O 2 2 dC (J (aZ W.heap.size)) (two b c) _ λ_=>⟨_,Z,g.1,λj i=>?_⟩).mono
 .match j,i with
  | 0,_=>exact⟨x,g.2.1 0 _ Z,hx.below bb⟩
  | 1,_=>exact⟨y,g.2.1 1 _ Z,o.below bb⟩
  | j+2,h=>omega
 rintro e w' ⟨v,rfl,h⟩;rcases h with⟨⟨j,h1,d⟩,m,rfl⟩|⟨h,k,r,f,hR,rfl⟩
 .refine⟨_,Z,m,_,D,Z,iff_of_false uw λh=>?_,λh=>absurd h uw⟩;match j,h1,d with
  | 0,_,d=>rw[show rq N b=F from d]at h;exact uw h.1
  | 1,_,d=>rw[show rq N c=F from d]at h;exact uw h.2
  | j+2,h,_=>omega
 have q:=f.le;have rg:∀j,j<2->w'.rangeAt k (4*j) (wn ((rq N (two b c j)).getD 0)):=λj i t u l=>by
  have n:t<4:=(Zz.1 l).1;have:=f.range (4*j+t) u (by rw[hR.row j t i n];exact l);rw[Zs]at this;exact this
 exact⟨_,Z,f.bel,_,H,Z,iff_of_true Z ⟨h 0 dC,h 1 dC⟩,λ_=>⟨k,Z,S,rg 0 dC,rg 1 dC⟩⟩
def okI(P:I)[NeZero P](N T nL k:I)(b Rb:I->Bs)(A B:Bs):Prop:=nL=T/\k=T/\okP P T b/\okP P T Rb/\(rq N A).isSome=H/\(rq N B).isSome=H
def RdA(P:I)[NeZero P](N T nL f:I)(c Rb:I->Bs)(A B:Bs)(z a b:I)(e:Zm)(w':Zl):Prop:=∃vs ok,e=.tuple #[.agg (vs:G Zm).toArray,.bool ok]/\vs.length=10/\vs.toArray.all (·.oneCell')=H/\(ok=H↔okI P N T nL f c Rb A B)/\(ok=H->∃d k,vs=inL d k T a b/\PtL (z<=·) w' d T c/\PtL (z<=·) w' k T Rb)
omit [NeZero N] in
theorem Iq(C:IO P)(O:Ord N){nL f T:I}(hT:T<=6){Lb Rb:I->Bs}{A B:Bs}(w:Zl)(hL:PArg w q1 nL Lb)(hR:PArg w q2 f Rb)(hA:Arg w vA A)(hB:Arg w vB B):
 dZ 52 #[.agg #[.slice q1 nL x1,.slice q2 f x2,vA,vB],iZ T] w λe w'=>RdA P N T nL f Lb Rb A B w.heap.size ((rq N A).getD 0) ((rq N B).getD 0) e w':=by
 obtain⟨k,hk⟩:=hE (w.heap.size);obtain⟨w1,h8⟩:=hE (w.alloc (.cells #[.slice q1 nL x1,.slice q2 f x2,vA,vB] 25));obtain⟨M,V⟩:=hE (lZ w1 inZ 104);obtain⟨vI,hvI⟩:=hE (ZM #[.slice q1 nL x1,.slice q2 f x2,vA,vB]);have B1:E ((aj 25 vI).run prog w=.ok (jZ k) w1):=by
  rw[<-hvI.out,<-h8.out,<-hk.out];obtain⟨z,Q,ca,rfl,-⟩:=hA;obtain⟨K,r,cb,rfl,-⟩:=hB;exact boxJ
 have z1:w1.heap.size=k+1:=by rw[<-h8.out,Zy,hk.out]
 have hy:=Hid.mk' z1;have b1:kZ w w1:=h8.out▸aD _;have b2:kZ w1 M:=V.out▸aD _;have r1:FJ w1 k [.slice q1 nL x1,.slice q2 f x2,vA,vB]:=h8.out▸hk.out▸aE;have r2:FJ M (k+1) inZ:=by rw[<-V.out,<-z1];exact aE
 have kh:=b1.trans (b2.mono b1.size);have c0:=(r1.below b2).2.1 0 _ Z;have c1:=(r1.below b2).2.1 1 _ Z;have L:=mk3 r2 kh (r1.below b2);obtain⟨vZ,h9⟩:=hE (ZM inZ.toArray);have HB:E (∀W,(CI 104 #[]).run prog W=.ok vZ W):=by rw[<-h9.out];exact λW=>(show(CI 104 #[]).run prog W=.ok (.agg inZ.toArray) W by kernel_rfl)
 have h5:inZ.toArray.all (·.oneCell')=H:=kR;have k0:=Hid.mk' (λ(W:Zl) (hW:kZ w W) (hn:nL<=512)=>Dq C (c:=x1) hn W (hL.below hW));have k2:=Hid.mk' (λ(W:Zl) (hW:kZ w W) (hn:f<=512)=>Dq C (c:=x2) hn W (hR.below hW));have hi:=Hid.mk' (λ(W:Zl) (hW:kZ w W)=>gF (hA.below hW) (hB.below hW));have HO:=Hid.mk' O;have HT:=Hid.mk' hT;rw[hvI.out];by_cases hl:(nL:Y)=(T:Y)
 case neg =>
  obtain⟨w3,m⟩:=hE (M.setCells (k+1) 0 inZ);have q:E (FJ w3 (k+1) inZ/\kZ w w3/\¬nL=T):=⟨m.out▸L.1.put Z,by rw[<-m.out];exact RG.below_setCells (hk.out▸yo _) _ _ _ L.2.1,S⟩
  go_enter func52,ntmps52;go_wp2_with (first|(refine aI (u:=vI) (v:=jZ k) (w':=w1) Z 25 (.tmp 0) Z ?_ ?_ ?_;rfl;exact B1)|(refine cN (v:=jZ (k+1)) (w':=M) Z 104 4 Z Z ?_ ?_;(rw[<-V.out,<-hy.out];kernel_rfl))|(refine fO (v:=vZ) (w':=M) Z 104 _ Z #[] ?_ ?_ ?_;kernel_rfl;exact HB M)|(refine ZZ Z 104 (.tmp 4) _ Z (k+1) 0 inZ.toArray ?_ ?_ ?_ ?_ ?_ ?_;rfl;exact h9.symm;exact L.1.2.2;exact iIr;kernel_rfl;rw[show inZ.toArray.toList=inZ from Z,m.out])|fail)
  refine Zx (jG 4 5 Z q.1 Z Z uIr iIr) Z ?_;exact⟨_,Z,q.2.1,inZ,D,Z,Z,h5,iff_of_false uw λh=>q.2.2 h.1,λh=>absurd h uw⟩
 case pos =>
 by_cases hr:(f:Y)=(T:Y)
 case neg =>
  obtain⟨w3,m⟩:=hE (M.setCells (k+1) 0 inZ);have q:E (FJ w3 (k+1) inZ/\kZ w w3/\¬f=T):=⟨m.out▸L.1.put Z,by rw[<-m.out];exact RG.below_setCells (hk.out▸yo _) _ _ _ L.2.1,S⟩
  go_enter func52,ntmps52;go_wp2_with (first|(refine aI (u:=vI) (v:=jZ k) (w':=w1) Z 25 (.tmp 0) Z ?_ ?_ ?_;rfl;exact B1)|(refine cN (v:=jZ (k+1)) (w':=M) Z 104 4 Z Z ?_ ?_;(rw[<-V.out,<-hy.out];kernel_rfl))|(refine fO (v:=vZ) (w':=M) Z 104 _ Z #[] ?_ ?_ ?_;kernel_rfl;exact HB M)|(refine ZZ Z 104 (.tmp 4) _ Z (k+1) 0 inZ.toArray ?_ ?_ ?_ ?_ ?_ ?_;rfl;exact h9.symm;exact L.1.2.2;exact iIr;kernel_rfl;rw[show inZ.toArray.toList=inZ from Z,m.out])|fail)
  refine Zx (jG 4 5 Z q.1 Z Z uIr iIr) Z ?_;exact⟨_,Z,q.2.1,inZ,D,Z,Z,h5,iff_of_false uw λh=>q.2.2 h.2.1,λh=>absurd h uw⟩
 case pos =>
 have el:nL=T:=S;have er:f=T:=S;subst el;subst er;obtain⟨a,ka⟩:=hE ((rq N A).getD 0);obtain⟨b,kb⟩:=hE ((rq N B).getD 0);rw[ka.out,kb.out];go_enter func52,ntmps52;go_wp2_with (first|(refine aI (u:=vI) (v:=jZ k) (w':=w1) Z 25 (.tmp 0) Z ?_ ?_ ?_;rfl;exact B1)|(refine cN (v:=jZ (k+1)) (w':=M) Z 104 4 Z Z ?_ ?_;(rw[<-V.out,<-hy.out];kernel_rfl))|fail)
 apply(k0 M L.2.1 (oN HT)).mono;rintro e w3 ⟨uu,rfl,hc,sl,ol,rfl,k3,h7⟩;have b3:=L.2.1.trans (hc.mono L.2.1.size);have q:E (FJ w3 (k+1) inZ/\kZ w w3/\FJ w3 k [.slice q1 f x1,.slice q2 f x2,vA,vB]/\(ol=H↔okP P f Lb)/\(ol=H->∃m,sl=sZ m f f/\PtL (k+1 < ·) w3 m f Lb)):=⟨L.1.below hc,b3,L.2.2.below hc,k3,λh=>by
  obtain⟨m,h1,n⟩:=h7 h;exact⟨m,h1,n.mono2 λg _ hg=>Zn L.1.1 hg⟩⟩
 have kd:=q.2.2.1.2.1 1 _ Z;clear hc h7 b3 L c0 c1 k0 k3;go_wp2_with fail
 apply(k2 w3 q.2.1 (oN HT)).mono;rintro e t ⟨uu,rfl,h6,sr,s,rfl,hor,ha⟩;have b4:=q.2.1.trans (h6.mono q.2.1.size);have y:E (FJ t (k+1) inZ/\kZ w t/\FJ t k [.slice q1 f x1,.slice q2 f x2,vA,vB]/\(ol=H↔okP P f Lb)/\(s=H↔okP P f Rb)/\(ol=H->∃m,sl=sZ m f f/\PtL (k+1 < ·) t m f Lb)/\(s=H->∃o,sr=sZ o f f/\PtL (k+1 < ·) t o f Rb)):=⟨q.1.below h6,b4,q.2.2.1.below h6,q.2.2.2.1,hor,λh=>by
  obtain⟨m,h1,n⟩:=q.2.2.2.2 h;exact⟨m,h1,n.keep (Kq.of_below h6)⟩,λh=>by
  obtain⟨m,h1,n⟩:=ha h;exact⟨m,h1,n.mono2 λg _ hg=>Zn q.1.1 hg⟩⟩
 have kf:=y.2.2.1.2.1 2 _ Z;have ki:=y.2.2.1.2.1 3 _ Z;obtain⟨w5,hb⟩:=hE (t.alloc (.cells #[vA,vB] 22));obtain⟨k5,hu⟩:=hE (t.heap.size);have HS:E ((pg 23 2 #[(0,vA),(1,vB)]).run prog t=.ok (sZ k5 2 2) w5):=by
  rw[<-hb.out,<-hu.out];obtain⟨⟨z,Q,ca,rfl,-⟩,K,r,cb,rfl,-⟩:=hi t y.2.1;exact Xz
 have hw:=Vf HO t (hi t y.2.1).1 (hi t y.2.1).2;rw[hb.out,hu.out]at hw;have k4:=Hid.mk' hw;have X:kZ t w5:=hb.out▸aD _;have b5:=y.2.1.trans (X.mono y.2.1.size);have K5:E (FJ w5 (k+1) inZ/\kZ w w5/\(ol=H↔okP P f Lb)/\(s=H↔okP P f Rb)/\(ol=H->∃m,sl=sZ m f f/\PtL (k+1 < ·) w5 m f Lb)/\(s=H->∃o,sr=sZ o f f/\PtL (k+1 < ·) w5 o f Rb)/\k+1<k5):=⟨y.1.below X,b5,y.2.2.2.1,y.2.2.2.2.1,λh=>by
  obtain⟨m,h1,n⟩:=y.2.2.2.2.2.1 h;exact⟨m,h1,n.keep (Kq.of_below X)⟩,λh=>by
  obtain⟨m,h1,n⟩:=y.2.2.2.2.2.2 h;exact⟨m,h1,n.keep (Kq.of_below X)⟩,hu.out▸y.1.1⟩
 clear h6 ha b4 q kd k2 hw X b5 hi hor;go_wp2_with (first|(refine kO (v:=sZ k5 2 2) (w':=w5) Z 23 2 _ Z #[(0,vA),(1,vB)] ?_ ?_ ?_;kernel_rfl;exact HS)|fail)
 refine k4.mono ?_;rintro e r ⟨uu,rfl,he,se,oe,rfl,k7,k8⟩;have K6:=mk3 (K5.1.below he) (K5.2.1.trans (he.mono K5.2.1.size)) k7;have hz:=Hid.mk' (gF he k8);clear k4 HS kf ki hb he k8 k7 y;by_cases h3:ol=H/\s=H/\oe=H
 case neg =>
  obtain⟨w8,n⟩:=hE (r.setCells (k+1) 0 inZ);have K:E (FJ w8 (k+1) inZ/\kZ w w8/\¬okI P N f f f Lb Rb A B):=by
   refine⟨n.out▸K6.1.put Z,by rw[<-n.out];exact RG.below_setCells (hk.out▸yo _) _ _ _ K6.2.1,λh=>h3 ⟨K5.2.2.1.2 h.2.2.1,K5.2.2.2.1.2 h.2.2.2.1,K6.2.2.2 h.2.2.2.2⟩⟩
  have z:ol=D\/(ol=H/\s=D)\/(ol=H/\s=H/\oe=D):=by
   revert h3;cases ol<;>cases s<;>cases oe<;>simp
  rcases z with rfl|⟨rfl,rfl⟩|⟨rfl,rfl,rfl⟩
  all_goals
   go_wp2_with (first|(refine fO (v:=vZ) (w':=r) Z 104 _ Z #[] ?_ ?_ ?_;kernel_rfl;exact HB r)|(refine ZZ Z 104 (.tmp 4) _ Z (k+1) 0 inZ.toArray ?_ ?_ ?_ ?_ ?_ ?_;rfl;exact h9.symm;exact K6.1.2.2;exact iIr;kernel_rfl;rw[show inZ.toArray.toList=inZ from Z,n.out])|fail)
   refine Zx (jG 4 5 Z K.1 Z Z uIr iIr) Z ?_;exact⟨_,Z,K.2.1,inZ,D,Z,Z,h5,iff_of_false uw K.2.2,λh=>absurd h uw⟩
 case pos =>
 obtain⟨rfl,rfl,rfl⟩:=h3;obtain⟨m,rfl,h7⟩:=K5.2.2.2.2.1 Z;obtain⟨o,rfl,ha⟩:=K5.2.2.2.2.2.1 Z;obtain⟨n,rfl,kk,k6,k1⟩:=hz.2 Z;have kg:E (okI P N f f f Lb Rb A B):=⟨Z,Z,K5.2.2.1.1 Z,K5.2.2.2.1.1 Z,K6.2.2.1 Z⟩
 have kj:=K5.2.2.2.2.2.2;rw[ka.out]at k6;rw[kb.out]at k1;have h4:E (r.rangeAt n 0 (wn a)/\r.rangeAt n 4 (wn b)/\k+1≠n):=⟨k6,k1,S⟩
 have KK:=mk4 K6.1 K6.2.1 (h7.keep (Kq.of_below hz.1)) (ha.keep (Kq.of_below hz.1));go_wp2_with fail
 obtain⟨dS,Q,h0⟩:=Zp.1 rSc;have K:r.drew.rangeAt n 0 (wn a)/\r.drew.rangeAt n 4 (wn b):=⟨h4.1,h4.2.1⟩
 refine anyS.begin (λ_ W=>W.rangeAt n 0 (wn a)/\W.rangeAt n 4 (wn b)) kR ?_;have bS:∀(p:I),Bef (λ_ W=>yF8 W n 0 (wn a)/\yF8 W n 4 (wn b)) p r.drew:=λp=>⟨#[],by simp,K⟩
 refine anyS.val (i:=0) (d:=J 57) (x:=sZ m f f) Z 9 (λ_ _ h=>h) (bS 9) K ?_;refine anyS.val (i:=1) (d:=J 58) (x:=sZ o f f) Z 9 (λ_ _ h=>h) (bS 9) K ?_;refine anyS.val (i:=2) (d:=J 59) (x:=sZ n 2 2) Z 9 (λ_ _ h=>h) (bS 9) K ?_;refine anyS.val (i:=3) (d:=J 60) (x:=jZ n) Z 9 (λ_ _ h=>h) (bS 9) K ?_;refine anyS.row (i:=4) (d:=J 61) (cs:=wn a) Z 9 (λ_ _ h=>h) 93 60 n 0 dS Z Q h0 nSc (λW ⟨l,e,h⟩=>h.1) (bS 9) K ?_;refine anyS.val (i:=5) (d:=J 62) (x:=sZ n 2 2) Z 9 (λ_ _ h=>h) (bS 9) K ?_;refine anyS.val (i:=6) (d:=J 63) (x:=oZ n 4) Z 9 (λ_ _ h=>h) (bS 9) K ?_;refine anyS.row (i:=7) (d:=J 64) (cs:=wn b) Z 9 (λ_ _ h=>h) 93 63 n 4 dS Z Q h0 nSc (λW ⟨l,e,h⟩=>h.2) (bS 9) K ?_;refine anyS.nxt (i:=8) (d:=J 65) (x:=.agg (inL m o f a b).toArray) Z K ?_;have k9:=KK.1.2.2;have z:∀g,g≠k+1->(r.drew.setCells (k+1) 0 (inL m o f a b)).heap[g]? = r.drew.heap[g]?:=λg h=>aM _ 0 r.drew g h
 have S7:(r.drew.setCells (k+1) 0 (inL m o f a b)).rangeAt n 0 (wn a)/\(r.drew.setCells (k+1) 0 (inL m o f a b)).rangeAt n 4 (wn b):=⟨λj u hj=>by rw[ZP (a:=⟨n,0+j,F⟩) (z n (Ne.symm h4.2.2))];exact K.1 j u hj,λj u hj=>by rw[ZP (a:=⟨n,4+j,F⟩) (z n (Ne.symm h4.2.2))];exact K.2 j u hj⟩
 have r6:FJ r.drew (k+1) inZ:=KK.1;have r7:FJ (r.drew.setCells (k+1) 0 (inL m o f a b)) (k+1) (inL m o f a b):=r6.put Z;have b7:kZ w (r.drew.setCells (k+1) 0 (inL m o f a b)):=RG.below_setCells (hk.out▸yo _) _ _ _ KK.2.1.drew;have hp:Kq (k+1 < ·) r (r.drew.setCells (k+1) 0 (inL m o f a b)):=⟨by rw[setCells_size];exact Zo _,λg hg _=>z g (pe hg)⟩
 have ht:=(KK.2.2.1.keep hp).mono2 (Q':=(w.heap.size<=·)) λg _ hg=>by rw[hk.out];omega
 have hq:=(KK.2.2.2.keep hp).mono2 (Q':=(w.heap.size<=·)) λg _ hg=>by rw[hk.out];omega
 refine anyS.sta (i:=9) (d:=F) Z 104 (.tmp 4) (.tmp 65) Z (k+1) 0 (inL m o f a b).toArray I2 k9 iIr S7 ?_;refine anyS.nxt (i:=10) (d:=J 5) (x:=tZ) Z S7 ?_;refine anyS.fin kR ?_ _;intro WZ kc;have hm:=kc;rw[<-hm]at r7 b7 ht hq;have KZ:=Hid.mk' (gF r7 (gF b7 (gF ht hq)));clear r6 r7 b7 hp ht hq S7 K z k9 kc hm KK h4 Q h0;go_wp2_with fail
 refine Zx (jG 4 5 Z KZ.1 Z Z uIr iIr) Z ?_;exact⟨_,Z,KZ.2.1,inL m o f a b,H,(by rfl),Z,I2,iff_of_true Z kg,λ_=>⟨m,o,Z,KZ.2.2.1,KZ.2.2.2⟩⟩
def hvT(n:Y):I × Hc:=if n=1 then(0,H) else if n=2 then(1,H) else if n=4 then(2,H) else if n=8 then(3,H) else if n=16 then(4,H) else if n=32 then(5,H) else if n=64 then(6,H) else(0,D)
def UA(n:Y)(w:Zl):eZ 51 #[iZ n] w (.tuple #[iZ ((hvT n).1:Y),.bool (hvT n).2]):=by
 let⟨v,hv⟩:=hE (yGj #[iZ ((hvT n).1:Y),.bool (hvT n).2])
 rw[hv.out];go_enter func51,ntmps51;go_wp2;go_loopg [5] 7 (λm s5 W=>W=w/\∃i:I,i+m=7/\s5=iZ i/\E (∀j,j<i->¬n=((2^j:I):Y)))
 exact⟨Z,0,Z,Z,λj d=>absurd d (uv _)⟩;obtain⟨rfl,i,q,rfl,k⟩:=hrel;have f:i=7\/i=0\/i=1\/i=2\/i=3\/i=4\/i=5\/i=6:=S;rcases f with rfl|f
 .have e:yGj #[iZ 0,fZ]=v:=by
   have h:=λj d=>k j d
   have c:=h 0 dC;have h1:=h 1 dC;have b:=h 2 dC;have o:=h 3 dC;have g:=h 4 dC;have l:=h 5 dC;have p:=h 6 dC;simp only[yER,yFx,yF6]at c h1 b o g l p;rw[<-hv.out];simp[hvT,c,h1,b,o,g,l,p]
  go_wp2
  go_ret2
  exact⟨_,Z,ZF _ _,e⟩
 have hs:=S;by_cases c:n=((2^i:I):Y)
 .rcases f with rfl|rfl|rfl|rfl|rfl|rfl|rfl
  all_goals
   simp only[yER]at c;subst c;go_wp2
   go_ret2
   exact⟨_,Z,ZF _ _,hv⟩
 have b:E (∀j,j<i+1->¬n=((2^j:I):Y)):=λj d=>by
  by_cases g:j=i
  .rw[g];exact c
  exact k j S
 rcases f with rfl|rfl|rfl|rfl|rfl|rfl|rfl
 all_goals
  simp only[yER,yFx,yF6]at c;go_wp2;go_roundg (gk-1);omega;refine⟨Z,_,?_,?_,b⟩<;>first|omega|rfl
omit [NeZero N] in
theorem P6(C:IO P)(b:Bs):On (Gp P b):=by
 unfold Gp;split
 .rename_i p h;exact(Is C h).2
 exact kJ
def rdO(C:IO P)(b:Bs):OnP P:=⟨Gp P b,P6 C b⟩
omit [NeZero N] in
theorem sE(C:IO P){b:Bs}(h:(rd P b).isSome=H):wP (rdO C b)=b:=by
 let⟨p,k⟩:=Z8.1 h
 show wr (Gp P b)=b;rw[IF k];exact Vo C k
def rdN(N:I)[NeZero N](b:Bs):B N:=rz N ((rq N b).getD 0)
def yA{b:Bs}(h:(rq N b).isSome=H):(rdN N b).val=(rq N b).getD 0:=by
 let⟨m,k⟩:=Z8.1 h
 have:m<N:=by
  unfold rq at k;split at k
  .rename_i h2;injection k with k;omega
  cases k
 unfold rdN;rw[k];exact ZC this
omit [NeZero N] in
theorem PtL.cong{K:I}{B B':I->Bs}(h:PtL Q W K t B)(e:∀j,j<t->B j=B' j):PtL Q W K t B':=λj k=>by rw[<-e j k];exact h j k
end
namespace RG
variable {P:ai}{ops:Array Z4}{Q:Exit->Act->Zl->Prop}{w0:Zl}{k0:Nat}{X:List Nat}{its:List It}{bl:List Bl}{olds:List (Tmp × SV)}{i:Nat}{o:Z4}{it:It}
def He{t2:Tmp}{v1 v2:Zm}(b:it.kind=.stay)(op:BinOp)(c:ZR)(ho:o.op=.binOp op T (.const v1) (.tmp t2) c)(k:it.out=.v v)(d:∀(μ:I->I) (a:Act),Known ops i its olds it.need μ a->a.eval (.tmp t2)=v2)(g:∀w,(eqGuard op T (.const v1) (.tmp t2) v1 v2).run P w=.ok () w)(f:∀w,(binOp op T v1 v2).run P w=.ok v w):Cert P Q w0 k0 X ops i its bl olds o it:=by
 refine cE b λμ a w e _=>?_
 rw[Z0,ho,k];dsimp only;rw[d μ a e];show(((eqGuard op T (.const v1) (.tmp t2) v1 v2) >>= λ_=>binOp op T v1 v2) >>= λv=>pure (pi v)).run P w=_;rw[ZK,ZK,g];dsimp only[Result.andThen];rw[f];rfl
end RG
def YV(h:k.size<=1000000)(w:Zl):(binOp .add 9 (.string ⟨#[112,111,105,110,116,32]⟩) (.string k)).run prog w=.ok (.string (⟨#[112,111,105,110,116,32]⟩++k)) w:=by
 have b:(⟨#[112,111,105,110,116,32]⟩:Fd).size=6:=rfl;have c:6+k.size<=9223372036854775807:=S;go_simp
def Sw{u:Fk}(h:(i:Y)=ub u)(b:i<256)(w:Zl):(convert 3 5 (iZ i)).run prog w=.ok (.int .u8 (ub u)) w:=by
 have h1:IntKind.u8.wrap (ub u)=ub u:=by
  have k:=u.toNat_lt;unfold ub;simp[IntKind.wrap,IntKind.bits,IntKind.signed];omega
 rw[h];go_simp
def XW(i:I)(c:Hc):G It:=[.x 9 [] (iZ i),.x 10 [(9,0)] (.bool c)]
def Zh(k s:Fd)(i:I)(u:Fk)(T:Bs)(n:I)(ok:Hc):G It:=[.c 14 [] rv0,.x 15 [] (.string k),.x 16 [(15,1)] (.string ((⟨#[112,111,105,110,116,32]⟩:Fd)++k)),.x 17 [] (.string s),.x 18 [] (iZ i),.x 19 [(18,4)] (.int .u8 (ub u)),⟨J 20,[(19,5)],(.s 1 1 1),.make 1⟩,.x 21 [(20,6)] (.string ⟨#[u]⟩),⟨J 22,[(17,3),(21,7)],(.s 2 2 2),.make 2⟩,.c 23 [(16,2),(22,8)] (.string ⟨T⟩),.c 24 [(14,0),(23,9)] (.tuple #[nv n,.bool ok]),.x 13 [(24,10)] (.tuple #[nv n,.bool ok]),.x 25 [(13,11)] (nv n),.x 26 [(13,11)] (.bool ok),.m 6 [] 3,.u [(6,14),(25,12)] 3,.x 7 [(26,13)] (.bool ok)]
def Zg(ok:Hc):G It:=[.x 27 [] (.bool ok),.x 28 [(27,0)] (.bool (!ok))]
def Zf(n:I)(x y:B P)(ok:Hc):G It:=[.x 30 [] (nv n),.c 31 [(30,0)] (.tuple #[rv x y 1,.bool ok]),.x 29 [(31,1)] (.tuple #[rv x y 1,.bool ok]),.x 32 [(29,2)] (rv x y 1),.x 33 [(29,2)] (.bool ok),.m 8 [] 4,.u [(8,5),(32,3)] 4,.x 7 [(33,4)] (.bool ok)]
def Ze(ok:Hc):G It:=[.x 34 [] (.bool ok)]
def XV(i:I):G It:=[.x 11 [] (iZ i),.x 12 [(11,0)] (iZ ((i+1:I):Y)),.x 5 [(12,1)] (iZ ((i+1:I):Y))]
def Zd(x y:B P):G It:=[.c 36 [] (rv x y 1),.u [(36,0)] 0]
def A4(h:cands P k b i=[])(c:cand P k b i=F):cands P k b (i+1)=[]:=by rw[fY,h,c];rfl
def Uy{q:B P × B P}(e:i<256)(h:cands P k b i=[])(d:cand P k b i=J q):hpt P k b=q:=by
 have h1:cands P k b (i+1)=[q]:=by rw[fY,h,d];rfl
 let⟨r,c⟩:=Cd (P:=P) k b (i:=i+1) (j:=256) S
 rw[hpt,<-c,h1];rfl
def QC(h:cands P k b 256=[]):hpt P k b=(gX P,gY P):=by
 rw[hpt,h];rfl
def QI(l x:G Fk)(y:G Fk):(bR l [x,y]).length=l.length+x.length+y.length+12:=by
 unfold bR;simp[jP];omega
def Gf(b s:Fd)(u:Fk)(hl:b.size<=4096)(hs:s.size<=4096)(k:I)(w:Zl)(h:w.rangeAt k 0 [.string s,.string ⟨#[u]⟩]/\k<w.heap.size):
 eZ 69 #[.string ((⟨#[112,111,105,110,116,32]⟩:Fd)++b),sZ k 2 2] w (.string ⟨kH ((⟨#[112,111,105,110,116,32]⟩:Fd)++b).data.toList [s.data.toList,[u]]⟩):=by
 have f:((⟨#[112,111,105,110,116,32]⟩:Fd)++b).size=6+b.size:=yDs;refine(zJ ((⟨#[112,111,105,110,116,32]⟩:Fd)++b) (J (aZ k)) 2 [s,⟨#[u]⟩] w S (I.le_of_ble_eq_true Z) (ZW ⟨k,0,Z,λj d=>?_⟩) (λj d=>?_) ?_).mono ?_
 .have c:j=0\/j=1:=by simp at d;omega
  rcases c with rfl|rfl
  .exact h.1 0 _ Z
  .exact h.1 1 _ Z
 .have c:j=0\/j=1:=by simp at d;omega
  rcases c with rfl|rfl
  .show s.size<=_;omega
  .show 1<=1048576;decide
 .show(bR ((⟨#[112,111,105,110,116,32]⟩:Fd)++b).data.toList [s.data.toList,[u]]).length<=_;rw[QI];have c:((⟨#[112,111,105,110,116,32]⟩:Fd)++b).data.toList.length=6+b.size:=by rw[ZE];exact f
  rw[c,ZE];show 6+b.size+s.size+1+12<=_;omega
 .rintro e w' ⟨rfl,c⟩;exact⟨_,Z,c,Z⟩
def CJ(C:Fl3 P)(c s:Fd)(hl:c.size<=4096)(t:s.size<=4096):FL 80 #[.string c,.string s] (rv (hpt P c s.data.toList).1 (hpt P c s.data.toList).2 1):=by
 intro w;go_enter func80,ntmps80;refine RG.M.enter [(0,.v (.string c)),(1,.v (.string s))] 37 kR λa0 M0=>?_
 repeat apply Zq
 refine M0.T [.m 0] [(0,RG.z 12)] [] [0,1,4] ⟨mk 0 48,Fs⟩ λk4 a1 w1 M1=>?_
 repeat apply Zq
 refine M1.U [.x (iZ 0)] [0,1,4,5] ⟨st,Fs⟩ λa2 w2 M2=>?_
 repeat apply Zq
 refine ay<|wp_loop_ghost (λm a wr=>∃i:I,i+m=256/\Hid (cands P c s.data.toList i=[])/\RG.M w w.heap.size [] 37 [RG.z 12] [k4] [(0,.v (.string c)),(1,.v (.string s)),(4,.p 0 0),(5,.v (iZ i))] a wr) 256 ⟨0,Z,Z,M2⟩ ?_
 intro m' a wr;rintro⟨i,h8,f,r⟩;by_cases M:i<256
 .obtain⟨u,hu⟩:∃u:Fk,(i:Y)=ub u:=⟨ZG i,by
   show _=(((ZG i).toNat:I):Y);rw[yCh,ZC oM]⟩
  have N:ZG i=u:=by
   apply Fk.toNat_inj.1;rw[yCh,ZC oM];have h:(i:Y)=((u.toNat:I):Y):=hu;omega
  obtain⟨T,hT⟩:=yH (kH ((⟨#[112,111,105,110,116,32]⟩:Fd)++c).data.toList [s.data.toList,[u]]);have K:T.size=32:=hT.out▸eG;have d:cand P c s.data.toList i=if beV T.toList<P then(rt (rz P (beV T.toList)*rz P (beV T.toList)*rz P (beV T.toList)+7)).map λy=>(rz P (beV T.toList),y) else F:=by
   unfold cand;rw[N,hT.out]
  have Gf:∀(A s':Fd) (u':Fk),A.size<=4096->s'.size<=4096->∀(k:I) (w:Zl),w.rangeAt k 0 [.string s,.string ⟨#[u]⟩]/\k<w.heap.size->eZ 69 #[.string ((⟨#[112,111,105,110,116,32]⟩:Fd)++c),sZ k 2 2] w (.string ⟨T⟩):=λ_ _ _ _ _ k w h=>by
   rw[<-hT.out];exact Go.Proofs.YtndpeoebngkhmaaGreat.Gf c s u hl t k w h
  obtain⟨n,ok,L,O⟩:∃n ok,FL 65 #[rv0,.string ⟨T⟩] (.tuple #[nv n,.bool ok])/\(cand P c s.data.toList i=F/\ok=D\/ok=H/\∃(x z:B P) (b:Hc),FL 66 #[nv n] (.tuple #[rv x z 1,.bool b])/\(b=D/\cand P c s.data.toList i=F\/b=H/\cand P c s.data.toList i=J (x,z))):=by
   rw[d];by_cases hx:beV T.toList<P
   .have g:beV T.toList=(rz P (beV T.toList)).val:=(ZC hx).symm;generalize rz P (beV T.toList)=x at g⊢;rw[GD hx];refine⟨_,H,BK C (bs:=T) K g,ZW ⟨Z,?_⟩⟩;cases j:rt (x*x*x+7) with
    | none=>exact⟨x,0,D,Iw C x j,Z5 ⟨Z,Z⟩⟩
    | some y=>exact⟨x,y,H,CC C x y j,ZW ⟨Z,Z⟩⟩
   .rw[Id hx];exact⟨_,D,BM C (bs:=T) K hx,Z5 ⟨Z,Z⟩⟩
  repeat apply Zq
  refine r.u (XW i H) [(0,.v (.string c)),(1,.v (.string s)),(4,.p 0 0),(5,.v (iZ i)),(10,.v tZ)] ⟨st,aJ Z .lss (T:=3) 3 (t1:=9) (v1:=(iZ i)) (v2:=(iZ 256)) (v:=tZ) Z Z sx (λw=>kR) (pO (n:=256) M),Fs⟩ λV W j=>?_
  repeat apply Zq
  refine Z6 j.ev<|aw<|Zq<|ay ?_
  repeat apply Zq
  refine j.d (Zh c s i u T n ok) [(6,[.int .u8 (ub u)]),(8,[.string s,.string ⟨#[u]⟩]),(14,RG.z 4)] [(3,15,wn n)] [RG.z 12,[.int .u8 (ub u)],[.string s,.string ⟨#[u]⟩],wn n] [(0,.v (.string c)),(1,.v (.string s)),(4,.p 0 0),(5,.v (iZ i)),(6,.p 3 0),(7,.v (.bool ok))] ⟨cl bP,st,He Z .add (T:=9) 9 (t2:=15) (v1:=(.string ⟨#[112,111,105,110,116,32]⟩)) (v2:=(.string c)) (v:=(.string ((⟨#[112,111,105,110,116,32]⟩:Fd)++c))) Z Z sx (λw=>kR) (YV (k:=c) oM),st,st,Cb Z (S:=3) (T:=5) (t:=18) (v:=(iZ i)) (b:=(.int .u8 (ub u))) Z Z sx (Sw hu M),Ol 1 Z Z (T:=22) (E:=5) (t:=19) (v:=(.int .u8 (ub u))) Z Z sx (bs1 (ub u)),Oi Z (b:=1) 6 Z Z Z kR kR 22 9 (t:=20) (n:=1) (.string ⟨#[u]⟩) Z Z sx (λw k h=>str1 u w k h),mk 2 9,cr [2] (λμ w' _ hs=>Gf c s u hl t (μ 2) w' (hs 2 (G.Mem.head _) _ Z (G.cons_ne_nil _ _))) λ_ _=>kR,cl L,st,st,st,mk 3 46,RG.pt i33,st,Fs⟩ λb1 b2 b3 h0 Q p=>?_
  repeat apply Zq
  refine p.u (Zg ok) [(0,.v (.string c)),(1,.v (.string s)),(4,.p 0 0),(5,.v (iZ i)),(6,.p 3 0),(28,.v (.bool (!ok)))] ⟨st,st,Fs⟩ λh6 h4 l=>?_
  rcases O with⟨d,rfl⟩|⟨rfl,x,z,b,h2,hb⟩
  .repeat apply Zq
   refine Z6 l.ev<|tT ?_
   dsimp only[Exit.then,yr];rw[GD Z];repeat apply Zq
   refine l.u (XV i) [(0,.v (.string c)),(1,.v (.string s)),(4,.p 0 0),(5,.v (iZ ((i+1:I):Y)))] ⟨st,aJ Z .add (T:=3) 3 (t1:=11) (v1:=(iZ i)) (v2:=(iZ 1)) (v:=(iZ ((i+1:I):Y))) Z Z sx (λw=>kR) (Ba (a:=i) (b:=1) oM oM),st,Fs⟩ λq v g=>?_
   show ∃n',_;exact⟨m'-1,oM,i+1,oM,A4 f d,RG.M.drop (cs:=[RG.z 12]) (cs2:=[_,_,_]) (ks:=[k4]) (ks2:=[_,_,_]) g Z Z⟩
  .repeat apply Zq
   refine Z2 l.ev<|aw ?_
   repeat apply Zq
   refine l.t (Zf n x z b) [(5,RG.z 12)] [(4,6,ws x++(ws z++ws (1:B P)))] [RG.z 12,[.int .u8 (ub u)],[.string s,.string ⟨#[u]⟩],wn n,ws x++(ws z++ws (1:B P))] [(0,.v (.string c)),(1,.v (.string s)),(4,.p 0 0),(5,.v (iZ i)),(7,.v (.bool b)),(8,.p 4 0)] ⟨ld u33 i33,cl h2,st,st,st,mk 4 48,RG.pt i56,st,Fs⟩ λb4 h9 h3 X=>?_
   repeat apply Zq
   refine X.u (Ze b) [(0,.v (.string c)),(1,.v (.string s)),(4,.p 0 0),(5,.v (iZ i)),(8,.p 4 0),(34,.v (.bool b))] ⟨st,Fs⟩ λh5 h7 o=>?_
   rcases hb with⟨rfl,d⟩|⟨rfl,d⟩
   .repeat apply Zq
    refine Z2 o.ev<|aw ?_
    repeat apply Zq
    refine o.u (XV i) [(0,.v (.string c)),(1,.v (.string s)),(4,.p 0 0),(5,.v (iZ ((i+1:I):Y)))] ⟨st,aJ Z .add (T:=3) 3 (t1:=11) (v1:=(iZ i)) (v2:=(iZ 1)) (v:=(iZ ((i+1:I):Y))) Z Z sx (λw=>kR) (Ba (a:=i) (b:=1) oM oM),st,Fs⟩ λq v g=>?_
    show ∃n',_;exact⟨m'-1,oM,i+1,oM,A4 f d,RG.M.drop (cs:=[RG.z 12]) (cs2:=[_,_,_,_]) (ks:=[k4]) (ks2:=[_,_,_,_]) g Z Z⟩
   .have hq:hpt P c s.data.toList=(x,z):=Uy M f d;rw[hq];repeat apply Zq
    refine Z6 o.ev ?_;repeat apply Zq
    refine o.T [.x (rv x z 1),.u 0] [] [(0,1,ws x++(ws z++ws (1:B P)))] [4] ⟨ld u56 i56,RG.pt i56,Fs⟩ λq v g=>?_
    exact ag (g.rr 0 Z u56 i56 (hv:=rfl))
 .have d:i=256:=oM;have hq:hpt P c s.data.toList=(gX P,gY P):=QC (by have h:=f;rw[d]at h;exact h);rw[hq];have hG:FL 81 #[] (rv (gX P) (gY P) 1):=TM C;repeat apply Zq
  refine r.u (XW i D) [(0,.v (.string c)),(1,.v (.string s)),(4,.p 0 0),(5,.v (iZ i)),(10,.v fZ)] ⟨st,aJ Z .lss (T:=3) 3 (t1:=9) (v1:=(iZ i)) (v2:=(iZ 256)) (v:=fZ) Z Z sx (λw=>kR) (wG (n:=256) M),Fs⟩ λV W j=>?_
  repeat apply Zq
  refine Z2 j.ev<|tT ?_
  dsimp only[Exit.then,yr];rw[GD Z];repeat apply Zq
  refine j.t (Zd (gX P) (gY P)) [] [(0,1,ws (gX P)++(ws (gY P)++ws (1:B P)))] [ws (gX P)++(ws (gY P)++ws (1:B P))] [(4,.p 0 0)] ⟨cl hG,RG.pt i56,Fs⟩ λh0 Q p=>?_
  exact ag (p.rr 0 Z u56 i56 (hv:=rfl))
section
open SPA
variable {P:Nat}
def QK(n:I)(l:n<4294967296)(w:Zl):eZ 82 #[iZ n] w (.string ⟨fG n⟩):=by
 have b:(n:Y)/16777216%256=SP.ub (aV n 16777216):=dR (n:=n) (d:=16777216);have b0:(n:Y)/16777216=SP.ub (aV n 16777216):=S;clear b;have b1:(n:Y)/65536%256=SP.ub (aV n 65536):=dR (n:=n) (d:=65536);have i:(n:Y)/256%256=SP.ub (aV n 256):=dR (n:=n) (d:=256);have j:(n:Y)%256=SP.ub (aV n 1):=pQ n;have d:=SP.conv_str prog 22 9 5 slice22 int5 str9 _ _ 0 4 4 _ (nK w (x:=(aV n 16777216)) (y:=(aV n 65536)) (z:=(aV n 256)) (aV n 1)) Z;have f:E (fG n=#[aV n 16777216,aV n 65536,aV n 256,aV n 1]):=rfl;rw[f.out];generalize aV n 16777216=c at *;generalize aV n 65536=x1 at *;generalize aV n 256=x2 at *;generalize aV n 1=g at *;have k:kZ w (w.alloc (.cells #[.int .u8 (SP.ub c),.int .u8 (SP.ub x1),.int .u8 (SP.ub x2),.int .u8 (SP.ub g)] 5)):=(ZF _ _).alloc (Zo _) _;go_enter func82,ntmps82;go_wp2;go_ret;exact⟨_,Z,k,Z⟩
def VB:prog.underlying 71=J (.slice 48):=kR
def WB:(prog.info? 48).map (λi=>(i.size,i.bytes,i.zero.map λz=>z.cells.size))=J (12,96,J 12):=kR
theorem OI{k:I}(t:T3 P)(b:W.ownsRow base 48 12 v k xs)(hR:FJ W g (tw t))(w:k<=1000000)(n:base<=W.heap.size):
 ∃c W',(oT #[71,71] 71 #[v,sZ g 1 1]).run prog W=.ok c W'/\W'.ownsRow base 48 12 c (k+1) (xs++tw t)/\W.grownBy W' v.ownBlock:=by
 let⟨i,r,e⟩:=Zp.1 WB
 simp only[an.injEq]at e;let⟨h1,l,q⟩:=e
 let⟨z,o,d⟩:=Zp.1 q
 obtain⟨c,W',m,r2,f,-⟩:=yDJ (P:=prog) W base 71 71 48 i z 12 96 VB r o h1 l d dC v k xs b (aZ g) 1 1 (tw t) Z
  (λj u s=>by
   have:=hR.2.1 j u s;rw[Zs]at this;rw[show(⟨g,0,F⟩:gE).add j=⟨g,j,F⟩ by unfold ts;split<;>simp_all];exact this) (λu p=>G.all_eq_true.1 (Fu t) u p) (by unfold maxLen;omega) S n
 exact⟨c,W',m,r2,f⟩
def RwQ(s:I)(f:I->G Zm)(Q:I->Prop)(W:Zl)(v:Zm)(n:I):Prop:=∃g o c,v=qZ g o n c/\n<=c/\Q g/\g<W.heap.size/\∀j,j<n->W.rangeAt g (o+s*j) (f j)
section
variable {s:Nat}{f:Nat->List Zm}{Q Q':Nat->Prop}{W W':Zl}{v:Zm}{n g o m c:Nat}
def RwQ.keep(h:RwQ s f Q W v n)(k:Kq Q W W'):RwQ s f Q W' v n:=by
 let⟨g,o,c,h1,l,d,b,p⟩:=h
 refine⟨g,o,c,h1,l,d,Zn b k.size,λj e i u m=>?_⟩;rw[ZP (a:=⟨g,o+s*j+i,F⟩) (k.block g d b)];exact p j e i u m
def RwQ.mono(h:RwQ s f Q W v n)(i:∀g,g<W.heap.size->Q g->Q' g):RwQ s f Q' W v n:=by
 let⟨g,o,c,h1,b,e,k,d⟩:=h
 exact⟨g,o,c,h1,b,i g k e,k,d⟩
def RwQ.low(h:RwQ s f Q W (qZ g o (m+m) c) (m+m)):RwQ s f Q W (qZ g o m c) m:=by
 let⟨l,n,c',e,h1,k,d,b⟩:=h
 injection e with e1 e2 e3
 injection e1 with e1
 injection e1 with e4 e5
 subst e3 e4 e5;exact⟨g,o,c,Z,S,k,d,λj i=>b j S⟩
def RwQ.high(h:RwQ s f Q W (qZ g o (m+m) c) (m+m)):RwQ s (λj=>f (m+j)) Q W (qZ g (o+s*m) m (c-m)) m:=by
 let⟨l,n,c',e,h1,k,d,b⟩:=h
 injection e with e1 e2 e3
 injection e1 with e1
 injection e1 with e4 e5
 subst e3 e4 e5;refine⟨g,o+s*m,c-m,Z,S,k,d,λj i=>?_⟩;have:=b (m+j) S;rw[te,<-I.add_assoc]at this;exact this
def RwQ.at(h:RwQ s f Q W (qZ g o n c) n)(k:j<n):W.rangeAt g (o+s*j) (f j):=by
 obtain⟨d,i,c',e,-,-,-,b⟩:=h;injection e with e1 e2 e3
 injection e1 with e1
 injection e1 with e4 e5
 subst e3 e4 e5;exact b j k
def nY(f:I->G Zm):I->G Zm
 | 0=>[]
 | n+1=>nY f n++f n
def iU(hs:∀j,(f j).length=s):∀n,(nY f n).length=s*n
 | 0=>rfl
 | n+1=>by rw[nY,G.length_append,iU hs n,hs,I.mul_succ]
def yJ(hs:∀j,(f j).length=s):∀(n j i:I) (u:Zm),j<n->(f j)[i]? = J u->(nY f n)[s*j+i]? = J u
 | 0,_,_,_,h,_=>absurd h (uv _)
 | n+1,j,i,u,h,hu=>by
  rw[nY];by_cases b:j<n
  .have k:=yJ hs n j i u b hu;rw[G.getElem?_append_left (Zz.1 k).1];exact k
  obtain rfl:j=n:=S;rw[G.getElem?_append_right (by rw[iU hs];omega),iU hs,I.add_sub_cancel_left];exact hu
def RwQ.of_own(hs:∀j,(f j).length=s)(h:W.ownsRow base T s v n (nY f n))(m:0<n):RwQ s f (base<=·) W v n:=by
 have e:=λg=>h.cells (g:=g)
 rcases h with⟨-,⟨-,l⟩|⟨g,cap,cur,rfl,h1,k,c,-⟩⟩
 .omega
 refine⟨g,0,cap,Z,c,h1,(ZO.1 k).1,λj d i u b=>?_⟩;have:=e g Z (s*j+i) u (yJ hs n j i u d b);rw[SJ]at this;rw[Zs];exact this
end
abbrev PtQ(Q:I->Prop)(W:Zl)(v:Zm)(n:I)(t:I->T3 P):Prop:=RwQ 12 (λj=>tw (t j)) Q W v n
abbrev QX(t:I->T3 P):I->G Zm:=nY λj=>tw (t j)
def PtQ.of_own{t:I->T3 P}(h:W.ownsRow base 48 12 v n (QX t n))(k:0<n):PtQ (base<=·) W v n t:=RwQ.of_own (λ_=>rfl) h k
end
section
open SPA
def below_grown{W':Zl}(b:kZ w W)(ho:W.ownsRow w.heap.size e s v n xs)(c:W.grownBy W' v.ownBlock):kZ w W':=by
 refine⟨c.os.trans b.os,c.tape.trans b.tape,c.output.trans b.output,Zw b.size c.size,λg d=>?_⟩;rw[c.block g (Zn d b.size) ?_]
 .exact b.block g d
 rcases ho with⟨-,⟨rfl,-⟩|⟨k,cap,cur,rfl,h1,-⟩⟩
 .exact λh=>by cases h
 intro h;injection h with h
 have h:g=k:=h;omega
def own_below(ho:w.ownsRow base e s v n xs)(f:kZ w W):W.ownsRow base e s v n xs:=by
 rcases ho with⟨b,h|⟨k,cap,cur,h1,d,c,g⟩⟩
 .exact⟨b,Z5 h⟩
 exact⟨b,ZW ⟨k,cap,cur,h1,d,by rw[f.block k (ZO.1 c).1];exact c,g⟩⟩
def zS(h:W.ownsRow base e s v n xs)(b:0<n):∃g c,v=sZ g n c:=by
 rcases h with⟨-,⟨-,k⟩|⟨g,cap,cur,rfl,-⟩⟩
 .omega
 exact⟨g,cap,Z⟩
def zP:G Zm:=G.replicate 12 (U 0)
def uP3:yZ 48:=yQ
def iP3:gZ 48 12:=gQ
omit [NeZero P] in
theorem mR(t:T3 P):(tw t).toArray.all (·.oneCell')=H:=kR
omit [NeZero P] in
theorem YX(t:T3 P)(w:Zl):(pg 71 1 #[(0,tv t)]).run prog w=.ok (sZ w.heap.size 1 1) (w.alloc (.cells (tw t).toArray 48)):=kR
noncomputable def bsP (P:I) [NeZero P] (k:Fd) (i:I):T3 P:=((hpt P k (fG i).toList).1,(hpt P k (fG i).toList).2,1)
def Jy(C:Fl3 P)(k:Fd)(hl:k.size<=4096)(n:I)(hn:0<n)(z:n<=64)(w:Zl):dZ 33 #[.string k,iZ n] w λe w'=>w'.ownsRow w.heap.size 48 12 e n (QX (bsP P k) n):=by
 obtain⟨t,a⟩:=hE (bsP P k);have hH:E (∀i,i<n->FL 80 #[.string k,.string ⟨fG i⟩] (tv (t i))):=by
  intro i _;have:=CJ C k ⟨fG i⟩ hl (show 4<=4096 by decide);rw[<-a.out];exact this
 rw[a.out];go_enter func33,ntmps33;go_wp2;go_loopg [5,6] n (λm s5 s6 W=>∃i:I,i+m=n/\s6=iZ i/\E (kZ w W/\W.ownsRow w.heap.size 48 12 s5 i (QX t i)))
 case atStart=>exact⟨0,S,Z,⟨ZF _ _,Z,Z5 ⟨Z,Z⟩⟩⟩
 case round =>
  obtain⟨i,V,rfl,j⟩:=hrel;by_cases M:i<n
  .have A:=Hid.mk' M;have d:(i:Y)<(n:Y):=S;have s:ZN.wrap ((i:Y)+1)=((i+1:I):Y):=by rw[pk];have:=(mk2 hn z).2;omega
   obtain⟨vt,b⟩:=hE (tv (t i));have Hh:=hH i M;rw[b.out]at Hh;refine Zq<|PW.rg [.bool (decide ((i:Y)<(n:Y)))] ?_
   rw[decide_eq_true d];refine Z6 rfl<|aw<|Zq<|ay<|PW.bg [] ?_
   refine PW.gi (QK i S wr) λT y=>?_
   refine PW.gi (Hh T) λN x=>?_
   refine hG N.heap.size λQ c=>?_
   refine hG (lZ N zP 48) λX l=>?_
   refine hG (X.setCells Q 0 (tw (t i))) λu f=>?_
   have K:=mk1 ((((Mp.start wr).grow y).grow x).new c l);have o:=mk1 (K.put 0 f);refine PW.al c l ?_;refine PW.st f b (K.th 0) iP3 (mR (t i)) ?_;refine PW.dn ?_;refine PW.bb (P:=prog) [] ?_;refine PW.ro (o.at_ 0).2.1 b uP3 iP3 ?_;have g:=aD (w:=u) (.cells (tw (t i)).toArray 48);have L:=YX (t i) u;have p:=mk2 (j.1.trans ((o.bl.trans (g.mono o.bl.size)).mono j.1.size)) (own_below j.2 (o.bl.trans (g.mono o.bl.size)));obtain⟨O,W6,q,v,r⟩:=OI (t i) p.2 (aE (w:=u) (c:=(tw (t i))) (T:=48)) S p.1.size;rw[b.out]at L;refine PW.ns L ?_;refine PW.ns q ?_;refine PW.en [O] ?_;refine PW.bb (P:=prog) [iZ (ZN.wrap ((i:Y)+1))] ?_;rw[s];go_wp2;go_roundg (gk-1)
   case measure=>have:=A;omega
   case rel=>exact⟨i+1,oN A,Z,mk2 (below_grown (base:=0) p.1 p.2 r) v⟩
  .have d:=S;have b:i=n:=S;go_wp2;go_ret;have:=j.2;rw[b]at this;exact⟨_,Z,j.1,this⟩
def Re(C:Fl3 P)(k:Fd)(hl:k.size<=4096)(n:I)(d:0<n)(b:n<=64)(w:Zl):dZ 33 #[.string k,iZ n] w λe w'=>PtQ (w.heap.size<=·) w' e n (bsP P k)/\∃g c,e=sZ g n c:=
 (Jy C k hl n d b w).mono (by
  rintro e w' ⟨v,rfl,f,h⟩;exact⟨_,Z,f,PtQ.of_own h d,zS h d⟩)
end
section
open SPA
namespace RG
variable {P:ai}{ops:Array Z4}{Q:Exit->Act->Zl->Prop}{w:Zl}{a0:Act}{G:Gw}{k:Nat}{o:Z4}
def YN(j:I)(t:Tmp)(v:Zm)(cs:List Zm)(T:ZR)(c:∀x W,G.R j x W->x=v)(hR:∀W W':Zl,FJ W' W.heap.size cs->G.B W->G.R k (sZ W.heap.size 1 1) W')(hd:(bV o j,aP ops j)=(H,J t):=by kernel_rfl)(hs:∀W,(bZ [t] o,(Z0 (evo (evl [(t,v)])) o).run P W)=(H,.ok (.value (sZ W.heap.size 1 1)) (W.alloc (.cells cs.toArray T))):=by intro _;kernel_rfl):bG P Q G.flow ops a0 k o:=
 bK λa W b=>⟨[(t,v)],_,_,⟨c _ W (b.n j t (congrArg Prod.fst hd) (congrArg Prod.snd hd)),Fs⟩,hs W,aD _,hR W _ aE b.b⟩
def pB(cs:List Zm):S1:=⟨λv w=>∃g,v=sZ g 1 1/\FJ w g cs,λ_ _ _ b ⟨g,h1,k⟩=>⟨g,h1,k.below b⟩⟩
end RG
variable {P:Nat}[NeZero P]
def SA:(aj 46 (nv n)).run prog w=.ok (jZ w.heap.size) (w.alloc (.cells (wn n).toArray 46)):=kR
def Hw{k:I}(b:i<n)(w:Zl):(iB 71 (qZ k o n c) (iZ i)).run prog w=.ok (oZ k (o+12*i)) w:=by
 go_simp
def mxT(x y:I)(b k:I->T3 P)(j:I):T3 P:=plF (tmF x (b j) 256) (tmF y (k j) 256)
def Nm(C:Fl3 P)(x y:I)(hx:x<top)(hy:y<top)(n:I)(hn:0<n)(h7:n<=64)(d f:I->T3 P)(pa pb:I->EC.Pt P)(T:∀j,j<n->IN (d j) (pa j))(N:∀j,j<n->IN (f j) (pb j))(va vb:Zm)(w:Zl)(hA:PtQ (λ_=>True) w va n d)(r:PtQ (λ_=>True) w vb n f):
 dZ 83 #[nv x,va,nv y,vb] w λe w'=>PtQ (w.heap.size<=·) w' e n (mxT x y d f):=by
 obtain⟨ga,oa,ca,rfl,ha,-,Q,h4⟩:=hA;obtain⟨A,L,cb,rfl,he,-,X,h8⟩:=r;obtain⟨k,hk⟩:=hE (w.heap.size);obtain⟨l,q⟩:=hE (lZ w (wn x) 46);obtain⟨c,a⟩:=hE (lZ l (wn y) 46);have z1:l.heap.size=k+1:=by rw[<-q.out,Zy,hk.out]
 have b1:kZ w l:=q.out▸aD _;have b2:kZ l c:=a.out▸aD _;have r1:FJ l k (wn x):=q.out▸hk.out▸aE (w:=w);have r2:FJ c (k+1) (wn y):=by rw[<-a.out,<-z1];exact aE (w:=l)
 have p:=b1.trans (b2.mono b1.size);have o:E (FJ c k (wn x)/\FJ c (k+1) (wn y)/\ga<c.heap.size/\A<c.heap.size/\(∀j,j<n->c.rangeAt ga (oa+12*j) (tw (d j)))/\(∀j,j<n->c.rangeAt A (L+12*j) (tw (f j)))/\kZ w c):=⟨r1.below b2,r2,Zn Q p.size,Zn X p.size,λj s=>aF (h4 j s) p Q,λj s=>aF (h8 j s) p X,p⟩
 have cT:E (∀j,j<n->FL 29 #[nv x,tv (d j)] (tv (tmF x (d j) 256))/\FL 29 #[nv y,tv (f j)] (tv (tmF y (f j) 256))/\FL 28 #[tv (tmF x (d j) 256),tv (tmF y (f j) 256)] (tv (mxT x y d f j))):=λj s=>⟨mG C x hx (d j) (T j s),mG C y hy (f j) (N j s),(FracT.plus C (yY C (by unfold top at hx;omega) (T j s) 256 (Zo _)) (yY C (by unfold top at hy;omega) (N j s) 256 (Zo _))).1⟩
 obtain⟨t,ht⟩:=hE (mxT x y d f);rw[ht.out]at cT;rw[ht.out];have B1:E ((aj 46 (nv x)).run prog w=.ok (jZ k) l):=q.out▸hk.out▸SA (n:=x) (w:=w);have B2:E ((aj 46 (nv y)).run prog l=.ok (jZ (k+1)) c):=by rw[<-a.out,<-z1];exact SA (n:=y) (w:=l)
 have HN:=mk2 hn h7;obtain⟨vx,K⟩:=hE (nv x);obtain⟨vy,h2⟩:=hE (nv y);rw[K.out]at B1;rw[h2.out]at B2;rw[K.out,h2.out];go_enter func83,ntmps83;go_wp2_with (first|(refine aI (u:=vx) (v:=jZ k) (w':=l) Z 46 (.tmp 0) Z ?_ ?_ ?_;rfl;exact B1)|(refine aI (u:=vy) (v:=jZ (k+1)) (w':=c) Z 46 (.tmp 2) Z ?_ ?_ ?_;rfl;exact B2)|fail)
 go_loopg [9,10] n (λm s9 s10 W=>∃i:I,i+m=n/\s10=iZ i/\E (kZ c W/\W.ownsRow c.heap.size 48 12 s9 i (QX t i)))
 case atStart=>exact⟨0,S,Z,⟨ZF _ _,Z,Z5 ⟨Z,Z⟩⟩⟩
 case round =>
  obtain⟨i,hm,rfl,b⟩:=hrel;by_cases hi:i<n
  .have h5:=S;have z:=Hid.mk' hi;go_wp2_with fail
   have hc:=b.1.drew;obtain⟨c1,c2,c3⟩:=cT i z;refine(gwL [pE u9,pE (nv x),pE (qZ ga oa n ca),pE (iZ i),pE (oZ ga (oa+12*i)),pE (tv (d i)),pE (tv (tmF x (d i) 256)),pE (nv y),pE (qZ A L n cb),pE (iZ i),pE (oZ A (L+12*i)),pE (tv (f i)),pE (tv (tmF y (f i) 256)),pE (tv (t i)),pB (tw (t i))] (λW=>kZ wr W) (λW W' hb h=>h.trans (hb.mono h.size))).tail2 15 kR kR kR ⟨
    RG.gO 9 u9,
    gLo 4 (λW r=>aF o.1.2.1 (b.1.trans (r.mono b.1.size)) o.1.1) u33 i33,
    RG.gO 1 (qZ ga oa n ca),
    RG.gO 10 (iZ i),
    RG.gX 2 19 3 20 (Hw (k:=ga) (o:=oa) (n:=n) (c:=ca) (i:=i) z),
    gLr 4 21 (λW r=>aF (o.2.2.2.2.1 i z) (b.1.trans (r.mono b.1.size)) o.2.2.1) uP3 iP3,
    gC2 1 18 5 22 c1,
    gLo 6 (λW r=>aF o.2.1.2.1 (b.1.trans (r.mono b.1.size)) o.2.1.1) u33 i33,
    RG.gO 3 (qZ A L n cb),
    RG.gO 10 (iZ i),
    RG.gX 8 25 9 26 (Hw (k:=A) (o:=L) (n:=n) (c:=cb) (i:=i) z),
    gLr 10 27 (λW r=>aF (o.2.2.2.2.2.1 i z) (b.1.trans (r.mono b.1.size)) o.2.2.2.1) uP3 iP3,
    gC2 7 24 11 28 c2,
    gC2 6 23 12 29 c3,
    YN 13 30 (tv (t i)) (tw (t i)) 48 (λx W h=>h) (λW W' h _=>⟨_,Z,h⟩),Fs⟩ (ZF _ _).drew ?_
   intro V W9 O h0;obtain⟨g8,M,r8⟩:∃g,V 14=sZ g 1 1/\FJ W9 g (tw (t i)):=O 14 dC;have K9:=mk2 (b.1.trans (h0.mono b.1.size)) (own_below b.2 h0);obtain⟨v',W6,h3,h9,h6⟩:=OI (t i) K9.2 r8 (by have:=HN.2;have:=z;omega) K9.1.size;dsimp only[cD,mi,r9,tr];simp only[ah,Zr,Zt,Zu];rw[O 0 dC,M];go_wp2_with (first|(refine kP (x:=u9) (y:=sZ g8 1 1) (v:=v') (w':=W6) Z _ _ 71 Z ?_ ?_ ?_ ?_;rfl;rfl;exact(Hid.mk' h3).out)|fail)
   go_roundg (gk-1)
   case measure=>have:=z;omega
   case rel=>exact⟨i+1,oN z,Z,mk2 (below_grown (base:=0) K9.1 K9.2 h6) h9⟩
  .have h5:=S;have z:i=n:=S;go_wp2;go_ret;have:=b.2;rw[z]at this;exact⟨_,Z,o.2.2.2.2.2.2.trans (b.1.mono o.2.2.2.2.2.2.size),(PtQ.of_own this HN.1).mono λg _ M=>Zw o.2.2.2.2.2.2.size M⟩
end
section
open SPA
def tP{L:Bs}(h:RLog w y L)(k:y≠g):RLog (w.setCells g o vs) y L:=by
 have b:=aM (k:=g) vs o w y k;refine⟨by rw[ZP (a:=⟨y,0,F⟩) b];exact h.1,?_⟩;rw[World.frozen?_of_block (a:=⟨y,0,F⟩) b];exact h.2
def MM(O:Ord N)(y:I)(L:Bs)(w:Zl)(hl:L.size=32)(C:RLog w y L):cZ 70 #[jZ y] w (Ret λe w'=>SP.Only y 0 1 w w'/\RLog w' y (aS L)/\e=nv (cha N L)):=by
 let⟨z,l⟩:=hE (aS L)
 rw[l.out];let⟨A,x⟩:∃A,E (xR L [99,104,97,108,108,101,110,103,101] 64=A):=⟨_,Z⟩
 have Q:A.size=64:=x.out▸Cl;have K:cha N L=nW N A:=by unfold cha;rw[x.out]
 rw[K];clear K;have r:=C.lt;let⟨f,b⟩:∃f,E (w.alloc (.cells #[U 0,U 0,U 0,U 0] 46)=f):=⟨_,Z⟩
 have i:E (FJ f w.heap.size [U 0,U 0,U 0,U 0]/\kZ w f):=by rw[<-b.out];exact⟨aE,aD _⟩
 go_enter func70,ntmps70;go_wp2_with fail
 rw[b.out];apply(OR f).mono;rintro e s ⟨v,rfl,k,rfl⟩;have o:E (FJ s w.heap.size [U 0,U 0,U 0,U 0]/\kZ w s/\RLog s y L):=⟨i.1.below k,i.2.trans (k.mono i.2.size),(C.below i.2).below k⟩
 clear k i b;go_wp2_with fail
 apply(Gc y L ⟨#[99,104,97,108,108,101,110,103,101]⟩ 64 s dC dC hl o.2.2).mono;rintro e n ⟨rfl,u,c⟩;rw[show nP L (⟨#[99,104,97,108,108,101,110,103,101]⟩:Fd).data.toList=z from l.out]at c;rw[show xR L (⟨#[99,104,97,108,108,101,110,103,101]⟩:Fd).data.toList 64=A from x.out];have p:E (FJ n w.heap.size [U 0,U 0,U 0,U 0]/\SP.Only y 0 1 w n/\RLog n y z):=⟨o.1.only u S,(SP.Only.of_below o.2.1 Z r).trans u,c⟩
 clear u o c;go_wp2_with fail
 apply(TR O S n).mono;rintro e P ⟨v,rfl,d,rfl⟩;have q:=mk3 (p.1.below d) (p.2.1.trans (SP.Only.of_below d Z (Zn r p.2.1.size))) (p.2.2.below d);let⟨m,M⟩:=hE (nW N A)
 rw[M.out];let⟨a,j⟩:=hE (P.setCells w.heap.size 0 (wn m))
 have t:E (FJ a w.heap.size (wn m)/\SP.Only y 0 1 w a/\RLog a y z):=by
  rw[<-j.out];exact⟨q.1.put Z,bU q.2.1 r (Zo _),tP q.2.2 (qh r)⟩
 let⟨T,g⟩:=hE (nv m)
 rw[g.out];go_wp2_with (refine ZZ Z 46 _ _ Z w.heap.size 0 (wn m).toArray ?_ ?_ ?_ ?_ ?_ ?_;rfl;exact g.symm;exact q.1.2.2;exact i33;exact aK;rw[show(wn m).toArray.toList=wn m from Z,j.out])
 refine Zx (aG 2 Z t.1 Z u33 i33) Z ?_;exact⟨_,Z,t.2.1,t.2.2,by rw[M.out];rfl⟩
def yG(O:Ord N)(y:I)(L:Bs)(w:Zl)(hl:L.size=32)(hL:RLog w y L):cZ 20 #[jZ y] w (Ret λe w'=>SP.Only y 0 1 w w'/\RLog w' y (aS L)/\e=nv (jT (cha N L))):=by
 have Q:=hL.lt;have z:cha N L<N:=qP O;let⟨X,C⟩:=hE (aS L)
 have cC:=Hid.mk' (λ(W:Zl) (h:RLog W y L)=>MM O y L W hl h);rw[C.out]at cC;rw[C.out];let⟨c,hc⟩:=hE (cha N L)
 rw[hc.out]at cC z;rw[hc.out];have cZ:=Hid.mk' (λ(W:Zl)=>qR (nv c) c (O.four z) W);let⟨k,P⟩:=hE w.heap.size
 let⟨K,a⟩:=hE (w.alloc (.cells #[U 0,U 0,U 0,U 0] 46))
 have r:E (FJ K k [U 0,U 0,U 0,U 0]/\kZ w K/\RLog K y L/\y<k):=by rw[<-a.out,<-P.out];exact⟨aE,aD _,hL.below (aD _),Q⟩
 let⟨dN,A,v⟩:=Zp.1 u33
 have HD:=mk2 A v;go_enter func20,ntmps20;go_wp2_with (first|(refine alR 2 P a ?_)|fail)
 apply(cC K r.2.2.1).mono;rintro e i ⟨vv,rfl,hO,x,rfl⟩;let⟨g3,n⟩:=hE i.heap.size
 let⟨T,u⟩:=hE (i.alloc (.cells #[U 0,U 0,U 0,U 0] 46))
 let⟨q,l⟩:=hE (T.setCells g3 0 (wn c))
 have F3:E (FJ T g3 [U 0,U 0,U 0,U 0]/\kZ i T):=by rw[<-u.out,<-n.out];exact⟨aE,aD _⟩
 have j:kZ i q:=by rw[<-l.out];exact RG.below_setCells (n.out▸Zo _) _ _ _ F3.2
 have s:E (FJ q k [U 0,U 0,U 0,U 0]/\FJ q g3 (wn c)/\SP.Only y 0 1 w q/\RLog q y X):=⟨(r.1.only hO (pe r.2.2.2)).below j,l.out▸F3.1.put Z,((SP.Only.of_below r.2.1 Z Q).trans hO).trans (SP.Only.of_below j Z x.lt),x.below j⟩
 let⟨vc,b⟩:=hE (nv c)
 rw[b.out]at cZ;rw[b.out];go_wp2_with (first|(refine alR 3 n u ?_)|(refine stR 3 l b F3.1.2.2 i33 aK ?_)|(refine ldR 3 s.2.1.2.1 b u33 i33 ?_)|fail)
 apply(cZ q).mono;rintro e w5 ⟨vv,rfl,g,rfl⟩;have f:=mk4 (s.1.below g) (s.2.1.below g) (s.2.2.1.trans (SP.Only.of_below g Z s.2.2.2.lt)) (s.2.2.2.below g);by_cases M:c=0
 .have hd:=decide_eq_true M;rw[hd];have V:E (jT c=1):=by show _=_;unfold jT;rw[GD M]
  go_wp2_with fail
  apply((Hid.mk' (λ(W:Zl)=>kT dC)) w5).mono;rintro e w6 ⟨vv,rfl,o,rfl⟩;let⟨m,d⟩:=hE (w6.setCells k 0 (wn 1))
  have r6:=f.1.below o;have p:E (FJ m k (wn 1)/\SP.Only y 0 1 w m/\RLog m y X):=by
   rw[<-d.out];exact⟨r6.put Z,bU (f.2.2.1.trans (SP.Only.of_below o Z f.2.2.2.lt)) Q (P.out▸Zo _),tP (f.2.2.2.below o) (oN r.2.2.2)⟩
  rw[show ZM #[U ((1:I):Y),U 0,U 0,U 0]=nv 1 from Z];let⟨v1,t⟩:=hE (nv 1)
  rw[t.out];go_wp2_with (first|(refine stR 2 d t (Hid.mk' r6).2.2 i33 aK ?_)|fail)
  refine Zx (aG 2 Z p.1 Z u33 i33) Z ?_;exact⟨_,Z,p.2.1,p.2.2,by rw[V.out];rfl⟩
 have hd:=decide_eq_false M;rw[hd];have V:E (jT c=c):=by show _=_;unfold jT;rw[Id M]
 let⟨m,d⟩:=hE (w5.setCells k 0 (wn c))
 have p:E (FJ m k (wn c)/\SP.Only y 0 1 w m/\RLog m y X):=by
  rw[<-d.out];exact⟨f.1.put Z,bU f.2.2.1 Q (P.out▸Zo _),tP f.2.2.2 (oN r.2.2.2)⟩
 go_wp2_with (first|(refine ldR 3 f.2.1.2.1 b u33 i33 ?_)|(refine stR 2 d b f.1.2.2 i33 aK ?_)|fail)
 refine Zx (aG 2 Z p.1 Z u33 i33) Z ?_;exact⟨_,Z,p.2.1,p.2.2,by rw[V.out];rfl⟩
noncomputable def inT (P:I) [NeZero P]:T3 P:=((hpt P ⟨#[105,110,110,101,114]⟩ []).1,(hpt P ⟨#[105,110,110,101,114]⟩ []).2,1)
def EH(C:Fl3 P):FL 37 #[] (tv (inT P)):=by
 intro w;have hh:FL 80 #[.string ⟨#[105,110,110,101,114]⟩,.string ⟨#[]⟩] (tv (inT P)):=CJ C ⟨#[105,110,110,101,114]⟩ ⟨#[]⟩ dC dC;generalize inT P=t at hh;go_enter func37,ntmps37;refine RG.M.enter [] 2 kR λa0 c=>?_
 refine Zq <| c.tx [.m 0 [] 0] [(0,RG.z 12)] [] [RG.z 12] [(0,.p 0 0)] kR kR ⟨mk 0 48 λ_ _=>kR,Fs⟩ λk f e d=>?_
 refine Zq <| d.tx [.c 1 [] (tv t),.u [(1,0)] 0] [] [(0,1,tw t)] [tw t] [(0,.p 0 0)] kR kR ⟨cl hh λ_ _=>kR,RG.pt i56 kR,Fs⟩ λa2 g b=>?_
 refine ag<|Zx (v:=tv t) (gK b.st Z Z (b.at (s:=(.p 0 0)) kR) u56 i56) b.sl.defers ?_
 exact⟨_,Z,b.st.bel.below,Z⟩
end
abbrev pz(n:I):It:=⟨J n,[],.v am,.pass⟩
def P4(C:Fl3 P)(x1 c b x2 d k:B P){v1 v2 j g:Hc}(h1:FL 77 #[rv x1 c b] (.bool v1))(o:FL 77 #[rv x2 d k] (.bool v2))(hx:∀w,(binOp .eql 46 (fv (x1*k)) (fv (x2*b))).run prog w=.ok (.bool j) w)(r:∀w,(binOp .eql 46 (fv (c*k)) (fv (d*b))).run prog w=.ok (.bool g) w):FL 31 #[rv x1 c b,rv x2 d k] (.bool (if v1 || v2 then v1 && v2 else j && g)):=by
 intro w;go_enter func31,ntmps31;refine RG.M.enter [(0,.v (rv x1 c b)),(1,.v (rv x2 d k))] 47 kR λa0 t=>?_
 repeat apply Zq
 refine t.T [.m 0,.m 1,.x fZ] [(0,ws x1++(ws c++ws b)),(1,ws x2++(ws d++ws k))] [] [2,3,4] ⟨mk 0 48,mk 1 48,st,Fs⟩ λv z a u p=>?_
 repeat apply Zq
 refine p.U [.x (rv x1 c b),.c (.bool v1),.x (.bool v1)] [2,3,4,5] ⟨ld u56 i56,cl h1,st,Fs⟩ λa2 A s=>?_
 repeat apply Zq
 refine s.U [.x (rv x2 d k),.c (.bool v2),.x (.bool v2)] [2,3,4,5,6] ⟨ld u56 i56,cl o,st,Fs⟩ λy x m=>?_
 repeat apply Zq
 cases v1 with
 | true =>
  repeat apply Zq
  refine m.u [.x 11 [] tZ,.x 12 [(11,0)] tZ,pz 13,.x 14 [(12,1),(13,2)] tZ] [(5,.v tZ),(6,.v (.bool v2)),(14,.v tZ)] ⟨st,st,aO Z Z,st,Fs⟩ λq n e=>?_
  repeat apply Zq
  refine Z6 e.ev ?_;repeat apply Zq
  refine e.U [.x tZ,.x tZ,.x (.bool v2),.x (.bool v2),.x (.bool v2)] [4] ⟨st,st,st,st,st,Fs⟩ λi l f=>?_
  exact ag f.rt
 | false =>
  repeat apply Zq
  refine m.U [.x fZ,.x fZ,.x (.bool v2),.x (.bool v2)] [2,3,5,14] ⟨st,st,st,st,Fs⟩ λq n e=>?_
  repeat apply Zq
  cases v2 with
  | true =>
   repeat apply Zq
   refine Z6 e.ev ?_;repeat apply Zq
   refine e.u [.x 15 [] fZ,.x 16 [(15,0)] fZ,pz 17,.x 18 [(16,1),(17,2)] fZ,.x 4 [(18,3)] fZ] [(4,.v fZ)] ⟨st,st,aO Z Z,st,st,Fs⟩ λi l f=>?_
   exact ag f.rt
  | false =>
   repeat apply Zq
   refine Z2 e.ev ?_;repeat apply Zq
   apply aw;repeat apply Zq
   cases j with
   | true =>
    repeat apply Zq
    refine e.E [.c rv0,.s (.p 0 0),.x (fv x1),.s (.p 1 8),.x (fv k),.c (fv (x1*k)),.c rv0,.s (.p 1 0),.x (fv x2),.s (.p 0 8),.x (fv b),.c (fv (x2*b)),.x tZ,.x tZ,.c rv0,.s (.p 0 4),.x (fv c),.s (.p 1 8),.x (fv k),.c (fv (c*k)),.c rv0,.s (.p 1 4),.x (fv d),.s (.p 0 8),.x (fv b),.c (fv (d*b)),.x (.bool g),.x (.bool g),.x (.bool g)] [4] ⟨cl bP,st,ld u33 i33,st,ld u33 i33,cl (bD C),cl bP,st,ld u33 i33,st,ld u33 i33,cl (bD C),aT Z .eql 46 Z Z sx sx (λw=>kR) hx,st,cl bP,st,ld u33 i33,st,ld u33 i33,cl (bD C),cl bP,st,ld u33 i33,st,ld u33 i33,cl (bD C),aT Z .eql 46 Z Z sx sx (λw=>kR) r,st,st,Fs⟩ λi l f=>?_
    exact ag f.rt
   | false =>
    repeat apply Zq
    refine e.e [.c 19 [] rv0,.s 20 [] (.p 0 0),.x 21 [(20,1)] (fv x1),.s 22 [] (.p 1 8),.x 23 [(22,3)] (fv k),.c 24 [(19,0),(21,2),(23,4)] (fv (x1*k)),.c 25 [] rv0,.s 26 [] (.p 1 0),.x 27 [(26,7)] (fv x2),.s 28 [] (.p 0 8),.x 29 [(28,9)] (fv b),.c 30 [(25,6),(27,8),(29,10)] (fv (x2*b)),.x 31 [(24,5),(30,11)] fZ,.x 32 [(31,12)] fZ,pz 33,pz 34,pz 35,pz 36,pz 37,pz 38,pz 39,pz 40,pz 41,pz 42,pz 43,pz 44,pz 45,.x 46 [(32,13),(45,26)] fZ,.x 4 [(46,27)] fZ] [(4,.v fZ)] ⟨cl bP,st,ld u33 i33,st,ld u33 i33,cl (bD C),cl bP,st,ld u33 i33,st,ld u33 i33,cl (bD C),aT Z .eql 46 Z Z sx sx (λw=>kR) hx,st,aO Z Z,aO Z Z,aO Z Z,aO Z Z,aO Z Z,aO Z Z,aO Z Z,aO Z Z,aO Z Z,aO Z Z,aO Z Z,aO Z Z,aO Z Z,st,st,Fs⟩ λi l f=>?_
    exact ag f.rt
def Mf(C:Cur P){a b c d e k x1 x2 f i:B P}(h1:¬e=0)(j:¬k=0)(m:x1=a*e)(l:f=b*e)(e3:x2=c*k)(n:i=d*k)(hx:x1*k=x2*e)(o:f*k=i*e):a=c/\b=d:=by
 have g:=bF C.pr h1 j;subst m l e3 n;exact⟨EC.cancel C.pr g (by grobner),EC.cancel C.pr g (by grobner)⟩
def Ax{x y z:B P}{q:EC.Pt P}(h:Frac x y z q)(k:¬z=0):q≠F:=λe=>by
 subst e;exact k h
def CE(C:Fl3 P){a b:T3 P}{p q:EC.Pt P}(h:IN a p)(n:IN b q):FL 31 #[tv a,tv b] (.bool (decide (p=q))):=by
 let⟨x1,l,g⟩:=a
 let⟨x2,m,f⟩:=b
 have k:=λ{v1 v2:Hc} h1 t=>@P4 P _ C x1 l g x2 m f v1 v2 _ _ h1 t (eqR C.toFld _ _) (eqR C.toFld _ _)
 by_cases j:g=0
 .obtain rfl:=h.1.zero j;by_cases i:f=0
  .obtain rfl:=n.1.zero i;rw[decide_eq_true Z];exact k (wU C x1 l g j) (wU C x2 m f i)
  rw[decide_eq_false (λe=>Ax n.1 i e.symm)];exact k (wU C x1 l g j) (wV C x2 m f i)
 by_cases i:f=0
 .obtain rfl:=n.1.zero i;rw[decide_eq_false (λe=>Ax h.1 j e)];exact k (wV C x1 l g j) (wU C x2 m f i)
 have k:=k (wV C x1 l g j) (wV C x2 m f i);match p,q,h.1,n.1 with
 | none,_,k,_=>exact absurd k j
 | some (a,b),F,_,k=>exact absurd k i
 | some (a,b),J (c,d),⟨_,r,o⟩,⟨_,e3,s⟩ =>
  have r:x1=a*g:=r;have o:l=b*g:=o;have e3:x2=c*f:=e3;have s:m=d*f:=s;have hd:decide ((J (a,b):EC.Pt P)=J (c,d))=(decide (x1*f=x2*g) && decide (l*f=m*g)):=by
   rw[<-Hc.decide_and,decide_eq_decide];refine⟨λe=>?_,λe=>?_⟩
   .injection e with e
    injection e with ea eb
    subst ea eb;rw[r,o,e3,s];exact⟨by grobner,by grobner⟩
   let⟨u,r2⟩:=Mf C.cur j i r o e3 s e.1 e.2
   rw[u,r2]
  rw[hd];exact k
section
open SPA
variable {P:Nat}[NeZero P]{N:Nat}[NeZero N]
def O9{L T:I->OnP P}{s:Bs}{c:B N}(C:IO P)(k:∀r:EC.Pt P,On r->mul N r=F)(v:Md.Vs Bs (OnP P))(b:m=2^(t-(i+1)))(d:chF N ((aC C k).vst (chF N) ivF t L T v i).s (L i) (T i)=(s,c)):
 (aC C k).vst (chF N) ivF t L T v (i+1)=⟨s,(aC C k).ad ((aC C k).vst (chF N) ivF t L T v i).p ((aC C k).ad ((aC C k).ac (c*c) (L i)) ((aC C k).ac (ivF c*ivF c) (T i))),(aC C k).fP (ivF c) c m ((aC C k).vst (chF N) ivF t L T v i).g,(aC C k).fP c (ivF c) m ((aC C k).vst (chF N) ivF t L T v i).h⟩:=by
 rw[Md.LO,b];show(aC C k).Bu (chF N) ivF (2^(t-(i+1))) (L i) (T i) ((aC C k).vst (chF N) ivF t L T v i)=_;unfold Md.Bu;rw[d]
def iO(C:Fl3 P)(k:∀r:EC.Pt P,On r->mul N r=F)(c:N<=top)(n:B N){t:T3 P}{X:OnP P}(h:IN t X.1):FL 29 #[nv n.val,tv t] (tv (tmF n.val t 256))/\IN (tmF n.val t 256) ((aC C.toFld k).ac n X).1:=by
 have b:=Zn n.isLt c;refine⟨mG C n.val b t h,?_⟩;have:=yY C (n:=n.val) (by unfold top at b;omega) h 256 (Zo _);rw[ww,rx,yDN]at this;exact this
def kD(C:Fl3 P)(k:∀r:EC.Pt P,On r->mul N r=F){t b:T3 P}{X Y:OnP P}(h:IN t X.1)(c:IN b Y.1):FL 28 #[tv t,tv b] (tv (plF t b))/\IN (plF t b) ((aC C.toFld k).ad X Y).1:=FracT.plus C h c
def Ma{b k:I}(d:k<=c)(w:Zl):(ux 71 (qZ b o n c) F (J (iZ k)) F).run prog w=.ok (qZ b o k c) w:=by
 go_simp
def LZ(b o n c k:I)(d:k<n)(i:n<=c)(w:Zl):(ux 71 (qZ b o n c) (J (iZ k)) F F).run prog w=.ok (qZ b (o+12*k) (n-k) (c-k)) w:=by
 have h1:¬(k:Y)<0:=S;have f:(k:Y)<=(n:Y):=S;have g:¬c=k:=S;have e:=ON b o (12*k);go_simp
omit [NeZero P] in
theorem Sy(t:T3 P)(w:Zl):(aj 48 (tv t)).run prog w=.ok (jZ w.heap.size) (w.alloc (.cells (tw t).toArray 48)):=kR
def RArg(w:Zl)(q:GJ gE)(n:I)(L:I->Bs):Prop:=0<n->∃k o,q=J ⟨k,o,F⟩/\k<w.heap.size/\∀j,j<n->∃v,w.cell? ⟨k,o+j,F⟩=J v/\Pt w v (L j)
omit [NeZero P] in
theorem RArg.at{L:I->Bs}(h:RArg w q n L)(b:i<n)(d:kZ w W):∃k o v,q=J ⟨k,o,F⟩/\W.cell? ⟨k,o+i,F⟩=J v/\(convert 22 9 v).run prog W=.ok (.string ⟨L i⟩) W/\(iB 23 (.slice q n c) (iZ i)).run prog W=.ok (oZ k (o+i)) W:=by
 obtain⟨k,o,rfl,h1,e⟩:=h S;let⟨v,g,f⟩:=e i b
 exact⟨k,o,v,Z,by rw[d.cell (p:=⟨k,o+i,F⟩) h1];exact g,(f.below d).conv,by have:=atB k o c b W;rwa[I.one_mul]at this⟩
structure Lr(w0 W:Zl)(y k kq ka kb:I)(vI:G Zm)(a b:I)(L:Bs)(tp tu:T3 P)(m:I)(v3 v4:Zm)(tg th:I->T3 P):Prop where
 bl:kZ w0 W
 y0:w0.heap.size<=y
 yk:y<k
 qk:k+2<kq
 ak:k+2<ka
 bk:k+2<kb
 rp:FJ W k (tw tp)
 ru:FJ W (k+1) (tw tu)
 rI:FJ W (k+2) vI
 rq:FJ W kq rl1
 ra:FJ W ka (wn a)
 rb:FJ W kb (wn b)
 g:PtQ (λg=>g≠y/\g≠k) W v3 m tg
 h:PtQ (λg=>g≠y/\g≠k) W v4 m th
 lg:RLog W y L
variable {w0 W W':Zl}{y k kq ka kb a b m:Nat}{vI:List Zm}{L L':Bs}{tp tu:T3 P}{v3 v4:Zm}{tg th:Nat->T3 P}
omit [NeZero P] in
theorem Lr.grow(h:Lr w0 W y k kq ka kb vI a b L tp tu m v3 v4 tg th)(c:kZ W W'):Lr w0 W' y k kq ka kb vI a b L tp tu m v3 v4 tg th:=
 ⟨h.bl.trans (c.mono h.bl.size),h.y0,h.yk,h.qk,h.ak,h.bk,h.rp.below c,h.ru.below c,h.rI.below c,h.rq.below c,h.ra.below c,h.rb.below c,h.g.keep (Kq.of_below c),h.h.keep (Kq.of_below c),h.lg.below c⟩
omit [NeZero P] in
theorem Lr.say(h:Lr w0 W y k kq ka kb vI a b L tp tu m v3 v4 tg th)(c:SP.Only y 0 1 W W')(hl:RLog W' y L'):Lr w0 W' y k kq ka kb vI a b L' tp tu m v3 v4 tg th:=by
 have h1:=h.yk;have e:=h.qk;have i:=h.ak;have f:=h.bk;exact⟨h.bl.trans (pG c h.bl.size h.y0),h.y0,h.yk,h.qk,h.ak,h.bk,h.rp.only c S,h.ru.only c S,h.rI.only c S,h.rq.only c S,h.ra.only c S,h.rb.only c S,h.g.keep (Kq.of_only c λg d=>d.1),h.h.keep (Kq.of_only c λg d=>d.1),hl⟩
omit [NeZero P] in
theorem Lr.lists{e d:Zm}{f c:I->T3 P}(h:Lr w0 W y k kq ka kb vI a b L tp tu m v3 v4 tg th)(j:PtQ (λg=>g≠y/\g≠k) W e i f)(hh:PtQ (λg=>g≠y/\g≠k) W d i c):Lr w0 W y k kq ka kb vI a b L tp tu i e d f c:=
 ⟨h.bl,h.y0,h.yk,h.qk,h.ak,h.bk,h.rp,h.ru,h.rI,h.rq,h.ra,h.rb,j,hh,h.lg⟩
omit [NeZero P] in
theorem Lr.setp{c:T3 P}(h:Lr w0 W y k kq ka kb vI a b L tp tu m v3 v4 tg th)(e:w0.heap.size<=k):Lr w0 (W.setCells k 0 (tw c)) y k kq ka kb vI a b L c tu m v3 v4 tg th:=by
 have h1:=h.yk;have i:=h.qk;have l:=h.ak;have j:=h.bk;have d:Kq (λg=>g≠y/\g≠k) W (W.setCells k 0 (tw c)):=⟨by rw[setCells_size];exact Zo _,λg f _=>aM _ 0 W g f.2⟩
 exact⟨RG.below_setCells e _ _ _ h.bl,h.y0,h.yk,h.qk,h.ak,h.bk,h.rp.put Z,h.ru.other S,h.rI.other S,h.rq.other S,h.ra.other S,h.rb.other S,h.g.keep d,h.h.keep d,tP h.lg S⟩
namespace RG
variable {P:ai}{ops:Array Z4}{Q:Exit->Act->Zl->Prop}{w:Zl}{a0:Act}{G:Gw}{k:Nat}{o:Z4}
def Sf(j:I)(t:Tmp)(l:I)(d:Tmp)(c:I)(b:Tmp)(i:I)(s:Tmp)(f:FuncId)(args:Zm->Zm->Zm->Zm->R Zm)(m:∀x y z u W,G.R j x W->G.R l y W->G.R c z W->G.R i u W->G.B W->Calls P f (args x y z u) W (rZ W λe W'=>G.R k e W'))(hd:((bV o j,aP ops j),(bV o l,aP ops l),(bV o c,aP ops c),(bV o i,aP ops i))=((H,J t),(H,J d),(H,J b),(H,J s)):=by kernel_rfl)(hs:∀x y z u W,(bZ [t,d,b,s] o,(Z0 (evo (evl [(t,x),(d,y),(b,z),(s,u)])) o).run P W)=(H,.ok (.enter f (args x y z u)) W):=by intro _ _ _ _ _;kernel_rfl):bG P Q G.flow ops a0 k o:=
 fM λa W g=>⟨[(t,a.eval (.tmp t)),(d,a.eval (.tmp d)),(b,a.eval (.tmp b)),(s,a.eval (.tmp s))],f,_,⟨Z,Z,Z,Z,Fs⟩,hs _ _ _ _ W,m _ _ _ _ W (g.n j t (congrArg (·.1.1) hd) (congrArg (·.1.2) hd)) (g.n l d (congrArg (·.2.1.1) hd) (congrArg (·.2.1.2) hd)) (g.n c b (congrArg (·.2.2.1.1) hd) (congrArg (·.2.2.1.2) hd)) (g.n i s (congrArg (·.2.2.2.1) hd) (congrArg (·.2.2.2.2) hd)) g.b⟩
def pT{P:I}(Q:I->Prop)(n:I)(t:I->T3 P):S1:=⟨λv w=>PtQ Q w v n t,λ_ _ _ k h=>h.keep (Kq.of_below k)⟩
end RG
end
section
open SPA
abbrev NtQ(Q:I->Prop)(W:Zl)(v:Zm)(n:I)(a:I->I):Prop:=RwQ 4 (λj=>wn (a j)) Q W v n
def S6:prog.underlying 62=J (.slice 46):=kR
def WC:(prog.info? 46).map (λi=>(i.size,i.bytes,i.zero.map λz=>z.cells.size))=J (4,32,J 4):=kR
theorem XI{k:I}(b:W.ownsRow base 46 4 v k xs)(hR:FJ W g (wn t))(w:k<=1000000)(n:base<=W.heap.size):
 ∃c W',(oT #[62,62] 62 #[v,sZ g 1 1]).run prog W=.ok c W'/\W'.ownsRow base 46 4 c (k+1) (xs++wn t)/\W.grownBy W' v.ownBlock:=by
 let⟨i,r,e⟩:=Zp.1 WC
 simp only[an.injEq]at e;let⟨h1,l,q⟩:=e
 let⟨z,o,d⟩:=Zp.1 q
 obtain⟨c,W',m,r2,f,-⟩:=yDJ (P:=prog) W base 62 62 46 i z 4 32 S6 r o h1 l d dC v k xs b (aZ g) 1 1 (wn t) Z
  (λj u s=>by
   have:=hR.2.1 j u s;rw[Zs]at this;rw[show(⟨g,0,F⟩:gE).add j=⟨g,j,F⟩ by unfold ts;split<;>simp_all];exact this) (λu p=>ul.1 aK u (by simpa using p)) (by unfold maxLen;omega) S n
 exact⟨c,W',m,r2,f⟩
def atN{k:I}(b:i<n)(w:Zl):(iB 62 (qZ k o n c) (iZ i)).run prog w=.ok (oZ k (o+4*i)) w:=by
 go_simp
end
section
open SPA
def V6{a b:B N}(O:Ord N):FL 21 #[rv1,nv a.val,nv b.val] (nv (a*b).val):=by rw[fQ];exact CL O a.isLt b.isLt
abbrev pqR(v:Zm)(n:I)(f:I->I):Pq:=⟨λQ W=>NtQ Q W v n f,λ_ _ _ k h=>h.keep k,λ_ _ _ m h=>h.mono m⟩
abbrev pqT(v:Zm)(n:I)(t:I->T3 P):Pq:=⟨λQ W=>PtQ Q W v n t,λ_ _ _ k h=>h.keep k,λ_ _ _ m h=>h.mono m⟩
def NtQ.get(h:NtQ Q W (qZ g o n c) n a)(k:j<n):W.rangeAt g (o+4*j) (wn (a j)):=RwQ.at (f:=λj=>wn (a j)) h k
def PtQ.get{t:I->T3 P}(h:PtQ Q W (qZ g o n c) n t)(k:j<n):W.rangeAt g (o+12*j) (tw (t j)):=RwQ.at (f:=λj=>tw (t j)) h k
def nkN:Nk [] g:=λh=>nomatch h
variable [NeZero N]
end
section
open SPA
variable {P:Nat}[NeZero P]{N:Nat}[NeZero N]
def smT(a:I->B N)(k:I->T3 P):I->T3 P
 | 0=>(0,1,0)
 | n+1=>plF (smT a k n) (tmF (a n).val (k n) 256)
def DW(C:Fl3 P)(k:∀r:EC.Pt P,On r->mul N r=F)(c:N<=top)(a:I->B N)(b:I->T3 P)(X:I->OnP P):∀n,(∀j,j<n->IN (b j) (X j).1)->IN (smT a b n) ((aC C.toFld k).dt a X n).1
 | 0,_=>FracT.none
 | n+1,h=>(kD C k (DW C k c a b X n λj d=>h j (I.lt_succ_of_lt d)) (iO C k c (a n) (h n (I.lt_succ_self n))).2).2
def FV(C:Fl3 P)(b:∀r:EC.Pt P,On r->mul N r=F)(p:N<=top)(n:I)(u:n<=64)(a:I->B N)(c:I->T3 P)(X:I->OnP P)(g:∀j,j<n->IN (c j) (X j).1)(va O:Zm)(w:Zl)(m:NtQ (λ_=>True) w va n λj=>(a j).val)(s:PtQ (λ_=>True) w O n c):
 eZ 36 #[va,O] w (tv (smT a c n)):=by
 obtain⟨ga,T,ca,rfl,-⟩:=id m;obtain⟨y,Q,cb,rfl,-⟩:=id s;have V:E (∀j,j<n->FL 29 #[nv (a j).val,tv (c j)] (tv (tmF (a j).val (c j) 256))/\FL 28 #[tv (smT a c j),tv (tmF (a j).val (c j) 256)] (tv (smT a c (j+1)))):=λj q=>⟨(iO C b p (a j) (g j q)).1,(kD C b (DW C b p a c X j λi f=>g i (yEm f q)) (iO C b p (a j) (g j q)).2).1⟩
 have L:E (FL 63 #[] (tv (smT a c 0))):=Du C;obtain⟨t,z⟩:=hE (smT a c);obtain⟨A,l⟩:∃t:I->I,∀j,(a j).val=t j:=⟨_,λ_=>rfl⟩
 obtain⟨M,v⟩:∃t:I->T3 P,∀j,tmF (A j) (c j) 256=t j:=⟨_,λ_=>rfl⟩
 simp only[z.out,l,v]at V L m⊢;have K0:=mk1 (((Mp.start w).has (pqR _ n A) (m.mono λ_ _ _=>nkN)).has (pqT _ n c) (s.mono λ_ _ _=>nkN));have HN:=mk1 u;have tq:∀ {x:T3 P},E (ZM (tw x).toArray=tv x):=rfl;clear m s l v z;go_enter func36,ntmps36;refine PW.bg [] ?_;refine PM.al 48 zP K0 λk w1 K1=>?_
 refine PW.dn ?_;refine PW.bg [] ?_;refine PM.gi K1 (L w1) λw2 K2=>?_
 refine PM.al 48 zP K2 λko w3 K3=>?_
 refine PM.st 1 (tw (t 0)) K3 tq λw4 K4=>?_
 refine PW.dn ?_;refine Zq<|PW.rg [iZ 0] ?_
 apply ay;go_loopg [6] n (λgk s6 wr=>∃i:I,i+gk=n/\s6=iZ i/\E (Mp w wr [(k,zP),(ko,tw (t i))] [pqR (qZ ga T n ca) n A,pqT (qZ y Q n cb) n c]))
 case atStart=>exact⟨0,S,Z,K4⟩
 case round =>
  obtain⟨i,h0,rfl,K⟩:=hrel;refine Zq<|PW.rg [iZ n,.bool (decide ((i:Y)<(n:Y)))] ?_
  by_cases f:i<n
  .have d:(i:Y)<(n:Y):=S;have o:ZN.wrap ((i:Y)+1)=((i+1:I):Y):=by rw[pk];have:=HN;omega
   obtain⟨c1,c2⟩:=V i f;rw[decide_eq_true d];refine Z6 rfl<|aw<|Zq<|ay<|AM.bb 11 11 K ?_
   refine AM.ro 0 1 tq ?_;refine AW.mv 1 ?_;refine AW.mv 2 ?_;refine AW.iv 3 (atN (k:=ga) (o:=T) (n:=n) (c:=ca) (i:=i) f) ?_;refine AW.ro 4 (λW h=>NtQ.get (Mp.get h 0) f) nq u33 i33 ?_;refine AW.mv 5 ?_;refine AW.mv 6 ?_;refine AW.iv 7 (Hw (k:=y) (o:=Q) (n:=n) (c:=cb) (i:=i) f) ?_;refine AW.ro 8 (λW h=>PtQ.get (Mp.get h 1) f) tq uP3 iP3 ?_;refine AW.gi 9 (λ_=>c1 _) λw6 _=>?_
   refine AW.gi 10 (λ_=>c2 _) λw7 _=>?_
   refine AM.fi 1 tq λw8 K8=>?_
   refine PW.bb (P:=prog) [iZ (ZN.wrap ((i:Y)+1))] ?_;rw[o];go_wp2;go_roundg (gk-1)
   case measure=>omega
   case rel=>exact⟨i+1,S,Z,K8⟩
  .have d:¬(i:Y)<(n:Y):=S;obtain rfl:i=n:=S;rw[decide_eq_false d];refine Z2 rfl<|tT<|PW.bg (P:=prog) [] ?_
   refine PM.ro 1 K tq ?_;refine PM.st 0 (tw (t i)) K tq λw9 o=>?_
   refine PW.dn ?_;refine ag<|Zx (aG 4 (T:=48) Z (o.at_ 0 Z) Z uP3 iP3) Z ?_
   exact⟨_,Z,o.bl,Z⟩
section
variable {P:ai}{ops:Array Z4}{rest:List Z4}{op:Z4}{a a':Act}{w W W':Zl}{Q:Exit->Act->Zl->Prop}{d:Option Tmp}{x v:Zm}{t:Tmp}{rs rs':List (Nat × List Zm)}{S:List Pq}{r k:Nat}{cs:List Zm}{L L':Bs}
def D4(h:FJ W r [.string ⟨L⟩]):RLog W r L:=⟨by have:=h.2.1 0 _ Z;rwa[Zs]at this,by have:=(h.2.2 0 I.one_pos).2;rwa[Zs]at this⟩
def D6(h:RLog W r L):FJ W r [.string ⟨L⟩]:=⟨h.lt,λj v k=>by
 match j,k with
 | 0,k=>rw[Zs];exact h.1.trans k,λj k=>by
 match j,k with
 | 0,_=>exact⟨by rw[h.1];rfl,h.2⟩⟩
def Mp.rsay(h:Mp w W rs S)(i:I)(k:SP.Only r 0 1 W W')(d:RLog W' r L')(b:rs[i]? = J (r,[.string ⟨L⟩]):=by rfl)(e:rs.set i (r,[.string ⟨L'⟩])=rs':=by(simp only[Zt,Zu])<;>rfl):Mp w W' rs' S:=by
 subst e;exact h.turn b (h.bl.trans (pG k h.bl.size (h.lt (Mp.key b)).1)) k.size (λg c hl=>k.block g hl c) (D6 d)
def PM.ry{f:FuncId}{args:Array Zm}(i:I)(K:Hid (Mp w W rs S))(j:RLog W r L->Calls P f args W (Ret λe w'=>SP.Only r 0 1 W w'/\RLog w' r L'/\e=x))(h:∀W',Hid (Mp w W' rs' S)->wpList P ops Q rest a' W')(k:rs[i]? = J (r,[.string ⟨L⟩]):=by rfl)(hd:op.dst=d:=by rfl)(c:op.guard=none:=by rfl)(hx:(Z0 a.eval op).run P W=.ok (.enter f args) W:=by kernel_rfl)(e:rs.set i (r,[.string ⟨L'⟩])=rs':=by(simp only[Zt,Zu])<;>rfl)(g:a.put d x=a':=by(simp only[ah,Zr,Zt,Zu])<;>rfl):wpList P ops Q (op :: rest) a W:=
 PW.ca (F:=λe=>a.put d e) (j (D4 (K.at_ i k))) (λz W' hR=>by
  obtain⟨h1,b,rfl⟩:=hR;subst g;exact h W' (K.rsay i h1 b k e)) hd c hx λ_=>rfl
end
def zG{b:Fd}{L:Bs}(c:b.size<=16384)(f:k.size<=16384)(hl:L.size=32)(g:RLog w y L):cZ 19 #[jZ y,.string b,.string k] w (Ret λe w'=>SP.Only y 0 1 w w'/\RLog w' y (iW L b.data.toList k.data.toList)/\e=.tuple #[]):=
 (rX y L b k w c f hl g).mono (by
  rintro e w' ⟨rfl,h1,d⟩;exact⟨_,Z,h1,d,Z⟩)
end
section
open SPA
def Vb{k:I}(b:W.ownsRow base 46 4 v k xs)(hR:FJ W g (wn t))(C:k<=1000)(o:base<=W.heap.size):
 ∃e W',(oT #[62,62] 62 #[v,sZ g 1 1]).run prog W=.ok e W'/\W'.ownsRow base 46 4 e (k+1) (xs++wn t)/\Ap1 W W' v e:=by
 let⟨e,W',m,r2,d⟩:=XI b hR S o
 let⟨i,x,n⟩:=Zp.1 WC
 simp only[an.injEq]at n;let⟨h1,a,w⟩:=n
 let⟨z,q,r⟩:=Zp.1 w
 have p:∀(j:I) u,(wn t)[j]? = J u->W.cell? ((⟨g,0,F⟩:gE).add j)=J u:=λj u y=>by
  rw[Cm,Zs];have:=hR.2.1 j u y;rwa[Zs]at this
 refine⟨e,W',m,r2,d.os,d.tape,d.output,d.size,λg l hv=>d.block g l (λh=>hv h.symm),?_⟩;rcases(zU (c:=1) S6 x q h1 S b (Src.ofSlice (P:=prog) (size:=4) W S6 (aZ g) 1 1 (wn t) Z p (λu s=>ul.1 aK u (by simpa using s))) S m)with h|⟨h,f⟩
 .exact Z5 h
 exact ZW ⟨⟨_,h,Zo _⟩,λg l=>f.block g l⟩
variable {P:Nat}[NeZero P]{N:Nat}[NeZero N]
end
section
structure Nl where
 v:Zm
 n:I
 f:I->I
def Nl.up(x:Nl)(v:Zm):Nl:=⟨v,x.n+1,x.f⟩
def pok{b:I}(x:Nl)(W W':Zl)(h:W.ownsRow b 46 4 x.v x.n (nY (λj=>wn (x.f j)) x.n))(k:∀g,x.v.ownBlock=J g->W'.heap[g]? = W.heap[g]?):W'.ownsRow b 46 4 x.v x.n (nY (λj=>wn (x.f j)) x.n):=jS h k
def pol{b:I}(x:Nl)(W:Zl)(g:I)(h:W.ownsRow b 46 4 x.v x.n (nY (λj=>wn (x.f j)) x.n))(k:x.v.ownBlock=J g):b<=g/\g<W.heap.size:=⟨(nG h k).1,(nG h k).2.1⟩
abbrev lbk(ls:G Nl)(g:I):Prop:=gB Nl.v ls g
def pqO(b:I):Nl->Pq:=gO Nl.v _ (pok (b:=b)) (pol (b:=b))
abbrev pqN(ls:G Nl)(s:Pq):Pq:=gN Nl.v ls s
def sL(b:I)(ls:G Nl)(S:G Pq):G Pq:=ls.map (pqO b)++S.map (pqN ls)
abbrev ApL(ls:G Nl):Prop:=gA Nl.v ls
section
variable {w W:Zl}{rs rs':List (Nat × List Zm)}{S:List Pq}{ls:List Nl}{i k:Nat}{x:Nl}
def Mo.nil{b:I}(h:Mp w W rs S)(l:∀x∈ls,x.v=nZ/\x.n=0):Mp w W rs (sL b ls S)/\ApL ls:=by
 have ho:∀x∈ls,∀g,x.v.ownBlock≠J g:=λx hx g e=>by rw[(l x hx).1]at e;cases e
 refine⟨⟨h.bl,h.rw,h.nd,λs hs=>?_⟩,λi j x y m o _ g c=>absurd c (ho x (oE m) g)⟩;rcases G.mem_append.1 hs with hs|hs
 .obtain⟨x,hx,rfl⟩:=Z1.1 hs;obtain⟨v,n,f⟩:=x;obtain⟨rfl,rfl⟩:v=_/\n=_:=l _ hx;exact⟨⟨Z,Z5 ⟨Z,Z⟩⟩,λg e=>absurd e (ho _ hx g)⟩
 obtain⟨d,k,rfl⟩:=Z1.1 hs;exact d.mo _ _ _ (λg _ c=>⟨c,λ⟨x,hx,e⟩=>ho x hx g e⟩) (h.ob d k)
def Mo.app(K:Mp w W rs (sL w.heap.size ls S))(A:ApL ls)(c:ls[i]? = J x)(m:FJ W k (wn (x.f x.n)))(o:x.n<=1000):∃b W',(oT #[62,62] 62 #[x.v,sZ k 1 1]).run prog W=.ok b W'/\Mp w W' rs (sL w.heap.size (ls.set i (x.up b)) S)/\ApL (ls.set i (x.up b))/\∀s∈S,s.p (λg=>Nk rs g/\¬lbk ls g) W':=by
 have d:=oE c;have hx:(pqO w.heap.size x).p (Nk rs) W:=K.ob _ (xy _ (Z1.2 ⟨x,d,Z⟩));obtain⟨b,W',j,r2,B⟩:=Vb hx.1 m o K.bl.size;obtain⟨h1,f⟩:=Sj (y:=x.up b) pok pol K A c r2 B;refine⟨b,W',j,h1,f,λs hs=>?_⟩;have n:s.p (λg=>Nk rs g/\¬lbk ls g) W:=K.ob _ (xz _ (Z1.2 ⟨s,hs,Z⟩));exact s.kp _ _ _ ⟨B.size,λg l hl=>B.keep g hl λe=>l.2 ⟨x,d,e⟩⟩ n
end
section
variable {P:ai}{ops:Array Z4}{rest:List Z4}{op:Z4}{a a':Act}{w W:Zl}{Q:Exit->Act->Zl->Prop}{d:Option Tmp}{x v:Zm}{t:Tmp}{rs:List (Nat × List Zm)}{S:List Pq}{k:Nat}{cs:List Zm}
def PM.bs(T:ZR)(c:List Zm)(n:I)(K:Hid (Mp w W rs S)){G:I->Act}(h:∀k W',FJ W' k c->Hid (Mp w W' rs S)->wpList P ops Q rest (G k) W')(hd:op.dst=d:=by rfl)(g:op.guard=F:=by rfl)(e:(Z0 a.eval op).run P W=.ok (.value (sZ W.heap.size n n)) (W.alloc (.cells c.toArray T)):=by kernel_rfl)(b:∀k,a.put d (sZ k n n)=G k:=by intro _;(simp only[ah,Zr,Zt,Zu])<;>rfl):wpList P ops Q (op :: rest) a W:=by
 subst hd;exact wpList_plain g λi f=>by
  rw[Oper.wp,e];refine f _ _ ?_;rw[b];exact h _ _ aE (K.grow (aD _))
end
section
variable {ops:Array Z4}{rest:List Z4}{op:Z4}{a:Act}{w W:Zl}{Q:Exit->Act->Zl->Prop}{d:Option Tmp}{rs:List (Nat × List Zm)}{S:List Pq}{k:Nat}{x:Nl}{ls:List Nl}{L:Zm->List Nl}{G:Zm->Act}
def PM.ap(i:I)(K:Hid (Mp w W rs (sL w.heap.size ls S)))(A:Hid (ApL ls))(hR:FJ W k (wn (x.f x.n)))(h:∀b W',Hid (Mp w W' rs (sL w.heap.size (L b) S))->Hid (ApL (L b))->wpList prog ops Q rest (G b) W')(g:ls[i]? = J x:=by rfl)(j:x.n<=1000:=by dsimp only;omega)(hd:op.dst=d:=by rfl)(c:op.guard=F:=by rfl)(l:Z0 a.eval op=oT #[62,62] 62 #[x.v,sZ k 1 1] >>= λv=>pure (pi v):=by kernel_rfl)(hl:∀b,ls.set i (x.up b)=L b:=by intro _;(simp only[Zt,Zu,Nl.up])<;>rfl)(m:∀b,a.put d b=G b:=by intro _;(simp only[ah,Zr,Zt,Zu])<;>rfl):wpList prog ops Q (op :: rest) a W:=by
 obtain⟨b,W',e,n,f,-⟩:=Mo.app K A g hR j;exact PW.ns e (m b ▸ h b W' (hl b ▸ n) (hl b ▸ f)) hd c l
end
end
section
open SPA
section
variable {s n i g:Nat}{f:Nat->List Zm}{W:Zl}
def Hl(hs:∀j,(f j).length=s)(b:i<n)(h:FJ W g (nY f n)):W.rangeAt g (s*i) (f i):=λj u k=>by
 have:=h.2.1 (s*i+j) u (yJ hs n i j u b k);rwa[Zs]at this
def Om(hs:∀j,(f j).length=s)(k:i<n)(h:FJ W g (nY f n)):W.there g (s*i) s:=λj b=>by
 have hl:s*(i+1)<=s*n:=qm (Zo s) k;have:=h.2.2 (s*i+j) (by rw[iU hs];rw[te,ri]at hl;omega);rwa[Zs]at this
def QV(hs:∀j,(f j).length=s)(u:i<n)(h:FJ W g (nY f n))(c:us.length=s)(h1:f' i=us)(o:∀j,j≠i->f' j=f j):FJ (W.setCells g (s*i) us) g (nY f' n):=by
 have k:∀j,(f' j).length=s:=λj=>by
  by_cases e:j=i
  .rw[e,h1,c]
  rw[o j e,hs]
 refine⟨by rw[setCells_size];exact h.1,λm v q=>?_,?_⟩
 .have b:=(Zz.1 q).1;rw[iU k]at b;have s0:0<s:=I.pos_of_ne_zero λe=>by rw[e,I.zero_mul]at b;omega
  have t:m/s<n:=I.div_lt_of_lt_mul b;have l:=I.mod_lt m s0;have d:=I.div_add_mod m s;have r:=yJ k n (m/s) (m%s) _ t (ZH (by rw[k];exact l));rw[d,q]at r;have p:=GJ.some.inj r;by_cases e:m/s=i
  .have:=World.rangeAt_setCells_same W g (s*i) us (by rw[c];exact(Om hs u h)) (m%s) v (by rw[p,ZH (by rw[c];exact l)];simp only[e,h1]);rw[Zs];rwa[show s*i+m%s=m by rw[<-e];exact d]at this
  have:=World.rangeAt_setCells_apart (Hl hs t h) g (s*i) us (by
   rw[c,hs];rcases I.lt_or_ge (m/s) i with h|h
   .have:=qm (Zo s) (show m/s+1<=i from h);rw[te,ri]at this;omega
   have:=qm (Zo s) (show i+1<=m/s by omega);rw[te,ri]at this;omega) (m%s) v (by rw[p,ZH (by rw[hs];exact l)];simp only[o _ e])
  rw[Zs];rwa[d]at this
 rw[iU k,<-iU hs n];exact World.there_setCells h.2.2 _ _ _
def Qg{b:I}(hs:∀j,(f j).length=s)(h:W.ownsRow b T s v n (nY f n))(d:0<n):∃g c,v=sZ g n c/\n<=c/\b<=g/\FJ W g (nY f n):=by
 obtain⟨g,c,rfl⟩:=zS h d;have hl:=nG h Z;have i:n<=c:=by
  obtain⟨-,⟨e,-⟩|⟨l,c',cur,e,-,-,k,-⟩⟩:=id h
  .cases e
  cases e;exact k
 refine⟨g,c,Z,i,hl.1,hl.2.1,λj u k=>?_,λj k=>?_⟩
 .have:=h.cells Z j u k;rw[SJ]at this;rw[Zs];exact this
 rw[iU hs]at k;rw[Zs];have:=h.cellAt j (by rw[I.mul_comm];exact k);exact⟨by rw[this,ZH (by rw[iU hs];exact k)];rfl,h.frozenAt j⟩
end
def Ys(h:n<2^64):FL 24 #[U n] (nv n):=λw=>(kT h).mono (by
 rintro e w' ⟨v,rfl,k,rfl⟩;refine⟨_,Z,k,?_⟩;unfold nv wn;rw[ZC h,qv h,qv (yEm h dC),qv (yEm h dC)];rfl)
variable {N:Nat}[NeZero N]
omit [NeZero N] in
theorem V5(O:Ord N)(a b:B N):FL 27 #[rv1,nv a.val,nv b.val] (nv (a-b).val):=by rw[GG];exact TQ O a.isLt b.isLt
def RJ(O:Ord N)(a:B N):FL 23 #[rv1,nv a.val] (nv (ivF a).val):=ML O a.isLt
def Mm(O:Ord N)(h1:1<N)(x:B N)(n:I)(o:0<n)(hn:n<=64)(w:Zl):dZ 22 #[nv x.val,iZ n] w λe w'=>NtQ (w.heap.size<=·) w' e n λj=>(pwF x j).val:=by
 have q:E (∀i,FL 21 #[rv1,nv (pwF x i).val,nv x.val] (nv (pwF x (i+1)).val)):=λi=>V6 O (a:=(pwF x i)) (b:=x)
 have m:FL 24 #[U 1] (nv (pwF x 0).val):=by rw[show(pwF x 0).val=1 from ZC h1];exact Ys (n:=1) dC
 obtain⟨f,hf⟩:∃f:I->I,∀j,(pwF x j).val=f j:=⟨_,λ_=>rfl⟩
 obtain⟨X,a⟩:=hE x.val;simp only[hf,a.out]at q m⊢;have l:=mk2 o hn;have p:=mk1 m;have T:=mk1 (Mp.start w);clear m;go_enter func22,ntmps22;refine PW.bg [] ?_;refine PM.al 46 (wn X) T λu y M=>?_
 refine PW.en [nZ] ?_;refine PW.bg [] ?_;refine PM.gi M (OR y) λw2 C=>?_
 refine PM.al 54 (RG.z 8) C λr w3 V=>?_
 refine PM.st 1 rl1 V hQr λv K4=>?_
 refine PW.dn ?_;refine PW.bg [] ?_;refine PM.gi K4 (p v) λw5 W=>?_
 refine PM.al 46 (RG.z 4) W λt w6 Q=>?_
 refine PM.st 2 (wn (f 0)) Q nq λw7 K7=>?_
 refine PW.dn ?_;refine PW.rg [nZ] ?_;refine Zq<|PW.rg [iZ 0] ?_
 apply ay;have d:=Mo.nil (ls:=[⟨nZ,0,f⟩]) (b:=w.heap.size) K7 (by simp);have d:=mk1 d;go_loopg [7,8] n (λgk s7 s8 wr=>∃i:I,i+gk=n/\s8=iZ i/\E (Mp w wr [(u,wn X),(r,rl1),(t,wn (f i))] (sL w.heap.size [⟨s7,i,f⟩] []))/\E (ApL [⟨s7,i,f⟩]))
 case atStart=>exact⟨0,S,Z,d.1,d.2⟩
 case round =>
  obtain⟨i,h0,rfl,K,A⟩:=hrel;refine Zq<|PW.rg [.bool (decide ((i:Y)<(n:Y)))] ?_
  by_cases hi:i<n
  .have k:(i:Y)<(n:Y):=S;have g:ZN.wrap ((i:Y)+1)=((i+1:I):Y):=by rw[pk];have:=l.2;omega
   have h2:=l.2;rw[decide_eq_true k];refine Z6 rfl<|aw<|Zq<|ay<|PW.bg [] ?_
   refine PM.ro 2 K nq ?_;refine PM.bs 46 (wn (f i)) 1 K λkb wb hR L=>?_
   refine PM.ap 0 L A hR λz w9 c A9=>?_
   refine PW.en [z] ?_;refine PW.bb (P:=prog) [] ?_;refine PM.ro 1 c hQr ?_;refine PM.ro 2 c nq ?_;refine PM.ro 0 c nq ?_;refine PM.gi c (q i w9) λwa Ka=>?_
   refine PM.st 2 (wn (f (i+1))) Ka nq λwc Kc=>?_
   refine PW.dn ?_;refine PW.bb (P:=prog) [iZ (ZN.wrap ((i:Y)+1))] ?_;rw[g];go_wp2;go_roundg (gk-1)
   case measure=>omega
   case rel=>exact⟨i+1,S,Z,Kc,A9⟩
  .have k:¬(i:Y)<(n:Y):=S;obtain rfl:i=n:=S;rw[decide_eq_false k];refine Z2 rfl<|tT ?_
   have g:(pqO w.heap.size ⟨u7,i,f⟩).p (Nk [(u,wn X),(r,rl1),(t,wn (f i))]) wr:=K.ob _ (xy _ (G.mem_singleton.2 Z));have c:=mk2 K.bl (RwQ.of_own (s:=4) (f:=λj=>wn (f j)) (λ_=>rfl) g.1 l.1);refine PW.rg [u7] ?_;go_wp2;go_ret;exact⟨_,Z,c.1,c.2⟩
end
section
open SPA
section
variable {P:ai}{ops:Array Z4}{Q:Exit->Act->Zl->Prop}{p r:Nat}{J:Iv}{f:FuncId}{args:Array Zm}{w0 w W:Zl}{rs:List (Nat × List Zm)}{S:List Pq}
def AW.wi{b:I}{k:Array Hc}{a:Act}(h:J.p w->AW P ops Q p r J b k a w):AW P ops Q p r J b k a w:=λc=>h c c
def PM.fr(K:Mp w0 w rs S)(h:Calls P f args w (rZ w λe w'=>(sp e).p (w.heap.size<=·) w')):Calls P f args w (rZ w λe w'=>(sp e).p (Nk rs) w'):=h.mono (by
 rintro e w' ⟨v,rfl,b,hs⟩;exact⟨_,Z,b,(sp _).mo _ _ _ (λg _ k=>K.nk g k) hs⟩)
end
section
variable {w:Zl}{y:Nat}{L:Bs}
def TD(b:k.size<=16384):dZ 68 #[.string k] w λe w'=>∃y,e=jZ y/\w.heap.size<=y/\RLog w' y (newL k.data.toList):=
 (F6 k w b).mono (by
  rintro e w' ⟨y,rfl,h1,c,d⟩;exact⟨_,Z,c,_,Z,h1,d⟩)
def D7{P:ai}{o:Func}{k:I}{x:Zm}(s t f:Tmp)(u:o.results=#[.tmp s,.cell t T,.cell f e])(h:FJ W k vs)(r:FJ W c us)(hs:tmps[s]? = J x)(q:tmps[t]? = J (jZ k))(i:tmps[f]? = J (jZ c))(l:(P.underlying T).map (·.isRow)=J H)(y:(P.info? T).map (·.size)=J vs.length)(b:(P.underlying e).map (·.isRow)=J H)(g:(P.info? e).map (·.size)=J us.length):(results o tmps).run P W=.ok (.tuple #[x,.agg vs.toArray,.agg us.toArray]) W:=by
 let⟨d,l,hd⟩:=Zp.1 l
 let⟨v,b,n⟩:=Zp.1 b
 have h1:=um (P:=P) W k 0 T vs d h.2.1 l hd y;have m:=um (P:=P) W c 0 e us v r.2.1 b n g;have p:tmps.getD t am=jZ k:=by rw[ZB,q];rfl
 have j:tmps.getD f am=jZ c:=by rw[ZB,i];rfl
 have w:tmps.getD s am=x:=by rw[ZB,hs];rfl
 rw[results,u];simp only[R.mapM_eq_mapM_toList,G.mapM_cons,G.mapM_nil,p,j,w,asAddr];simp[ZK,h1,m]
end
variable {P:Nat}[NeZero P]{N:Nat}[NeZero N]
omit [NeZero P] [NeZero N] in
theorem TF(O:Ord N)(V A S:Bs)(hV:V.size=33)(hA:A.size=33)(hS:S.size=33)(n:I)(hn:n<=64)(w:Zl):dZ 18 #[.string ⟨V⟩,iZ n,.string ⟨A⟩,.string ⟨S⟩] w λe w'=>∃y,e=.tuple #[jZ y,nv (chS N (bgL V n A S)),nv (chS N (aS (bgL V n A S)))]/\w.heap.size<=y/\RLog w' y (aS (aS (bgL V n A S))):=by
 have T:(n:Y)=ub (aV n 1):=by
  unfold ub aV;rw[yDN,yCh,ZC (by omega)]
 have o:=mk1 (λw=>Sw T (by omega) w);have i:=mk1 (λw k h=>str1 (aV n 1) w k h);obtain⟨ui,q⟩:=hE (ub (aV n 1));obtain⟨Lb,b⟩:∃X:Fd,X=⟨#[aV n 1]⟩:=⟨_,Z⟩
 obtain⟨x,z⟩:=hE (newL [114,97,110,103,101]);obtain⟨p,h1⟩:=hE (iW x [99,111,109,109,105,116] V.toList);obtain⟨s,u⟩:=hE (iW p [98,105,116,115] [aV n 1]);obtain⟨m,t⟩:=hE (iW s [102,105,114,115,116] A.toList);obtain⟨c,v⟩:=hE (iW m [115,101,99,111,110,100] S.toList);obtain⟨l,d⟩:=hE (aS c);obtain⟨L6,Q⟩:=hE (aS l);have e4:bgL V n A S=c:=by rw[<-v.out,<-t.out,<-u.out,<-h1.out,<-z.out];rfl
 have s0:x.size=32:=z.out▸wE;have s1:p.size=32:=h1.out▸dO;have s2:s.size=32:=u.out▸dO;have s3:m.size=32:=t.out▸dO;have s4:c.size=32:=v.out▸dO;have s5:l.size=32:=d.out▸bC;rw[e4,d.out,Q.out];have HN:=mk1 (λw=>TD (k:=⟨#[114,97,110,103,101]⟩) dC (w:=w));have H1:=mk1 (λw y (h:RLog w y x)=>zG (b:=⟨#[99,111,109,109,105,116]⟩) (k:=⟨V⟩) dC (show V.size<=16384 by omega) s0 h);have H2:=mk1 (λw y (h:RLog w y p)=>zG (b:=⟨#[98,105,116,115]⟩) (k:=Lb) dC (by rw[b];exact(by decide:1<=16384)) s1 h);have H3:=mk1 (λw y (h:RLog w y s)=>zG (b:=⟨#[102,105,114,115,116]⟩) (k:=⟨A⟩) dC (show A.size<=16384 by omega) s2 h);have H4:=mk1 (λw y (h:RLog w y m)=>zG (b:=⟨#[115,101,99,111,110,100]⟩) (k:=⟨S⟩) dC (show S.size<=16384 by omega) s3 h);have L:=mk1 (λw y (h:RLog w y c)=>yG O y c w s4 h);have K:=mk1 (λw y (h:RLog w y l)=>yG O y l w s5 h);have e2:iW p (⟨#[98,105,116,115]⟩:Fd).data.toList Lb.data.toList=s:=by rw[b];exact u
 rw[show(⟨#[114,97,110,103,101]⟩:Fd).data.toList=[114,97,110,103,101] from Z,z.out]at HN;rw[show iW x (⟨#[99,111,109,109,105,116]⟩:Fd).data.toList (⟨V⟩:Fd).data.toList=p from h1.out]at H1;rw[e2]at H2;rw[show iW s (⟨#[102,105,114,115,116]⟩:Fd).data.toList (⟨A⟩:Fd).data.toList=m from t.out]at H3;rw[show iW m (⟨#[115,101,99,111,110,100]⟩:Fd).data.toList (⟨S⟩:Fd).data.toList=c from v.out]at H4;rw[d.out]at L;rw[Q.out]at K;rw[q.out]at o i;rw[<-b]at i;obtain⟨j,g⟩:=hE (chS N c);obtain⟨r,f⟩:=hE (chS N l);rw[show jT (cha N c)=j from g.out]at L;rw[show jT (cha N l)=r from f.out]at K;rw[g.out,f.out];clear z h1 u t v d Q e4 e2 T q b g f s0 s1 s2 s3 s4 s5;go_enter func18,ntmps18;refine PW.bg [.pointer F] ?_;refine PM.al 46 (wn 0) (mk1 (Mp.start w)) λk9 w1 K1=>?_
 refine PM.al 46 (RG.z 4) K1 λka w2 K2=>?_
 refine PW.dn ?_;refine PW.bg [] ?_;refine PW.ca (HN w2) ?_;rintro e w3 ⟨M,y,rfl,hy,hL⟩;refine PW.en [jZ y] ?_;refine PW.bg [] ?_;refine PM.ry 2 (mk1 (K2.add M (D6 hL) hy)) (H1 w3 y) λw4 K4=>?_
 refine PW.dn ?_;refine PW.bg [] ?_;refine PW.ns (o w4) ?_;refine PM.bs 5 [.int .u8 ui] 1 K4 λkb w5 hR K5=>?_
 refine PW.ns (i w5 kb hR.2.1) ?_;refine PM.ry 2 K5 (H2 w5 y) λw6 K6=>?_
 refine PW.dn ?_;refine PW.bg [] ?_;refine PM.ry 2 K6 (H3 w6 y) λw7 K7=>?_
 refine PW.dn ?_;refine PW.bg [] ?_;refine PM.ry 2 K7 (H4 w7 y) λw8 K8=>?_
 refine PW.dn ?_;refine PW.bg [] ?_;refine PM.ry 2 K8 (L w8 y) λw9 K9=>?_
 refine PM.al 46 (RG.z 4) K9 λkc wa Ka=>?_
 refine PM.st 3 (wn j) Ka nq λwb Kb=>?_
 refine PW.dn ?_;refine PW.bg [] ?_;refine PM.ry 2 Kb (K wb y) λwc Kc=>?_
 refine PM.al 46 (RG.z 4) Kc λkd wd Kd=>?_
 refine PM.st 4 (wn r) Kd nq λwe Ke=>?_
 refine PW.dn ?_;refine Zq<|AW.beg 5 5 (J:=⟨λW=>∃n,Mp w W [(k9,wn n),(ka,RG.z 4),(y,[.string ⟨L6⟩]),(kc,wn j),(kd,wn r)] [],λ_ _ hb ⟨n,h⟩=>⟨n,h.grow hb⟩,H⟩) ⟨0,Ke.drew⟩ ?_
 refine AW.mv 0 ?_;refine AW.ro 1 (λW ⟨_,h⟩=>(h.at_ 3 Z).2.1) nq u33 i33 ?_;refine AW.ro 2 (λW ⟨_,h⟩=>(h.at_ 4 Z).2.1) nq u33 i33 ?_;refine AW.nx 3 (jZ y) ?_;refine AW.wi λ⟨n,h⟩=>?_
 have d:=mk1 (h.put 0 (c':=wn j) hQr);refine AW.ss 4 (us:=wn j) nq aK i33 hQr (λ_=>⟨h.th 0,j,d⟩) ?_;refine AW.fi (us:=wn r) nq aK i33 (λ_=>⟨d.th 1,?_⟩);have C:=mk1 (d.put 1 (c':=wn r) hQr);refine ag<|Zx (D7 8 9 10 (T:=46) (e:=46) Z (C.at_ 0 Z) (C.at_ 1 Z) Z Z Z u33 i33 u33 i33) Z ?_
 exact⟨_,Z,C.bl,y,Z,Zw K2.bl.size hy,D4 (C.at_ 2)⟩
end
section
open SPA
variable {P:Nat}[NeZero P]{N:Nat}[NeZero N]
def QW(hs:∀j,(f j).length=s)(k:i<n)(h:FJ W g (nY f n)):W.rangeAt g (0+s*i) (f i):=by
 rw[Zs];exact Hl hs k h
def rgL:Fd:=⟨#[114,105,103,104,116]⟩
noncomputable def trR (P:I) [NeZero P] (y:B N) (j:I):T3 P:=tmF (pwF (ivF y) j).val (bsP P rgL j) 256
def Ce(C:Fl3 P)(k:Fd)(j:I):IN (bsP P k j) (gPt C.toFld k j).1:=⟨kX C.toFld,(gPt C.toFld k j).2⟩
def Tv(C:Fl3 P)(O:Ord N)(p:∀r:EC.Pt P,On r->mul N r=F)(hN:N<=top)(h1:1<N)(y:B N)(n:I)(d:0<n)(T:n<=64)(w:Zl):dZ 39 #[nv y.val,iZ n] w λe w'=>PtQ (w.heap.size<=·) w' e n (trR P y):=by
 have HB:=mk1 (λw=>Jy C rgL (by decide) n d T w);have HI:=mk1 (RJ O y);have HP:=mk1 (λw=>Mm O h1 (ivF y) n d T w);have M:E (∀j,FL 29 #[nv (pwF (ivF y) j).val,tv (bsP P rgL j)] (tv (trR P y j))):=λj=>(iO C p hN (pwF (ivF y) j) (Ce C rgL j)).1
 obtain⟨t,s⟩:=hE (bsP P rgL);obtain⟨u,L⟩:=hE (trR P y);obtain⟨f,hf⟩:∃f:I->I,∀j,(pwF (ivF y) j).val=f j:=⟨_,λ_=>rfl⟩
 obtain⟨Y,hY⟩:=hE y.val;obtain⟨Z,hZ⟩:=hE (ivF y).val;obtain⟨h2,hl⟩:=hE rgL;simp only[hf,hY.out,hZ.out]at HI HP M⊢;rw[s.out,L.out]at M;rw[s.out]at HB;rw[L.out];have HN:=mk2 d T;have tq:∀ {x:T3 P},E (ZM (tw x).toArray=tv x):=rfl;have k:∀(g:I->T3 P) (j:I),(tw (g j)).length=12:=λ_ _=>rfl
 clear L hf hY hZ s hl;go_enter func39,ntmps39;refine PW.bg [] ?_;refine PM.al 46 (wn Y) (mk1 (Mp.start w)) λk2 w1 K1=>?_
 refine PW.en [nZ] ?_;refine PW.bg [] ?_;refine PW.ca (HB w1) ?_;rintro e w2 ⟨m,V⟩;obtain⟨g,c,rfl,hc,X,hR⟩:=Qg (k t) V HN.1;have K2:=mk1 (K1.add m hR X);clear V hR m;refine PW.en [sZ g n c] ?_;refine AM.bg 5 5 K2 ?_;refine AM.ro 1 0 nq ?_;refine AW.mv 3 ?_;refine AW.gi 0 (λ_=>OR _) λw3 _=>?_
 refine AW.gi 2 (λ_=>HI _) λw4 _=>?_
 refine AW.ca 4 (λK=>PM.fr (sp:=λe=>pqR e n f) K (HP _)) (λe w' h=>h.1) ?_;rintro e w5 ⟨_,A⟩;obtain⟨z,a,cw,rfl,h0,-⟩:=id A;refine AW.nx 5 (qZ z a n cw) ?_;refine AW.dn λK=>?_
 have K3:=mk1 (K.has (pqR _ n f) A);clear K A;refine Zq<|PW.rg [iZ 0] ?_
 apply ay;go_loopg [7] n (λgk s7 wr=>∃i:I,i+gk=n/\s7=iZ i/\∃h:I->T3 P,E (∀j,h j=if j<i then u j else t j)/\E (Mp w wr [(k2,wn Y),(g,nY (λj=>tw (h j)) n)] [pqR (qZ z a n cw) n f]))
 case atStart=>exact⟨0,S,rfl,t,λj=>(Id (uv j)).symm,K3⟩
 case round =>
  obtain⟨i,h3,rfl,h,hh,K⟩:=hrel;refine Zq<|PW.rg [.bool (decide ((i:Int)<(n:Int)))] ?_
  by_cases l:i<n
  .have b:(i:Int)<(n:Int):=S;have v:ZN.wrap ((i:Int)+1)=((i+1:I):Int):=by rw[pk];have:=HN.2;omega
   have Q:h i=t i:=by rw[hh.out i,Id (I.lt_irrefl i)]
   have c1:=M i;rw[<-Q]at c1;rw[decide_eq_true b];refine Z6 rfl<|aw<|Zq<|ay<|AM.bb 12 12 K ?_
   refine AW.mv 0 ?_;refine AW.mv 1 ?_;refine AW.mv 2 ?_;refine AW.mv 3 ?_;refine AW.iv 4 (atN (k:=z) (o:=a) (n:=n) (c:=cw) (i:=i) l) ?_;refine AW.ro 5 (λW h=>NtQ.get (Mp.get h 0) l) nq u33 i33 ?_;refine AW.mv 6 ?_;refine AW.mv 7 ?_;refine AW.iv 8 (Hw (k:=g) (o:=0) (n:=n) (c:=c) (i:=i) l) ?_;refine AW.ro 9 (λW hW=>QW (k h) l (Mp.at_ hW 1 rfl)) tq uP3 iP3 ?_;refine AW.gi 10 (λ_=>c1 _) λw8 _=>?_
   refine AW.iv 11 (Hw (k:=g) (o:=0) (n:=n) (c:=c) (i:=i) l) ?_;refine AW.fi (us:=tw (u i)) tq (mR _) iP3 (λK=>?_);have hR:=K.at_ 1 rfl;rw[Zs];refine⟨Om (k _) l hR,?_⟩;have K8:=mk1 (K.upd (o:=12*i) 1 hQr (QV (k _) l hR rfl (f':=λj=>tw (if j=i then u i else h j)) (by rw[GD rfl]) λj q=>by rw[Id q]));clear hR K;refine PW.bb (P:=prog) [iZ (ZN.wrap ((i:Int)+1))] ?_;rw[v];go_wp2;go_roundg (gk-1)
   case measure=>omega
   case rel=>exact⟨i+1,S,rfl,_,λj=>by
    by_cases e:j=i
    .rw[GD e,GD (by omega),e]
    .rw[Id e,hh.out j];by_cases e2:j<i
     .rw[GD e2,GD (by omega)]
     .rw[Id e2,Id (by omega)],K8⟩
  .have b:¬(i:Int)<(n:Int):=S;obtain rfl:i=n:=S;rw[decide_eq_false b];refine Z2 rfl<|tT ?_
   have hR:=K.at_ 1 rfl;have v:E (kZ w wr/\PtQ (w.heap.size<=·) wr (sZ g i c) i u):=⟨K.bl,g,0,c,rfl,hc,Zw K1.bl.size X,hR.1,λj q=>by
    rw[Zs];have:=Hl (k h) q hR;rwa[hh.out j,GD q]at this⟩
   refine PW.rg (P:=prog) [sZ g i c] ?_;go_wp2;go_ret;exact⟨_,rfl,v.1,v.2⟩
end
def XR:G It:=[.m 0 [] 0]
def XQ(x y:B P):G It:=[.c 1 [] (rv x y 1),.u [(1,0)] 0]
def TL(C:Fl3 P){x y:B P}(b:hpt P cV []=(x,y)):FL 30 #[] (rv x y 1):=by
 intro w;have hh:FL 80 #[.string cV,.string ⟨#[]⟩] (rv x y 1):=by
  have h:=CJ C cV ⟨#[]⟩ (by decide) (by decide);rw[b]at h;exact h
 clear b;go_enter func30,ntmps30;refine RG.M.enter [] 2 (by kernel_rfl) ?_;intro a0 c;refine Zq <| c.tx XR [(0,RG.z 12)] [] [RG.z 12] [(0,.p 0 0)] (by kernel_rfl) (by kernel_rfl) ⟨mk 0 48 λ_ _=>by kernel_rfl,Fs⟩ λk g f e=>?_
 refine Zq <| e.tx (XQ x y) [] [(0,1,ws x++(ws y++ws (1:B P)))] [ws x++(ws y++ws (1:B P))] [(0,.p 0 0)] (by kernel_rfl) (by kernel_rfl) ⟨cl hh λ_ _=>by kernel_rfl,RG.pt i56 (by kernel_rfl),Fs⟩ λa2 i d=>?_
 exact ag (d.rr 0 Z u56 i56)
def XU:G It:=[.m 2 [] 0,.m 3 [] 1,.m 4 [] 2]
def XT(n m:I)(x y gx b:B P)(t1 t2 k:T3 P):G It:=[.x 5 [] (nv n),.c 6 [] (rv x y 1),.c 7 [(5,0),(6,1)] (tv t1),.x 8 [] (nv m),.c 9 [] (rv gx b 1),.c 10 [(8,3),(9,4)] (tv t2),.c 11 [(7,2),(10,5)] (tv k),.u [(11,6)] 2]
def UU(n m:I):cmt P n m=EC.add (mul n (.some (hpt P cV []):EC.Pt P)) (mul m (gG P)):=by
 unfold cmt;generalize hpt P cV []=q;show EC.add (EC.add F (eF (n:Y) (.some q:EC.Pt P))) (eF (m:Y) (gG P))=_;rw[pJ];rfl
def BN(C:Fl3 P)(n m:I)(l:n<top)(o:m<top):∃t:T3 P,IN t (cmt P n m)/\FL 32 #[nv n,nv m] (tv t):=by
 rw[UU];have k:=Aq C.toFld (k:=cV) (b:=[]);let⟨q,g⟩:∃q,hpt P cV []=q:=⟨_,Z⟩
 rw[g]at k⊢;let⟨x,y⟩:=q
 have u:=TL C g;clear g;have hG:FL 81 #[] (rv (gX P) (gY P) 1):=TM C;have f:IN ((x,y,1):T3 P) (.some (x,y)):=⟨kX C.toFld,k⟩
 have f1:=C4 C.toFld;have d:=mG C n l (x,y,1) f;have b:=mG C m o (gT P) f1;have i:IN (tmF n (x,y,1) 256) (mul n (.some (x,y))):=by
  have h:=yY C (n:=n) (by unfold top at l;omega) f 256 (Zo _);rwa[ww,rx,yDN]at h
 have p:IN (tmF m (gT P) 256) (mul m (gG P)):=by
  have h:=yY C (n:=m) (by unfold top at o;omega) f1 256 (Zo _);rwa[ww,rx,yDN]at h
 let⟨c,j⟩:=FracT.plus C i p
 refine⟨_,j,?_⟩;generalize plF (tmF n (x,y,1) 256) (tmF m (gT P) 256)=e at c⊢;generalize tmF n (x,y,1) 256=t1 at d c;generalize tmF m (gT P) 256=t2 at b c;replace b:FL 29 #[nv m,rv (gX P) (gY P) 1] (tv t2):=b;replace d:FL 29 #[nv n,rv x y 1] (tv t1):=d;generalize gX P=gx at hG b;generalize gY P=s at hG b;clear i p j f f1 k;intro w;go_enter func32,ntmps32;refine RG.M.enter [(0,.v (nv n)),(1,.v (nv m))] 12 (by kernel_rfl) ?_;intro a0 z;refine Zq <| z.tx XU [(0,wn n),(1,wn m),(2,RG.z 12)] [] [wn n,wn m,RG.z 12] [(2,.p 0 0),(3,.p 1 0),(4,.p 2 0)] (by kernel_rfl) (by kernel_rfl) ⟨mk 0 46 λ_ _=>by kernel_rfl,mk 1 46 λ_ _=>by kernel_rfl,mk 2 48 λ_ _=>by kernel_rfl,Fs⟩ λa L K M A r=>?_
 refine Zq <| r.dr (by kernel_rfl) (XT n m x y gx s t1 t2 e) [] [(2,7,tw e)] [wn n,wn m,tw e] [(4,.p 2 0)] (by kernel_rfl) (by kernel_rfl) ⟨ld u33 i33 (by kernel_rfl),cl u λ_ _=>by kernel_rfl,cl d λ_ _=>by kernel_rfl,ld u33 i33 (by kernel_rfl),cl hG λ_ _=>by kernel_rfl,cl b λ_ _=>by kernel_rfl,cl c λ_ _=>by kernel_rfl,RG.pt i56 (by kernel_rfl),Fs⟩ λa2 N v=>?_
 exact ag (v.rr 2 Z u56 i56)
section
open SPA
def wdB(n:Y):Hc:=n == 8 || n == 16 || n == 32 || n == 64
theorem PX(n:Y):FL 14 #[iZ n] (.bool (wdB n)):=by
 intro w;go_enter func14,ntmps14;go_wp2;all_goals
  go_ret;refine⟨_,Z,ZF _ _,?_⟩
  simp_all[wdB]
variable {P:Nat}[NeZero P]{N:Nat}[NeZero N]
end
section
open SPA
variable {P:Nat}[NeZero P]{N:Nat}[NeZero N]
def RH(b k:Fd)(c:b.size<=16384)(g:k.size<=16384){L d:Bs}(hl:L.size=32)(h:iW L b.data.toList k.data.toList=d):∀y w,RLog w y L->cZ 19 #[jZ y,.string b,.string k] w (Ret λe w'=>SP.Only y 0 1 w w'/\RLog w' y d/\e=.tuple #[]):=λy w f=>h ▸ zG c g hl f
def V3(O:Ord N)(b:IsP N){x:B N}{L k:Bs}(hx:x=lB N L)(hl:L.size=32)(h:aS L=k):∀y w,RLog w y L->cZ 20 #[jZ y] w (Ret λe w'=>SP.Only y 0 1 w w'/\RLog w' y k/\e=nv x.val):=λy w c=>by
 have:=yG O y L w hl c;rw[show jT (cha N L)=x.val from mQ O b hx,h]at this;exact this
omit [NeZero P] [NeZero N] in
theorem YW(a b c:Bs)(k:a.size=32)(d:b.size=32)(f:c.size=32):((⟨a⟩++⟨b⟩:Fd)++⟨c⟩).size<=16384/\((⟨a⟩++⟨b⟩:Fd)++⟨c⟩).data.toList=a.toList++(b.toList++c.toList):=by
 constructor
 .have e:((⟨a⟩++⟨b⟩:Fd)++⟨c⟩).size=a.size+b.size+c.size:=by
   rw[yDs,yDs];rfl
  omega
 rw[yDj,yDj,yDg,yDg,G.append_assoc]
omit [NeZero P] in
theorem VW(R:Rv N){L k:Bs}(hl:L.size=32)(h:enL L R.tau.val R.mu.val R.t.val=k):∀y w,RLog w y L->cZ 19 #[jZ y,.string ⟨#[115,117,109,115]⟩,.string ((⟨bx R.tau.val⟩++⟨bx R.mu.val⟩:Fd)++⟨bx R.t.val⟩)] w (Ret λe w'=>SP.Only y 0 1 w w'/\RLog w' y k/\e=.tuple #[]):=by
 have h1:=dJ R.tau.val;have d:=dJ R.mu.val;have f:=dJ R.t.val;unfold enL enB at h;generalize bx R.tau.val=a at *;generalize bx R.mu.val=b at *;generalize bx R.t.val=c at *;let⟨f1,f2⟩:=YW a b c h1 d f
 exact RH ⟨#[115,117,109,115]⟩ _ dC f1 hl (by rw[f2];exact h)
def iFr:gZ 54 rl1.toArray.size:=gQ
def PL:rl1.toArray.all (·.oneCell')=H:=kR
def Nu(C:Fl3 P)(O:Ord N)(d:∀r:EC.Pt P,On r->mul N r=F)(T:I)(hT:T<=6)(v0:Md.Vs Bs (OnP P))(u:OnP P)(Q tu:T3 P)(M th:I->T3 P)(hp:IN Q v0.p.1)(hu:IN tu u.1)(hg:∀j,j<2^T->IN (M j) (v0.g j).1)(hh:∀j,j<2^T->IN (th j) (v0.h j).1)(hs:v0.s.size=32)
 {nL f:I}{A B:Bs}{Lb Rb:I->Bs}(w0 w:Zl) (y:I) (hb:kZ w0 w) (hy:w0.heap.size<=y) (hl:RLog w y v0.s) (v3 v4:Zm) (h3:PtQ (·≠y) w v3 (2^T) M) (h4:PtQ (·≠y) w v4 (2^T) th)
 (hL:RArg w0 q1 nL Lb) (hR:RArg w0 q2 f Rb) (hA:Pt w0 vA A) (q:Pt w0 vB B) (f4:∀j,(j<nL->(Lb j).size<=16384)/\(j<f->(Rb j).size<=16384)) (Bd:Hc) (bu:Bd=H↔okI P N T nL f Lb Rb A B/\(aC C.toFld d).Fq u (rdN N A) (rdN N B) ((aC C.toFld d).vst (chF N) ivF T (λj=>rdO C.toFld (Lb j)) (λj=>rdO C.toFld (Rb j)) v0 T)) :
 cZ 38 #[jZ y,iZ ((2^T:I):Y),tv Q,v3,v4,tv tu,.agg #[.slice q1 nL x1,.slice q2 f x2,vA,vB]] w (rZ w0 λe w'=>e=.bool Bd):=by
 have ed:=hl.lt;obtain⟨k,hk⟩:=yH w.heap.size;obtain⟨vI,hvI⟩:=yH (ZM #[.slice q1 nL x1,.slice q2 f x2,vA,vB]);obtain⟨w1,kl⟩:=yH (w.alloc (.cells (tw Q).toArray 48));obtain⟨w2,bc⟩:=yH (w1.alloc (.cells (tw tu).toArray 48));obtain⟨w3,kn⟩:=yH (w2.alloc (.cells #[.slice q1 nL x1,.slice q2 f x2,vA,vB] 25));have z1:w1.heap.size=k+1:=by rw[<-kl.out,Zy,hk.out]
 have z2:w2.heap.size=k+2:=by rw[<-bc.out,Zy,z1]
 have z3:w3.heap.size=k+3:=by rw[<-kn.out,Zy,z2]
 have b1:kZ w w1:=kl.out▸aD _;have b2:kZ w1 w2:=bc.out▸aD _;have b3:kZ w2 w3:=kn.out▸aD _;have b7:kZ w w3:=(b1.trans (b2.mono b1.size)).trans (b3.mono (Zw b1.size b2.size));have r1:FJ w1 k (tw Q):=kl.out▸hk.out▸aE;have r2:FJ w2 (k+1) (tw tu):=by rw[<-bc.out,<-z1];exact aE
 have r3:FJ w3 (k+2) [.slice q1 nL x1,.slice q2 f x2,vA,vB]:=by rw[<-kn.out,<-z2];exact aE
 have B1:E ((aj 48 (tv Q)).run prog w=.ok (jZ k) w1):=kl.out▸hk.out▸Sy Q w;have B2:E ((aj 48 (tv tu)).run prog w1=.ok (jZ (k+1)) w2):=by rw[<-bc.out,<-z1];exact Sy tu w1
 have B3:E ((aj 25 vI).run prog w2=.ok (jZ (k+2)) w3):=by
  rw[<-hvI.out,<-kn.out,<-z2];obtain⟨K,ca,rfl,-⟩:=hA;obtain⟨l,cb,rfl,-⟩:=q;exact boxJ
 have wb:kZ w0 w3:=hb.trans (b7.mono hb.size);have K3:E (kZ w0 w3/\FJ w3 k (tw Q)/\FJ w3 (k+1) (tw tu)/\FJ w3 (k+2) [.slice q1 nL x1,.slice q2 f x2,vA,vB]/\PtQ (λg=>g≠y/\g≠k) w3 v3 (2^T) M/\PtQ (λg=>g≠y/\g≠k) w3 v4 (2^T) th/\RLog w3 y v0.s/\w3.heap.size=k+3):=⟨wb,(r1.below b2).below b3,r2.below b3,r3,(h3.mono λg hg h=>⟨h,hk.out▸qh hg⟩).keep (Kq.of_below b7),(h4.mono λg hg h=>⟨h,hk.out▸qh hg⟩).keep (Kq.of_below b7),hl.below b7,z3⟩
 have HY:E (w0.heap.size<=y/\y<k/\w0.heap.size<=k):=⟨hy,hk.out▸ed,hk.out▸hb.size⟩
 have he:=Hid.mk' (gF hL (gF hR f4));have dp:=Hid.mk' (gF hA q);have HF:=Hid.mk' (gF C (gF O (gF hT (gF hu hs))));have bv:E (IN Q v0.p.1/\(∀j,j<2^T->IN (M j) (v0.g j).1)/\(∀j,j<2^T->IN (th j) (v0.h j).1)):=⟨hp,hg,hh⟩
 obtain⟨V,hV⟩:∃V:I->Md.Vs Bs (OnP P),V=λi=>(aC C.toFld d).vst (chF N) ivF T (λj=>rdO C.toFld (Lb j)) (λj=>rdO C.toFld (Rb j)) v0 i:=⟨_,Z⟩
 have HV:E (V 0=v0/\∀i m s c,m=2^(T-(i+1))->chF N (V i).s (rdO C.toFld (Lb i)) (rdO C.toFld (Rb i))=(s,c)->V (i+1)=⟨s,(aC C.toFld d).ad (V i).p ((aC C.toFld d).ad ((aC C.toFld d).ac (c*c) (rdO C.toFld (Lb i))) ((aC C.toFld d).ac (ivF c*ivF c) (rdO C.toFld (Rb i)))),(aC C.toFld d).fP (ivF c) c m (V i).g,(aC C.toFld d).fP c (ivF c) m (V i).h⟩):=by
  rw[hV];exact⟨Z,λi m s c hm hc=>O9 C.toFld d v0 hm hc⟩
 have bu:Bd=H↔okI P N T nL f Lb Rb A B/\(aC C.toFld d).Fq u (rdN N A) (rdN N B) (V T):=by rw[hV];exact bu
 clear hV;have d9:=Hid.mk' bu;obtain⟨a,e1⟩:=yH (nuV A);obtain⟨b,k0⟩:=yH (nuV B);obtain⟨oa,dl⟩:=yH ((rq N A).isSome);obtain⟨ob,de⟩:=yH ((rq N B).isSome);have cA:E (FL 16 #[.string ⟨A⟩] (.tuple #[nv a,.bool oa])):=e1.out▸dl.out▸Iz O ⟨A⟩;have cB:E (FL 16 #[.string ⟨B⟩] (.tuple #[nv b,.bool ob])):=k0.out▸de.out▸Iz O ⟨B⟩;obtain⟨vp,f6⟩:=yH (tv Q);obtain⟨vu,ep⟩:=yH (tv tu);rw[f6.out]at B1;rw[ep.out]at B2;obtain⟨n,hn⟩:=yH (2^T:I);have ef:E (n<=64):=hn.out▸Zw (qp dC hT) dC;rw[hvI.out,f6.out,ep.out,hn.out];clear hT hp hu hg hh hs hb hy hl h3 h4 hL hR hA q f4 bu O z1 z2 z3 b1 b2 b3 b7 r1 r2 r3 wb kl bc kn ed;go_enter func38,ntmps38;go_wp2_with (first|(refine aI (u:=vp) (v:=jZ k) (w':=w1) Z 48 (.tmp 2) Z ?_ ?_ ?_;rfl;exact B1)|(refine aI (u:=vu) (v:=jZ (k+1)) (w':=w2) Z 48 (.tmp 5) Z ?_ ?_ ?_;rfl;exact B2)|(refine aI (u:=vI) (v:=jZ (k+2)) (w':=w3) Z 25 (.tmp 6) Z ?_ ?_ ?_;rfl;exact B3)|fail)
 apply(OR w3).mono;rintro e w4 ⟨uu,rfl,k7,rfl⟩;obtain⟨kq,kv⟩:=yH w4.heap.size;obtain⟨w5,d6⟩:=yH (w4.alloc (.cells (RG.z 8).toArray 54));obtain⟨w6,bi⟩:=yH (w5.setCells kq 0 rl1);have F5:E (FJ w5 kq (RG.z 8)/\kZ w4 w5):=by rw[<-d6.out,<-kv.out];exact⟨aE,aD _⟩
 have cd:kZ w3 w6:=k7.trans (yEC (by rw[<-bi.out];exact RG.below_setCells (kv.out▸Zo _) _ _ _ F5.2) k7.size);have K6:E (kZ w3 w6/\FJ w6 kq rl1/\k+2<kq):=⟨cd,bi.out▸F5.1.put Z,by have:=k7.size;have:=kv;have:=K3.2.2.2.2.2.2.2;omega⟩
 have ff:w6.cell? ⟨k+2,2,F⟩=J vA:=(K3.2.2.2.1.below cd).2.1 2 _ Z;have fy:(convert 22 9 vA).run prog w6=.ok (.string ⟨A⟩) w6:=(dp.1.below (K3.1.trans (cd.mono K3.1.size))).conv;obtain⟨vq,cf⟩:=yH rv1;rw[cf.out];clear k7 cd B1 B2 B3;go_wp2_with (first|(refine cN (v:=jZ kq) (w':=w5) Z 54 15 Z Z ?_ ?_;(rw[<-d6.out,<-kv.out];kernel_rfl))|(refine ZZ Z 54 (.tmp 15) _ Z kq 0 rl1.toArray ?_ ?_ ?_ ?_ ?_ ?_;rfl;exact cf.symm;exact F5.1.2.2;exact iFr;exact PL;rw[show rl1.toArray.toList=rl1 from Z,bi.out])|fail)
 apply(cA w6).mono;rintro e w7 ⟨uu,rfl,cg,rfl⟩;obtain⟨ka,b5⟩:=yH w7.heap.size;obtain⟨w8,dh⟩:=yH (w7.alloc (.cells #[U 0,U 0,U 0,U 0] 46));obtain⟨w9,bj⟩:=yH (w8.setCells ka 0 (wn a));have F8:E (FJ w8 ka [U 0,U 0,U 0,U 0]/\kZ w7 w8):=by rw[<-dh.out,<-b5.out];exact⟨aE,aD _⟩
 have db:kZ w6 w9:=cg.trans (yEC (by rw[<-bj.out];exact RG.below_setCells (b5.out▸Zo _) _ _ _ F8.2) cg.size);have K9:E (kZ w3 w9/\FJ w9 kq rl1/\k+2<kq/\FJ w9 ka (wn a)/\k+2<ka):=⟨K6.1.trans (db.mono K6.1.size),K6.2.1.below db,K6.2.2,bj.out▸F8.1.put Z,by have:=cg.size;have:=K6.1.size;have:=b5;have:=K3.2.2.2.2.2.2.2;omega⟩
 have g7:w9.cell? ⟨k+2,3,F⟩=J vB:=(K3.2.2.2.1.below K9.1).2.1 3 _ Z;have ge:(convert 22 9 vB).run prog w9=.ok (.string ⟨B⟩) w9:=(dp.2.below (K3.1.trans (K9.1.mono K3.1.size))).conv;obtain⟨va,e8⟩:=yH (nv a);rw[e8.out];clear cg db K6 ff fy F5 d6 bi;go_wp2_with (first|(refine cN (v:=jZ ka) (w':=w8) Z 46 16 Z Z ?_ ?_;(rw[<-dh.out,<-b5.out];kernel_rfl))|(refine ZZ Z 46 (.tmp 16) _ Z ka 0 (wn a).toArray ?_ ?_ ?_ ?_ ?_ ?_;rfl;exact e8.symm;exact F8.1.2.2;exact i33;exact aK;rw[show(wn a).toArray.toList=wn a from Z,bj.out])|fail)
 apply(cB w9).mono;rintro e wa ⟨uu,rfl,c5,rfl⟩;obtain⟨kb,bd⟩:=yH wa.heap.size;obtain⟨wb,dz⟩:=yH (wa.alloc (.cells #[U 0,U 0,U 0,U 0] 46));obtain⟨wc,bz⟩:=yH (wb.setCells kb 0 (wn b));have Fb:E (FJ wb kb [U 0,U 0,U 0,U 0]/\kZ wa wb):=by rw[<-dz.out,<-bd.out];exact⟨aE,aD _⟩
 have c7:kZ w9 wc:=c5.trans (yEC (by rw[<-bz.out];exact RG.below_setCells (bd.out▸Zo _) _ _ _ Fb.2) c5.size);have k5:=K9.1.trans (c7.mono K9.1.size);have KC:E (Lr w0 wc y k kq ka kb [.slice q1 nL x1,.slice q2 f x2,vA,vB] a b v0.s Q tu (2^T) v3 v4 M th):=⟨K3.1.trans (k5.mono K3.1.size),HY.1,HY.2.1,K9.2.2.1,K9.2.2.2.2,by have:=c5.size;have:=K9.1.size;have:=bd;have:=K3.2.2.2.2.2.2.2;omega,K3.2.1.below k5,K3.2.2.1.below k5,K3.2.2.2.1.below k5,K9.2.1.below c7,K9.2.2.2.1.below c7,bz.out▸Fb.1.put Z,K3.2.2.2.2.1.keep (Kq.of_below k5),K3.2.2.2.2.2.1.keep (Kq.of_below k5),K3.2.2.2.2.2.2.1.below k5⟩
 obtain⟨vb,fa⟩:=yH (nv b);rw[fa.out];have k6:E (nuV A=a/\nuV B=b/\(rq N A).isSome=oa/\(rq N B).isSome=ob):=⟨e1,k0,dl,de⟩
 clear c5 c7 k5 K9 K3 g7 ge F8 dh bj cA cB dp b5 kv e1 k0 dl de;go_wp2_with (first|(refine cN (v:=jZ kb) (w':=wb) Z 46 18 Z Z ?_ ?_;(rw[<-dz.out,<-bd.out];kernel_rfl))|(refine ZZ Z 46 (.tmp 18) _ Z kb 0 (wn b).toArray ?_ ?_ ?_ ?_ ?_ ?_;rfl;exact fa.symm;exact Fb.1.2.2;exact i33;exact aK;rw[show(wn b).toArray.toList=wn b from Z,bz.out])|fail)
 clear Fb dz bz bd;go_loopg [20,21] T (λmm s20 s21 W=>W=wc/\∃r K:I,r+mm=T/\s20=iZ r/\s21=iZ K/\E (K=2^r))
 exact⟨Z,0,1,S,Z,Z,Z⟩;obtain⟨rfl,r,K,ia,rfl,rfl,hK⟩:=hrel;by_cases hr:r<T
 .have eo:(K:Y)<(n:Y):=by
   have:K<n:=hK.out▸hn.out▸I.pow_lt_pow_right dC hr;omega
  have X:(K:Y)<=64:=oN ef;have L:(r:Y)<=64:=oN HF.2.2.1;have l:E (2*K=2^(r+1)/\r<T):=⟨by rw[oB,hK.out];omega,hr⟩
  clear hK;go_wp2;go_roundg (gk-1);have:=l.2;omega
  exact⟨Z,r+1,2*K,oN l.2,by simp,by simp,l.1⟩
 have eh:r=T:=S;subst eh;have eo:¬(K:Y)<(n:Y):=by
  have:K=n:=by rw[hK.out,hn.out]
  omega
 clear hK;have c0:wr.cell? ⟨k+2,0,F⟩=J (.slice q1 nL x1):=KC.rI.2.1 0 _ Z;have c1:wr.cell? ⟨k+2,1,F⟩=J (.slice q2 f x2):=KC.rI.2.1 1 _ Z;by_cases ke:oa=H/\ob=H/\(nL:Y)=(r:Y)/\(f:Y)=(r:Y)
 case neg =>
  have h9:Bd=D:=by
   cases Bd with
   | false=>rfl
   | true =>
    have h:=(d9.1 Z).1;exact absurd ⟨by rw[<-k6.out.2.2.1];exact h.2.2.2.2.1,by rw[<-k6.out.2.2.2];exact h.2.2.2.2.2,by rw[h.1],by rw[h.2.1]⟩ ke
  have l:oa=D\/(oa=H/\ob=D)\/(oa=H/\ob=H/\¬(nL:Y)=(r:Y))\/(oa=H/\ob=H/\(nL:Y)=(r:Y)/\¬(f:Y)=(r:Y)):=by
   by_cases h1:(nL:Y)=(r:Y)
   .by_cases h2:(f:Y)=(r:Y)
    .revert ke;cases oa<;>cases ob<;>simp[h1,h2]
    cases oa<;>cases ob<;>simp[h1,h2]
   cases oa<;>cases ob<;>simp[h1]
  clear ke;subst h9;rcases l with rfl|⟨rfl,rfl⟩|⟨rfl,rfl,h1⟩|⟨rfl,rfl,h1,h2⟩
  all_goals
   go_wp2;go_ret;exact⟨_,Z,KC.bl,Z⟩
 case pos =>
 obtain⟨rfl,rfl,fx,gb⟩:=ke;have el:nL=r:=S;have er:f=r:=S;subst el;subst er;clear fx gb;go_wp2_with fail
 clear c0 c1 eo;have K0:E (∃Q M th,IN Q (V 0).p.1/\(∀j,j<2^(f-0)->IN (M j) ((V 0).g j).1)/\(∀j,j<2^(f-0)->IN (th j) ((V 0).h j).1)/\(V 0).s.size=32/\Lr w0 wr y k kq ka kb [.slice q1 f x1,.slice q2 f x2,vA,vB] a b (V 0).s Q tu (2^(f-0)) v3 v4 M th/\∀j,j<0->(∃p,rd P (Lb j)=J p)/\∃p,rd P (Rb j)=J p):=by
  show ∃Q M th,_;rw[HV.out.1,I.sub_zero];exact⟨Q,M,th,bv.1,bv.2.1,bv.2.2,HF.2.2.2.2,KC,λj hj=>absurd hj (uv _)⟩
 clear KC bv;go_loopg [3,4,22] f (λmm s3 s4 s22 W=>∃i:I,i+mm=f/\s22=iZ i/\E (∃Q M th,IN Q (V i).p.1/\(∀j,j<2^(f-i)->IN (M j) ((V i).g j).1)/\(∀j,j<2^(f-i)->IN (th j) ((V i).h j).1)/\(V i).s.size=32/\Lr w0 W y k kq ka kb [.slice q1 f x1,.slice q2 f x2,vA,vB] a b (V i).s Q tu (2^(f-i)) s3 s4 M th/\∀j,j<i->(∃p,rd P (Lb j)=J p)/\∃p,rd P (Rb j)=J p))
 exact⟨0,S,Z,K0⟩;clear K0;obtain⟨i,j4,rfl,KM⟩:=hrel;by_cases hi:i<f
 .have g8:(i:Y)<(f:Y):=S;have ib:(i:Y)<=600:=oN HF.2.2.1;have HI:=Hid.mk' hi;obtain⟨Q,M,th,fp,fg,fh,km,h5,kk⟩:=KM;clear KM;obtain⟨m,hm⟩:∃m,m=2^(f-(i+1)):=⟨_,Z⟩
  have e2:2^(f-i)=m+m:=by rw[hm,show f-i=f-(i+1)+1 by omega,oB];omega
  have HM:E (2^(f-(i+1))=m/\0<m/\m+m<=64):=by
   refine⟨hm.symm,by rw[hm];exact rj dC,?_⟩;rw[<-e2];exact Zw (qp dC (Zw (I.sub_le _ _) HF.2.2.1)) dC
  rw[e2]at fg fh h5;obtain⟨g3,o3,c3,e3,dx,-,-⟩:=h5.g;obtain⟨g4,o4,c4,e4,e0,-,-⟩:=h5.h;subst e3;subst e4;obtain⟨Ls,kg⟩:=vH ((V i).s);rw[kg]at km h5;have h0:E (IN Q (V i).p.1/\(∀j,j<m+m->IN (M j) ((V i).g j).1)/\(∀j,j<m+m->IN (th j) ((V i).h j).1)/\(∀j,j<i->(∃p,rd P (Lb j)=J p)/\∃p,rd P (Rb j)=J p)/\(V i).s=Ls/\Ls.size=32/\m+m<=c3/\m+m<=c4):=⟨fp,fg,fh,kk,kg,km,dx,e0⟩
  have KL:=Hid.mk' h5;clear fp fg fh kk km h5 hm e2 kg dx e0;obtain⟨tL,ex⟩:=yH (rdT P (Lb i));obtain⟨tR,e7⟩:=yH (rdT P (Rb i));obtain⟨oL,ky⟩:=yH ((rd P (Lb i)).isSome);obtain⟨oR,bf⟩:=hE ((rd P (Rb i)).isSome);have fd:E (FL 15 #[.string ⟨Lb i⟩] (.tuple #[tv tL,.bool oL])):=ex.out▸ky.out▸CG C (Lb i);have fe:E (FL 15 #[.string ⟨Rb i⟩] (.tuple #[tv tR,.bool oR])):=e7.out▸bf.out▸CG C (Rb i);have c0:=KL.rI.2.1 0 _ Z;obtain⟨gl,ol,xl,-,cl,fj,g2⟩:=he.1.at (c:=x1) HI KL.bl;go_wp2_with fail
  apply(fd wr).mono;rintro e X1 ⟨uu,rfl,fb,rfl⟩;obtain⟨h7,kf⟩:=hE (X1.heap.size);obtain⟨X2,et⟩:=hE (lZ X1 zP 48);obtain⟨X3,da⟩:=hE (X2.setCells h7 0 (tw tL));have dw:E (FJ X2 h7 zP/\kZ X1 X2):=by rw[<-et.out,<-kf.out];exact⟨aE,aD _⟩
  have ek:kZ X1 X3:=by rw[<-da.out];exact RG.below_setCells (kf.out▸Zo _) _ _ _ dw.2
  have f0:FJ X3 h7 (tw tL):=da.out▸dw.1.put Z;obtain⟨ix,cx⟩:=hE (tv tL);rw[cx.out];have ba:=(KL.grow fb).grow ek;have c9:E (Lr w0 X3 y k kq ka kb [.slice q1 f x1,.slice q2 f x2,vA,vB] a b Ls Q tu (m+m) (qZ g3 o3 (m+m) c3) (qZ g4 o4 (m+m) c4) M th/\FJ X3 h7 (tw tL)/\k+2<h7):=⟨ba,f0,by have:=(KL.grow fb).rI.1;have:=kf;omega⟩
  have c1:=ba.rI.2.1 1 _ Z;obtain⟨gr,or,xr,-,cr,g6,fm⟩:=he.2.1.at (c:=x2) HI ba.bl;go_wp2_with (first|(refine cN (v:=jZ h7) (w':=X2) Z 48 23 Z Z ?_ ?_;(rw[<-et.out,<-kf.out];kernel_rfl))|(refine ZZ Z 48 (.tmp 23) _ Z h7 0 (tw tL).toArray ?_ ?_ ?_ ?_ ?_ ?_;rfl;exact cx.symm;exact dw.1.2.2;exact iP3;exact mR tL;rw[show(tw tL).toArray.toList=tw tL from Z,da.out])|fail)
  apply(fe X3).mono;rintro e X4 ⟨uu,rfl,k7,rfl⟩;obtain⟨h8,k8⟩:=hE (X4.heap.size);obtain⟨X5,dk⟩:=hE (lZ X4 zP 48);obtain⟨X6,bm⟩:=hE (X5.setCells h8 0 (tw tR));have br:E (FJ X5 h8 zP/\kZ X4 X5):=by rw[<-dk.out,<-k8.out];exact⟨aE,aD _⟩
  have d1:kZ X4 X6:=by rw[<-bm.out];exact RG.below_setCells (k8.out▸Zo _) _ _ _ br.2
  have es:FJ X6 h8 (tw tR):=bm.out▸br.1.put Z;obtain⟨ip,kz⟩:=hE (tv tR);rw[kz.out];have b9:=(c9.1.grow k7).grow d1;have ha:E (Lr w0 X6 y k kq ka kb [.slice q1 f x1,.slice q2 f x2,vA,vB] a b Ls Q tu (m+m) (qZ g3 o3 (m+m) c3) (qZ g4 o4 (m+m) c4) M th/\FJ X6 h7 (tw tL)/\k+2<h7/\FJ X6 h8 (tw tR)/\k+2<h8):=⟨b9,(c9.2.1.below k7).below d1,c9.2.2,es,by have:=(c9.1.grow k7).rI.1;have:=k8;omega⟩
  have c0:=b9.rI.2.1 0 _ Z;obtain⟨gl,ol,xl,-,cl,fj,g2⟩:=he.1.at (c:=x1) HI b9.bl;by_cases kc:oL=H/\oR=H
  case neg =>
   have h9:Bd=D:=by
    cases Bd with
    | false=>rfl
    | true =>
     have h:=(d9.1 Z).1;exact absurd ⟨ky.out▸Z8.2 (h.2.2.1 i HI),bf.out▸Z8.2 (h.2.2.2.1 i HI)⟩ kc
   have l:oL=D\/(oL=H/\oR=D):=by
    revert kc;cases oL<;>cases oR<;>simp
   subst h9;rcases l with rfl|⟨rfl,rfl⟩
   all_goals
    go_wp2_with (first|(refine cN (v:=jZ h8) (w':=X5) Z 48 25 Z Z ?_ ?_;(rw[<-dk.out,<-k8.out];kernel_rfl))|(refine ZZ Z 48 (.tmp 25) _ Z h8 0 (tw tR).toArray ?_ ?_ ?_ ?_ ?_ ?_;rfl;exact kz.symm;exact br.1.2.2;exact iP3;exact mR tR;rw[show(tw tR).toArray.toList=tw tR from Z,bm.out])|fail)
    go_ret;exact⟨_,Z,ha.1.bl,Z⟩
  case pos =>
  obtain⟨rfl,rfl⟩:=kc;go_wp2_with (first|(refine cN (v:=jZ h8) (w':=X5) Z 48 25 Z Z ?_ ?_;(rw[<-dk.out,<-k8.out];kernel_rfl))|(refine ZZ Z 48 (.tmp 25) _ Z h8 0 (tw tR).toArray ?_ ?_ ?_ ?_ ?_ ?_;rfl;exact kz.symm;exact br.1.2.2;exact iP3;exact mR tR;rw[show(tw tR).toArray.toList=tw tR from Z,bm.out])|fail)
  obtain⟨L1,df⟩:=hE (iW Ls [108,101,102,116] (Lb i).toList);obtain⟨L2,d7⟩:=hE (iW L1 [114,105,103,104,116] (Rb i).toList);have z1:L1.size=32:=df.out▸dO;have z2:L2.size=32:=d7.out▸dO;apply(rX y Ls ⟨#[108,101,102,116]⟩ ⟨Lb i⟩ X6 dC ((he.2.2 i).1 HI) h0.2.2.2.2.2.1 ha.1.lg).mono;rintro e X7 ⟨rfl,dd,ey⟩;rw[show iW Ls (⟨#[108,101,102,116]⟩:Fd).data.toList (⟨Lb i⟩:Fd).data.toList=L1 from df.out]at ey;have kx:=ha.1.say dd ey;have yk:=ha.1.yk;have k4:=mk5 kx (ha.2.1.only dd (oN ha.2.2.1)) ha.2.2.1 (ha.2.2.2.1.only dd (oN ha.2.2.2.2)) ha.2.2.2.2;have c1:=kx.rI.2.1 1 _ Z;obtain⟨gr,or,xr,-,cr,g6,fm⟩:=he.2.1.at (c:=x2) HI kx.bl;go_wp2_with fail
  apply(rX y L1 ⟨#[114,105,103,104,116]⟩ ⟨Rb i⟩ X7 dC ((he.2.2 i).2 HI) z1 k4.1.lg).mono;rintro e X8 ⟨rfl,dy,e5⟩;rw[show iW L1 (⟨#[114,105,103,104,116]⟩:Fd).data.toList (⟨Rb i⟩:Fd).data.toList=L2 from d7.out]at e5;have kh:=mk5 (k4.1.say dy e5) (k4.2.1.only dy (oN k4.2.2.1)) k4.2.2.1 (k4.2.2.2.1.only dy (oN k4.2.2.2.2)) k4.2.2.2.2;obtain⟨L3,d4⟩:=hE (aS L2);have z3:L3.size=32:=d4.out▸bC;obtain⟨c,hc⟩:=hE (lB N L2:Fin N);obtain⟨x,hx⟩:=hE (c.val);obtain⟨xo,ku⟩:=hE ((ivF c).val);have fz:1<N:=by have:=HF.2.1.n2;have:=I.mod_le N 18446744073709551616;omega
  have fl:jT (cha N L2)=x:=hx.out▸hc.out▸Dh fz (qP HF.2.1);have cC:=yG HF.2.1 y L2 X8 z2 kh.1.lg;rw[d4.out,fl]at cC;have HC:=Hid.mk' cC;have HZ:=mk3 z3 df d7;go_wp2_with fail
  refine HC.mono ?_;rintro e X9 ⟨uu,rfl,d5,fk,rfl⟩;obtain⟨h6,k2⟩:=hE (X9.heap.size);obtain⟨Xa,du⟩:=hE (X9.alloc (.cells #[U 0,U 0,U 0,U 0] 46));obtain⟨Xb,bp⟩:=hE (Xa.setCells h6 0 (wn x));have bt:E (FJ Xa h6 [U 0,U 0,U 0,U 0]/\kZ X9 Xa):=by rw[<-du.out,<-k2.out];exact⟨aE,aD _⟩
  have kt:kZ X9 Xb:=by rw[<-bp.out];exact RG.below_setCells (k2.out▸Zo _) _ _ _ bt.2
  have e6:FJ Xb h6 (wn x):=bp.out▸bt.1.put Z;obtain⟨vx,c6⟩:=hE (nv x);rw[c6.out];have cz:=kh.1.say d5 fk;have hz:E (Lr w0 Xb y k kq ka kb [.slice q1 f x1,.slice q2 f x2,vA,vB] a b L3 Q tu (m+m) (qZ g3 o3 (m+m) c3) (qZ g4 o4 (m+m) c4) M th/\FJ Xb h7 (tw tL)/\FJ Xb h8 (tw tR)/\FJ Xb h6 (wn x)/\k+2<h6):=⟨cz.grow kt,(kh.2.1.only d5 (oN kh.2.2.1)).below kt,(kh.2.2.2.1.only d5 (oN kh.2.2.2.2)).below kt,e6,by have:=cz.rI.1;have:=k2;omega⟩
  obtain⟨dF,e9,f7⟩:=Zp.1 uFq;have ew:=mk2 e9 f7;obtain⟨dN,f5,eu⟩:=Zp.1 u33;have eg:=mk2 f5 eu;have cI:E (∀W,eZ 23 #[vq,vx] W (nv xo)):=by
   rw[<-cf.out,<-c6.out,<-hx.out,<-ku.out];exact ML HF.2.1 c.isLt
  go_wp2_with (first|(refine cN (v:=jZ h6) (w':=Xa) Z 46 27 Z Z ?_ ?_;(rw[<-du.out,<-k2.out];kernel_rfl))|(refine ZZ Z 46 (.tmp 27) _ Z h6 0 (wn x).toArray ?_ ?_ ?_ ?_ ?_ ?_;rfl;exact c6.symm;exact bt.1.2.2;exact i33;exact aK;rw[show(wn x).toArray.toList=wn x from Z,bp.out])|(refine gS Z 54 (.tmp 15) Z kq 0 ?_ rl1 dF ?_ ?_ ?_ ?_ ?_;rfl;exact hz.1.rq.2.1;exact ew.1;exact ew.2;exact iFq;rw[show ZM rl1.toArray=vq from cf.out])|(refine gS Z 46 (.tmp 27) Z h6 0 ?_ (wn x) dN ?_ ?_ ?_ ?_ ?_;rfl;exact hz.2.2.2.1.2.1;exact eg.1;exact eg.2;exact i33;rw[show ZM (wn x).toArray=vx from c6.out])|fail)
  apply(cI Xb).mono;rintro e Xc ⟨uu,rfl,bh,rfl⟩;obtain⟨ht,k1⟩:=hE (Xc.heap.size);obtain⟨Xd,d8⟩:=hE (Xc.alloc (.cells #[U 0,U 0,U 0,U 0] 46));obtain⟨Xe,c8⟩:=hE (Xd.setCells ht 0 (wn xo));have bq:E (FJ Xd ht [U 0,U 0,U 0,U 0]/\kZ Xc Xd):=by rw[<-d8.out,<-k1.out];exact⟨aE,aD _⟩
  have ci:kZ Xc Xe:=by rw[<-c8.out];exact RG.below_setCells (k1.out▸Zo _) _ _ _ bq.2
  have cq:FJ Xe ht (wn xo):=c8.out▸bq.1.put Z;obtain⟨ii,d3⟩:=hE (nv xo);rw[d3.out];have k0:=bh.trans (ci.mono bh.size);have X:E (Lr w0 Xe y k kq ka kb [.slice q1 f x1,.slice q2 f x2,vA,vB] a b L3 Q tu (m+m) (qZ g3 o3 (m+m) c3) (qZ g4 o4 (m+m) c4) M th/\FJ Xe h7 (tw tL)/\FJ Xe h8 (tw tR)/\FJ Xe h6 (wn x)/\FJ Xe ht (wn xo)/\k+2<h6/\k+2<ht):=⟨hz.1.grow k0,hz.2.1.below k0,hz.2.2.1.below k0,hz.2.2.2.1.below k0,cq,hz.2.2.2.2,by have:=(hz.1.grow bh).rI.1;have:=k1;omega⟩
  clear bh k0 cq ci hz cI bt du bp k2;go_wp2_with (first|(refine cN (v:=jZ ht) (w':=Xd) Z 46 28 Z Z ?_ ?_;(rw[<-d8.out,<-k1.out];kernel_rfl))|(refine ZZ Z 46 (.tmp 28) _ Z ht 0 (wn xo).toArray ?_ ?_ ?_ ?_ ?_ ?_;rfl;exact d3.symm;exact bq.1.2.2;exact i33;exact aK;rw[show(wn xo).toArray.toList=wn xo from Z,c8.out])|fail)
  clear bq d8 c8 k1;obtain⟨xq,b4⟩:=yH ((c*c).val);obtain⟨xr,ej⟩:=yH ((ivF c*ivF c).val);have fL:IN tL (rdO C.toFld (Lb i)).1:=ex.out▸zK C ky;have fR:IN tR (rdO C.toFld (Rb i)).1:=e7.out▸zK C bf;obtain⟨t1,b8,F1⟩:∃t,FL 29 #[nv xq,tv tL] (tv t)/\IN t ((aC C.toFld d).ac (c*c) (rdO C.toFld (Lb i))).1:=⟨_,b4.out▸iO C d HF.2.1.le (c*c) fL⟩
  obtain⟨t2,b6,F2⟩:∃t,FL 29 #[nv xr,tv tR] (tv t)/\IN t ((aC C.toFld d).ac (ivF c*ivF c) (rdO C.toFld (Rb i))).1:=⟨_,ej.out▸iO C d HF.2.1.le (ivF c*ivF c) fR⟩
  obtain⟨t3,ko,F3⟩:∃t,FL 28 #[tv t1,tv t2] (tv t)/\IN t ((aC C.toFld d).ad ((aC C.toFld d).ac (c*c) (rdO C.toFld (Lb i))) ((aC C.toFld d).ac (ivF c*ivF c) (rdO C.toFld (Rb i)))).1:=⟨_,kD C d F1 F2⟩
  obtain⟨t4,kp,F4⟩:∃t,FL 28 #[tv Q,tv t3] (tv t)/\IN t ((aC C.toFld d).ad (V i).p ((aC C.toFld d).ad ((aC C.toFld d).ac (c*c) (rdO C.toFld (Lb i))) ((aC C.toFld d).ac (ivF c*ivF c) (rdO C.toFld (Rb i))))).1:=⟨_,kD C d h0.1 F3⟩
  have ez:FL 21 #[rv1,nv x,nv x] (nv xq):=hx.out▸b4.out▸CL HF.2.1 c.isLt c.isLt;have f8:FL 21 #[rv1,nv xo,nv xo] (nv xr):=ku.out▸ej.out▸CL HF.2.1 (ivF c).isLt (ivF c).isLt;have fn:=Hid.mk' F4;clear F1 F2 F3 F4 fL fR;refine(gwL [pE (tv Q),pE rv1,pE (nv x),pE (nv x),pE (nv xq),pE (tv tL),pE (tv t1),pE rv1,pE (nv xo),pE (nv xo),pE (nv xr),pE (tv tR),pE (tv t2),pE (tv t3),pE (tv t4)] (λW=>kZ Xe W) (λW W' hb h=>h.trans (hb.mono h.size))).tail2 15 kR kR kR ⟨
   gLo 9 (λW q=>(X.1.grow q).rp.2.1) uP3 iP3,
   gLo 15 (λW q=>(X.1.grow q).rq.2.1) uFq iFq,
   gLo 27 (λW q=>(X.2.2.2.1.below q).2.1) u33 i33,
   gLo 27 (λW q=>(X.2.2.2.1.below q).2.1) u33 i33,
   gC3 1 126 2 127 3 128 ez,
   gLo 23 (λW q=>(X.2.1.below q).2.1) uP3 iP3,
   gC2 4 129 5 130 b8,
   gLo 15 (λW q=>(X.1.grow q).rq.2.1) uFq iFq,
   gLo 28 (λW q=>(X.2.2.2.2.1.below q).2.1) u33 i33,
   gLo 28 (λW q=>(X.2.2.2.2.1.below q).2.1) u33 i33,
   gC3 7 132 8 133 9 134 f8,
   gLo 25 (λW q=>(X.2.2.1.below q).2.1) uP3 iP3,
   gC2 10 135 11 136 b6,
   gC2 6 131 12 137 ko,
   gC2 0 125 13 138 kp,Fs⟩ (ZF _ _).drew ?_
  intro l Xf kj h9;have d0:l 14=tv t4:=kj 14 dC;obtain⟨Xg,ki⟩:=yH (Xf.setCells k 0 (tw t4));have be:=X.1.grow h9;have bk:=Hid.mk' be.rp.2.2;have k9:E (Lr w0 Xg y k kq ka kb [.slice q1 f x1,.slice q2 f x2,vA,vB] a b L3 t4 tu (m+m) (qZ g3 o3 (m+m) c3) (qZ g4 o4 (m+m) c4) M th/\FJ Xg h6 (wn x)/\FJ Xg ht (wn xo)):=by
   rw[<-ki.out];exact⟨be.setp HY.2.2,(X.2.2.2.1.below h9).other (oN X.2.2.2.2.2.1),(X.2.2.2.2.1.below h9).other (oN X.2.2.2.2.2.2)⟩
  dsimp only[cD,mi,r9,tr];simp only[ah,Zr,Zt,Zu];rw[d0];clear d0 kj h9 be X b8 b6 ko kp ez f8;generalize l 0=i8;generalize l 1=j0;generalize l 2=i9;generalize l 3=ik;generalize l 4=il;generalize l 5=iq;generalize l 6=ja;generalize l 7=j5;generalize l 8=iu;generalize l 9=ie;generalize l 10=gw;generalize l 11=gy;generalize l 12=gu;generalize l 13=gt;clear l;obtain⟨jc,ct⟩:=yH (tv t4);rw[ct.out];have g1:((m+m:I):Y).tdiv 2=(m:Y):=TP;have g9:((m:Y)+(m:Y)).tdiv 2=(m:Y):=by have:=TP;rwa[Y.natCast_add]at this
  have j9:(m:Y)<=64:=oN HM.2.2;go_wp2_with (first|(refine ZZ Z 48 (.tmp 9) _ Z k 0 (tw t4).toArray ?_ ?_ ?_ ?_ ?_ ?_;rfl;exact ct.symm;exact bk;exact iP3;exact mR t4;rw[show(tw t4).toArray.toList=tw t4 from Z,ki.out])|fail)
  clear g1 g9 bk ki;have HX:E (x<top/\xo<top):=⟨hx.out▸Zn c.isLt HF.2.1.le,ku.out▸Zn (ivF c).isLt HF.2.1.le⟩
  refine(gwL [pE (nv xo),pE (qZ g3 o3 (m+m) c3),pE (iZ m),pE (qZ g3 o3 m c3),pE (nv x),pE (qZ g3 o3 (m+m) c3),pE (iZ m),pE (qZ g3 (o3+12*m) m (c3-m)),RG.pT (λg=>g≠y/\g≠k) m (mxT xo x M (λj=>M (m+j)))] (λW=>kZ Xg W) (λW W' hb h=>h.trans (hb.mono h.size))).tail2 9 kR kR kR ⟨
   gLo 28 (λW q=>(k9.2.2.below q).2.1) u33 i33,
   RG.gO 3 (qZ g3 o3 (m+m) c3),
   RG.gO 29 (iZ m),
   RG.gX 1 144 2 145 (Ma (oN h0.2.2.2.2.2.2)),
   gLo 27 (λW q=>(k9.2.1.below q).2.1) u33 i33,
   RG.gO 3 (qZ g3 o3 (m+m) c3),
   RG.gO 29 (iZ m),
   RG.gX 5 148 6 149 (by have h:=LZ g3 o3 (m+m) c3 m (oN HM.2.1) (oN h0.2.2.2.2.2.2);rw[CA]at h;exact h),
   Sf 0 143 3 146 4 147 7 150 83 (λx y z u=>#[x,y,z,u]) (λz1 z2 z3 z4 W h1 h2 h3 h4 q=>by
    obtain rfl:z1=nv xo:=h1;obtain rfl:z2=(qZ g3 o3 m c3):=h2;obtain rfl:z3=nv x:=h3;obtain rfl:z4=(qZ g3 (o3+12*m) m (c3-m)):=h4;have hw:=k9.1.grow q;apply(Nm C xo x HX.2 HX.1 m HM.2.1 (oN HM.2.2) M (λj=>M (m+j)) _ _ (λj hj=>h0.2.1 j S) (λj hj=>h0.2.1 (m+j) S) _ _ W (hw.g.low.mono λ_ _ _=>trivial) (hw.g.high.mono λ_ _ _=>trivial)).mono;rintro e W' ⟨uu,rfl,hb,hq⟩;refine⟨_,Z,hb,hq.mono λg _ hg=>⟨?_,?_⟩⟩
    .have:=hw.lg.lt;omega
    have:=hw.rp.1;omega),Fs⟩ (ZF _ _).drew ?_
  intro l Xh kw k3;have kr:PtQ (λg=>g≠y/\g≠k) Xh (l 8) m (mxT xo x M (λj=>M (m+j))):=kw 8 dC;have kd:E (Lr w0 Xh y k kq ka kb [.slice q1 f x1,.slice q2 f x2,vA,vB] a b L3 t4 tu (m+m) (qZ g3 o3 (m+m) c3) (qZ g4 o4 (m+m) c4) M th/\FJ Xh h6 (wn x)/\FJ Xh ht (wn xo)/\PtQ (λg=>g≠y/\g≠k) Xh (l 8) m (mxT xo x M (λj=>M (m+j)))):=⟨k9.1.grow k3,k9.2.1.below k3,k9.2.2.below k3,kr⟩
  dsimp only[cD,mi,r9,tr];simp only[ah,Zr,Zt,Zu];clear kw k3 kr k9;generalize l 8=s3 at kd⊢;generalize l 0=iy;generalize l 1=jb;generalize l 2=i4;generalize l 3=i3;generalize l 4=i5;generalize l 5=ig;generalize l 6=i6;generalize l 7=im;clear l;go_wp2_with fail
  refine(gwL [pE (nv x),pE (qZ g4 o4 (m+m) c4),pE (iZ m),pE (qZ g4 o4 m c4),pE (nv xo),pE (qZ g4 o4 (m+m) c4),pE (iZ m),pE (qZ g4 (o4+12*m) m (c4-m)),RG.pT (λg=>g≠y/\g≠k) m (mxT x xo th (λj=>th (m+j)))] (λW=>kZ Xh W) (λW W' hb h=>h.trans (hb.mono h.size))).tail2 9 kR kR kR ⟨
   gLo 27 (λW q=>(kd.2.1.below q).2.1) u33 i33,
   RG.gO 4 (qZ g4 o4 (m+m) c4),
   RG.gO 29 (iZ m),
   RG.gX 1 153 2 154 (Ma (oN h0.2.2.2.2.2.2)),
   gLo 28 (λW q=>(kd.2.2.1.below q).2.1) u33 i33,
   RG.gO 4 (qZ g4 o4 (m+m) c4),
   RG.gO 29 (iZ m),
   RG.gX 5 157 6 158 (by have h:=LZ g4 o4 (m+m) c4 m (oN HM.2.1) (oN h0.2.2.2.2.2.2);rw[CA]at h;exact h),
   Sf 0 152 3 155 4 156 7 159 83 (λx y z u=>#[x,y,z,u]) (λz1 z2 z3 z4 W h1 h2 h3 h4 q=>by
    obtain rfl:z1=nv x:=h1;obtain rfl:z2=(qZ g4 o4 m c4):=h2;obtain rfl:z3=nv xo:=h3;obtain rfl:z4=(qZ g4 (o4+12*m) m (c4-m)):=h4;have hw:=kd.1.grow q;apply(Nm C x xo HX.1 HX.2 m HM.2.1 (oN HM.2.2) th (λj=>th (m+j)) _ _ (λj hj=>h0.2.2.1 j S) (λj hj=>h0.2.2.1 (m+j) S) _ _ W (hw.h.low.mono λ_ _ _=>trivial) (hw.h.high.mono λ_ _ _=>trivial)).mono;rintro e W' ⟨uu,rfl,hb,hq⟩;refine⟨_,Z,hb,hq.mono λg _ hg=>⟨?_,?_⟩⟩
    .have:=hw.lg.lt;omega
    have:=hw.rp.1;omega),Fs⟩ (ZF _ _).drew ?_
  intro l Xi kw k3;have kr:PtQ (λg=>g≠y/\g≠k) Xi (l 8) m (mxT x xo th (λj=>th (m+j))):=kw 8 dC;have co:E (∃Q M th,IN Q (V (i+1)).p.1/\(∀j,j<2^(f-(i+1))->IN (M j) ((V (i+1)).g j).1)/\(∀j,j<2^(f-(i+1))->IN (th j) ((V (i+1)).h j).1)/\(V (i+1)).s.size=32/\Lr w0 Xi y k kq ka kb [.slice q1 f x1,.slice q2 f x2,vA,vB] a b (V (i+1)).s Q tu (2^(f-(i+1))) s3 (l 8) M th/\∀j,j<i+1->(∃p,rd P (Lb j)=J p)/\∃p,rd P (Rb j)=J p):=by
   have ft:chF N (V i).s (rdO C.toFld (Lb i)) (rdO C.toFld (Rb i))=(L3,c):=by
    unfold chF;dsimp only;rw[show Go.Proofs.YtndpeoebngkhmaaGreat.wr (rdO C.toFld (Lb i)).1=Lb i from sE C.toFld ky.out,show Go.Proofs.YtndpeoebngkhmaaGreat.wr (rdO C.toFld (Rb i)).1=Rb i from sE C.toFld bf.out,h0.out.2.2.2.2.1];unfold kS;rw[HZ.out.2.1,HZ.out.2.2,d4.out,hc.out]
   have g0:=HV.2 i m L3 c HM.1.symm ft;have ec:∀(z1 z2:Fin N) (t:I->T3 P) (g:I->OnP P),(∀j,j<m+m->IN (t j) (g j).1)->∀j,j<m->IN (mxT z1.val z2.val t (λj=>t (m+j)) j) ((aC C.toFld d).fP z1 z2 m g j).1:=λz1 z2 t g hf j hj=>(kD C d (iO C d HF.2.1.le z1 (hf j S)).2 (iO C d HF.2.1.le z2 (hf (m+j) S)).2).2
   show ∃Q M th,_;rw[g0,HM.out.1];refine⟨t4,mxT xo x M (λj=>M (m+j)),mxT x xo th (λj=>th (m+j)),fn,?_,?_,HZ.1,(kd.1.grow k3).lists (kd.2.2.2.keep (Kq.of_below k3)) kr,λj hj=>?_⟩
   .rw[<-hx.out,<-ku.out];exact ec (ivF c) c M _ h0.2.1
   .rw[<-hx.out,<-ku.out];exact ec c (ivF c) th _ h0.2.2.1
   by_cases fq:j=i
   .subst fq;exact⟨Z8.1 ky,Z8.1 bf⟩
   exact h0.2.2.2.1 j S
  dsimp only[cD,mi,r9,tr];simp only[ah,Zr,Zt,Zu];clear kw k3 kr kd;generalize l 8=s4 at co⊢;generalize l 0=ic;generalize l 1=ih;generalize l 2=id;generalize l 3=iw;generalize l 4=io;generalize l 5=j6;generalize l 6=ij;generalize l 7=j8;clear l;go_wp2_with fail
  go_roundg (gk-1);have:=HI;omega
  exact⟨i+1,oN HI,Z,co⟩
 have g8:¬(i:Y)<(f:Y):=S;have g5:f=i:=S;obtain⟨Q,M,th,fp,fg,fh,km,h5,kk⟩:=KM;clear KM;subst g5;rw[ww,rx]at fg fh h5;obtain⟨g3,o3,c3,e3,dx,-,-⟩:=h5.g;obtain⟨g4,o4,c4,e4,e0,-,-⟩:=h5.h;subst e3;subst e4;obtain⟨Ls,kg⟩:=vH ((V f).s);rw[kg]at h5;have KL:=Hid.mk' h5;have ei:okI P N f f f Lb Rb A B:=⟨Z,Z,λj hj=>(kk j hj).1,λj hj=>(kk j hj).2,k6.2.2.1,k6.2.2.2⟩
 have dq:∀ {b:Bs},(rq N b).isSome=H->(rdN N b).val=nuV b:=λ{b} h=>by
  rw[yA h];obtain⟨n,hn⟩:=Z8.1 h;rw[hn];exact VX hn
 have ea:(rdN N A).val=a:=(dq k6.2.2.1).trans k6.1;have eb:(rdN N B).val=b:=(dq k6.2.2.2).trans k6.2.1;obtain⟨xq,b4⟩:=yH ((rdN N A*rdN N B).val);obtain⟨t1,b8,F1⟩:∃t,FL 29 #[nv a,tv (M 0)] (tv t)/\IN t ((aC C.toFld d).ac (rdN N A) ((V f).g 0)).1:=⟨_,by rw[<-ea];exact iO C d HF.2.1.le (rdN N A) (fg 0 dC)⟩
 obtain⟨t2,b6,F2⟩:∃t,FL 29 #[nv b,tv (th 0)] (tv t)/\IN t ((aC C.toFld d).ac (rdN N B) ((V f).h 0)).1:=⟨_,by rw[<-eb];exact iO C d HF.2.1.le (rdN N B) (fh 0 dC)⟩
 obtain⟨t3,ko,F3⟩:∃t,FL 28 #[tv t1,tv t2] (tv t)/\IN t ((aC C.toFld d).ad ((aC C.toFld d).ac (rdN N A) ((V f).g 0)) ((aC C.toFld d).ac (rdN N B) ((V f).h 0))).1:=⟨_,kD C d F1 F2⟩
 obtain⟨t4,kp,F4⟩:∃t,FL 29 #[nv xq,tv tu] (tv t)/\IN t ((aC C.toFld d).ac (rdN N A*rdN N B) u).1:=⟨_,b4.out▸iO C d HF.2.1.le (rdN N A*rdN N B) HF.2.2.2.1⟩
 obtain⟨t5,f9,F5⟩:∃t,FL 28 #[tv t3,tv t4] (tv t)/\IN t ((aC C.toFld d).ad ((aC C.toFld d).ad ((aC C.toFld d).ac (rdN N A) ((V f).g 0)) ((aC C.toFld d).ac (rdN N B) ((V f).h 0))) ((aC C.toFld d).ac (rdN N A*rdN N B) u)).1:=⟨_,kD C d F3 F4⟩
 have cM:FL 21 #[rv1,nv a,nv b] (nv xq):=by rw[<-ea,<-eb,<-b4.out];exact CL HF.2.1 (rdN N A).isLt (rdN N B).isLt
 have hD:decide ((V f).p.1=((aC C.toFld d).ad ((aC C.toFld d).ad ((aC C.toFld d).ac (rdN N A) ((V f).g 0)) ((aC C.toFld d).ac (rdN N B) ((V f).h 0))) ((aC C.toFld d).ac (rdN N A*rdN N B) u)).1)=Bd:=by
  have h2:(V f).p.1=((aC C.toFld d).ad ((aC C.toFld d).ad ((aC C.toFld d).ac (rdN N A) ((V f).g 0)) ((aC C.toFld d).ac (rdN N B) ((V f).h 0))) ((aC C.toFld d).ac (rdN N A*rdN N B) u)).1↔Bd=H:=yFg.symm.trans (Iff.trans ⟨λh=>⟨ei,h⟩,λh=>h.2⟩ d9.symm);cases Bd with
  | true=>exact decide_eq_true (h2.2 Z)
  | false=>exact decide_eq_false λh=>uw (h2.1 h)
 have cS:=CE C fp F5;rw[hD]at cS;have HS:=Hid.mk' cS;clear F1 F2 F3 F4 F5 fp fg fh km h5 kk kg ei dq cS hD ea eb;go_wp2_with fail
 refine(gwL [pE (nv a),pE (qZ g3 o3 1 c3),pE (oZ g3 (o3+12*0)),pE (tv (M 0)),pE (tv t1),pE (nv b),pE (qZ g4 o4 1 c4),pE (oZ g4 (o4+12*0)),pE (tv (th 0)),pE (tv t2),pE (tv t3),pE rv1,pE (nv a),pE (nv b),pE (nv xq),pE (tv tu),pE (tv t4),pE (tv t5),RG.pN wr.heap.size zP] (λW=>kZ wr W) (λW W' hb h=>h.trans (hb.mono h.size))).tail2 19 kR kR kR ⟨
  gLo 16 (λW q=>(KL.grow q).ra.2.1) u33 i33,
  RG.gO 3 (qZ g3 o3 1 c3),
  CY 1 162 (qZ g3 o3 1 c3) (Hw dC) (λx W h=>h) (λ_=>rfl),
  gLr 2 163 (λW q=>RwQ.at (j:=0) (KL.grow q).g dC) uP3 iP3,
  gC2 0 161 3 164 b8,
  gLo 18 (λW q=>(KL.grow q).rb.2.1) u33 i33,
  RG.gO 4 (qZ g4 o4 1 c4),
  CY 6 167 (qZ g4 o4 1 c4) (Hw dC) (λx W h=>h) (λ_=>rfl),
  gLr 7 168 (λW q=>RwQ.at (j:=0) (KL.grow q).h dC) uP3 iP3,
  gC2 5 166 8 169 b6,
  gC2 4 165 9 170 ko,
  gLo 15 (λW q=>(KL.grow q).rq.2.1) uFq iFq,
  gLo 16 (λW q=>(KL.grow q).ra.2.1) u33 i33,
  gLo 18 (λW q=>(KL.grow q).rb.2.1) u33 i33,
  gC3 11 172 12 173 13 174 cM,
  gLo 12 (λW q=>(KL.grow q).ru.2.1) uP3 iP3,
  gC2 14 175 15 176 kp,
  gC2 10 171 16 177 f9,
  Au zP 48 (λW W' h q=>⟨_,Z,q.size,h⟩),Fs⟩ (ZF _ _).drew ?_
 intro l Xf kj h9;have cy:l 17=tv t5:=kj 17 dC;obtain⟨bn,cu,cp,dm⟩:∃k,l 18=jZ k/\wr.heap.size<=k/\FJ Xf k zP:=kj 18 dC;obtain⟨Xg,ki⟩:=yH (Xf.setCells bn 0 (tw t5));have ds:=KL.grow h9;have bk:=Hid.mk' dm.2.2;have KG:E (FJ Xg k (tw Q)/\FJ Xg bn (tw t5)/\kZ w0 Xg):=by
  rw[<-ki.out];exact⟨ds.rp.other (oN KL.rp.1),dm.put Z,RG.below_setCells (Zw KL.bl.size cp) _ _ _ ds.bl⟩
 dsimp only[cD,mi,r9,tr];simp only[ah,Zr,Zt,Zu];rw[cy,cu];clear cy cu kj h9 ds KL b8 b6 ko kp f9 cM dm cp;generalize l 0=i7;generalize l 1=j2;generalize l 2=iz;generalize l 3=j1;generalize l 4=i2;generalize l 5=ir;generalize l 6=j7;generalize l 7=jd;generalize l 8=i1;generalize l 9=j3;generalize l 10=gg;generalize l 11=gz;generalize l 12=gj;generalize l 13=gq;generalize l 14=gs;generalize l 15=i0;generalize l 16=gh;clear l;obtain⟨fs,X⟩:=yH (tv t5);obtain⟨fu,cj⟩:=yH (tv Q);obtain⟨dP,cn,d2⟩:=Zp.1 uP3;have bo:E (prog.underlying 48=J dP/\dP.isRow=H):=⟨cn,d2⟩
 rw[X.out,cj.out]at HS;rw[X.out];clear cn d2;go_wp2_with (first|(refine ZZ Z 48 (.tmp 30) _ Z bn 0 (tw t5).toArray ?_ ?_ ?_ ?_ ?_ ?_;rfl;exact X.symm;exact bk;exact iP3;exact mR t5;rw[show(tw t5).toArray.toList=tw t5 from Z,ki.out])|(refine gS Z 48 (.tmp 9) Z k 0 ?_ (tw Q) dP ?_ ?_ ?_ ?_ ?_;rfl;exact KG.1.2.1;exact bo.1;exact bo.2;exact iP3;rw[show ZM (tw Q).toArray=fu from cj.out])|(refine gS Z 48 (.tmp 30) Z bn 0 ?_ (tw t5) dP ?_ ?_ ?_ ?_ ?_;rfl;exact KG.2.1.2.1;exact bo.1;exact bo.2;exact iP3;rw[show ZM (tw t5).toArray=fs from X.out])|fail)
 apply(HS Xg).mono;rintro e Xk ⟨uu,rfl,em,rfl⟩;have hZ:=Hid.mk' (KG.2.2.trans (em.mono KG.2.2.size));clear em KG;go_wp2_with fail
 go_ret;exact⟨_,Z,hZ,Z⟩
end
namespace EC
variable {P:Nat}[NeZero P]
def nL:I:=115792089237316195423570985008687907852837564279074904382605163141518161494337
instance:NeZero pL:=⟨dK⟩
end EC
section
def Ub:Go.Proofs.YtndpeoebngkhmaaGreat.p1=nL:=dK
variable {P:Nat}[NeZero P]
end
section
open SPA
def PtC(W:Zl)(u:Zm)(b:Bs):Prop:=∃q c,u=.slice q (R.size b) c/\b.size<=c/\(b.size=0\/∃g o,q=J ⟨g,o,F⟩/\g<W.heap.size/\FE SP.encB W g o b)
def PtC.pt{b:Bs}(h:PtC W u b):Pt W u b:=by
 obtain⟨q,c,h1,-,k⟩:=h;exact⟨q,c,h1,k⟩
def PtC.a33{b:Bs}(h:PtC W u b):Arg33 W u b:=by
 let⟨q,c,h1,f,k⟩:=h
 refine⟨q,_,c,h1,Z,λi=>?_⟩;rcases k with k|⟨g,o,k,d,e⟩
 .omega
 exact⟨g,o,k,S,d,e⟩
def PtC.a32{b:Bs}(h:PtC W u b):Arg W u b:=by
 let⟨q,c,h1,f,k⟩:=h
 refine⟨q,_,c,h1,Z,λi=>?_⟩;rcases k with k|⟨g,o,k,d,e⟩
 .omega
 exact⟨g,o,k,S,d,e⟩
def PI(h:VL W q n ys)(p:∀u∈ys,∃b,PtC W u b):∃L:I->Bs,PArg W q n L/\RArg W q n L/\∀j,j<n->∃u,u∈ys/\PtC W u (L j):=by
 have f:∀j:I,∃b:Bs,∀u,ys[j]? = J u->PtC W u b:=λj=>by
  cases k:ys[j]? with
  | none=>exact⟨#[],λu h=>by cases h⟩
  | some u =>
   let⟨b,c⟩:=p u (oE k)
   exact⟨b,λv hv=>by injection hv with hv;rw[<-hv];exact c⟩
 have d:∀j:I,j<n->∃u,ys[j]? = J u:=λj k=>⟨_,ZH (by rw[h.len];exact k)⟩
 refine⟨λj=>(f j).choose,λm=>?_,λm=>?_,λj k=>?_⟩
 .rcases h.cells with e|⟨g,o,h1,i,l⟩
  .have:=h.len;rw[e]at this;exact absurd this.symm (pe m)
  refine⟨g,o,h1,i,λj k=>?_⟩;let⟨u,c⟩:=d j k
  exact⟨u,l j u c,((f j).choose_spec u c).a33⟩
 .rcases h.cells with e|⟨g,o,h1,i,l⟩
  .have:=h.len;rw[e]at this;exact absurd this.symm (pe m)
  refine⟨g,o,h1,i,λj k=>?_⟩;let⟨u,c⟩:=d j k
  exact⟨u,l j u c,((f j).choose_spec u c).pt⟩
 let⟨u,c⟩:=d j k
 exact⟨u,oE c,(f j).choose_spec u c⟩
def Yy:Ord Go.Proofs.YtndpeoebngkhmaaGreat.p1:=⟨YO,V1,dK,dK⟩
def TT:IsP Go.Proofs.YtndpeoebngkhmaaGreat.p1:=by
 rw[Ub];exact NT.pN
end
section
open Go.ChangeShapes Go.WideShapes Go.ChangeAt
def QU:prog.cellsOf 5=1:=kR
def Jq:prog.cellsOf 22=1:=kR
def QT:prog.cellsOf 23=1:=kR
def cellsIn:prog.cellsOf 25=4:=kR
def PY{n:Y}(h:(Lit.int .u8 n).wf=H):0<=n/\n<=255:=by
 simp only[Lit.wf,ZD,decide_eq_true_eq]at h;exact h
section
variable {H:Type}{enc:ZR × Zm->H}{W:Zl}
def wO(hf:yFk enc prog W 0 (λ_=>true) true n 22 [v]=J x)(s:W.noneFrozen x.2):∃b:Bs,PtC W v b:=by
 rcases open_ints underlying22 underlying5 QU hf with⟨e,hx⟩|⟨a,l,c,zs,e,_,hl,u,p,hx,k,o⟩
 .simp only[sw.injEq,and_true]at e;subst e;exact⟨#[],F,0,Z,Zo _,Z5 Z⟩
 simp only[sw.injEq,and_true]at e;subst e;simp only[if_true]at p;subst hx;have t:∀j,j<l->0<=zs.getD j 0/\zs.getD j 0<=255:=λj g=>by
  refine PY (o _ ?_);rw[G.getD_eq_getElem?_getD,ZH S];exact G.getElem_mem _
 have d:((fo l).map λj=>ZG (zs.getD j 0).toNat).toArray.size=l:=by simp
 refine⟨((fo l).map λj=>ZG (zs.getD j 0).toNat).toArray,J a,c,by rw[d],by rw[d];omega,?_⟩;rw[d];by_cases r:l=0
 .exact Z5 r
 right;let⟨b,off,i⟩:=a
 have f:i=F:=by simpa[ts]using yFz (k 0 S)
 subst f;have q:∀j,j<l->W.cell? ⟨b,off+j,F⟩=J (.int .u8 (zs.getD j 0)):=λj g=>by
  rw[<-k j S]
  congr 1
  unfold ts;by_cases m:j=0
  .subst m;rfl
  rw[Id m]
 refine⟨b,off,Z,vj _ _ (q 0 S),λj g=>?_⟩;rw[d]at g;refine⟨?_,s b (off+j) (MemPlace.mem_row.2 ⟨j,S,Z⟩)⟩;rw[q j g];have h1:((fo l).map λj=>ZG (zs.getD j 0).toNat).toArray[j]! = ZG (zs.getD j 0).toNat:=by
  rw[getElem!_pos _ j (by rw[d];exact g)];simp
 rw[h1];let⟨m,w⟩:=t j g
 show _=J (Value.int .u8 (((ZG (zs.getD j 0).toNat).toNat:I):Y));rw[yCh,ZC S,Y.toNat_of_nonneg m]
def ED(hf:yFk enc prog W 0 (λ_=>true) true n 23 [v]=J x)(y:W.noneFrozen x.2):∃(s:Sv) (ys:G Zm),v=s.v/\VL W s.q s.n ys/\∀u∈ys,∃b,PtC W u b:=by
 rcases open_slice1 underlying23 Jq hf with⟨k,hx⟩|⟨a,l,c,m,z,V,D,K,k,_,hl,C,i,hx,q⟩
 .simp only[sw.injEq,and_true]at k;subst k;exact⟨⟨F,0,0⟩,[],Z,⟨Z,λ_=>rfl,Z5 Z,λu g=>by cases g⟩,λu g=>by cases g⟩
 simp only[sw.injEq,and_true]at k;subst k;simp only[if_true]at i;subst i;subst hx;have r:∀u∈(fo l).map V,∃b,PtC W u b:=λu g=>by
  obtain⟨j,p,rfl⟩:=Z1.1 g;have f:=p9.1 p;refine wO (q j S).2 (λb off d=>y b off (xz _ (G.mem_flatMap.2 ⟨j,p9.2 S,d⟩)))
 refine⟨⟨J a,l,m⟩,(fo l).map V,Z,⟨by simp,λe=>(by cases e),?_,λu g=>?_⟩,r⟩
 .by_cases w:l=0
  .subst w;exact Z5 Z
  let⟨b,off,o⟩:=a
  have d:o=F:=by simpa[ts]using yFz (q 0 S).1
  subst d;have t:∀j,j<l->W.cell? ⟨b,off+j,F⟩=J (V j):=λj p=>by
   rw[<-(q j S).1,Cm]
  refine ZW ⟨b,off,Z,vj _ _ (t 0 S),λj u p=>?_⟩;have f:j<l:=by
   have:=(Zz.1 p).1;simpa using this
  rw[t j f,<-p,G.getElem?_map,G.getElem?_range f];rfl
 let⟨b,d⟩:=r u g
 obtain⟨f,c',rfl,-⟩:=d;rfl
def Ny{cs:G Zm}(hf:yFk enc prog W 0 (λ_=>true) true n 25 cs=J x)(i:W.noneFrozen x.2):
 ∃(l r a b:Sv) (e k:G Zm),cs=[l.v,r.v,a.v,b.v]/\VL W l.q l.n e/\VL W r.q r.n k/\(∀u∈e,∃b,PtC W u b)/\(∀u∈k,∃b,PtC W u b)/\(∃c,PtC W a.v c)/\∃c,PtC W b.v c:=by
 have hl:cs.length=4:=by
  obtain⟨xs,f,-,-,hl,-⟩:=DataW.trod_struct underlying25 hf;rw[cellsIn]at hl;exact hl
 obtain⟨y,P,M,j,rfl⟩:∃a b c d,cs=[a,b,c,d]:=by
  match cs,hl with
  | [a,b,c,d],_=>exact⟨a,b,c,d,Z⟩
 obtain⟨X,T,w2,V,n2,rfl,-,s,w,q,t⟩:=Joins.trod_struct4 underlying25 hf;simp only[QT]at s w;simp only[Jq]at q t;let⟨l,e,z,vl,p7⟩:=ED (v:=y) s (λb off f=>i b off (xy _ f))
 let⟨r,k,N,O,p8⟩:=ED (v:=P) w (λb off f=>i b off (xz _ (xy _ f)))
 let⟨L,p⟩:=wO (v:=M) q (λb off f=>i b off (xz _ (xz _ (xy _ f))))
 let⟨m,g⟩:=wO (v:=j) t (λb off f=>i b off (xz _ (xz _ (xz _ f))))
 have K:=p;have o:=g;obtain⟨Q,ca,rfl,-⟩:=p;obtain⟨C,cb,rfl,-⟩:=g;subst z N;exact⟨l,r,⟨Q,_,ca⟩,⟨C,_,cb⟩,e,k,Z,vl,O,p7,p8,⟨L,K⟩,m,o⟩
end
end
section
open SPA
variable {P:Nat}[NeZero P]{N:Nat}[NeZero N]
def okS(N n:I)(L:I->Bs):Prop:=∀j,j<n->(rq N (L j)).isSome=H
omit [NeZero N] in
theorem Vd(O:Ord N)(n c:I)(l:n<=512)(q:GJ gE)(L:I->Bs)(w:Zl)(i:Args w q n L):dZ 54 #[(.func (.func 46) #[] #[]),.slice q n c] w λe w'=>∃s ok,e=.tuple #[s,.bool ok]/\(ok=H↔okS N n L)/\(ok=H->∃k,s=sZ k n n/\SLq (w.heap.size<=·) w' s n (λj=>(rq N (L j)).getD 0)):=by
 apply(JC O n c l q L w i).mono;rintro e w' ⟨v,rfl,h⟩;rcases h with⟨⟨j,h1,f⟩,g,rfl⟩|⟨h,k,o,b,hR,rfl⟩
 .exact⟨_,Z,g,_,D,Z,iff_of_false uw (λh=>by have:=h j h1;rw[f]at this;cases this),λh=>absurd h uw⟩
 refine⟨_,Z,b.bel,_,H,Z,iff_of_true Z h,λ_=>⟨k,Z,k,0,n,Z,Zo _,b.le,b.lt,λj m t u d=>?_⟩⟩;have:=b.range (4*j+t) u (by rw[hR.row j t m (Zz.1 d).1];exact d);rw[show 0+(4*j+t)=0+4*j+t by omega]at this;exact this
def rdR(N:I)[NeZero N](b:I->Bs):Rp:=⟨b 0,b 1,b 2,b 3,(rdN N (b 4)).val,(rdN N (b 5)).val,(rdN N (b 6)).val⟩
structure VfL(n:I)(V:Bs)(p:Rp)(L3 L6 L8:Bs)(y z x w:B N):Prop where
 l3:L3=bgL V n p.a p.s
 y:y=lB N L3
 z:z=lB N (aS L3)
 l6:L6=mdL (aS (aS L3)) p.c p.d
 x:x=lB N L6
 l8:L8=enL (aS L6) p.u p.m p.t
 w:w=lB N L8
variable (C:Fld P) (hord:∀r:EC.Pt P,EC.On r->EC.mul N r=none)
def vfS(n:I)(V b k:OnP P)(tau tt y z x:B N):Prop:=(aC C hord).cm (hPV C) (gPG C) (tt-rgD n y z) tau=(aC C hord).ad ((aC C hord).ad ((aC C hord).ac (z*z) V) ((aC C hord).ac x b)) ((aC C hord).ac (x*x) k)
noncomputable def vfV (n:I) (L:Bs) (A S:OnP P) (mu tt y z x w:B N):Md.Vs Bs (OnP P):=⟨L,(aC C hord).ad ((aC C hord).ad ((aC C hord).ad ((aC C hord).ad A ((aC C hord).ac x S)) ((aC C hord).ac (-1) ((aC C hord).ac mu (gPG C)))) ((aC C hord).ad ((aC C hord).dt (λ_=>-z) (gPt C ⟨#[108,101,102,116]⟩) n) ((aC C hord).dt (rgS y z) (λi=>(aC C hord).ac (pwF (ivF y) i) (gPt C ⟨#[114,105,103,104,116]⟩ i)) n))) ((aC C hord).ac tt ((aC C hord).ac w (uPt C))),gPt C ⟨#[108,101,102,116]⟩,λi=>(aC C hord).ac (pwF (ivF y) i) (gPt C ⟨#[114,105,103,104,116]⟩ i)⟩
section
variable {C hord}{n:Nat}{L:Bs}{A S:OnP P}{mu tt y z x w:Fin N}
def Vq:(vfV C hord n L A S mu tt y z x w).s=L:=rfl
def Vu:(vfV C hord n L A S mu tt y z x w).g=gPt C ⟨#[108,101,102,116]⟩:=rfl
def Vt:(vfV C hord n L A S mu tt y z x w).h=λi=>(aC C hord).ac (pwF (ivF y) i) (gPt C ⟨#[114,105,103,104,116]⟩ i):=rfl
def Vv:(vfV C hord n L A S mu tt y z x w).p=(aC C hord).ad ((aC C hord).ad ((aC C hord).ad ((aC C hord).ad A ((aC C hord).ac x S)) ((aC C hord).ac (-1) ((aC C hord).ac mu (gPG C)))) ((aC C hord).ad ((aC C hord).dt (λ_=>-z) (vfV C hord n L A S mu tt y z x w).g n) ((aC C hord).dt (rgS y z) (vfV C hord n L A S mu tt y z x w).h n))) ((aC C hord).ac tt ((aC C hord).ac w (uPt C))):=rfl
end
def Vx(n t:I)(V:Bs)(b:I->Bs)(nL c:I)(k Rb:I->Bs)(L:Bs)(y z x w:B N):Prop:=okI P N t nL c k Rb (b 7) (b 8)/\okP P 4 b/\okS N 3 (λj=>b (4+j))/\vfS C hord n (rdO C V) (rdO C (b 2)) (rdO C (b 3)) (rdN N (b 4)) (rdN N (b 6)) y z x/\(aC C hord).Fq ((aC C hord).ac w (uPt C)) (rdN N (b 7)) (rdN N (b 8)) ((aC C hord).vst (chF N) ivF t (λj=>rdO C (k j)) (λj=>rdO C (Rb j)) (vfV C hord n L (rdO C (b 0)) (rdO C (b 1)) (rdN N (b 5)) (rdN N (b 6)) y z x w) t)
end
section
open SPA
variable {P:Nat}[NeZero P]{N:Nat}[NeZero N]
omit [NeZero N] in
theorem S4(C:IO P){X Y:OnP P}(h:wP X=wP Y):X=Y:=At (by
 have:=congrArg (iE P) h;rwa[kF C X.2,kF C Y.2]at this)
section
variable {P:ai}{ops:Array Z4}{Q:Exit->Act->Zl->Prop}{p r i fuel:Nat}{J:Iv}{o:Z4}{listed:Array Bool}{a a':Act}{w:Zl}{d:Option Tmp}
def AG.no(i:I)(h:AW P ops Q p r J fuel (listed.setIfInBounds i H) a' w)(ho:ops[i]? = some o:=by(simp only[List.getElem?_toArray,List.getElem?_cons_succ,List.getElem?_cons_zero])<;>rfl)(hd:o.dst=d:=by rfl)(f:Region.wanted o (yielded ops a.tmps)=false:=by kernel_rfl)(b:a.put d am=a':=by(simp only[ah,Zr,Zt,Zu])<;>rfl)(k:aw1 ops p r (fw ops i) i listed=H:=by kernel_rfl)(e:∀c a w,Q (.panic c) (a.put o.dst am) w->Q (.panic c) a w:=by exact λ_ _ _ h=>h):AW P ops Q p r J (fuel+1) listed a w:=
 AW.take i (fw ops i) ho hd (ZW ⟨f,Z⟩) b k e h
end
structure VfA(W:Zl)(p:Rg)(b Lb Rb:I->Bs):Prop where
 a:PtC W p.a.v (b 0)
 s:PtC W p.b.v (b 1)
 c:PtC W p.c.v (b 2)
 d:PtC W p.d.v (b 3)
 u:PtC W p.e.v (b 4)
 m:PtC W p.f.v (b 5)
 t:PtC W p.g.v (b 6)
 l:PArg W p.l.q p.l.n Lb
 r:PArg W p.r.q p.r.n Rb
 x:PtC W p.x.v (b 7)
 y:PtC W p.y.v (b 8)
def PtC.below{b:Bs}(h:PtC w u b)(d:kZ w W):PtC W u b:=by
 let⟨q,c,e,h1,f⟩:=h
 refine⟨q,c,e,h1,f.imp id ?_⟩;rintro⟨g,o,j,k,i⟩;exact⟨g,o,j,Zn k d.size,Holds.below i d k⟩
def VfA.below{p:Rg}{b c Rb:I->Bs}(h:VfA w p b c Rb)(k:kZ w W):VfA W p b c Rb:=⟨h.a.below k,h.s.below k,h.c.below k,h.d.below k,h.u.below k,h.m.below k,h.t.below k,h.l.below k,h.r.below k,h.x.below k,h.y.below k⟩
def XB(p:Rg):(aj 27 (.agg p.cs.toArray)).run prog w=.ok (jZ w.heap.size) (w.alloc (.cells p.cs.toArray 27)):=kR
def Xx{a b c d:Sv}:(pg 23 4 #[(0,a.v),(1,b.v),(2,c.v),(3,d.v)]).run prog w=.ok (sZ w.heap.size 4 4) (w.alloc (.cells #[a.v,b.v,c.v,d.v] 22)):=kR
def Xy{a b c:Sv}:(pg 23 3 #[(0,a.v),(1,b.v),(2,c.v)]).run prog w=.ok (sZ w.heap.size 3 3) (w.alloc (.cells #[a.v,b.v,c.v] 22)):=kR
def Jd(p:Prop):∃b:Hc,b=H↔p:=(Classical.em p).elim (λh=>⟨H,iff_of_true Z h⟩) λh=>⟨D,iff_of_false uw h⟩
abbrev pqI(ok:Hc)(vs:G Zm)(t a b:I)(i Rb:I->Bs):Pq:=⟨λQ W=>ok=H->∃d c,vs=inL d c t a b/\PtL Q W d t i/\PtL Q W c t Rb,λ_ _ _ k h e=>by
 obtain⟨d,c,h1,f,g⟩:=h e;exact⟨d,c,h1,f.keep k,g.keep k⟩,λ_ _ _ m h e=>by
 obtain⟨d,c,h1,f,g⟩:=h e;exact⟨d,c,h1,f.mono2 m,g.mono2 m⟩⟩
abbrev pqV(ok:Hc)(s:Zm)(n:I)(B:I->Bs):Pq:=⟨λQ W=>ok=H->∃K,s=sZ K n n/\PtL Q W K n B,λ_ _ _ k h e=>by
 obtain⟨K,h1,b⟩:=h e;exact⟨K,h1,b.keep k⟩,λ_ _ _ m h e=>by
 obtain⟨K,h1,b⟩:=h e;exact⟨K,h1,b.mono2 m⟩⟩
abbrev Yv(ok:Hc)(s:Zm)(n:I)(a:I->I):Pq:=⟨λQ W=>ok=H->∃K,s=sZ K n n/\SLq Q W s n a,λ_ _ _ k h e=>by
 obtain⟨K,h1,b⟩:=h e;exact⟨K,h1,b.keep k⟩,λ_ _ _ m h e=>by
 obtain⟨K,h1,b⟩:=h e;exact⟨K,h1,b.mono2 m⟩⟩
def Vw(C:IO P)(O:Ord N)(d:∀r:EC.Pt P,On r->mul N r=F)(hP:IsP N)(hN:18446744073709551616<=N)(hw:Wd n t){V:Bs}{b Lb Rb:I->Bs}(hV:(rd P V).isSome=true)(L3 L6 L8:Bs)(y z x wf:B N)(hl:VfL n V (rdR N b) L3 L6 L8 y z x wf)(pR:Rg)(Bd:Hc)(ha:Bd=true↔Vx C d n t V b pR.l.n pR.r.n Lb Rb (aS L8) y z x wf)(w:Zl)(hA:VfA w pR b Lb Rb):
 eZ 13 #[pvl V,iZ n,.agg pR.cs.toArray] w (.bool Bd):=by
 have dw:=hw.2.2;have sV:V.size=33:=by rw[<-sE C hV];exact aR _
 have HT:=mk1 (λ(W:Zl) (hb:kZ w W)=>hA.below hb);obtain⟨vV,k0⟩:=hE (pvl V);obtain⟨k3,ef⟩:=hE (w.heap.size);obtain⟨w1,bv⟩:=hE (lZ w (aA V) 40);obtain⟨k5,df⟩:=hE (w1.heap.size);obtain⟨w2,du⟩:=hE (lZ w1 pR.cs 27);have K2:=mk1 (((Mp.start w).new ef bv).new df du);obtain⟨ve,e4⟩:=hE (ZM pR.cs.toArray);have B1:E ((aj 40 vV).run prog w=.ok (jZ k3) w1):=k0.out▸bv.out▸ef.out▸uP sV w;have B2:E ((aj 27 ve).run prog w1=.ok (jZ k5) w2):=e4.out▸du.out▸df.out▸XB pR;have ei:=mk1 (hw.hv w2);have de:=mk1 (λ(W:Zl) (h:VfA W pR b Lb Rb)=>Iq C O dw (x1:=pR.l.c) (x2:=pR.r.c) W h.l h.r h.x.a32 h.y.a32);have c6:=mk1 (λ(W:Zl) (k:I) (h:PArg W (J (aZ k)) 4 b)=>Dq C (c:=4) dC W h);have d3:=mk1 (λ(W:Zl) (k:I) (h:Args W (J (aZ k)) 3 (λj=>b (4+j)))=>Vd O 3 3 dC _ _ W h);rw[k0.out,e4.out];go_enter func13,ntmps13;refine PW.bg [] ?_;refine PW.ns B1 ?_;refine PW.ns B2 ?_;refine PW.en [fZ] ?_;refine PW.bg [] ?_;refine PW.gi ei λw3 c8=>?_
 have K3:=mk1 (K2.grow c8);clear K2 c8 ei B1 B2;refine PW.en [iZ t,tZ,iZ t,tZ] ?_;refine PW.bg [oZ k5 7] ?_;refine PW.ro (cs:=[pR.l.v,pR.r.v,pR.x.v,pR.y.v]) (rnB (xs:=[pR.a.v,pR.b.v,pR.c.v,pR.d.v,pR.e.v,pR.f.v,pR.g.v]) (K3.at_ 1).2.1 Z) (Hid.mk' Z) Ta Uv ?_;refine PW.go [] ?_;refine PW.ca (de w3 (HT w3 K3.bl)) ?_;rintro e w4 ⟨fs,vs,hc,rfl,kd,d8,kn,ke⟩;have A:=mk1 (K3.gets fs (pqI hc vs t ((rq N (b 7)).getD 0) ((rq N (b 8)).getD 0) Lb Rb) ke);clear de ke;obtain⟨vI,hvI⟩:=hE (ZM vs.toArray);rw[hvI.out];refine PW.go [vI,.bool hc] ?_;obtain⟨k9,cp⟩:=hE (w4.heap.size);obtain⟨w5,c7⟩:=hE (lZ w4 inZ 104);obtain⟨w6,br⟩:=hE (w5.setCells k9 0 vs);have L:=mk1 (A.new cp c7);have K6:=mk1 (L.put 2 br Z kd);refine PW.al cp c7 ?_;refine PW.st br hvI (L.th 2 Z kd) (by rw[kd];kernel_rfl) d8 ?_;refine PW.go [.bool hc] ?_;refine PW.dn ?_;have h4:=HT w6 K6.bl;obtain⟨kb,dy⟩:=hE (w6.heap.size);obtain⟨w7,cq⟩:=hE (w6.alloc (.cells [pR.a.v,pR.b.v,pR.c.v,pR.d.v].toArray 22));have ka:E ((pg 23 4 #[(0,pR.a.v),(1,pR.b.v),(2,pR.c.v),(3,pR.d.v)]).run prog w6=.ok (sZ kb 4 4) w7):=cq.out▸dy.out▸Xx;have F7:=aN dy cq;have dm:=mk1 (c6 w7 kb λ_=>⟨kb,0,Z,F7.2.1,λj T=>by
  rw[Zs];match j,T with
  | 0,_=>exact⟨_,F7.2.2.1 0 _ Z,(h4.a.below F7.1).a33⟩
  | 1,_=>exact⟨_,F7.2.2.1 1 _ Z,(h4.s.below F7.1).a33⟩
  | 2,_=>exact⟨_,F7.2.2.1 2 _ Z,(h4.c.below F7.1).a33⟩
  | 3,_=>exact⟨_,F7.2.2.1 3 _ Z,(h4.d.below F7.1).a33⟩⟩)
 refine PW.bg [jZ k5] ?_;refine PW.ce ((K6.at_ 1).2.1 0 _ Z) uBy ?_;refine PW.go [oZ k5 1] ?_;refine PW.ce ((K6.at_ 1).2.1 1 _ Z) uBy ?_;refine PW.go [oZ k5 2] ?_;refine PW.ce ((K6.at_ 1).2.1 2 _ Z) uBy ?_;refine PW.go [oZ k5 3] ?_;refine PW.ce ((K6.at_ 1).2.1 3 _ Z) uBy ?_;refine PW.ns ka ?_;refine PW.ca dm ?_;rintro e w8 ⟨dz,sP,hk,rfl,bc,hr⟩;have K8:=mk1 ((K6.grow F7.1).gets dz (pqV hk sP 4 b) hr);clear dm ka F7 h4 K6 dz hr;refine PW.en [sP,.bool hk,sP,.bool hk] ?_;have h4:=HT w8 K8.bl;obtain⟨kc,e5⟩:=hE (w8.heap.size);obtain⟨w9,bt⟩:=hE (w8.alloc (.cells [pR.e.v,pR.f.v,pR.g.v].toArray 22));have ka:E ((pg 23 3 #[(0,pR.e.v),(1,pR.f.v),(2,pR.g.v)]).run prog w8=.ok (sZ kc 3 3) w9):=bt.out▸e5.out▸Xy;have F9:=aN e5 bt;have dq:=mk1 (d3 w9 kc λ_=>⟨kc,Z,F9.2.1,λj T=>by
  match j,T with
  | 0,_=>exact⟨_,F9.2.2.1 0 _ Z,(h4.u.below F9.1).a32⟩
  | 1,_=>exact⟨_,F9.2.2.1 1 _ Z,(h4.m.below F9.1).a32⟩
  | 2,_=>exact⟨_,F9.2.2.1 2 _ Z,(h4.t.below F9.1).a32⟩⟩)
 refine PW.bg [oZ k5 4] ?_;refine PW.ce ((K8.at_ 1).2.1 4 _ Z) uBy ?_;refine PW.go [oZ k5 5] ?_;refine PW.ce ((K8.at_ 1).2.1 5 _ Z) uBy ?_;refine PW.go [oZ k5 6] ?_;refine PW.ce ((K8.at_ 1).2.1 6 _ Z) uBy ?_;refine PW.ns ka ?_;refine PW.ca dq ?_;rintro e h9 ⟨kx,sS,okT,rfl,kj,hy⟩;have K9:=mk1 ((K8.grow F9.1).gets kx (Yv okT sS 3 (λj=>(rq N (b (4+j))).getD 0)) hy);refine PW.en [sS,.bool okT,sS,.bool okT] ?_;have hn:=mk3 kn bc kj;clear kx hy dq ka F9 h4 K8 kn bc kj c6 d3 HT;apply Zq;by_cases k6:hc=true/\hk=true/\okT=true
 case neg =>
  have l:Bd=D:=by
   cases Bd with
   | false=>rfl
   | true=>exact(k6 ⟨hn.1.2 (ha.1 Z).1,hn.2.1.2 (ha.1 Z).2.1,hn.2.2.2 (ha.1 Z).2.2.1⟩).elim
  rw[l];have hF:=K9.bl;have f:hc=D\/(hc=true/\hk=D)\/(hc=true/\hk=true/\okT=D):=by
   revert k6;cases hc<;>cases hk<;>cases okT<;>simp
  rcases f with rfl|⟨rfl,rfl⟩|⟨rfl,rfl,rfl⟩
  all_goals
   go_wp2_with fail
   go_ret;exact⟨_,Z,hF,Z⟩
 case pos =>
 obtain⟨rfl,rfl,rfl⟩:=k6;have h5:=hn.1.1 Z;have be:=hn.2.1.1 Z;have bn:=hn.2.2.1 Z;have g0:=K9.get 0;have g1:=K9.get 1;have g2:=K9.get 2;obtain⟨kl,kr,rfl,cd,cj⟩:=g0 Z;obtain⟨A,rfl,hr⟩:=g1 Z;obtain⟨L,rfl,hy⟩:=g2 Z;have ea:=(yA h5.2.2.2.2.1).symm;have eb:=(yA h5.2.2.2.2.2).symm;obtain⟨Lp,d9⟩:∃Lp:I->OnP P,Lp=λj=>rdO C (Lb j):=⟨_,Z⟩
 obtain⟨Tp,d6⟩:∃Tp:I->OnP P,Tp=λj=>rdO C (Rb j):=⟨_,Z⟩
 obtain⟨Lw,dl⟩:∃Lw:I->Bs,∀j,Lw j=wP (Lp j):=⟨_,λ_=>rfl⟩
 obtain⟨Tw,dp⟩:∃Tw:I->Bs,∀j,Tw j=wP (Tp j):=⟨_,λ_=>rfl⟩
 unfold Vx at ha;obtain⟨u,hU⟩:∃u,u=(aC C d).ac wf (uPt C):=⟨_,Z⟩
 rw[<-hU]at ha;rw[<-d9,<-d6]at ha;obtain⟨b1,ek⟩:=Jd (vfS C d n (rdO C V) (rdO C (b 2)) (rdO C (b 3)) (rdN N (b 4)) (rdN N (b 6)) y z x);obtain⟨b2,bj⟩:=Jd ((aC C d).Fq u (rdN N (b 7)) (rdN N (b 8)) ((aC C d).vst (chF N) ivF t Lp Tp (vfV C d n (aS L8) (rdO C (b 0)) (rdO C (b 1)) (rdN N (b 5)) (rdN N (b 6)) y z x wf) t));have l:Bd=(b1 && b2):=by rw[yEr,ZD,ek,bj,ha];exact⟨λh=>⟨h.2.2.2.1,h.2.2.2.2⟩,λh=>⟨h5,be,bn,h.1,h.2⟩⟩
 rw[l];obtain⟨p,X⟩:∃p,p=rdR N b:=⟨_,Z⟩
 have hu:p.u=(rdN N (b 4)).val:=by rw[X];rfl
 have hm:p.m=(rdN N (b 5)).val:=by rw[X];rfl
 have ht:p.t=(rdN N (b 6)).val:=by rw[X];rfl
 have rO:∀j,j<4->b j=wP (rdO C (b j)):=λj T=>by
  obtain⟨q,f⟩:=be j T;exact(sE C (by rw[f];rfl)).symm
 have hA:p.a=wP (rdO C (b 0)):=by rw[X];exact rO 0 dC
 have hS:p.s=wP (rdO C (b 1)):=by rw[X];exact rO 1 dC
 have h1:p.c=wP (rdO C (b 2)):=by rw[X];exact rO 2 dC
 have h2:p.d=wP (rdO C (b 3)):=by rw[X];exact rO 3 dC
 have ok:p.Ok:=⟨by rw[hA];exact aR _,by rw[hS];exact aR _,by rw[h1];exact aR _,by rw[h2];exact aR _⟩
 have hr:PtL _ h9 A 4 (four p.a p.s p.c p.d):=hr.cong λj T=>by
  rw[X];match j,T with
  | 0,_=>rfl
  | 1,_=>rfl
  | 2,_=>rfl
  | 3,_=>rfl
 have hy:SLq _ h9 (sZ L 3 3) 3 (LJ p.u p.m p.t):=hy.congr λj T=>by
  rw[<-yA (bn j T),X];match j,T with
  | 0,_=>rfl
  | 1,_=>rfl
  | 2,_=>rfl
 obtain⟨l3,ey,ez,l6,ex,l8,ew⟩:=hl;rw[<-X]at l3 l6 l8;have b5:=cd.cong (B':=Lw) λj T=>by
  obtain⟨q,f⟩:=h5.2.2.1 j T;rw[dl,d9];exact(sE C (by rw[f];rfl)).symm
 have kk:=cj.cong (B':=Tw) λj T=>by
  obtain⟨q,f⟩:=h5.2.2.2.1 j T;rw[dp,d6];exact(sE C (by rw[f];rfl)).symm
 have h6:=mk1 (((((⟨K9.bl,K9.rw,K9.nd,λ_ h=>(ZJ h).elim⟩:Mp w h9 _ []).has (pqP kl t Lw) b5).has (pqP kr t Tw) kk).has (pqP A 4 (four p.a p.s p.c p.d)) hr).has (pqS (sZ L 3 3) 3 (LJ p.u p.m p.t)) hy);rw[ea,eb]at h6 hvI;obtain⟨v0,k1⟩:∃v0,v0=vfV C d n (aS L8) (rdO C (b 0)) (rdO C (b 1)) (rdN N (b 5)) (rdN N (b 6)) y z x wf:=⟨_,Z⟩
 have c0:v0.s=aS L8:=by rw[k1];exact Vq
 have fb:v0.g=gPt C ⟨#[108,101,102,116]⟩:=by rw[k1];exact Vu
 have em:v0.h=λi=>(aC C d).ac (pwF (ivF y) i) (gPt C ⟨#[114,105,103,104,116]⟩ i):=by rw[k1];exact Vt
 have fa:v0.p=(aC C d).ad ((aC C d).ad ((aC C d).ad ((aC C d).ad (rdO C (b 0)) ((aC C d).ac x (rdO C (b 1)))) ((aC C d).ac (-1) ((aC C d).ac (rdN N (b 5)) (gPG C)))) ((aC C d).ad ((aC C d).dt (λ_=>-z) v0.g n) ((aC C d).dt (rgS y z) v0.h n))) ((aC C d).ac (rdN N (b 6)) u):=by rw[k1,hU];exact Vv
 rw[<-k1]at bj;clear ha l k1 K9 hn cd cj b5 kk hr hy ea eb be bn h5 rO;go_wp2_with fail
 rename_i Q' K hKK
 refine hG (pvl p.a) λva ci=>?_
 refine hG (pvl p.s) λvs ke=>?_
 refine hG (pvl p.c) λvc cz=>?_
 refine hG (pvl p.d) λvd e9=>?_
 refine hG (nv p.u) λvu d5=>?_
 refine hG (nv p.m) λvm c3=>?_
 refine hG (nv p.t) λvt eh=>?_
 refine hG (ZM p.l.toArray) λvp M=>?_
 refine hG h9.heap.size λb0 hb=>?_
 have bi:∀ {W},kZ h9 W->b0<=W.heap.size:=λh=>hb.out ▸ h.size
 refine(gwL [pE (sZ A 4 4),pE (oZ A (0+33*0)),pE va,pE (sZ A 4 4),pE (oZ A (0+33*1)),pE vs,pE (sZ A 4 4),pE (oZ A (0+33*2)),pE vc,pE (sZ A 4 4),pE (oZ A (0+33*3)),pE vd,pE (sZ L 3 3),pE (oZ L (0+4*0)),pE vu,pE (sZ L 3 3),pE (oZ L (0+4*1)),pE vm,pE (sZ L 3 3),pE (oZ L (0+4*2)),pE vt,pE vp,RG.pN b0 rp0.l] (λW=>kZ h9 W) (λW W' hb h=>h.trans (hb.mono h.size))).tail2 23 kR kR kR ⟨
  RG.gO 11 (sZ A 4 4),
  CY 0 67 (sZ A 4 4) (atP dC) (λx W h=>h) (λ_=>rfl),
  gLr (cs:=aA p.a) 1 68 (λW l=>IE ((h6.grow l).get 2) dC) uCP (by rw[aB ok.a];exact iCP) (hR:=λ_=>ci),
  RG.gO 11 (sZ A 4 4),
  CY 3 70 (sZ A 4 4) (atP dC) (λx W h=>h) (λ_=>rfl),
  gLr (cs:=aA p.s) 4 71 (λW l=>IE ((h6.grow l).get 2) dC) uCP (by rw[aB ok.s];exact iCP) (hR:=λ_=>ke),
  RG.gO 11 (sZ A 4 4),
  CY 6 73 (sZ A 4 4) (atP dC) (λx W h=>h) (λ_=>rfl),
  gLr (cs:=aA p.c) 7 74 (λW l=>IE ((h6.grow l).get 2) dC) uCP (by rw[aB ok.c];exact iCP) (hR:=λ_=>cz),
  RG.gO 11 (sZ A 4 4),
  CY 9 76 (sZ A 4 4) (atP dC) (λx W h=>h) (λ_=>rfl),
  gLr (cs:=aA p.d) 10 77 (λW l=>IE ((h6.grow l).get 2) dC) uCP (by rw[aB ok.d];exact iCP) (hR:=λ_=>e9),
  RG.gO 13 (sZ L 3 3),
  CY 12 79 (sZ L 3 3) (mM dC) (λx W h=>h) (λ_=>rfl),
  gLr (cs:=wn p.u) 13 80 (λW l=>LY ((h6.grow l).get 3) dC) u40 In (hR:=λ_=>d5),
  RG.gO 13 (sZ L 3 3),
  CY 15 82 (sZ L 3 3) (mM dC) (λx W h=>h) (λ_=>rfl),
  gLr (cs:=wn p.m) 16 83 (λW l=>LY ((h6.grow l).get 3) dC) u40 In (hR:=λ_=>c3),
  RG.gO 13 (sZ L 3 3),
  CY 18 85 (sZ L 3 3) (mM dC) (λx W h=>h) (λ_=>rfl),
  gLr (cs:=wn p.t) 19 86 (λW l=>LY ((h6.grow l).get 3) dC) u40 In (hR:=λ_=>eh),
  UD [(69,va),(72,vs),(75,vc),(78,vd),(81,vu),(84,vm),(87,vt)] vp (λa W X=>⟨X.n 2 69 kR kR,X.n 5 72 kR kR,X.n 8 75 kR kR,X.n 11 78 kR kR,X.n 14 81 kR kR,X.n 17 84 kR kR,X.n 20 87 kR kR,Fs⟩) (λ_=>rfl) (λW=>by rw[<-ci.out,<-ke.out,<-cz.out,<-e9.out,<-d5.out,<-c3.out,<-eh.out,<-M.out];unfold pvl Rp.l;rw[dV ok.a,dV ok.s,dV ok.c,dV ok.d];kernel_rfl),
  Au rp0.l 113 (λW W' h l=>⟨_,Z,bi l,h⟩),Fs⟩ ⟨Z,Z,Z,Zo _,λ_ _=>rfl⟩ ?_
 intro Y7 fj hR l;have f4:=hR 21 dC;obtain⟨cf,ep,fy,f0⟩:=hR 22 dC;have dd:=mk1 (h6.add l f0 (hb.out▸fy));dsimp only[cD,mi,r9,tr];simp only[ah,Zr,Zt,Zu];rw[f4,ep];refine hG (fj.setCells cf 0 p.l) λkf b7=>?_
 have lR:=(Rp.len ok).trans (Rp.len Mn).symm;have bd:=mk1 (dd.put 3 b7 Z lR);have k4:gZ 113 p.l.length:=by rw[Rp.len ok];exact iRd
 refine PW.st b7 M (dd.th 3 Z lR) k4 (Rp.one p) ?_;refine PW.dn ?_;refine hKK _ _ ?_;refine hG (aS (aS L3)) λL5 bh=>?_
 have s5:L5.size=32:=bh.out▸bC;refine hG (nv y.val) λvy he=>?_
 refine hG (nv z.val) λvz hz=>?_
 have ko:n<=64:=by rw[hw.1];exact Zw (qp dC hw.2.2) dC
 have eg:E (dZ 55 #[vp,vV,iZ n] kf λe w'=>∃r,e=.tuple #[lgV r,vy,vz]/\kf.heap.size<=r/\hZ w' r 0 L5):=by
  have h:=SD O p ok V sV n S kf;rw[<-l3,mQ O hP ey,mQ O hP ez,bh.out,M.out,k0.out,he.out,hz.out]at h;exact h
 have iV:gZ 40 (aA V).length:=by rw[aB sV];exact iCP
 refine PW.bg [] ?_;refine PW.ro (bd.at_ 3).2.1 M uRd k4 ?_;refine PW.ro (bd.at_ 0).2.1 k0 uCP iV ?_;refine PW.go [] ?_;refine PW.ca eg ?_;rintro e d2 ⟨ej,r,rfl,lr,Hr⟩;have fu:=mk1 (bd.add ej (mW Hr (Holds.lt Hr (by rw[s5];decide))) lr);refine PW.go [lgV r,vy,vz] ?_;refine hG d2.heap.size λdk b9=>?_
 refine hG (d2.alloc (.cells [.pointer F].toArray 118)) λed ba=>?_
 refine hG ed.heap.size λd4 ky=>?_
 refine hG (lZ ed (RG.z 4) 93) λda km=>?_
 refine hG da.heap.size λes kp=>?_
 refine hG (lZ da (RG.z 4) 93) λg3 b4=>?_
 refine hG (g3.setCells dk 0 [jZ r]) λf8 kv=>?_
 refine hG (f8.setCells d4 0 (wn y.val)) λg5 b6=>?_
 refine hG (g5.setCells es 0 (wn z.val)) λbk kw=>?_
 have dh:=mk1 (((fu.new b9 ba).new ky km).new kp b4);have cy:=mk1 (dh.put 5 kv);have d0:=mk1 (cy.put 6 b6);have kh:=mk1 (d0.put 7 kw);refine PW.al b9 ba ?_;refine PW.al ky km ?_;refine PW.al kp b4 ?_;refine PW.st kv (Hid.mk' Z) (dh.th 5) iLg kR ?_;refine PW.st b6 he (cy.th 6) In aK ?_;refine PW.st kw hz (d0.th 7) In aK ?_;refine PW.dn ?_;refine hG (aS L6) λL7 bq=>?_
 have s7:L7.size=32:=bq.out▸bC;refine hG (nv x.val) λvx k2=>?_
 have d7:E (cZ 56 #[vp,lgV r] bk (Ret λe w'=>SP.Only r 0 32 bk w'/\hZ w' r 0 L7/\e=vx)):=by
  have h:=RQ O p ok r L5 bk (kh.log 4) s5;rw[show mdL L5 p.c p.d=L6 from bh.out▸l6.symm,mQ O hP ex,bq.out,M.out,k2.out]at h;exact h
 refine PW.bg [] ?_;refine PW.ro (kh.at_ 3).2.1 M uRd k4 ?_;refine PW.ro (cs:=[jZ r]) (kh.at_ 5).2.1 (Hid.mk' Z) uLg iLg ?_;refine PW.ca d7 ?_;rintro e cu ⟨cg,co,ct⟩;obtain rfl:=ct.symm;have f6:=mk1 (kh.say 4 cg co);refine hG cu.heap.size λg4 kt=>?_
 refine hG (lZ cu (RG.z 4) 93) λer ku=>?_
 refine hG (er.setCells g4 0 (wn x.val)) λh8 b8=>?_
 have e0:=mk1 (f6.new kt ku);have h0:=mk1 (e0.put 8 b8);refine PW.al kt ku ?_;refine PW.st b8 k2 (e0.th 8) In aK ?_;refine PW.dn ?_;refine hG (aS L8) λL9 kg=>?_
 have s9:L9.size=32:=kg.out▸bC;refine hG (nv wf.val) λvw bz=>?_
 have bp:0<n:=by rw[hw.1];exact rj dC
 obtain⟨Q2,hQ⟩:=h0.q;have nr:=h0.ne hQ 4;have ki:=(h0.at_ 4).1;have s:E (∀ {k:I}{c:List Zm}{W:Zl},FJ h8 k c->k≠r->SP.Only r 0 32 h8 W->FJ W k c):=λh1 h2 h3=>eR h1 h3.size (h3.block _ h1.1 h2)
 have nk:E ((d4≠r/\cf≠r)/\dk≠r):=by
  have h:=h0.nd;simp only[List.map_cons,List.map_nil,List.nodup_cons,List.mem_cons,ZJ,or_false,not_or]at h;exact⟨⟨λe=>h.2.2.2.2.1.2.1 e.symm,h.2.2.2.1.1⟩,λe=>h.2.2.2.2.1.1 e.symm⟩
 have fh:=pY C hP.1 n;have fq:E (∀W,hZ W r 0 L7->cZ 59 #[vp,lgV r] W (Ret λe w'=>SP.Only r 0 32 W w'/\hZ w' r 0 L9/\e=vw)):=λW hH=>by
  have h:=Sq O p ok (by rw[hu];exact yFN _) (by rw[hm];exact yFN _) (by rw[ht];exact yFN _) r L7 W hH s7;rw[show enL L7 p.u p.m p.t=L8 from bq.out▸l8.symm,mQ O hP ew,kg.out,M.out,bz.out]at h;exact h
 have fl:E (∀W v,(∀g,W.heap.size<=g->Q2 g)->GRq Q2 W v n (gGT P) (hGT P) (uGT P)->dZ 58 #[v,vy,vw] W λe w'=>GRq Q2 w' e n (gGT P) (rQ N y.val (hGT P)) ((uGT P).map (tmT N wf.val))):=λW v h1 h2=>by
  rw[<-he.out,<-bz.out];exact LH O n bp ko (gGT P) (hGT P) (uGT P) (λi f=>⟨(fh.tl i f).ok,by show 1<=512;decide⟩) (oC C hP.1).ok (by show 1<=512;decide) y.val wf.val y.isLt wf.isLt v W h1 h2
 refine hG h8.heap.size λb0 hb=>?_
 have bi:∀ {W},SP.Only r 0 32 h8 W->b0<=W.heap.size:=λh=>hb.out ▸ h.size
 have Gk:E (∀ {W W':Zl}{v:Zm}{G H U},SP.Only r 0 32 W W'->GRq Q2 W v n G H U->GRq Q2 W' v n G H U):=λhO h=>h.keep ⟨hO.size,λg hg hl=>hO.block g hl (nr g hg)⟩
 have rb:r<b0:=hb.out▸ki;have kz:E (∀ {W:Zl},SP.Only r 0 32 h8 W->∀g,W.heap.size<=g->Q2 g):=λh g hg=>h0.nkq hQ g (Zw h.size hg)
 apply Zq;refine(gwL [pE (iZ n),RG.pR Q2 n (gGT P) (hGT P) (uGT P),pE vy,pE vp,pE (lgV r),pLw vw r L9,RG.pR Q2 n (gGT P) (rQ N y.val (hGT P)) ((uGT P).map (tmT N wf.val)),pX b0 Z3] (λW=>SP.Only r 0 32 h8 W) (λ_ _ hb h=>h.trans (SP.Only.of_below hb Z (Zn ki h.size)))).tailL 5 (λW W'=>SP.Only r 0 32 W W') (λW=>r<W.heap.size/\hZ W r 0 L7) 8 (λj v W W' T hO h=>by
  match j,T with
  | 0,_=>exact h
  | 1,_=>exact Gk hO h
  | 2,_=>exact h
  | 3,_=>exact h
  | 4,_=>exact h
  | 5,T=>exact(T Z).elim
  | 6,_=>exact Gk hO h
  | 7,_=>exact Qf hO rb h
  | j+8,_=>exact h) (λW W' hO h=>SP.Only.trans h hO) (λW W' hb h=>⟨Zn h.1 hb.size,Holds.below h.2 hb h.1⟩) kR kR kR ⟨
  GI (RG.gO 1 (iZ n)),
  GI (xH 0 100 57 (λx=>#[x]) (λx W e1 l=>by
   obtain rfl:x=iZ n:=e1;apply(Av (P:=P) C n S W).mono;rintro e W' ⟨f,rfl,h1,h2⟩;exact⟨_,Z,h1,h2.mono (kz l)⟩)),
  GI (gLo (cs:=wn y.val) 17 (λW l=>(s (h0.at_ 6) nk.1.1 l).2.1) u40 In (hR:=λ_=>he)),
  GI (gLo (cs:=p.l) 15 (λW l=>(s (h0.at_ 3) nk.1.2 l).2.1) uRd k4 (hR:=λ_=>M)),
  GI (gLo (cs:=[jZ r]) 16 (λW l=>(s (h0.at_ 5) nk.2 l).2.1) uLg iLg),
  YG (λa W X l=>⟨[(103,vp),(104,lgV r)],59,#[vp,lgV r],⟨X.n 3 103 kR kR,X.n 4 104 kR kR,Fs⟩,kR,by
   apply(fq W l.2).mono;rintro e W' ⟨f,rfl,h1,h2,h3⟩;exact⟨_,Z,h1,h3,Zn l.1 h1.size,h2⟩⟩),
  GI (I7 1 101 2 102 5 105 58 (λx y z=>#[x,y,z]) (λx u z W e1 e2 e3 l=>by
   obtain rfl:u=vy:=e2;obtain rfl:z=vw:=e3.1;exact fl W x (kz l) e1)),
  GI (WL b0 Z3 126 (λW l=>bi l) (λv W h=>h)),Fs⟩ (SP.Only.of_below (⟨Z,Z,Z,Zo _,λ_ _=>rfl⟩:kZ h8 h8.drew) Z ki) ⟨ki,h0.log 4⟩ ?_
 intro Y eu hR l;have g6:=hR 6 dC;have f7:=(hR 5 dC).2.2;obtain⟨eo,e7,fe,ft,f5⟩:=hR 7 dC;obtain⟨et,fz⟩:=h0.sayAdd 4 l f7 ft (hb.out▸fe);have gl:∀j,j<n->0<(gGT P j).length:=λj T=>by rw[(yF C hP.1 n).len j T];decide
 have hl:∀j,j<n->0<(rQ N y.val (hGT P) j).length:=λj T=>by rw[(NK C d hP).len j T];decide
 have bm:=(g6.offX bp gl hl (by rw[ZI];show 0<1;decide) (λi x hx=>SZ (f5 i x hx))).mono λg hg=>fz g (hQ.out▸hg.1) hg.2
 obtain⟨q1,q2,q3,e6,fm,fx,ff⟩:=bm.ex;obtain⟨ga,oa,ca,e1⟩:∃g o c,q1=qZ g o n c:=by obtain⟨g,o,c,h,-⟩:=fm;exact⟨g,o,c,h⟩
 obtain⟨gb,ob,cb,e2⟩:∃g o c,q2=qZ g o n c:=by obtain⟨g,o,c,h,-⟩:=fx;exact⟨g,o,c,h⟩
 obtain⟨gc,mc,cc,e3⟩:∃g m c,q3=sZ g m c:=by obtain⟨g,c,h,-⟩:=ff;exact⟨g,_,c,h⟩
 subst e1 e2 e3;rw[e6]at bm;have cx:=mk1 (et.has (pqG _ n (gGT P) (rQ N y.val (hGT P)) ((uGT P).map (tmT N wf.val))) bm);dsimp only[cD,mi,r9,tr];simp only[ah,Zr,Zt,Zu];rw[e6,e7];refine hG (eu.setCells eo 0 [qZ ga oa n ca,qZ gb ob n cb,sZ gc mc cc]) λk8 b3=>?_
 have f:=mk1 (cx.put 9 b3);refine PW.st b3 (Hid.mk' Z) (cx.th 9) iGr kR ?_;refine PW.dn ?_;have fk:E (∀W,eZ 60 #[vp,vV,iZ n,vx,vy,vz] W (.bool b1)):=λW=>by
  rw[<-M.out,<-k0.out,<-k2.out,<-he.out,<-hz.out];apply(Pm C O d hP hN hw p ok V _ _ _ (sE C hV).symm h1 h2 _ _ x y z hu ht W _ _ Z Z).mono;rintro e w' ⟨v,rfl,hb,rfl⟩;exact⟨_,Z,hb,congrArg Value.bool (by rw[yEr,decide_eq_true_iff,ek];exact⟨S4 C,congrArg wP⟩)⟩
 have G1:Gd N n 1 (gGT P) v0.g:=by rw[fb];exact yF C hP.1 n
 have G2:Gd N n 1 (rQ N y.val (hGT P)) v0.h:=by rw[em];exact NK C d hP
 have G3:Tl N ((uGT P).map (tmT N wf.val)) u:=by rw[hU];exact(oC C hP.1).tm C d wf
 have G4:((uGT P).map (tmT N wf.val)).length=1:=by rw[ZI];rfl
 obtain⟨lh,ec,f9,e8⟩:=WG C O d hP hN bp ko p ok (rdO C (b 0)) (rdO C (b 1)) hA hS (rdN N (b 5)) (rdN N (b 6)) x y z hm ht (gGT P) (rQ N y.val (hGT P)) ((uGT P).map (tmT N wf.val)) v0.g v0.h u G1 G2 G3 G4;rw[<-fa]at ec;rw[M.out,k2.out,he.out,hz.out]at e8;refine hG (ZM #[qZ ga oa n ca,qZ gb ob n cb,sZ gc mc cc]) λvg bo=>?_
 rw[bo.out]at f;have c4:=(f.at_ 4).1;apply Zq;have s:E (∀ {k:I}{c:List Zm}{W:Zl},FJ k8 k c->k≠r->SP.Only r 0 32 k8 W->FJ W k c):=λh1 h2 h3=>eR h1 h3.size (h3.block _ h1.1 h2)
 have d1:=(row_ne f.nd 3 4 dC Z Z)
 have n3:=(row_ne f.nd 0 4 dC Z Z)
 have n9:=(row_ne f.nd 2 4 dC Z Z)
 have fd:=(row_ne f.nd 5 4 dC Z Z)
 have c9:=(row_ne f.nd 6 4 dC Z Z)
 have bu:=(row_ne f.nd 7 4 dC Z Z)
 have cn:=(row_ne f.nd 8 4 dC Z Z)
 have c5:=(row_ne f.nd 9 4 dC Z Z)
 refine AW.beg 20 20 (SP.Only.of_below (⟨Z,Z,Z,Zo _,λ_ _=>rfl⟩:kZ k8 k8.drew) Z c4) ?_;refine AW.ro 0 (cs:=p.l) (λW h=>(s (f.at_ 3) d1 h).2.1) M uRd k4 ?_;refine AW.ro 1 (λW h=>(s (f.at_ 0) n3 h).2.1) k0 uCP iV ?_;refine AW.mv 2 ?_;refine AW.ro 3 (λW h=>(s (f.at_ 8) cn h).2.1) k2 u40 In ?_;refine AW.ro 4 (λW h=>(s (f.at_ 6) c9 h).2.1) he u40 In ?_;refine AW.ro 5 (λW h=>(s (f.at_ 7) bu h).2.1) hz u40 In ?_;refine AW.gi 6 (λ_=>fk _) λfg dx=>?_
 have k7:=mk1 (f.drew.grow dx);refine AW.mv 7 ?_;cases b1 with
 | false =>
  refine AG.no 8 ?_;refine AG.no 9 ?_;refine AG.no 10 ?_;refine AG.no 11 ?_;refine AG.no 12 ?_;refine AG.no 13 ?_;refine AG.no 14 ?_;refine AG.no 15 ?_;refine AG.no 16 ?_;refine AG.no 17 ?_;refine AG.no 18 ?_;refine AW.nx 19 fZ ?_;refine AW.nx 20 fZ ?_;refine AW.dn λ_=>?_
  have hF:=k7.bl;go_wp2;go_ret;exact⟨_,Z,hF,Z⟩
 | true =>
 refine AG.ro 8 (cs:=inL kl kr t (rdN N (b 7)).val (rdN N (b 8)).val) (λW h=>(s (f.at_ 2) n9 h).2.1) hvI uIl (iIl _ _ _ _ _) ?_;refine AG.ro 9 (cs:=[jZ r]) (λW h=>(s (f.at_ 5) fd h).2.1) (Hid.mk' Z) uLg iLg ?_;refine AG.ro 10 (cs:=[qZ ga oa n ca,qZ gb ob n cb,sZ gc mc cc]) (λW h=>(s (f.at_ 9) c5 h).2.1) bo uGr iGr ?_;refine AG.ro 11 (cs:=p.l) (λW h=>(s (f.at_ 3) d1 h).2.1) M uRd k4 ?_;refine AG.ro 12 (cs:=[qZ ga oa n ca,qZ gb ob n cb,sZ gc mc cc]) (λW h=>(s (f.at_ 9) c5 h).2.1) bo uGr iGr ?_;refine AG.mv 13 ?_;refine AG.ro 14 (λW h=>(s (f.at_ 8) cn h).2.1) k2 u40 In ?_;refine AG.ro 15 (λW h=>(s (f.at_ 6) c9 h).2.1) he u40 In ?_;refine AG.ro 16 (λW h=>(s (f.at_ 7) bu h).2.1) hz u40 In ?_;refine AG.cw 17 (λ_=>e8 _ vg fg (k7.get 4)) (λe w' hJ h=>SP.Only.trans hJ (SP.Only.of_below h.1 Z (k7.at_ 4).1)) ?_;rintro sv bf ⟨ds,fn⟩;have h7:=mk1 (k7.grow ds);have fp:E (cZ 61 #[vI,lgV r,vg,sv] bf (Ret λe w'=>SP.Only r 0 32 bf w'/\e=.bool b2)):=by
  obtain⟨Q,hQ⟩:=h7.q;have nr:=h7.ne hQ 4;have g8:=(k7.at_ 4).1;rw[<-hvI.out];exact PN C O d hP t dw Lp Tp v0 u (gGT P) (rQ N y.val (hGT P)) ((uGT P).map (tmT N wf.val)) lh (by rw[<-hw.1];exact G1) (by rw[<-hw.1];exact G2) G3 (by rw[G4];decide) (by rw[G4];decide) ec f9 Lw Tw dl dp r kl kr (rdN N (b 7)) (rdN N (b 8)) vg sv bf (by rw[c0,kg.out];exact h7.log 4) (by rw[c0,kg.out];exact s9) (PtL.mono2 (h7.xQ hQ 0) λg _ hg=>nr g hg) (PtL.mono2 (h7.xQ hQ 1) λg _ hg=>nr g hg) (by rw[<-hw.1];exact GRq.mono (h7.xQ hQ 4) nr) (fn.q.mono λg hg=>S) b2 bj
 refine AG.cw 18 (λ_=>fp) (λe w' hJ h=>SP.Only.trans hJ h.1) ?_;rintro e g7 ⟨db,rfl⟩;refine AW.nx 19 (.bool b2) ?_;refine AW.nx 20 (.bool b2) ?_;refine AW.dn λ_=>?_
 have hF:=h7.bl.trans (pG db h7.bl.size (h7.rw (r,aA L9) (oE (i:=4) Z)).1);go_wp2;go_ret;exact⟨_,Z,hF,Z⟩
def Uj(C:IO P)(k:∀r:EC.Pt P,On r->mul N r=F)(X:OnP P):neg X.1=((aC C k).ac (-1) X).1:=by
 have h:(aC C k).ad X ⟨neg X.1,dQ X.2⟩=(aC C k).zo:=by rw[(aC C k).comm];exact At (C.cur.neg_l X.2)
 exact congrArg Subtype.val (((aC C k).cancel X _ _).1 (h.trans ((aC C k).yC X).symm))
def Vr(C:IO P)(k:∀r:EC.Pt P,On r->mul N r=F)(b:IsP N)(n:I)(L:Bs)(A S:OnP P)(mu tt y z x w:B N)(c:y.val≠0):(vfV C k n L A S mu tt y z x w).p=(aC C k).ad ((aC C k).ad ((aC C k).ad ((aC C k).ad A ((aC C k).ac x S)) ((aC C k).ac (-1) ((aC C k).ac mu (gPG C)))) ((aC C k).ad ((aC C k).dt (λ_=>-z) (gPt C ⟨#[108,101,102,116]⟩) n) ((aC C k).dt (λi=>z+z*z*(pwF (ofF N 2) i*pwF (ivF y) i)) (gPt C rgL) n))) ((aC C k).ac (tt*w) (uPt C)):=by
 have h:=(aC C k).DX (pwF y) (pwF (ivF y)) (pwF (ofF N 2)) z (gPt C rgL) n λi _=>CM (sJ b c) i
 unfold vfV;dsimp only;rw[<-(aC C k).acAc tt w,<-h];rfl
def Yt(C:Fl3 P):∃t:T3 P,FL 30 #[] (tv t)/\IN t (hPV C.toFld).1:=by
 have e:(hPV C.toFld).1=.some (hpt P cV []):=rfl;have o:=(hPV C.toFld).2;rw[e]at o⊢;let⟨q,k⟩:∃q,hpt P cV []=q:=⟨_,Z⟩
 rw[k]at o⊢;exact⟨(q.1,q.2,1),TL C k,kX C.toFld,o⟩
def Yr(C:Fl3 P):∃t:T3 P,FL 37 #[] (tv t)/\IN t (uPt C.toFld).1:=by
 have e:(uPt C.toFld).1=.some (hpt P ⟨#[105,110,110,101,114]⟩ []):=rfl;have o:=(uPt C.toFld).2;have h:=EH C;unfold inT at h;rw[e]at o⊢;let⟨q,k⟩:∃q,hpt P ⟨#[105,110,110,101,114]⟩ []=q:=⟨_,Z⟩
 rw[k]at o h⊢;exact⟨(q.1,q.2,1),h,kX C.toFld,o⟩
omit [NeZero P] [NeZero N] in
theorem Q6[Decidable p]{b:Hc}(h:b=H↔p):decide p=b:=by rw[yEr,decide_eq_true_iff];exact h.symm
def VT(C:Fl3 P)(O:Ord N)(k:∀r:EC.Pt P,On r->mul N r=F)(n:I)(y z x tau tt d:Fin N)(hd:d=rgD n y z){l c j:T3 P}{V A B:OnP P}(a:IN l V.1)(w:IN c A.1)(u:IN j B.1)(b1:Hc)(s:b1=H↔vfS C.toFld k n V A B tau tt y z x):
 ∃p th a2 e m i o b tm:T3 P,(FL 29 #[nv (z*z).val,tv l] (tv p)/\FL 30 #[] (tv th)/\FL 29 #[nv d.val,tv th] (tv a2)/\FL 28 #[tv p,tv a2] (tv e))/\(FL 29 #[nv x.val,tv c] (tv m)/\FL 29 #[nv (x*x).val,tv j] (tv i)/\FL 28 #[tv m,tv i] (tv o)/\FL 28 #[tv e,tv o] (tv b))/\FL 32 #[nv tt.val,nv tau.val] (tv tm)/\FL 31 #[tv tm,tv b] (.bool b1):=by
 have p:=iO C k O.le (z*z) a;let⟨th,K,t⟩:=Yt C
 have o:=iO C k O.le d t;have e3:=kD C k p.2 o.2;have q:=iO C k O.le x w;have e:=iO C k O.le (x*x) u;have m:=kD C k q.2 e.2;have i:=kD C k e3.2 m.2;let⟨tm,f,g⟩:=BN C tt.val tau.val (Zn tt.isLt O.le) (Zn tau.isLt O.le)
 have v:=CE C f i.2;refine⟨_,_,_,_,_,_,_,_,tm,⟨p.1,K,o.1,e3.1⟩,⟨q.1,e.1,m.1,i.1⟩,g,?_⟩;have b:=s;unfold vfS at b;rw[(aC C.toFld k).Bw,<-hd]at b;rw[<-Q6 (b.trans (show _↔cmt P tt.val tau.val=_ by rw[show cmt P tt.val tau.val=((aC C.toFld k).cm (hPV C.toFld) (gPG C.toFld) tt tau).1 from Jl];exact yFg))];exact v
def VU(C:Fl3 P)(O:Ord N)(k:∀r:EC.Pt P,On r->mul N r=F)(n:I)(c:n<=64)(mu x s:B N)(l m:I->B N){o t:T3 P}{A S X:OnP P}(y:IN o A.1)(hs:IN t S.1)(v:X=(aC C.toFld k).ad ((aC C.toFld k).ad ((aC C.toFld k).ad ((aC C.toFld k).ad A ((aC C.toFld k).ac x S)) ((aC C.toFld k).ac (-1) ((aC C.toFld k).ac mu (gPG C.toFld)))) ((aC C.toFld k).ad ((aC C.toFld k).dt l (gPt C.toFld ⟨#[108,101,102,116]⟩) n) ((aC C.toFld k).dt m (gPt C.toFld rgL) n))) ((aC C.toFld k).ac s (uPt C.toFld))):
 ∃c1 c2 cb g i f ch u p ti q d:T3 P,(FL 29 #[nv x.val,tv t] (tv c1)/\FL 28 #[tv o,tv c1] (tv c2)/\FL 35 #[nv mu.val] (tv cb)/\FL 34 #[tv cb] (tv g)/\FL 28 #[tv c2,tv g] (tv i))/\((∀W va b,NtQ (λ_=>True) W va n (λj=>(l j).val)->PtQ (λ_=>True) W b n (bsP P ⟨#[108,101,102,116]⟩)->eZ 36 #[va,b] W (tv f))/\(∀W va b,NtQ (λ_=>True) W va n (λj=>(m j).val)->PtQ (λ_=>True) W b n (bsP P rgL)->eZ 36 #[va,b] W (tv ch))/\FL 28 #[tv f,tv ch] (tv u)/\FL 28 #[tv i,tv u] (tv p))/\(FL 37 #[] (tv ti)/\FL 29 #[nv s.val,tv ti] (tv q)/\FL 28 #[tv p,tv q] (tv d))/\IN d X.1:=by
 have q:=iO C k O.le x hs;have p:=kD C k y q.2;have w:=(iO C k O.le mu (X:=gPG C.toFld) (C4 C.toFld)).2;have en:=w.neg;rw[Uj C.toFld k]at en;have e3:=kD C k p.2 en;have u:=kD C k (DW C k O.le l (bsP P ⟨#[108,101,102,116]⟩) (gPt C.toFld ⟨#[108,101,102,116]⟩) n λj _=>Ce C _ j) (DW C k O.le m (bsP P rgL) (gPt C.toFld rgL) n λj _=>Ce C _ j);have f:=kD C k e3.2 u.2;let⟨ti,gi,fi⟩:=Yr C
 have i:=iO C k O.le s fi;have g:=kD C k f.2 i.2;exact⟨_,_,_,_,_,_,_,_,_,_,_,_,⟨q.1,p.1,IA C mu.val (Zn mu.isLt O.le),CH C _ _ _,e3.1⟩,⟨λW va b h1 d=>FV C k O.le n c l _ (gPt C.toFld ⟨#[108,101,102,116]⟩) (λj _=>Ce C _ j) va b W h1 d,λW va b h1 d=>FV C k O.le n c m _ (gPt C.toFld rgL) (λj _=>Ce C _ j) va b W h1 d,u.1,f.1⟩,⟨gi,i.1,g.1⟩,v ▸ g.2⟩
end
def mv0:True:=by
 have:=@V9;have:=@Xm;have:=@Vz;have:=@UK;have:=@Rv.sums;have:=@Rv.point;have:=@VS;have:=@V8;have:=@Vw;have:=@Vy;have:=@Vr;have:=@VT;have:=@VU;have:=@Iq;have:=@UA;have:=@Dq;have:=@Nu;have:=@Re;have:=@EH;have:=@TF;have:=@Mm;have:=@Tv;have:=@PX;have:=@FV;have:=@DW;have:=@Ce;have:=@IA;have:=@CH;have:=@tW;have:=@CE;have:=@iO;have:=@kD;have:=@RH;have:=@V3;have:=@VW;have:=@BN;have:=@CG;have:=@zK;have:=@TL;have:=@RJ;have:=@V5;have:=@KX;have:=@Ny;have:=@PtC.a33;have:=@PtC.a32;have:=@PtC.pt;have:=@PI;have:=@Yy;have:=@TT;trivial
end Go.Proofs.YtndpeoebngkhmaaGreat
