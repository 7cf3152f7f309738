import Derived.OpenShut
import Derived.ShutString
import Derived.Deep.Strs
import Derived.Test.YtlofhpkoaljmeaaGreatat7
set_option linter.unusedVariables false
set_option linter.defProp false
set_option linter.constructorNameAsVariable false
set_option linter.unusedSimpArgs false
set_option maxRecDepth 1000000
set_option maxHeartbeats 4000000
namespace Go.Proofs.YtlofhpkoaljmeaaGreat
open EC NT RG SP
open _root_.And renaming intro->YV
open _root_.Array renaming getD_eq_getD_getElem?->XQ,replicate->XT,size_append->Yl,size_replicate->X0
open _root_.Fin renaming ofNat->ZT
open _root_.Go renaming Addr->Y0,Calls->YN,Program->YJ,TypeId->Yd,Value->XB,World->XA,bodyPost_ret->XN,execOp->Yh,wp_block->YX,wp_cond_false->Yb,wp_cond_true->Yy,wp_exit->yAC,wp_ret->Za,wp_seq->XG,wp_skip->YU
open _root_.Go.Act renaming put->Ym
open _root_.Go.Addr renaming add_mid->yDi
open _root_.Go.Builtin renaming append_->YG,copy_->yAD
open _root_.Go.DataW renaming trod_int->yCC
open _root_.Go.Instr renaming buildSlice->Yw,indexAt->Yv,sliceAt->Zy
open _root_.Go.IntKind renaming i64->Ya,u32->yCS,u64->Yt,u8->yBc,wrap_i64->YD,wrap_u64->ZO
open _root_.Go.Lib renaming size_eq->yEF
open _root_.Go.Region renaming wanted->Zc
open _root_.Go.RowKit.Below renaming mono->yDy,refl->XR,size->yEv,trans->yEo
open _root_.Go.Sem renaming run_bind->X1
open _root_.Go.Value renaming agg->X9,cells->yEn,int->YW
open _root_.Go.World renaming cell?->YZ,cells?_some->yDx,frozen?->Zk,rangeAt_setCells_apart->Yn,rangeAt_setCells_same->YY,size_alloc->XP,there_setCells->Zg
open _root_.Int renaming tmod_eq_emod_of_nonneg->yBp
open _root_.List renaming nil_append->Z1,cons_append->ZX,drop->yAd,getD_eq_getElem?_getD->Z9,getElem?_append_left->XY,getElem?_append_right->XW,getElem?_cons_succ->Yg,getElem?_cons_zero->Yi,getElem?_eq_getElem->XO,getElem?_eq_some_iff->XM,getElem?_map->YB,getElem?_range->yBo,getElem?_toArray->Yj,length_append->XK,length_cons->Yx,length_map->XZ,length_nil->Zz,length_take->Z8,mem_append->Y9,mem_singleton->Zj,setIfInBounds_toArray->XF,set_cons_succ->XJ,set_cons_zero->XL,take->yAb
open _root_.Nat renaming add_assoc->ZB,add_mul->yAs,add_zero->yAl,le_of_ble_eq_true->YL,le_refl->XD,le_trans->XH,lt_of_lt_of_le->XC,min->yAw,mod_eq_of_lt->X6,mod_lt->Y8,mul_assoc->yAo,mul_comm->YK,mul_one->Z5,not_lt_zero->ZP,pow_succ->Zf,reduceAdd->YT,two_mul->yEx,zero_add->XI,zero_le->Zl,zero_lt_one->yD4
open _root_.Option renaming map_eq_some_iff->XE,some->XX
open _root_.Or renaming inl->Ye,inr->X7
open _root_.UInt8 renaming ofNat->XS
open Go.Proofs.Tryz
open Go.RowKit Go.Sort Go.Deep
variable {P:Nat}[NeZero P]{N:Nat}
section
open SPA
def fsB(V:Nat->Bs):Nat->Bs
 | 0=>#[]
 | s+1=>fsB V s++V s
def yR{V:Nat->Bs}{m:Nat}(h:∀s,(V s).size=m):∀s,(fsB V s).size=m*s
 | 0=>rfl
 | s+1=>by
  rw[show fsB V (s+1)=fsB V s++V s from rfl,Yl,yR h s,h,Nat.mul_succ]
def Fh{a b:Nat}(k:a<4294967296)(c:b<4294967296):∀s,amN s a b<4294967296
 | 0=>k
 | _+1=>c
def JO{W W':XA}{k:Nat}{vs:List XB}(h:Row W k vs)(c:W.heap.size<=W'.heap.size)(e:W'.heap[k]? = W.heap[k]?):Row W' k vs:=by
 refine⟨XC h.1 c,λj u b=>?_,λj b=>?_⟩
 .have:=h.2.1 j u b;unfold YZ at this⊢;rw[e];exact this
 .have:=h.2.2 j b;unfold YZ Zk at this⊢;rw[e];exact this
def Xg(x:Int)(w:XA):(Yw 23 1 #[(0,.int .u8 x)]).run prog w=.ok (sZ w.heap.size 1 1) (w.alloc (.cells [YW .u8 x].toArray 5)):=kR
def Vq(f c1 d c c2 k e b:Nat)(w:XA):(Yw 27 3 #[(0,sZ f 1 c1),(1,sZ d c c2),(2,sZ k e b)]).run prog w=.ok (sZ w.heap.size 3 3) (w.alloc (.cells [sZ f 1 c1,sZ d c c2,sZ k e b].toArray 23)):=kR
def Um(b m:Nat)(B:Bs):S1:=⟨λx W=>ElQ (b<=·) m W x B,λ_ _ _ k h=>h.keep (Kq.of_below k)⟩
def PrT.below{T:Bs}{e:XB}{w w':XA}(h:PrT T e w)(b:kZ w w'):PrT T e w':=⟨h.cs,λc W k us vs f g d=>h.put c W k us vs (b.trans (f.mono b.size)) g d⟩
def Uk(T:Bs):S1:=⟨λx W=>∃e',x=.tuple #[e',iZ 0]/\PrT T e' W,λ_ _ _ b ⟨e',k,c⟩=>⟨e',k,c.below b⟩⟩
def WB(T:Bs):S1:=⟨λx W=>PrT T x W,λ_ _ _ k h=>h.below k⟩
def ElQ.part{Q:Nat->Prop}{W:XA}{x:XB}{b:Bs}(h:ElQ Q 32 W x b):∃q c,x=.slice q 32 c/\PartOk W x b.toList:=by
 obtain⟨k,c,rfl,f,d,-,-,e⟩:=h;exact⟨_,_,rfl,some (aZ k),k,0,c,b,by rw[d],rfl,oM,oM,X7 ⟨rfl,e⟩⟩
def Hu(O:Ord N)(k a b i:Nat)(hi:i<4294967296)(ha:a<4294967296)(l:b<4294967296)(F:Bs)(hc:F.size=32)(n:Option Y0)(sc:Nat)(V T:Nat->Bs)(hV:∀s,(V s).size=33)(hT:∀s,(T s).size=623)(hC:∀s,Gives 14 #[nv (amN s a b),nv (blN N F s i)] (pvl (V s)))
 (ku:∀s (n:Option Y0) (sc:Nat) (v1:XB) (w:XA),Arg w v1 (bx (blN N F s i))->PartOk w (.slice n 32 sc) (psB F s i).toList->YN prog 20 #[uZ (amN s a b:Int),v1,iZ 32,.slice n 32 sc] w (rZ w λe w'=>∃e',e=.tuple #[e',iZ 0]/\PrT (T s) e' w'))
 (w:XA) (hs:PartOk w (.slice n 32 sc) F.toList) :
 YN prog 7 #[.slice n 32 sc,.int .u32 i,.agg (opC k a b).toArray] w (rZ w λe w'=>ElQ (w.heap.size<=·) 1313 w' e (#[XS k]++fsB V 2++fsB T 2)):=by
 refine hG w.heap.size λk5 hk=>?_
 refine hG (w.alloc (.cells (opC k a b).toArray 26)) λw1 k7=>?_
 have K1:=mk1 ((Mp.start w).new hk k7);have B:=G5 k a b w;rw[hk.out,k7.out]at B;have HS:=mk1 (λW=>v9 O W);have HA:=mk1 (VG k a b);have HB:=mk1 (λs (W:XA) (l:kZ w W)=>Qh O s i hi F hc n sc W (hs.below l));have HP:=mk1 (λs (W:XA) (l:kZ w W)=>Ug (N:=N) s i hi F hc n sc W (hs.below l));have HO:=mk1 (λs=>rQ (amN s a b) (Nat.lt_trans (Fh ha l s) dC));have I:=mk3 hC ku (YV hV hT);obtain⟨vo,ke⟩:=hE (X9 (opC k a b).toArray);rw[ke.out]at B⊢;go_enter func7,ntmps7;refine PW.bg [] ?_;refine PW.ns B ?_;refine PW.en [.slice none 0 0] ?_;refine PW.rg [.slice none 0 0,.slice none 0 0] ?_;refine XG<|PW.bg [] ?_
 refine PW.ca (HS w1) ?_;rintro e w3 ⟨h0,g,rfl,hg,k0⟩;refine PW.en [iZ 2,iZ 0] ?_;have H:=mk1 (K1.add h0 k0 hg);have W0:Hid (Wt w3 w3 (.slice none 0 0) (.slice none 0 0) (fsB V 0) (fsB T 0)):=⟨XR _ _,⟨rfl,Ye ⟨rfl,rfl⟩⟩,⟨rfl,Ye ⟨rfl,rfl⟩⟩,λg e=>by cases e⟩
 apply YX;go_loopg [7,8,19] 2 (λgk s7 s8 s19 wr=>∃s:Nat,s+gk=2/\s19=iZ s/\Hid (Wt w3 wr s7 s8 (fsB V s) (fsB T s)))
 case atStart=>exact⟨0,oM,rfl,W0⟩
 case round =>
  obtain⟨s,b7,rfl,L⟩:=hrel;by_cases hs:s<2
  .have k9:(s:Int)<2:=oM;have b2:Ya.wrap ((s:Int)+1)=((s+1:Nat):Int):=by rw[YD];omega
   refine hG wr.heap.size λf E=>?_
   refine hG (wr.alloc (.cells z7.toArray 61)) λw4 q=>?_
   refine hG (w4.setCells f 0 (sdC N s)) λK t=>?_
   have M4:=mk1 ((Mp.start wr).new E q);have p:=mk1 (M4.put 0 t);have R0:=FO hs ((H.at_ 1).below L.bl);obtain⟨vs,h7⟩:=hE (X9 (sdC N s).toArray);have h5:=λW l=>HB s W l
   have ka:=I.1 s;have Y:=λn sc v1 W=>I.2.1 s n sc v1 W
   have hl:=BZ O F s i;have Z:(psB F s i).size=32:=AP _ _ _ _;have k2:=λW l=>HP s W l
   generalize blN N F s i=m at h5 ka Y hl;generalize psB F s i=ps at Y k2 Z;have H1:=mk3 h5 ka (YV Y k2);refine PW.bg [.bool (decide ((s:Int)<2))] ?_;rw[decide_eq_true k9];refine PW.dn ?_;refine XG<|Yy rfl<|YU<|XG<|YX<|PW.bg [] ?_
   refine PW.ns (Gy (g:=g) (i:=s) hs (w:=wr)) ?_;refine PW.ro R0 h7 uSd iSd ?_;refine PW.al E q ?_;refine PW.st t h7 (M4.th 0) iSd (Bj (i:=s)) ?_;refine PW.dn ?_;apply XG;have kd:=mk1 (L.grow p.bl);have hz:=mk1 (H.bl.trans (kd.bl.mono H.bl.size));obtain⟨bb,C⟩:=hE (K.heap.size);have G:∀ {W},kZ K W->bb<=W.heap.size:=λh=>C.out ▸ h.size
   refine(gwL [pE (oZ f 2),pE (.func (.func (sdA s)) #[] #[]),pE (.agg (opC k a b).toArray),pE (uZ (amN s a b:Int)),pE (.agg (sdC N s).toArray),pE (.slice n 32 sc),pE (.int .u32 i),pE (nv m),RG.pN bb (RG.z 4)] (λW=>kZ K W) (λW W' l h=>h.trans (l.mono h.size))).tail2 9 kR kR kR ⟨
    gP 10 (jZ f) (oZ f 2),
    fW (T:=59) 0 23 f 2 (.func (.func (sdA s)) #[] #[]) TJ (λx W h=>h) (λW d=>((p.at_ 0).below d).2.1 2 _ rfl) (λ_=>rfl),
    gLo (cs:=opC k a b) 5 (λW d=>(((H.at_ 0).below kd.bl).below d).2.1) uOp iOp,
    gw_cv 1 24 2 25 (f:=(sdA s)) (Qd s) (λx W h=>h) (λy W D d=>by
     obtain rfl:y=.agg (opC k a b).toArray:=D;exact HA s W),
    gLo (cs:=sdC N s) 10 (λW d=>((p.at_ 0).below d).2.1) uSd iSd,
    gP 0 (.slice n 32 sc) (.slice n 32 sc),
    gP 1 (.int .u32 i) (.int .u32 i),
    nD 4 27 5 28 6 29 18 (λx y z=>#[x,y,z]) (λx y z W D U e3 d=>by
     obtain rfl:x=.agg (sdC N s).toArray:=D;obtain rfl:y=.slice n 32 sc:=U;obtain rfl:z=.int .u32 i:=e3;exact H1.1 W (hz.trans (d.mono hz.size))),
    tQ (RG.z 4) 44 (λW W' h d=>⟨_,rfl,G d,h⟩),yEZ⟩ ⟨rfl,rfl,rfl,XD _,λ_ _=>rfl⟩ ?_
   intro Vv w6 hR d;have e0:=hR 3 dC;have D:=hR 7 dC;obtain⟨A,U,kw,hm⟩:=hR 8 dC;dsimp only[bW,YT,yAb,yAd];rw[e0,D,U];have b5:=mk1 hm;refine hG (w6.setCells A 0 (wn m)) λw7 k1=>?_
   have M6:=mk1 (p.add d hm (by rw[C.out];exact kw));have M7:=mk1 (M6.put 1 k1);obtain⟨vb,J⟩:=hE (nv m);rw[J.out];refine PW.go [uZ (amN s a b:Int)] ?_;refine PW.st k1 J (M6.th 1) i40 aI ?_;refine PW.dn ?_;have ks:=mk1 (L.grow M7.bl);obtain⟨va,k6⟩:=hE (nv (amN s a b));obtain⟨vp,he⟩:=hE (pvl (V s));have kt:Hid (∀W,YN prog 15 #[uZ (amN s a b:Int)] W (rZ W λe w'=>e=va)):=by rw[<-k6.out];exact HO s
   have kh:Hid (∀W,YN prog 14 #[va,vb] W (rZ W λe w'=>e=vp)):=by rw[<-k6.out,<-J.out,<-he.out];exact H1.2.1
   have ky:Hid (∀W,YN prog 19 #[vp] W (rZ W λe w'=>ElQ (W.heap.size<=·) 33 w' e (V s)/\∃g,e=r33 g)):=by rw[<-he.out];exact λW=>eG (I.2.2.1 s) (w:=W)
   have Q:∀g,wr.heap.size<=g->u7.ownBlock≠some g:=λg hg e=>oN ((bQ L.oA e).2.1)
   have hn:wr.heap.size<=f:=by rw[E.out];exact XD _
   have kc:=(M7.lt (g:=A) (by simp)).1;refine XG<|AW.beg 6 6 (J:=⟨λW=>Row W f (sdC N s)/\Row W A (wn m),λW W' l h=>⟨h.1.below l,h.2.below l⟩,false⟩) ⟨M7.drew.at_ 0,M7.drew.at_ 1⟩ ?_
   refine AW.mv 0 ?_;refine AW.mv 1 ?_;refine AW.ro 3 (λW h=>h.2.2.1) J rSc nSc ?_;refine AW.gi 2 (λ_=>kt _) λW1 kr=>?_
   refine AW.gi 4 (λ_=>kh _) λW2 kk=>?_
   refine AW.ca 5 (λ_=>ky _) (λe w' h=>h.1) ?_;rintro e W3 ⟨h0,kg,km,rfl⟩;have kf:=(((ks.grow (show kZ w7 w7.drew from⟨rfl,rfl,rfl,XD _,λ_ _=>rfl⟩)).grow kr).grow kk).grow h0;obtain⟨g',c',e',-,-,-,-,hH⟩:=kg;obtain rfl:km=g':=by
    unfold r33 at e';injection e' with e' _ _
    injection e' with e'
    injection e' with e' _ _
   have ht:=I.2.2.1 s;have hf:=yR I.2.2.1 s;obtain⟨v7,W4,r1,b3,hr,k8⟩:=kf.app (c:=33) hH (by rw[hf,ht];omega);rw[ht]at r1;refine AW.nw 6 r1 (λhJ=>⟨JO hJ.1 hr (k8 f hJ.1.1 (Q f hn)),JO hJ.2 hr (k8 A hJ.2.1 (Q A kc))⟩) ?_;refine AW.nx 7 v7 ?_;refine AW.dn λhJ=>?_
   have hw:=mk1 b3;have RJ:=mk1 hJ;have b4:=mk1 (H.bl.trans (hw.bl.mono H.bl.size));obtain⟨bb,C⟩:=hE (W4.heap.size);have G:∀ {W},kZ W4 W->bb<=W.heap.size:=λh=>C.out ▸ h.size
   refine XG (P:=prog) ?_;refine(gwL [pE (uZ (amN s a b:Int)),pE (nv m),Um bb 32 (bx m),pE (.agg (sdC N s).toArray),pE (.slice n 32 sc),pE (.int .u32 i),Um bb 32 ps,Uk (T s),Uk (T s),WB (T s),pE (iZ 0),RG.pN bb z11] (λW=>kZ W4 W) (λW W' l h=>h.trans (l.mono h.size))).late 12 [10] (λj hj=>by
    obtain rfl:=Zj.1 hj;exact late1 13 8 38 λv W ⟨e',u,_⟩=>⟨iZ 0,rfl,λo ho W'=>by
     cases ho
     rw[u];kernel_rfl⟩) (Fj (l:=[11]) ⟨al1 z11 66 xZ,yEZ⟩) kR kR kR ⟨
    gO 11 (uZ (amN s a b:Int)),
    gLo (cs:=wn m) 12 (λW d=>(RJ.2.below d).2.1) rSc nSc,
    oC 1 40 10 (λx=>#[x]) (λx W D d=>by
     obtain rfl:x=nv m:=D;exact(eE O hl W).mono λe W' ⟨v,u,M,R,_⟩=>⟨v,u,M,R.mono2 λg _ hg=>XH (G d) hg⟩),
    gLo (cs:=sdC N s) 10 (λW d=>(RJ.1.below d).2.1) uSd iSd,
    gO 0 (.slice n 32 sc),
    gO 1 (.int .u32 i),
    nD 3 42 4 43 5 44 21 (λx y z=>#[x,y,z]) (λx y z W D U e3 d=>by
     obtain rfl:x=.agg (sdC N s).toArray:=D;obtain rfl:y=.slice n 32 sc:=U;obtain rfl:z=.int .u32 i:=e3;apply(H1.2.2.2 W (b4.trans (d.mono b4.size))).mono;rintro e W' ⟨v,rfl,u,r,rfl,M,R⟩;exact⟨_,rfl,u,r,32,rfl,XD _,Z,XH (G d) M,Holds.lt R (by rw[Z];decide),R⟩),
    nD 0 39 2 41 6 45 20 (λx y z=>#[x,y,iZ 32,z]) (λx y z W D U e3 d=>by
     obtain rfl:x=uZ (amN s a b:Int):=D;obtain⟨S,c',rfl,R⟩:=ElQ.part e3;exact H1.2.2.1 S c' y W (ElQ.argS U) R),
    EH 7 46 id (λx W h=>h),
    bJ λa W R=>by
     obtain⟨e',u,M⟩:=R.n 8 38 kR kR;exact⟨[(38,.tuple #[e',iZ 0])],e',W,⟨u,yEZ⟩,kR,XR _ _,M⟩,
    bJ λa W R=>by
     obtain⟨e',u,M⟩:=R.n 8 38 kR kR;exact⟨[(38,.tuple #[e',iZ 0])],iZ 0,W,⟨u,yEZ⟩,kR,XR _ _,rfl⟩,
    tQ z11 66 (λW W' h d=>⟨_,rfl,G d,h⟩),yEZ⟩ ⟨rfl,rfl,rfl,XD _,λ_ _=>rfl⟩ ?_
   intro X w8 hR d hD;have PR:=hR 9 dC;have kz:=hR 10 dC;obtain⟨kb,ko,kx,hu⟩:=hR 11 dC;dsimp only[bW,YT,yAb,yAd];simp only[Ym,XF,XJ,XL];rw[kz,ko];obtain⟨cs,hq,S,kv⟩:=PR.cs;have hy:(prog.info? 66).map (·.size)=some cs.length:=by rw[S];exact iAr
   refine hG (w8.setCells kb 0 cs) λw9 h4=>?_
   have h6:=mk1 ((Mp.start W4).add d hu (by rw[C.out];exact kx));have MX:=mk1 (h6.put 0 h4 rfl (by rw[S];rfl));have kl:=PR.put w8 w9 kb cs _ (XR _ _) hu (by rw[h4.out];exact XR _ _);refine PW.st h4 hq (h6.th 0 rfl (by rw[S];rfl)) hy kv ?_;refine PW.en [iZ 0] ?_;have kj:=mk1 (hw.grow MX.bl);refine PW.bg (P:=prog) [] ?_;refine PW.ro (MX.at_ 0).2.1 hq uAr hy ?_;refine PW.ca kl ?_;rintro e b9 ⟨h9,k3,R,rfl,b6,b8,h8⟩;refine PW.en [sZ k3 623 R,iZ 0,sZ k3 623 R,iZ 0] ?_;have hf:=yR I.2.2.2 s;have k4:=I.2.2.2 s;obtain⟨v8,ba,r2,ki,-,-⟩:=(kj.grow h9).swap.app (c:=R) h8 (by rw[hf,k4];omega);rw[k4]at r2;have kp:=mk1 ki.swap;refine PW.bb (P:=prog) [] ?_;refine PW.ns r2 ?_;refine PW.en [v8] ?_;refine PW.bb (P:=prog) [iZ (Ya.wrap ((s:Int)+1))] ?_;rw[b2];go_wp2;go_roundg (gk-1)
   case measure=>omega
   case rel=>exact⟨s+1,oM,rfl,kp⟩
  .have k9:¬(s:Int)<2:=oM;obtain rfl:s=2:=oM;have Q:=yR I.2.2.1 2;have R:=yR I.2.2.2 2;have U:=wH L.oA (by rw[Q];decide);have S:=wH L.oB (by rw[R];decide);have Q0:=((H.at_ 0).below L.bl).2.1 0 _ rfl;have bw:=mk1 (H.bl.trans (L.bl.mono H.bl.size));generalize fsB V 2=D at U Q⊢;generalize fsB T 2=E at S R⊢;rw[Q]at U;rw[R]at S;have J:=mk2 U S;obtain⟨g7,c7,rfl,-⟩:=U;obtain⟨g8,c8,rfl,-⟩:=S;clear L H;refine hG wr.heap.size λA d=>?_
   refine hG (wr.alloc (.cells [YW .u8 (yBc.wrap (k:Int))].toArray 5)) λw4 q=>?_
   have B1:=Xg (yBc.wrap (k:Int)) wr;rw[d.out,q.out]at B1;refine hG w4.heap.size λX f=>?_
   refine hG (w4.alloc (.cells [sZ A 1 1,sZ g7 (33*2) c7,sZ g8 (623*2) c8].toArray 23)) λK t=>?_
   have B2:=Vq A 1 g7 (33*2) c7 g8 (623*2) c8 w4;rw[f.out,t.out]at B2;have p:=mk1 (((Mp.start wr).new d q).new f t);have C:=C9 X 3 3 (λj=>if j=0 then #[XS k] else if j=1 then D else E) dC (λj hj=>by
    match j,hj with
    | 0,_=>show 1<=_;decide
    | 1,_=>show D.size<=_;omega
    | 2,_=>show E.size<=_;omega) K (p.at_ 1).1 (λj hj=>by
    match j,hj with
    | 0,_=>exact⟨_,(p.at_ 1).2.1 0 _ rfl,A,1,rfl,XD _,rfl,(p.at_ 0).1,λi hi=>by
     obtain rfl:i=0:=by have:i<1:=hi;omega
     have u:=(p.at_ 0).2.1 0 _ rfl;have M:=((show Row K A [.int .u8 (yBc.wrap (k:Int))] from p.at_ 0).2.2 0 yD4).2;rw[Pk]at u;exact⟨u,M⟩⟩
    | 1,_=>exact⟨_,(p.at_ 1).2.1 1 _ rfl,by rw[show(if 1=0 then #[XS k] else if 1=1 then D else E)=D from rfl,Q];exact(J.1.keep (Kq.of_below p.bl)).el⟩
    | 2,_=>exact⟨_,(p.at_ 1).2.1 2 _ rfl,by rw[show(if 2=0 then #[XS k] else if 2=1 then D else E)=E from rfl,R];exact(J.2.keep (Kq.of_below p.bl)).el⟩)
   have eL:gW (λj=>if j=0 then #[XS k] else if j=1 then D else E) 3=(#[XS k]++D++E).toList:=by
    rw[gV,gV,gV];simp[gW]
   have M:(#[XS k]++D++E).size=1313:=by rw[Yl,Yl,Q,R];rfl
   rw[eL]at C;generalize #[XS k]++D++E=Z at C M⊢;have Y:=mk1 C;have G:=mk1 (bw.trans (p.bl.mono bw.size));clear C eL J p bw d f q t;refine PW.rg [.bool false] ?_;refine XG<|Yb rfl<|yAC<|PW.bg (P:=prog) [jZ k5] ?_
   refine PW.ce Q0 u3r ?_;refine PW.go [.int .u8 (yBc.wrap (k:Int))] ?_;refine PW.ns B1 ?_;refine PW.go [] ?_;refine PW.ns B2 ?_;refine PW.ca Y ?_;rintro e w6 ⟨kn,u⟩;refine PW.en [e] ?_;have hE:=wH (b:=Z) (show w6.ownsRow K.heap.size 5 1 e Z.size (bC Z) by rw[Array.length_toList]at u;exact u) oM;rw[M]at hE;have KE:=mk2 (G.trans (kn.mono G.size)) (hE.mono2 (Q':=(w.heap.size<=·)) λg _ hg=>XH G.size hg);go_wp2;go_ret;exact⟨_,rfl,KE.1,KE.2⟩
end
section
open SPA
def Bp{Q:Nat->Prop}{W:XA}{v:XB}{b:Bs}(h:ElQ Q 33 W v b):∃g,v=q33 g:=by
 obtain⟨k,c,rfl,-⟩:=h;exact⟨(k,c),rfl⟩
def D9{Q:Nat->Prop}{W:XA}{v:XB}{b:Bs}(h:ElQ Q 32 W v b):∃g,v=q32 g:=by
 obtain⟨k,c,rfl,-⟩:=h;exact⟨(k,c),rfl⟩
def RdB.v{B t:Nat}{p:Rp}{d Rb:Nat->Bs}{r m:Bs}{e:XB}{W:XA}(G:kP t t (rgB t p d Rb r m))(h:RdB B t (rgB t p d Rb r m) e W):RgV t p d Rb r m e W:=by
 obtain⟨q,f,i,rfl,v1,v2,K,D,⟨gl,gr,T,U,-⟩,hF⟩:=h.ex;have I:=lO G;have E:∀(j:Nat) (b:Bs) (u:XB) (n:Nat),(rgB t p d Rb r m)[j]? = some b->(qR q f i)[j]? = some u->(fD t t)[j]? = some n->ElQ (λ_=>True) n W u b:=λj b u n k y A=>by
  have c:=(XM.1 k).1;obtain⟨C,F,x,w,z⟩:=hF j oM;rw[k]at w;rw[y]at x;obtain rfl:=XX.inj w;obtain rfl:=XX.inj x;have v:=wK G k;rw[A]at v;rw[XX.inj v];exact z.mono2 λ_ _ _=>trivial
 have O:=E 0 p.a q.a.v 33 rfl rfl rfl;have H:=E 1 p.s q.b.v 33 rfl rfl rfl;have e3:=E 2 p.c q.c.v 33 rfl rfl rfl;have F:=E 3 p.d q.d.v 33 rfl rfl rfl;have M:=E 4 (bx p.u) q.e.v 32 rfl rfl rfl;have P:=E 5 (bx p.m) q.f.v 32 rfl rfl rfl;have J:=E 6 (bx p.t) q.g.v 32 rfl rfl rfl;have v:f.length=t:=by rw[v1.len,K]
 have C:i.length=t:=by rw[v2.len,D]
 have Y:∀j,j<t->∃u,f[j]? = some u/\ElQ (λ_=>True) 33 W u (d j):=λj c=>by
  refine⟨f[j],XO oM,E (7+j) (d j) f[j] 33 ?_ ?_ ?_⟩
  .unfold rgB;rw[XY (by simp;omega),XY (by simp;omega),XW (by simp)];simp[c]
  .unfold qR;rw[XY (by simp;omega),XY (by simp;omega),XW (by simp)];simp[v,c]
  .unfold fD;rw[XY (by simp;omega),XY (by simp;omega),XW (by simp)];simp[c]
 have X:∀j,j<t->∃u,i[j]? = some u/\ElQ (λ_=>True) 33 W u (Rb j):=λj c=>by
  refine⟨i[j],XO oM,E (7+t+j) (Rb j) i[j] 33 ?_ ?_ ?_⟩
  .unfold rgB;rw[XY (by simp;omega),XW (by simp;omega)];simp[c,show 7+t+j-(t+1+1+1+1+1+1+1)=j by omega]
  .unfold qR;rw[XY (by simp;omega),XW (by simp;omega)];simp[v,C,c,show 7+t+j-(t+1+1+1+1+1+1+1)=j by omega]
  .unfold fD;rw[XY (by simp;omega),XW (by simp;omega)];simp[c,show 7+t+j-(t+1+1+1+1+1+1+1)=j by omega]
 have e8:=E (7+t+t) r q.x.v 32 (by
  unfold rgB;rw[XW (by simp;omega)];simp[show 7+t+t-(t+t+1+1+1+1+1+1+1)=0 by omega]) (by
  unfold qR;rw[XW (by simp;omega)];simp[v,C,show 7+t+t-(t+t+1+1+1+1+1+1+1)=0 by omega]) (by
  unfold fD;rw[XW (by simp;omega)];simp[show 7+t+t-(t+t+1+1+1+1+1+1+1)=0 by omega])
 have R:=E (7+t+t+1) m q.y.v 32 (by
  unfold rgB;rw[XW (by simp;omega)];simp[show 7+t+t+1-(t+t+1+1+1+1+1+1+1)=1 by omega]) (by
  unfold qR;rw[XW (by simp;omega)];simp[v,C,show 7+t+t+1-(t+t+1+1+1+1+1+1+1)=1 by omega]) (by
  unfold fD;rw[XW (by simp;omega)];simp[show 7+t+t+1-(t+t+1+1+1+1+1+1+1)=1 by omega])
 have tv:∀(s:Sv) (l:List XB) (g:Nat) (B:Nat->Bs),VL W s.q s.n l->s.n=t->s.q=some (aZ g)->(∀j,j<t->∃u,l[j]? = some u/\ElQ (λ_=>True) 33 W u (B j))->TlV t W s.v B:=λs l g B hv L N hB=>by
  refine⟨s.q,s.c,by unfold Sv.v;rw[L],λQ=>⟨g,N,?_⟩⟩;rcases hv.cells with k|⟨b,o,k,y,A⟩
  .have:=hv.len;rw[k,L]at this;exact absurd this (by simp;omega)
  .rw[N]at k;injection k with k
   injection k with k x _
   subst k x;refine⟨y,λj c=>?_⟩;obtain⟨u,w,z⟩:=hB j c;have:=A j u w;rw[XI]at this;exact⟨u,this,z.arg⟩
 obtain⟨a1,f1⟩:=Bp O;obtain⟨a2,f2⟩:=Bp H;obtain⟨V,f3⟩:=Bp e3;obtain⟨a4,w⟩:=Bp F;obtain⟨Z,z⟩:=D9 M;obtain⟨a6,Q⟩:=D9 P;obtain⟨S,x⟩:=D9 J;refine⟨a1,a2,V,a4,Z,a6,S,q.l.v,q.r.v,q.x.v,q.y.v,?_,⟨f1 ▸ O,f2 ▸ H,f3 ▸ e3,w ▸ F,z ▸ M,Q ▸ P,x ▸ J⟩,tv q.l f gl d v1 K T Y,tv q.r i gr Rb v2 D U X,e8,R⟩;rw[<-f1,<-f2,<-f3,<-w,<-z,<-Q,<-x];rfl
def Fx{B t:Nat}{W W':XA}{q:Option Y0}{g m:Nat}{ys:List XB}(h:VL W q m ys)(i:q=some (aZ g))(l:0<t->B<=g)(r:m=t)(d:Kq (B<=·) W W'):VL W' q m ys:=by
 refine⟨h.len,h.nil,?_,h.one⟩;rcases h.cells with c|⟨b,o,k,f,n⟩
 .exact Ye c
 .by_cases c:0<t
  .have e:b=g:=by
    rw[i]at k;injection k with k
    injection k with k _ _
    exact k.symm
   subst e;refine X7 ⟨b,o,k,XC f d.1,λj u p=>?_⟩;have:=n j u p;unfold YZ at this⊢;rw[d.2 b (l c) f];exact this
  .exact Ye (List.length_eq_zero_iff.1 (by rw[h.len];omega))
def RdB.keep{B t:Nat}{BB:List Bs}{e:XB}{W W':XA}(h:RdB B t BB e W)(c:Kq (B<=·) W W'):RdB B t BB e W':=by
 obtain⟨p,s,n,l,v1,v2,i,f,⟨gl,o,d,g,k⟩,m⟩:=h.ex;refine⟨p,s,n,l,Fx v1 d (λh=>(k h).1) i c,Fx v2 g (λh=>(k h).2) f c,i,f,⟨gl,o,d,g,k⟩,λj w=>?_⟩;obtain⟨u,b,q,r,v⟩:=m j w;exact⟨u,b,q,r,v.keep c⟩
structure VrT(B:Nat)(V:Bs)(e:XB)(w:XA):Prop where
 cs:∃cs:List XB,Hid (.agg cs.toArray=e)/\cs.length=11/\cs.toArray.all (·.oneCell')=true
 ver:∀(W:XA) (v0:XB),Kq (B<=·) w W->Arg33 W v0 V->cZ 61 #[v0,iZ 32,e] W (rZ W λx W'=>x=tZ)
variable {P:Nat}[NeZero P]{N:Nat}[NeZero N]
def NC{v:Nat}{k:Fin N}{A:List UInt8}(C:Fld P)(O:Ord N)(d:∀r:EC.Pt P,On r->mul N r=none)(L:IsP N)(H:18446744073709551616<=N)(hv:v<4294967296):∃V T:Bs,V=wP ((aC C d).cm (hPV C) (gPG C) (ofF N v) k)/\T.size=623 /\
 (∀(i:Option Y0) (sc:Nat) (v1:XB) (w:XA),Arg w v1 (bx k.val)->PartOk w (.slice i 32 sc) A->cZ 20 #[uZ v,v1,iZ 32,.slice i 32 sc] w (rZ w λe w'=>∃e',e=.tuple #[e',iZ 0]/\PrT T e' w')) /\
 ∀(g o c:Nat) (w:XA),g<w.heap.size->hZ w g o T->623<=c->cZ 106 #[qZ g o 623 c] w (rZ w λe w'=>∃e',e=.tuple #[e',iZ 0]/\VrT w.heap.size V e' w'):=by
 have D:Wd 32 5:=⟨rfl,dC,dC⟩
 obtain⟨V,M,S,Rb,E,R,K,I,Q,ok,B,n,u,f⟩:=Ns C O d L H D v hv k A;have q:=OB (t:=5) dC ok B n u f;have l:=sK q 19 (XD _);rw[show offs 5 19=623 from rP]at l;have b:=l;refine⟨V,eZ 5 (rgB 5 M S Rb E R) 19,K,l,λi sc v1 w u z=>(I i sc v1 w u z).mono ?_,λg o c w p F j=>?_⟩
 .rintro e w' ⟨U,rfl,f,e',Y,rfl,-,hR⟩;obtain⟨cs,c1,c2,J,-⟩:=hR.cl dC;refine⟨_,rfl,f,e',rfl,⟨cs,c1,c2,J⟩,λX W k us vs m n s=>((((hR.below m).set0 dC n).below s).put dC dC).mono ?_⟩;rintro x W' ⟨y,rfl,a,G,rfl,z,g,c,rfl,j⟩;have hh:=pt_holds z (by rw[b];decide);rw[b]at j;exact⟨_,rfl,a,g,c,by rw[b],j,hh.1,hh.2⟩
 .have hR:=JU q ⟨_,c,rfl,X7 ⟨g,o,rfl,p,F⟩⟩ (by rw[b];exact j);rw[b]at hR;refine hR.mono ?_;rintro e w' ⟨y,rfl,f,e',rfl,s⟩;obtain⟨G,U,J,rfl,-⟩:=id s.ex;refine⟨_,rfl,f,_,rfl,⟨G.cs,rfl,rfl,by simp only[List.all_toArray,Rg.cs,rgC,Sv.v,List.all_cons,List.all_nil];rfl⟩,λW v0 m a=>Q _ v0 W a ((s.keep m).v q)⟩
end
section
open SPA
def VrT.keep{B:Nat}{V:Bs}{e:XB}{w w':XA}(h:VrT B V e w)(k:Kq (B<=·) w w'):VrT B V e w':=⟨h.cs,λW v0 d f=>h.ver W v0 ⟨XH k.size d.size,λg b c=>(d.block g b (XC c k.size)).trans (k.block g b c)⟩ f⟩
def Ua(V:Bs)(v:XB)(w:XA)(hR:∀W,kZ w W->cZ 106 #[v] W (rZ W λe w'=>∃e',e=.tuple #[e',iZ 0]/\VrT W.heap.size V e' w')):
 cZ 60 #[v] w (rZ w λe w'=>∃e' B,e=.tuple #[e',tZ]/\w.heap.size<=B/\VrT B V e' w'):=by
 refine hG w.heap.size λs n=>?_
 refine hG (lZ w z11 66) λt m=>?_
 have p:=mk1 ((Mp.start w).new n m);have x:=(p.at_ 0).1;have F:=mk1 (hR t p.bl);go_enter func60,ntmps60;refine PW.bg [] ?_;refine PW.al n m ?_;refine PW.en [fZ] ?_;refine PW.bg [] ?_;refine PW.ca F ?_;rintro e o ⟨r,e',rfl,D⟩;obtain⟨cs,d,k,l⟩:=D.cs;have b:gZ 66 cs.length:=by rw[k];exact iAr
 refine hG o.heap.size λG i=>?_
 refine hG (lZ o z11 66) λI f=>?_
 refine hG (I.setCells G 0 cs) λz j=>?_
 refine hG (z.setCells s 0 cs) λu c=>?_
 have H:=mk1 (p.grow r);have E:=mk1 (H.new i f);have q:=mk1 (E.put 1 j rfl (by rw[k];rfl));have y:=mk1 (q.put 0 c rfl (by rw[k];rfl));have a:=((Mp.start o).new i f).put 0 j rfl (by rw[k];rfl);have kq:Kq (t.heap.size<=·) o u:=by
  refine⟨?_,λg J C=>?_⟩
  .rw[<-c.out,setCells_size];exact a.bl.size
  .rw[<-c.out,aE (k:=s) cs 0 z g (by omega)];exact a.bl.block g C
 have C:=mk2 (D.keep kq) p.bl.size;refine PW.go [e',iZ 0] ?_;refine PW.al i f ?_;refine PW.st j d (E.th 1 rfl (by rw[k];rfl)) b l ?_;refine PW.en [iZ 0] ?_;refine PW.bg [] ?_;refine PW.ro (q.at_ 1).2.1 d uAr b ?_;refine PW.go [tZ] ?_;refine PW.st c d (q.th 0 rfl (by rw[k];rfl)) b l ?_;refine PW.en [tZ] ?_;refine Za<|XN (qQ 2 3 rfl (show u.rangeAt s 0 cs from(y.at_ 0).2.1) rfl rfl uAr b) rfl ?_
 exact⟨_,rfl,y.bl,e',_,by rw[d.out];rfl,C.2,C.1⟩
def Cz(b d c m n cap:Nat)(w:XA)(t:0<c)(a:n=c*m)(x:m<=1024)(j:n<=cap)(i:n<=1073741824):
 cZ 58 #[qZ b d n cap,iZ c] w (rZ w λe w'=>w'.ownsRow w.heap.size 23 1 e m ((List.range m).map (chv b d c))):=by
 obtain⟨u,f⟩:=hE ((w.alloc (.cells #[qZ b d n cap] 23)).alloc (.cells #[iZ c] 3));obtain⟨k,y⟩:=hE w.heap.size;have z:=row_new w [qZ b d n cap] 23;have a2:=row_new (w.alloc (.cells #[qZ b d n cap] 23)) [iZ c] 3;have b1:=aD (w:=w) (.cells #[qZ b d n cap] 23);have r:=aD (w:=(w.alloc (.cells #[qZ b d n cap] 23))) (.cells #[iZ c] 3);have p:=Row.below z r;have v:(w.alloc (.cells #[qZ b d n cap] 23)).heap.size=w.heap.size+1:=XP _ _;rw[v]at a2;have bb:=b1.trans (r.mono b1.size);have l:=LV b d n cap t w;have q:=LU b d u t a x j i w.heap.size (f.out▸a2.1) (f.out▸p.2.1 0 _ rfl) (f.out▸a2.2.1 0 _ rfl);rw[f.out]at l bb;rw[y.out]at l q;have g:=mk3 l q bb;go_enter func58,ntmps58;refine PW.rg [nZ] ?_;refine PW.bg [] ?_;refine PW.ca g.1 ?_;rintro e C ⟨rfl,rfl⟩;refine PW.ca g.2.1 ?_;rintro e B ⟨o,ho,-⟩;refine PW.en [e] ?_;have s:=mk2 (g.2.2.trans (o.mono g.2.2.size)) (own_base ho g.2.2.size);go_wp2;go_ret;exact⟨_,rfl,s.1,s.2⟩
def z22:List XB:=List.replicate 22 nZ
def WG(w:XA):(Instr.makeSlice 117 (iZ 2) (iZ 2)).run prog w=.ok (sZ w.heap.size 2 2) (w.alloc (.cells z22.toArray 66)):=kR
def UM{k i:Nat}(e:i<2)(w:XA):(Yv 117 (sZ k 2 2) (iZ i)).run prog w=.ok (oZ k (11*i)) w:=by
 have c:¬(i:Int)<0:=oM;have d:(i:Int)<2:=oM;have b:=gI k 0 (11*i);rw[XI]at b;go_simp
def VX:wZ 23:=wQ
def Vf:∀args W,(callFunc 60 args).run prog W=.ok (.enter 60 args) W:=λ_ _=>kR
def PrL(w W:XA)(K i:Nat)(V:Nat->Bs):Prop:=kZ w W/\w.heap.size<=K/\K<W.heap.size/\W.there K 0 22/\∀j,j<i->∃e cs B,Hid (.agg cs.toArray=e)/\cs.length=11/\W.rangeAt K (11*j) cs/\K<B/\VrT B (V j) e W
def PrL.grow{w W W':XA}{K i:Nat}{V:Nat->Bs}(h:PrL w W K i V)(k:kZ W W'):PrL w W' K i V:=by
 obtain⟨f,o,b,m,q⟩:=h;refine⟨f.trans (k.mono f.size),o,XC b k.size,λj c=>?_,λj c=>?_⟩
 .have:=m j c;have e:=k.block K b;unfold YZ Zk at this⊢;rw[e];exact this
 .obtain⟨e,cs,B,g,p,l,n,d⟩:=q j c;exact⟨e,cs,B,g,p,range_below l k b,n,d.keep (Kq.of_below k)⟩
def PrL.put{w W W':XA}{K i:Nat}{V:Nat->Bs}{e:XB}{cs:List XB}{B:Nat}(h:PrL w W K i V)(a:i<2)(l:Hid (.agg cs.toArray=e))(s:cs.length=11)(b:K<B)(u:VrT B (V i) e W)(k:Hid (W.setCells K (11*i) cs=W')):W.there K (11*i) cs.length/\PrL w W' K (i+1) V:=by
 obtain⟨o,q,y,m,x⟩:=h;have th:W.there K (11*i) cs.length:=λj z=>by
  have:=m (11*i+j) oM;rw[XI]at this;exact this
 have kq:∀B,K<B->Kq (B<=·) W W':=λB b=>by
  rw[<-k.out];exact⟨by rw[setCells_size];exact XD _,λg o _=>aE cs (11*i) W g oM⟩
 refine⟨th,k.out▸RG.below_setCells q _ _ _ o,q,by rw[<-k.out,setCells_size];exact y,?_,λj z=>?_⟩
 .rw[<-k.out];exact Zg m _ _ _
 .by_cases d:j<i
  .obtain⟨e',c,n,r,v,t,p,f⟩:=x j d;refine⟨e',c,n,r,v,?_,p,f.keep (kq n p)⟩;rw[<-k.out];exact Yn t _ _ _ oM
  .obtain rfl:j=i:=oM;refine⟨e,cs,B,l,s,?_,b,u.keep (kq B b)⟩;rw[<-k.out];exact YY _ _ _ _ th
def Tg(g c:Nat)(V:Nat->Bs)(x:Nat->XB)(w:XA)(Y:g<w.heap.size)(hx:∀i,i<2->w.cell? ⟨g,i,none⟩=some (x i))(R:∀i,∃q n c,x i=.slice q n c)(hR:∀i W,i<2->kZ w W->YN prog 60 #[x i] W (rZ W λe w'=>∃e' B,e=.tuple #[e',.bool true]/\W.heap.size<=B/\VrT B (V i) e' w')):
 YN prog 59 #[.func (.func 60) #[] #[],sZ g 2 c] w (Ret λe w'=>∃K,e=.tuple #[sZ K 2 2,.bool true]/\PrL w w' K 2 V):=by
 refine hG w.heap.size λK H=>?_
 refine hG (w.alloc (.cells z22.toArray 66)) λI o=>?_
 have Q:=WG w;rw[H.out,o.out]at Q;have C:=(Mp.start w).new H o;have S:Hid (PrL w I K 0 V):=⟨C.bl,Nat.le_of_eq H,(C.at_ 0).1,(show Row I K z22 from C.at_ 0).2.2,λj hj=>absurd hj (ZP _)⟩
 have a:=mk3 Y hx (YV R hR);go_enter func59,ntmps59;refine PW.rg [.slice none 0 0,.bool false] ?_;refine PW.bg [iZ 2] ?_;refine PW.ns Q ?_;refine PW.en [sZ K 2 2] ?_;refine XG<|PW.rg [iZ 2,iZ 0] ?_
 apply YX;go_loopg [16] 2 (λgk s16 wr=>∃i:Nat,i+gk=2/\s16=iZ i/\Hid (PrL w wr K i V))
 case atStart=>exact⟨0,oM,rfl,S⟩
 case round =>
  obtain⟨i,h0,rfl,v⟩:=hrel;by_cases s:i<2
  .have y:(i:Int)<2:=oM;have G:Ya.wrap ((i:Int)+1)=((i+1:Nat):Int):=by rw[YD];omega
   have M:wr.cell? ⟨g,i,none⟩=some (x i):=by rw[v.out.1.cell (p:=⟨g,i,none⟩) a.out.1];exact a.2.1 i s
   have m:=a.2.2.2 i wr s v.1;obtain⟨T,U,X,ex⟩:=a.2.2.1 i;rw[ex]at M m;refine PW.bg [.bool (decide ((i:Int)<2))] ?_;rw[decide_eq_true y];refine PW.dn ?_;refine XG<|Yy rfl<|YU<|XG<|YX<|PW.bg [] ?_
   refine PW.ns (UN (g:=g) (n:=2) (c:=c) (i:=i) s (w:=wr)) ?_;refine PW.ce M VX ?_;refine PW.en [iZ i,.slice T U X] ?_;refine PW.bg [] ?_;refine PW.ca m ?_ rfl rfl (BV Vf rfl rfl rfl);rintro e D ⟨E,e',B,rfl,A,O⟩;obtain⟨cs,b,k,l⟩:=O.cs;have d:(prog.info? 66).map (·.size)=some cs.length:=by rw[k];exact iAr
   refine hG D.heap.size λk9 f=>?_
   refine hG (D.alloc (.cells z11.toArray 66)) λZ r=>?_
   refine hG (Z.setCells k9 0 cs) λN u=>?_
   refine hG (N.setCells K (11*i) cs) λw6 z=>?_
   have L:=mk1 ((Mp.start D).new f r);have F:=mk1 (L.put 0 u rfl (by rw[k];rfl));have t:=((v.grow E).grow F.bl).put s b k (XC v.2.2.1 A) (O.keep (Kq.of_below F.bl)) z;have J:=mk2 t.1 t.2;refine PW.go [e',.bool true] ?_;refine PW.al f r ?_;refine PW.st u b (L.th 0 rfl (by rw[k];rfl)) d l ?_;refine PW.en [.bool true] ?_;refine XG<|PW.rg [.bool false] ?_
   refine Yb rfl<|YU<|PW.bb (P:=prog) [] ?_
   refine PW.ro (F.at_ 0).2.1 b uAr d ?_;refine PW.ns (UM (k:=K) (i:=i) s N) ?_;refine PW.st z b J.1 d l ?_;refine PW.dn ?_;refine PW.bb (P:=prog) [iZ (Ya.wrap ((i:Int)+1))] ?_;rw[G];go_wp2;go_roundg (gk-1)
   case measure=>omega
   case rel=>exact⟨i+1,oM,rfl,J.2⟩
  .have y:¬(i:Int)<2:=oM;obtain rfl:i=2:=oM;refine PW.rg [.bool false] ?_;refine XG<|Yb rfl<|yAC<|PW.rg (P:=prog) [sZ K 2 2,.bool true] ?_
   refine Za<|XN (dJ 4 5 rfl rfl rfl) rfl ?_
   exact⟨_,rfl,K,rfl,v⟩
end
section
open SPA
def UY(V:Nat->Bs):fsB V 2=V 0++V 1:=by
 show(#[]++V 0)++V 1=_;rw[Array.empty_append]
def pJ{w:XA}{g o:Nat}{A B:Bs}(h:hZ w g o (A++B)):hZ w g o A/\hZ w g (o+A.size) B:=by
 refine⟨?_,?_⟩
 .have:=Holds.part (p:=0) (e:=A) h (by rw[Yl];omega) (λj k=>by
   rw[XI,getElem!_pos A j k,getElem!_pos (A++B) j (by rw[Yl];omega),Array.getElem_append_left])
  exact this
 .exact Holds.part (p:=A.size) (e:=B) h (by rw[Yl];exact XD _) (λj k=>by
   rw[getElem!_pos B j k,getElem!_pos (A++B) (A.size+j) (by rw[Yl];omega),Array.getElem_append_right oM];simp)
def SI{W:XA}{g k:Nat}{V T:Nat->Bs}(d:∀s,(V s).size=33)(l:∀s,(T s).size=623)(h:hZ W g 0 (#[XS k]++fsB V 2++fsB T 2)):
 W.cell? ⟨g,0,none⟩=some (encB (XS k))/\(∀s,s<2->hZ W g (1+33*s) (V s))/\∀s,s<2->hZ W g (67+623*s) (T s):=by
 rw[UY,UY]at h;obtain⟨j,m⟩:=pJ h;obtain⟨o,i⟩:=pJ j;obtain⟨n,e⟩:=pJ i;obtain⟨f,c⟩:=pJ m;have z:(#[XS k]++(V 0++V 1)).size=67:=by rw[Yl,Yl,d,d];rfl
 rw[z]at f c;rw[d]at e;rw[l]at c;refine⟨(o 0 yD4).1,λs b=>?_,λs b=>?_⟩
 .match s,b with
  | 0,_=>exact n
  | 1,_=>exact e
 .match s,b with
  | 0,_=>exact f
  | 1,_=>exact c
def V6{g c:Nat}{w:XA}(k:1313<=c):(Zy 23 (sZ g 1313 c) (some (iZ 1)) (some (iZ 67)) none).run prog w=.ok (qZ g 1 66 (c-1)) w:=by
 have b:¬c=1:=oM;have d:(67:Int)<=(c:Int):=oM;go_simp
def QS{g c:Nat}{w:XA}(k:1313<=c):(Zy 23 (sZ g 1313 c) (some (iZ 67)) none none).run prog w=.ok (qZ g 67 1246 (c-67)) w:=by
 have b:¬c=67:=oM;go_simp
def WQ{g c:Nat}{w:XA}:(Yv 23 (sZ g 1313 c) (iZ 0)).run prog w=.ok (jZ g) w:=by
 go_simp
variable {P:Nat}[NeZero P]
def Ri(C:Fld P)(g c k:Nat)(hc:1313<=c)(h5:1<=k)(R:k<=3)(V T:Nat->Bs)(hV:∀s,(V s).size=33)(hT:∀s,(T s).size=623)(hp:∀s,∃p,rd P (V s)=some p)
 (O:∀s (g o c:Nat) (w:XA),g<w.heap.size->hZ w g o (T s)->623<=c->cZ 106 #[qZ g o 623 c] w (rZ w λe w'=>∃e',e=.tuple #[e',iZ 0]/\VrT w.heap.size (V s) e' w'))
 (w:XA) (hg:g<w.heap.size) (hH:hZ w g 0 (#[XS k]++fsB V 2++fsB T 2)) :
 cZ 30 #[sZ g 1313 c] w (rZ w λe w'=>∃K,e=.tuple #[sZ K 2 2,tZ]/\w.heap.size<=K/\K<w'.heap.size/\∀s,s<2->w'.rangeAt K (33*s) (aA (V s))):=by
 obtain⟨c0,M,h0⟩:=SI hV hT hH;have e8:encB (XS k)=.int .u8 k:=by
  show YW .u8 _=_
  congr 1
  rw[<-Pk,IntKind.wrap_u8];omega
 rw[e8]at c0;have h6:Ya.wrap (k:Int)=(k:Int):=by rw[YD];omega
 have HI:=mk1 (PV (n:=k) h5 R);have x:=mk3 M h0 hg;have I:=mk3 hV hp O;go_enter func30,ntmps30;refine PW.rg [nZ,fZ] ?_;refine XG<|PW.bg [iZ 1313,fZ] ?_
 refine PW.gd ?_;refine PW.go [] ?_;refine PW.gd ?_;refine PW.ns (WQ (g:=g) (c:=c) (w:=w)) ?_;refine PW.gd ?_;refine PW.ce c0 kR ?_;refine PW.gd ?_;refine PW.go [iZ (Ya.wrap (k:Int))] ?_;rw[h6];refine PW.gd ?_;refine PW.gi (HI w) λw1 q=>?_
 refine PW.gd ?_;refine PW.en [fZ,fZ] ?_;refine Yb rfl<|YU<|PW.bg [] ?_
 refine PW.ns (V6 (g:=g) (c:=c) hc (w:=w1)) ?_;refine PW.ca (Cz g 1 33 2 66 (c-1) w1 dC rfl dC oM dC) ?_;rintro e w2 ⟨D,r⟩;have a:=q.trans (D.mono q.size);obtain⟨g2,c2,rfl⟩:=mP r dC;have hA:=Fo C (b:=g2) 2 c2 dC (L:=V) (w:=w2) (bQ r rfl).2.1 (λj v=>⟨chv g 1 33 j,jI r (by
  rw[YB,yBo v];rfl),some ⟨g,1+33*j,none⟩,33,33,rfl,I.1 j,λ_=>⟨g,1+33*j,rfl,XD _,XC x.2.2 a.size,Holds.below (x.1 j v) a x.2.2⟩⟩)
 refine PW.ca hA ?_;rintro e w3 ⟨h2,⟨-,K,rfl,t,h8,h4⟩|⟨⟨j,-,v⟩,-⟩⟩
 rotate_left
 .obtain⟨p,b⟩:=I.2.1 j;rw[v]at b;cases b
 have b3:=mk1 (a.trans (h2.mono a.size));have L:=mk3 (XH a.size t) h8 h4;refine PW.en [sZ K 2 2,tZ,sZ K 2 2,tZ] ?_;refine PW.bg [] ?_;refine PW.ns (QS (g:=g) (c:=c) hc (w:=w3)) ?_;refine PW.ca (Cz g 67 623 2 1246 (c-67) w3 dC rfl dC oM dC) ?_;rintro e w4 ⟨H,n⟩;obtain⟨g4,c4,rfl⟩:=mP n dC;have J:=b3.trans (H.mono b3.size);have hR:=Tg g4 c4 V (λj=>chv g 67 623 j) w4 (bQ n rfl).2.1 (λj v=>jI n (by
  rw[YB,yBo v];rfl)) (λj=>⟨_,_,_,rfl⟩) (λs W d f=>Ua (V s) _ W λW' b=>by
   have bb:=(J.trans (f.mono J.size)).trans (b.mono (XH J.size f.size));exact I.2.2 s g (67+623*s) 623 W' (XC x.2.2 bb.size) (Holds.below (x.2.1 s d) bb x.2.2) (XD _))
 refine PW.ca hR ?_;rintro e E ⟨K2,rfl,Q⟩;have l:=mk2 Q (YV J H);refine PW.en [sZ K2 2 2,tZ,sZ K2 2 2,tZ] ?_;refine XG<|PW.bg [fZ] ?_
 refine PW.gd ?_;refine PW.go [] ?_;refine PW.gd ?_;refine PW.en [fZ,fZ] ?_;refine Yb rfl<|YU ?_
 have m:=l.1.1;have b5:=mk1 (l.2.1.trans (m.mono l.2.1.size));have RK:Hid (∀s,s<2->E.rangeAt K (33*s) (aA (V s))):=λs d=>by
  have bb:=l.2.2.trans (m.mono l.2.2.size);exact range_below (L.2.2 s d) bb L.2.1
 have lK:=XC L.2.1 (XH l.2.2.size m.size);have HP:=mk1 l.1.2.2.2.2;have Y:=l.1.2.2.1;have t:=L.1;have W0:=mk1 (XR E.heap.size E);refine XG<|PW.rg [iZ 2,iZ 0] ?_
 apply YX;go_loopg [43] 2 (λgk s43 wr=>∃s:Nat,s+gk=2/\s43=iZ s/\Hid (kZ E wr))
 case atStart=>exact⟨0,oM,rfl,W0⟩
 case round =>
  obtain⟨s,h9,rfl,y⟩:=hrel;by_cases d:s<2
  .have G:(s:Int)<2:=oM;have U:Ya.wrap ((s:Int)+1)=((s+1:Nat):Int):=by rw[YD];omega
   have b:=I.1 s;have lV:=aB b;have iV:(prog.info? 51).map (·.size)=some (aA (V s)).length:=by rw[aB b];exact iCP
   refine hG wr.heap.size λk9 z=>?_
   refine hG (lZ wr z33 51) λw7 F=>?_
   refine hG (w7.setCells k9 0 (aA (V s))) λw8 A=>?_
   have M7:=mk1 ((Mp.start wr).new z F);have M8:=mk1 (M7.put 0 A rfl lV);have R0:=range_below (RK s d) y lK;rw[<-XI (33*s)]at R0;obtain⟨vp,i⟩:=hE (pvl (V s));obtain⟨ee,cs,B,Z,N,X,ha,S⟩:=HP s d;have h1:gZ 66 cs.length:=by rw[N];exact iAr
   have h7:Hid (∀W,cZ 19 #[vp] W (rZ W λe w'=>ElQ (W.heap.size<=·) 33 w' e (V s)/\∃g,e=r33 g)):=by rw[<-i.out];exact λW=>eG b (w:=W)
   have u:=mk1 (y.trans (M8.bl.mono y.size));refine PW.bg [.bool (decide ((s:Int)<2))] ?_;rw[decide_eq_true G];refine PW.dn ?_;refine XG<|Yy rfl<|YU<|XG<|YX<|PW.bg [] ?_
   refine PW.ns (atP (k:=K) (o:=0) (n:=2) (c:=2) (i:=s) d wr) ?_;refine PW.ro R0 i uCP iV ?_;refine PW.al z F ?_;refine PW.go [iZ s] ?_;refine PW.st A i (M7.th 0 rfl lV) iV bN ?_;refine PW.dn ?_;refine XG<|AW.beg 7 7 (J:=⟨λW=>kZ w8 W,λ_ _ f h=>h.trans (f.mono h.size),false⟩) ⟨rfl,rfl,rfl,XD _,λ_ _=>rfl⟩ ?_
   refine AW.ro 0 (λW f=>((M8.at_ 0).below f).2.1) i uCP iV ?_;refine AW.mv 2 ?_;refine AW.mv 3 ?_;refine AW.iv 4 (UM (k:=K2) (i:=s) d) ?_;refine AW.ro 5 (λW f=>range_below X (u.trans (f.mono u.size)) Y) Z uAr h1 ?_;refine AW.ca 1 (λ_=>h7 _) (λe w' h=>h.1) ?_;rintro e W1 ⟨q,h3,he,rfl⟩;refine AW.gi 6 (λf=>S.ver W1 _ (Kq.of_below (u.trans (f.mono u.size))) h3.arg) λW2 D=>?_
   refine AW.nx 7 fZ ?_;refine AW.dn λhJ=>?_
   have KC:=mk1 (u.trans (yDy hJ u.size));refine Yb (P:=prog) rfl ?_;refine YU<|PW.bb (P:=prog) [iZ (Ya.wrap ((s:Int)+1))] ?_
   rw[U];go_wp2;go_roundg (gk-1)
   case measure=>omega
   case rel=>exact⟨s+1,oM,rfl,KC⟩
  .have G:¬(s:Int)<2:=oM;obtain rfl:s=2:=oM;refine PW.rg [fZ] ?_;refine XG<|Yb rfl<|yAC<|PW.rg (P:=prog) [sZ K 2 2,tZ] ?_
   refine Za<|XN (dJ 2 3 rfl rfl rfl) rfl ?_
   exact⟨_,rfl,b5.trans (y.mono b5.size),K,rfl,t,XC lK y.size,λs d=>range_below (RK s d) y lK⟩
end
section
open SPA
def tmP(f:Nat->Nat->Nat × Bs):Nat->LB
 | 0=>[]
 | i+1=>(tmP f i++[f i 0])++[f i 1]
def tmQ(f:Nat->Nat->Nat × Bs)(i:Nat):Nat->LB
 | 0=>tmP f i
 | s+1=>tmQ f i s++[f i s]
def Bf(f:Nat->Nat->Nat × Bs):∀i,(tmP f i).length=2*i
 | 0=>rfl
 | i+1=>by
  show((tmP f i++[f i 0])++[f i 1]).length=_;rw[XK,XK,Bf f i];simp only[Yx,Zz];omega
def FD(f:Nat->Nat->Nat × Bs)(i:Nat):∀s,(tmQ f i s).length=2*i+s
 | 0=>Bf f i
 | s+1=>by
  show(tmQ f i s++[f i s]).length=_;rw[XK,FD f i s];simp only[Yx,Zz];omega
def Jm{f:Nat->Nat->Nat × Bs}(h:∀i s,(f i s).2.size=33):∀i,∀x∈tmP f i,x.2.size=33
 | 0,x,hx=>by cases hx
 | i+1,x,hx=>by
  rcases Y9.1 hx with hx|hx
  .rcases Y9.1 hx with hx|hx
   .exact Jm h i x hx
   .rw[Zj.1 hx];exact h i 0
  .rw[Zj.1 hx];exact h i 1
def Jk{i:Nat}{f:Nat->Nat->Nat × Bs}(h:∀i s,(f i s).2.size=33):∀s,∀x∈tmQ f i s,x.2.size=33
 | 0,x,hx=>Jm h i x hx
 | s+1,x,hx=>by
  rcases Y9.1 hx with hx|hx
  .exact Jk h s x hx
  .rw[Zj.1 hx];exact h i s
def QE:wZ 23:=wQ
def Jp(O:Ord N)(q:Option Y0)(n c:Nat)(hn:n<=64)(V:Nat->Nat->Bs)(hV:∀i s,(V i s).size=33)(x:Nat->XB)(X:Bs)(hX:X.size=33)(w:XA)(hq:0<n->∃g,q=some (aZ g)/\g<w.heap.size/\∀i,i<n->w.cell? ⟨g,i,none⟩=some (x i))(j:∀i,∃q n c,x i=.slice q n c)
 (hR:∀i W,i<n->kZ w W->cZ 30 #[x i] W (rZ W λe w'=>∃K,e=.tuple #[sZ K 2 2,tZ]/\W.heap.size<=K/\K<w'.heap.size/\∀s,s<2->w'.rangeAt K (33*s) (aA (V i s))))
 (hP:∀(v:XB) (W:XA),SmZ 0 W v (tmP (λi s=>(sdW N s,V i s)) n)->(n=0->v=nZ)->cZ 33 #[v] W (rZ W λe w'=>e=pvl X)) :
 cZ 13 #[.slice q n c] w (rZ w λe w'=>e=.tuple #[pvl X,tZ]):=by
 obtain⟨f,hf⟩:=hE (λi s=>(sdW N s,V i s));rw[hf.out]at hP;have a:∀i s,(f i s).2.size=33:=λi s=>hf.out▸hV i s
 have HS:=mk1 (λW=>v9 O W);refine hG w.heap.size λo E=>?_
 refine hG (lZ w z33 51) λw1 J=>?_
 have K1:=mk1 ((Mp.start w).new E J);have T:=mk3 hq j (YV hR hP);have S0:Hid (SmZ 0 w1 nZ (tmP f 0)/\Mp w w1 [(o,z33)] []):=⟨Ye ⟨rfl,rfl⟩,K1⟩
 clear hq j hR hP K1;go_enter func13,ntmps13;refine PW.bg [] ?_;refine PW.al E J ?_;refine PW.en [fZ] ?_;refine PW.rg [nZ] ?_;refine XG<|PW.rg [iZ n,iZ 0] ?_
 apply YX;go_loopg [4,13] n (λgk s4 s13 wr=>∃i:Nat,i+gk=n/\s13=iZ i/\(i=0->s4=nZ)/\Hid (SmZ 0 wr s4 (tmP f i)/\Mp w wr [(o,z33)] []))
 case atStart=>exact⟨0,oM,rfl,λ_=>rfl,S0⟩
 case round =>
  obtain⟨i,h7,rfl,hz,k⟩:=hrel;by_cases hi:i<n
  .clear hz;have z:(i:Int)<(n:Int):=oM;have Z:Ya.wrap ((i:Int)+1)=((i+1:Nat):Int):=by rw[YD];omega
   obtain⟨g,rfl,hg,hx⟩:=T.1 oM;have cx:wr.cell? ⟨g,i,none⟩=some (x i):=by rw[k.out.2.bl.cell (p:=⟨g,i,none⟩) hg];exact hx i hi
   have I:=T.2.2.1 i wr hi k.2.bl;obtain⟨q8,n8,c8,ex⟩:=T.2.1 i;rw[ex]at cx I;refine PW.bg [.bool (decide ((i:Int)<(n:Int)))] ?_;rw[decide_eq_true z];refine PW.dn ?_;refine XG<|Yy rfl<|YU<|XG<|YX<|PW.bg [] ?_
   refine PW.ns (UN (g:=g) (n:=n) (c:=c) (i:=i) hi (w:=wr)) ?_;refine PW.ce cx QE ?_;refine PW.en [.slice q8 n8 c8] ?_;refine PW.bg [] ?_;refine PW.ca I ?_;rintro e F ⟨Q,K,rfl,-,lK,rK⟩;have G:=mk2 (k.1.grow Q) (k.2.grow Q);have RK:=mk1 rK;refine PW.en [sZ K 2 2,tZ,sZ K 2 2,tZ] ?_;refine XG<|PW.rg [fZ] ?_
   refine Yb rfl<|YU<|PW.bg [] ?_
   refine PW.ca (HS F) ?_;rintro e w6 ⟨r,U,rfl,h2,H⟩;refine PW.en [iZ 2,iZ 0] ?_;obtain⟨h0,h9⟩:∃x,x=gk:=⟨_,rfl⟩
   have S6:=mk3 (G.1.grow r) (G.2.add r H h2) r;apply YX;go_loopg [4,27] 2 (λgk s4 s27 wr=>∃s:Nat,s+gk=2/\s27=iZ s/\Hid (SmZ 0 wr s4 (tmQ f i s)/\Mp w wr [(o,z33),(U,sdC N 0++sdC N 1)] []/\kZ F wr))
   case atStart=>exact⟨0,oM,rfl,S6⟩
   case round =>
    obtain⟨s,h6,rfl,k⟩:=hrel;by_cases j:s<2
    .have L:(s:Int)<2:=oM;have h1:Ya.wrap ((s:Int)+1)=((s+1:Nat):Int):=by rw[YD];omega
     have d:=hV i s;have iV:(prog.info? 51).map (·.size)=some (aA (V i s)).length:=by rw[aB d];exact iCP
     have h3:f i s=(sdW N s,V i s):=by rw[<-hf.out]
     refine hG wr.heap.size λt b=>?_
     refine hG (lZ wr z7 61) λw7 u=>?_
     refine hG (w7.setCells t 0 (sdC N s)) λw8 m=>?_
     have M7:=mk1 (k.2.1.new b u);have A:=mk1 (M7.put 2 m);have Q8:=mk1 (((Mp.start wr).new b u).put 0 m).bl;have R0:=FO j (k.2.1.at_ 1);have R:=mk1 (k.2.2.trans (Q8.mono k.2.2.size));have S8:=mk1 (k.1.grow Q8);obtain⟨vs,B⟩:=hE (X9 (sdC N s).toArray);obtain⟨vp,C⟩:=hE (pvl (V i s));obtain⟨vw,M⟩:=hE (nv (sdW N s));have HT:Hid (∀W,cZ 32 #[vp,vw] W (rZ W λe w'=>Sm W.heap.size w' e [f i s])):=by rw[<-C.out,<-M.out,h3];exact λW=>Aw (a:=(V i s)) d (n:=(sdW N s)) (w:=W)
     have RV:w8.rangeAt K (0+33*s) (aA (V i s)):=by
      rw[XI];exact range_below (RK s j) R lK
     have h4:=XC lK R.size;refine PW.bg [.bool (decide ((s:Int)<2))] ?_;rw[decide_eq_true L];refine PW.dn ?_;refine XG<|Yy rfl<|YU<|XG<|YX<|PW.bg [] ?_
     refine PW.ns (Gy (g:=U) (i:=s) j (w:=wr)) ?_;refine PW.ro R0 B uSd iSd ?_;refine PW.al b u ?_;refine PW.go [iZ s] ?_;refine PW.st m B (M7.th 2) iSd (Bj (i:=s)) ?_;refine PW.dn ?_;refine AW.beg 9 9 (J:=⟨λW=>kZ w8 W,λ_ _ l h=>h.trans (l.mono h.size),false⟩) ⟨rfl,rfl,rfl,XD _,λ_ _=>rfl⟩ ?_;refine AW.mv 0 ?_;refine AW.mv 1 ?_;refine AW.mv 2 ?_;refine AW.iv 3 (atP (k:=K) (o:=0) (n:=2) (c:=2) (i:=s) j) ?_;refine AW.ro 4 (λW l=>range_below RV l h4) C uCP iV ?_;refine AW.va 5 (oZ t 3) ?_;refine AW.ro 6 (λW l=>rnB (xs:=[.string (sdL s),.string (sdP s),.func (.func (sdA s)) #[] #[]]) ((A.at_ 2).below l).2.1 rfl) M rSc nSc ?_;refine AW.ca 7 (λ_=>HT _) (λe w' h=>h.1) ?_;rintro e W1 ⟨ha,h5⟩;refine AW.ca 8 (λl=>bY 0 u4 e (tmQ f i s) [f i s] (by simp) (by rw[FD];omega) (show 1<=500 by decide) (Jk a (i:=i) s) (λy hy=>by rw[Zj.1 hy];exact a i s) W1 (S8.grow l) (X7 (h5.mono (Zl _)))) (λe w' h=>h.1) ?_;rintro e' S ⟨h8,Y⟩;refine AW.nx 9 e' ?_;refine AW.dn λhJ=>?_
     have D:kZ w8 S:=hJ;have S9:Hid (SmZ 0 S e' (tmQ f i (s+1))/\Mp w S [(o,z33),(U,sdC N 0++sdC N 1)] []/\kZ F S):=⟨X7 (Y.mono (Zl _)),Mp.pop (x:=(t,sdC N s)) (A.grow D),R.trans (D.mono R.size)⟩
     refine PW.bb (P:=prog) [iZ (Ya.wrap ((s:Int)+1))] ?_;rw[h1];go_wp2;go_roundg (gk-1)
     case measure=>omega
     case rel=>exact⟨s+1,oM,rfl,S9⟩
    .have L:¬(s:Int)<2:=oM;obtain rfl:s=2:=oM;have S9:Hid (SmZ 0 wr u4 (tmP f (i+1))/\Mp w wr [(o,z33)] []):=⟨k.1,Mp.pop (x:=(U,sdC N 0++sdC N 1)) k.2.1⟩
     refine PW.rg [fZ] ?_;refine XG<|Yb rfl<|yAC<|PW.bb (P:=prog) [iZ (Ya.wrap ((i:Int)+1))] ?_
     rw[Z];go_wp2;go_roundg (h0-1)
     case measure=>omega
     case rel=>exact⟨i+1,oM,rfl,nofun,S9⟩
  .have z:¬(i:Int)<(n:Int):=oM;obtain rfl:i=n:=oM;obtain⟨C,b⟩:=hE (pvl X);have d:=T.2.2.2 u4 wr k.1 hz;rw[b.out]at d⊢;have t:gZ 51 (aA X).length:=by rw[aB hX];exact iCP
   have u:=aB hX;refine PW.bg [.bool (decide ((i:Int)<(i:Int)))] ?_;rw[decide_eq_false z];refine PW.dn ?_;refine XG<|Yb rfl<|yAC<|PW.bg (P:=prog) [] ?_
   refine PW.gi d λw8 m=>?_
   refine hG (w8.setCells o 0 (aA X)) λB l=>?_
   have A:=mk1 (k.2.grow m);have r:=mk1 (A.put 0 l rfl u);refine PW.st l b (A.th 0 rfl u) t bN ?_;refine PW.en [tZ] ?_;refine Za<|XN (results_ct 2 3 51 rfl (show Row B o (aA X) from r.at_ 0) rfl rfl uCP t) rfl ?_
   exact⟨_,rfl,r.bl,by rw[<-b.out];rfl⟩
end
section
namespace TG
def Row(W:XA)(k:Nat)(vs:List XB):Prop:=k<W.heap.size/\W.rangeAt k 0 vs/\W.there k 0 vs.length
def row_new(w:XA)(c:List XB)(T:Yd):Row (w.alloc (.cells c.toArray T)) w.heap.size c:=
 have h:=Made.alloc w c T
 ⟨h.lt,h.range,h.there⟩
def results_ct{P:YJ}{c:Func}{tmps:Array XB}{W:XA}{k:Nat}{vs:List XB}{v:XB}(t u:Tmp)(T:Yd)(f:c.results=#[.cell t T,.tmp u])(h:Row W k vs)(e:tmps[t]? = some (jZ k))(hv:tmps[u]? = some v)
 (b:(P.underlying T).map (·.isRow)=some true) (g:(P.info? T).map (·.size)=some vs.length):(results c tmps).run P W=.ok (.tuple #[.agg vs.toArray,v]) W:=by
 obtain⟨d,b,hd⟩:=XE.1 b;have i:=run_loadVar_mid (P:=P) W k 0 T vs d h.2.1 b hd g;have j:tmps.getD t undef=jZ k:=by rw[XQ,e];rfl
 have l:tmps.getD u undef=v:=by rw[XQ,hv];rfl
 unfold results;rw[f];simp only[Array.mapM_eq_mapM_toList,List.mapM_cons,List.mapM_nil,j,l,asAddr];simp[X1,i]
def below2(w:XA)(a b:Obj):kZ w ((w.alloc a).alloc b):=((XR _ _).alloc (XD _) _).alloc (by rw[XP];exact Nat.le_succ _) _
end TG
namespace TG
def PS(w:XA)(v:XB)(T:Bs):Prop:=Aa w v T.toList
def Slc(v:XB):Prop:=∃q n c,v=.slice q n c
def Two(w:XA)(r:Nat):Prop:=∃x y,Slc x/\Slc y/\Row w r [x,y]
def Ex(r K i:Nat)(w w':XA):Prop:=kZ w w'\/(i=K/\Two w r/\∃x y,Slc x/\Slc y/\w'=w.setCells r 0 [x,y])
def Bx(c:XA)(r i:Nat)(d k b:XB)(e g f:Bs)(w:XA):Prop:=kZ c w/\Row w i [k,b]/\Two w r/\PS w d e/\PS w k g/\PS w b f
def Fin2(r:Nat)(b k:Bs)(w:XA):Prop:=∃x y,Row w r [x,y]/\PS w x b/\PS w y k
def Xy(w:XA)(v:XB)(b k:Bs):Prop:=∃x y,v=.agg #[x,y]/\PS w x b/\PS w y k
def F9(j:XA)(r d:Nat)(c f g:XB)(e b k:Bs)(ok:Bool):Flow where
 R i v w:=match i with
  | 0=>v=c
  | 1=>v=jZ d
  | 2=>v=f
  | 3=>PS w v (nV e b)
  | 4=>v=c
  | 5=>v=oZ d 1
  | 6=>v=g
  | 7=>PS w v (nV e k)
  | 8=>Xy w v (nV e b) (nV e k)
  | 9=>v=.bool ok
  | 10=>Fin2 r (nV e b) (nV e k) w
  | _=>v=.bool ok
 B _ w:=Bx j r d c f g e b k w
 E:=Ex r 10
 kill _:=[]
 killB _:=[]
end TG
end
def Kl:Bs:=iU [110,111,110,101] []
def Ep:Kl.size=32:=bR
def eF(S:Nat->Bs)(a n:Nat):Bs:=
 if _h0:n=0 then Kl else if _h1:n=1 then CU (S a) else nV (eF S a (hf n)) (eF S (a+hf n) (n-hf n))
termination_by n
decreasing_by all_goals (have:=Lc (n:=n) oM;omega)
def NL(S:Nat->Bs)(a:Nat):eF S a 0=Kl:=by rw[eF,dif_pos rfl]
def NK(S:Nat->Bs)(a:Nat):eF S a 1=CU (S a):=by rw[eF,dif_neg dC,dif_pos rfl]
def NJ(S:Nat->Bs)(a n:Nat)(h:2<=n):eF S a n=nV (eF S a (hf n)) (eF S (a+hf n) (n-hf n)):=by rw[eF,dif_neg oM,dif_neg oM]
def jO(S:Nat->Bs)(a n:Nat):(eF S a n).size=32:=by
 rw[eF];by_cases b:n=0
 .rw[dif_pos b];exact Ep
 .rw[dif_neg b];by_cases k:n=1
  .rw[dif_pos k];exact EB
  .rw[dif_neg k];exact Er
def I2(w:XA)(T:Bs)(e:XB)(w':XA):Prop:=kZ w w'/\∃r,e=sZ r 32 32/\w.heap.size<=r/\hZ w' r 0 T
def Bt{w:XA}{r:Nat}{T:Bs}(k:T.size=32)(h:hZ w r 0 T):PartOk w (sZ r 32 32) T.toList:=
 ⟨_,r,0,32,T,by rw[k],rfl,by rw[k];exact XD _,by rw[k];decide,X7 ⟨rfl,h⟩⟩
def EA(q:Option Y0)(n c:Nat)(b:Bs)(w:XA)(hv:PartOk w (.slice q n c) b.toList):cZ 47 #[.slice q n c] w (Ret (I2 w (CU b))):=by
 obtain⟨i,d⟩:=hE (w.alloc (.cells #[.slice q n c] 23));have o:=Made.alloc w [.slice q n c] 23;have k:Made w w.heap.size [.slice q n c] i:=d.out▸o;have p:=kO ⟨#[108,101,97,102]⟩ (some (aZ w.heap.size)) 1 [b.toList] i dC (YL rfl) (X7 ⟨_,_,rfl,λj s=>by
  have f:j=0:=by simpa using s
  subst f;exact⟨_,k.range 0 _ rfl,hv.below k.bel⟩⟩)
 have g:=mk1 (k.bel);go_enter func47,ntmps47;go_wp2_with fail
 rw[d.out];refine p.mono ?_;rintro e t ⟨r,rfl,m,f,l⟩;have K:=mk3 (g.trans (f.mono g.size)) (XH g.size m) l;go_wp2_with fail
 go_ret;exact⟨_,rfl,K.1,_,rfl,K.2.1,K.2.2⟩
def RO(q f:Option Y0)(n c d i:Nat)(b o:Bs)(w:XA)(hv:PartOk w (.slice q n c) b.toList)(m:PartOk w (.slice f d i) o.toList):cZ 49 #[.slice q n c,.slice f d i] w (Ret (I2 w (nV b o))):=by
 obtain⟨s,g⟩:=hE (w.alloc (.cells #[.slice q n c,.slice f d i] 23));have v:=Made.alloc w [.slice q n c,.slice f d i] 23;have k:Made w w.heap.size [.slice q n c,.slice f d i] s:=g.out▸v;have x:=kO ⟨#[110,111,100,101]⟩ (some (aZ w.heap.size)) 2 [b.toList,o.toList] s dC (YL rfl) (X7 ⟨_,_,rfl,λj y=>by
  have l:j=0\/j=1:=by simp at y;omega
  rcases l with rfl|rfl
  .exact⟨_,k.range 0 _ rfl,hv.below k.bel⟩
  .exact⟨_,k.range 1 _ rfl,m.below k.bel⟩⟩)
 have p:=mk1 (k.bel);go_enter func49,ntmps49;go_wp2_with fail
 rw[g.out];refine x.mono ?_;rintro e z ⟨r,rfl,u,l,t⟩;have K:=mk3 (p.trans (l.mono p.size)) (XH p.size u) t;go_wp2_with fail
 go_ret;exact⟨_,rfl,K.1,_,rfl,K.2.1,K.2.2⟩
def Lf(b d n c:Nat)(f:2<=n)(l:n<=1048576)(o:n<=c)(w:XA):YN prog 48 #[.slice (some ⟨b,d,none⟩) n c] w (Ret λe w'=>Below w.heap.size w w'/\e=.tuple #[.slice (some ⟨b,d,none⟩) (hf n) c,.slice (some ⟨b,d+hf n,none⟩) (n-hf n) (c-hf n)]):=by
 have hh:=Su n f l w;have g:=Lc f;generalize hf n=k at hh g⊢;have m:∀w:XA,(Zy 27 (.slice (some ⟨b,d,none⟩) n c) none (some (.int .i64 k)) none).run prog w=.ok (.slice (some ⟨b,d,none⟩) k c) w:=λw=>by
  have i:(k:Int)<=c:=oM;go_simp
 have j:∀w:XA,(Zy 27 (.slice (some ⟨b,d,none⟩) n c) (some (.int .i64 k)) none none).run prog w=.ok (.slice (some ⟨b,d+k,none⟩) (n-k) (c-k)) w:=λw=>by
  have i:(k:Int)<=n:=oM;have f:(n:Int)<=c:=oM;have p:¬c=k:=oM;go_simp
 go_enter func48,ntmps48;go_wp2_with fail
 refine hh.mono ?_;rintro e w' ⟨rfl,rfl⟩;go_wp2_with fail
 go_quiet (fail);go_wp2
 go_ret2
 exact⟨_,rfl,⟨rfl,rfl,rfl,XD _,λ_ _=>rfl⟩,rfl⟩
def Lists.part{w:XA}{c b n k:Nat}{S:Nat->Bs}{a:Nat}(h:Lists w (some ⟨c,b,none⟩) n (λj=>S (a+j)))(l:k<=n):Lists w (some ⟨c,b+k,none⟩) (n-k) (λj=>S (a+k+j)):=λm=>by
 obtain⟨i,f,e,g,d⟩:=h oM;cases e
 refine⟨c,b+k,rfl,g,λj o=>?_⟩;have:=d (k+j) oM;rw[<-ZB]at this;show ∃v,_/\Aa w v (S (a+k+j)).toList;rw[ZB a k j];exact this
def Rh(S:Nat->Bs):∀(N n a:Nat) (q:Option Y0) (c:Nat) (w:XA),n<=N->n<=1048576->n<=c->Lists w q n (λj=>S (a+j))->cZ 24 #[.slice q n c] w (Ret (I2 w (eF S a n))):=by
 intro N;induction N with
 | zero =>
  intro n a q c w Y _ _ _;obtain rfl:n=0:=oM;rw[NL];have b:=kO ⟨#[110,111,110,101]⟩ none 0 [] w dC (YL rfl) (Ye rfl);go_enter func24,ntmps24;go_wp2_with fail
  refine b.mono ?_;rintro e o ⟨r,rfl,l,d,i⟩;have K:=mk3 d l i;go_wp2;go_ret;exact⟨_,rfl,K.1,_,rfl,K.2.1,K.2.2⟩
 | succ N ih =>
  intro n a q c w Y T R f;by_cases h0:n=0
  .exact ih n a q c w oM T R f
  obtain⟨t,x,rfl,W,b⟩:=f oM;by_cases Z:n=1
  .subst Z;rw[NK];obtain⟨v,hv,⟨m,p,s,rfl⟩,g⟩:=b 0 oM;have u:=EA m p s (S a) w g;have y:w.cell? ⟨t,x,none⟩=some (.slice m p s):=hv;clear g f b ih hv;go_enter func24,ntmps24;go_wp2_with fail
   refine u.mono ?_;rintro e o ⟨v2,rfl,d,r,rfl,l,i⟩;have K:=mk3 d l i;go_wp2;go_ret;exact⟨_,rfl,K.1,_,rfl,K.2.1,K.2.2⟩
  .rw[NJ S a n oM];have L:=Lc (n:=n) oM;have z:=Hid.mk2 (Lf t x n c oM T R w);have D:Hid (∀w',kZ w w'->cZ 24 #[qZ t x (hf n) c] w' (Ret (I2 w' (eF S a (hf n))))):=λw' C=>ih (hf n) a _ c w' oM oM oM ((f.less oM).below C)
   have A:Hid (∀w',kZ w w'->cZ 24 #[qZ t (x+hf n) (n-hf n) (c-hf n)] w' (Ret (I2 w' (eF S (a+hf n) (n-hf n))))):=λw' C=>ih (n-hf n) (a+hf n) _ (c-hf n) w' oM oM oM ((f.part oM).below C)
   have s:=jO S a (hf n);have p:=jO S (a+hf n) (n-hf n);generalize eF S a (hf n)=F at D s⊢;generalize eF S (a+hf n) (n-hf n)=Q at A p⊢;have U:¬(n:Int)=1:=oM;have g0:((n:Int) == 1)=false:=by simpa using U
   have P:¬(n:Int)=0:=oM;have g3:((n:Int) == 0)=false:=by simpa using P
   clear f b ih L U P;generalize hf n=k at z D A;go_enter func24,ntmps24;go_wp2_with fail
   refine z.mono ?_;rintro e M ⟨v1,rfl,g,rfl⟩;have E:Hid (kZ w M):=g;clear g z;go_wp2_with fail
   apply(D M E).mono;rintro e o ⟨v2,rfl,d,B,rfl,V,I⟩;have i:Hid (kZ w o/\hZ o B 0 F):=⟨E.trans (d.mono E.size),I⟩
   go_wp2_with fail
   apply(A o i.1).mono;rintro e u ⟨v3,rfl,l,O,rfl,X,G⟩;have m:Hid (kZ w u/\hZ u B 0 F/\hZ u O 0 Q):=⟨i.1.trans (l.mono i.1.size),Holds.below i.2 l (Holds.lt i.2 oM),G⟩
   go_wp2_with fail
   apply(RO (some (aZ B)) (some (aZ O)) 32 32 32 32 F Q u (Bt s m.2.1) (Bt p m.2.2)).mono;rintro e w4 ⟨v4,rfl,J,r4,rfl,K,y⟩;have H:=mk3 (m.1.trans (J.mono m.1.size)) (XH m.1.size K) y;go_wp2;go_ret;exact⟨_,rfl,H.1,_,rfl,H.2.1,H.2.2⟩
def HL(W:XA)(B U:Nat)(v:XB)(L:List Bs):Prop:=
 (L=[]/\v=nZ)\/∃(g cap:Nat) (vs:List XB) (cur:Array XB) (k:Nat->Nat),v=sZ g L.length cap/\vs.length=L.length/\0<L.length/\B<=g/\ListAt W g cap vs cur/\(∀j,j<L.length->vs[j]! = sZ (k j) 32 32/\B<=k j/\k j<U/\L[j]!.size=32/\hZ W (k j) 0 L[j]!)/\∀i j,i<j->j<L.length->k i<k j
def MA{S:Nat->Bs}{n c:Nat}{q:Option Y0}{w:XA}(f:n<=1024)(b:n<=c)(d:Lists w q n S):cZ 8 #[.slice q n c] w (Ret λe w'=>∃v,e=.tuple #[v,iZ 0]/\I2 w (eF S 0 n) v w'):=by
 have hR:=Rh S n n 0 q c w (XD _) oM b (by simpa using d);go_enter func8,ntmps8;go_wp2_with fail
 refine hR.mono ?_;rintro e g ⟨v2,rfl,k⟩;have K:=mk1 (k);go_wp2
 go_ret2
 exact⟨_,rfl,_,rfl,K⟩
section
open SPA
structure EnL(w W:XA)(i:Nat)(v:XB)(B:Nat->Bs):Prop where
 bl:kZ w W
 ex:∃xs,W.ownsRow w.heap.size 23 1 v i xs/\∀j,j<i->∃x,xs[j]? = some x/\ElQ (λg=>w.heap.size<=g/\v.ownBlock≠some g) 1313 W x (B j)
section
variable {w W W':XA}{i:Nat}{v:XB}{B:Nat->Bs}
def EnL.grow(h:EnL w W i v B)(k:kZ W W'):EnL w W' i v B:=by
 obtain⟨xs,b,l⟩:=h.ex;refine⟨h.bl.trans (k.mono h.bl.size),xs,bE b λg e=>k.block g (bQ b e).2.1,λj f=>?_⟩;obtain⟨x,d,c⟩:=l j f;exact⟨x,d,c.keep (Kq.of_below k)⟩
def EnL.qn(h:EnL w W i v B):∀g,W.heap.size<=g->v.ownBlock≠some g:=λg b e=>by
 obtain⟨xs,k,-⟩:=h.ex;have:=(bQ k e).2.1;omega
def EnL.app{x:XB}{ga:Nat}(h:EnL w W i v B)(hx:ElQ (λg=>w.heap.size<=g/\v.ownBlock≠some g) 1313 W x (B i))(a:W.cell? ⟨ga,0,none⟩=some x)(D:i<=900):
 ∃d W',(YG #[27,27] 27 #[v,sZ ga 1 1]).run prog W=.ok d W'/\EnL w W' (i+1) d B/\W.heap.size<=W'.heap.size/\∀k,k<W.heap.size->v.ownBlock≠some k->W'.heap[k]? = W.heap[k]?:=by
 obtain⟨xs,l,z⟩:=h.ex;obtain⟨d,W',C,t,b⟩:=B6 l hx.one.2 a oM h.bl.size;have p:∀g,g<W.heap.size->(w.heap.size<=g/\v.ownBlock≠some g)->w.heap.size<=g/\d.ownBlock≠some g:=λg c q=>⟨q.1,λe=>by
  rcases b.mv with m|⟨⟨n,m,f⟩,-⟩
  .rw[m]at e;exact q.2 e
  .rw[m]at e;have:=XX.inj e;omega⟩
 have kq:Kq (λg=>w.heap.size<=g/\d.ownBlock≠some g) W W':=⟨b.size,λg q c=>by
  rcases b.mv with m|⟨-,m⟩
  .exact b.keep g c (by rw[<-m];exact q.2)
  .exact m g c⟩
 have f:∀g,v.ownBlock=some g->w.heap.size<=g:=λg c=>(bQ l c).1
 refine⟨d,W',C,⟨⟨b.os.trans h.bl.os,b.tape.trans h.bl.tape,b.output.trans h.bl.output,XH h.bl.size b.size,λg c=>(b.keep g (XC c h.bl.size) λe=>oN (f g e)).trans (h.bl.block g c)⟩,xs++[x],t,λj E=>?_⟩,b.size,λk u o=>b.keep k u o⟩;have r:xs.length=i:=oN l.1;by_cases n:j<i
 .obtain⟨y,A,s⟩:=z j n;exact⟨y,by rw[XY oM];exact A,(s.mono2 p).keep kq⟩
 .obtain rfl:j=i:=oM;exact⟨x,by rw[XW oM,r,Nat.sub_self];rfl,(hx.mono2 p).keep kq⟩
def EnL.set{k:Nat}{us:List XB}(h:EnL w W i v B)(n:k<w.heap.size):∃d xs,(W.setCells k 0 us).ownsRow d 23 1 v i xs/\∀j,j<i->∃x,xs[j]? = some x/\ElQ (λ_=>True) 1313 (W.setCells k 0 us) x (B j):=by
 obtain⟨xs,c,m⟩:=h.ex;refine⟨_,xs,bE c λg b=>aE us 0 W g (oN ((bQ c b).1)),λj l=>?_⟩;obtain⟨x,f,e⟩:=m j l;exact⟨x,f,(e.keep ⟨by rw[setCells_size];exact XD _,λg b _=>aE us 0 W g (oN b.1)⟩).mono2 λ_ _ _=>trivial⟩
def AC{Q:Nat->Prop}{r:Nat}{xs:List XB}(b:W.ownsRow r 23 1 v i xs)(m:∀j,j<i->∃x,xs[j]? = some x/\ElQ Q 1313 W x (B j)):∃q c,v=.slice q i c/\i<=c/\Lists W q i B/\(0<i->∃g,q=some (aZ g)/\g<W.heap.size/\∀j,j<i->∃x,W.cell? ⟨g,j,none⟩=some x/\ElQ Q 1313 W x (B j)):=by
 rcases id b with⟨t,⟨rfl,o⟩|⟨g,cap,cur,rfl,-,-,s,-⟩⟩
 .exact⟨none,0,by rw[o],oM,λd=>absurd d oM,λd=>absurd d oM⟩
 .refine⟨_,cap,rfl,s,λd=>⟨g,0,rfl,(bQ b rfl).2.1,λj l=>?_⟩,λd=>⟨g,rfl,(bQ b rfl).2.1,λj l=>?_⟩⟩
  .obtain⟨x,f,e⟩:=m j l;refine⟨x,by rw[XI];exact jI b f,?_⟩;obtain⟨k,c,rfl,u,n,-,-,p⟩:=e;exact⟨⟨_,_,_,rfl⟩,some (aZ k),k,0,c,B j,by rw[n],rfl,oM,oM,X7 ⟨rfl,p⟩⟩
  .obtain⟨x,f,e⟩:=m j l;exact⟨x,jI b f,e⟩
def EnL.lists(h:EnL w W i v B):∃q c,v=.slice q i c/\i<=c/\Lists W q i B:=by
 obtain⟨xs,e,f⟩:=h.ex;obtain⟨q,c,d,b,k,-⟩:=AC e f;exact⟨q,c,d,b,k⟩
end
end
section
open SPA
def zcl:List XB:=[iZ 0,nZ,uZ 0,nZ]
def uCl:yZ 29:=yQ
def iCl:gZ 29 4:=gQ
def OM(O:Ord N)(n c:Nat)(q:Option Y0)(K A B:Nat->Nat)(hn:n<=64)(hK:∀i,1<=K i/\K i<=3)(hA:∀i,A i<4294967296)(hB:∀i,B i<4294967296)(E:aV A n<=aV B n)(z:Bs)(h3:z.size=32)(V:Option Y0)(sc:Nat)(o:Nat->Bs)(w:XA)(hL:OpL w q n K A B)(hs:PartOk w (.slice V 32 sc) z.toList)
 (hW:∀i W,i<n->kZ w W->cZ 7 #[.slice V 32 sc,.int .u32 i,.agg (opC (K i) (A i) (B i)).toArray] W (rZ W λe w'=>ElQ (W.heap.size<=·) 1313 w' e (o i))) :
 cZ 4 #[.slice V 32 sc,.slice q n c] w (rZ w λe w'=>∃v r b B0 xs,e=.tuple #[v,.agg #[iZ n,sZ r 32 32,uZ ((aV B n-aV A n:Nat):Int),b],iZ 0]/\(w'.ownsRow B0 23 1 v n xs/\∀j,j<n->∃x,xs[j]? = some x/\ElQ (λ_=>True) 1313 w' x (o j))/\hZ w' r 0 (eF o 0 n)/\r<w'.heap.size/\ElQ (λ_=>True) 32 w' b (bx (opA N (blW N z) n))):=by
 refine hG w.heap.size λT G=>?_
 refine hG (lZ w zcl 29) λw1 Q=>?_
 have K1:=mk1 ((Mp.start w).new G Q);have R:=mk1 (VB O n c q K A B hn hK hA hB E w1 (hL.below K1.bl));have a:=mk1 (λ(W:XA) (hb:kZ w W)=>Im O n hn z h3 V sc W (hs.below hb));have X:=mk3 hL hW (Kb O (f:=(blW N z)) n);have h0:decide ((64:Int)<(n:Int))=false:=decide_eq_false oM;generalize hT:(aV B n-aV A n:Nat)=tot at R⊢;generalize opA N (blW N z) n=bl at X a⊢;clear hL hW hs hK hA hB E;go_enter func4,ntmps4;refine PW.bg [nZ] ?_;refine PW.al G Q ?_;refine PW.en [iZ 0] ?_;refine XG<|PW.rg [iZ 32,fZ] ?_
 refine Yb rfl<|YU<|XG<|PW.bg [iZ n,.bool (decide ((64:Int)<(n:Int)))] ?_
 rw[h0];refine PW.dn ?_;refine Yb rfl<|YU<|PW.bg [] ?_
 refine PW.gi R λY h4=>?_
 refine PW.en [uZ tot,iZ 0,uZ tot,iZ 0] ?_;refine XG<|PW.rg [fZ] ?_
 refine Yb rfl<|YU ?_
 have u:=mk1 (K1.grow h4);have E0:Hid (EnL Y Y 0 nZ o):=⟨XR _ _,[],⟨rfl,Ye ⟨rfl,rfl⟩⟩,λj hj=>absurd hj (ZP _)⟩
 refine XG<|PW.rg [iZ n,iZ 0] ?_
 apply YX;go_loopg [4,32] n (λgk s4 s32 wr=>∃i:Nat,i+gk=n/\s32=iZ i/\Hid (EnL Y wr i s4 o))
 case atStart=>exact⟨0,oM,rfl,E0⟩
 case round =>
  obtain⟨i,hl,rfl,s⟩:=hrel;by_cases hi:i<n
  .have t:(i:Int)<(n:Int):=oM;have ha:Ya.wrap ((i:Int)+1)=((i+1:Nat):Int):=by rw[YD];omega
   have Z:yCS.wrap (i:Int)=(i:Int):=by rw[IntKind.wrap_u32];omega
   have bw:=mk1 (u.bl.trans (s.bl.mono u.bl.size));obtain⟨g,rfl,hg,h9⟩:=(X.1.below bw) oM;refine hG wr.heap.size λh6 f=>?_
   refine hG (lZ wr z3 26) λw4 y=>?_
   refine hG (w4.setCells h6 0 (opC (K i) (A i) (B i))) λw5 H=>?_
   have M4:=mk1 ((Mp.start wr).new f y);have M5:=mk1 (M4.put 0 H);have R0:=h9 i hi;obtain⟨vo,d⟩:=hE (X9 (opC (K i) (A i) (B i)).toArray);have C:=X.2.1 i w5 hi (bw.trans (M5.bl.mono bw.size));rw[d.out]at C;have l:=mk1 (s.grow M5.bl);refine PW.bg [.bool (decide ((i:Int)<(n:Int)))] ?_;rw[decide_eq_true t];refine PW.dn ?_;refine XG<|Yy rfl<|YU<|XG<|YX<|PW.bg [] ?_
   refine PW.ns (P0 (g:=g) (n:=n) (c:=c) (i:=i) hi (w:=wr)) ?_;refine PW.ro R0 d uOp iOp ?_;refine PW.al f y ?_;refine PW.go [iZ i] ?_;refine PW.st H d (M4.th 0) iOp Bv ?_;refine PW.dn ?_;refine PW.bb (P:=prog) [.int .u32 (yCS.wrap (i:Int))] ?_;rw[Z];refine PW.ro (M5.at_ 0).2.1 d uOp iOp ?_;refine PW.ca C ?_;rintro e m ⟨U,I⟩;have L:=l.grow U;have D:=I.mono2 (Q':=λg=>Y.heap.size<=g/\u4.ownBlock≠some g) λg' _ J=>⟨XH l.bl.size J,l.qn g' J⟩
   have h5:∃p n c,e=.slice p n c:=by obtain⟨k,c,rfl,-⟩:=I;exact⟨_,_,_,rfl⟩
   have bs:=Xj (x:=e) h5 m;have bb:=aD (w:=m) (.cells #[e] 23);obtain⟨v',w8,M,S,-,-⟩:=(L.grow bb).app (ga:=m.heap.size) (D.keep (Kq.of_below bb)) ((row_new m [e] 23).2.1 0 _ rfl) oM;refine hG m.heap.size λhp F=>?_
   refine hG (m.alloc (.cells #[e] 23)) λw7 h8=>?_
   rw[F.out,h8.out]at bs M;have KF:=mk1 S;refine PW.ns bs ?_;refine PW.ns M ?_;refine PW.en [v'] ?_;refine PW.bb (P:=prog) [iZ (Ya.wrap ((i:Int)+1))] ?_;rw[ha];go_wp2;go_roundg (gk-1)
   case measure=>omega
   case rel=>exact⟨i+1,oM,rfl,KF⟩
  .have t:¬(i:Int)<(n:Int):=oM;obtain rfl:i=n:=oM;obtain⟨q4,c4,rfl,h2,he⟩:=s.lists;have h1:=mk1 (MA (S:=o) (n:=i) (q:=q4) (c:=c4) (w:=wr) oM h2 he);have bw:=mk1 (u.bl.trans (s.bl.mono u.bl.size));have Rk:=mk1 ((u.at_ 0).below s.bl);have lk:=(u.at_ 0).1;have Z:=(u.lt (g:=T) (by simp)).1;refine PW.bg [.bool (decide ((i:Int)<(i:Int)))] ?_;rw[decide_eq_false t];refine PW.dn ?_;refine XG<|Yb rfl<|yAC<|PW.bg (P:=prog) [] ?_
   refine PW.ca h1 ?_;rintro e w8 ⟨v8,rfl,l,r,rfl,hm,S⟩;refine PW.en [sZ r 32 32,iZ 0,sZ r 32 32,iZ 0] ?_;obtain⟨vb,D⟩:=hE (nv bl);have J:=a w8 (bw.trans (l.mono bw.size));rw[D.out]at J;have hc:Hid (∀W,cZ 10 #[vb] W (rZ W λe w'=>ElQ (W.heap.size<=·) 32 w' e (bx bl)/\∃g,e=r32 g)):=by rw[<-D.out];exact λW=>eE O X.2.2 W
   refine PW.bg [iZ i,iZ i] ?_;refine PW.gi J λw9 m=>?_
   refine PW.ca (hc w9) ?_;rintro e H ⟨C,F,y,rfl⟩;have bA:=m.trans (C.mono m.size);have bB:=l.trans (bA.mono l.size);refine PW.go [.agg #[iZ i,sZ r 32 32,uZ tot,r32 y],.slice q4 i c4] ?_;refine hG (H.setCells T 0 [iZ i,sZ r 32 32,uZ tot,r32 y]) λf d=>?_
   have I:=Rk.below bB;have hq:=s.bl.size;have h7:Hid (Row f T [iZ i,sZ r 32 32,uZ tot,r32 y]):=d.out▸I.put rfl;have U:=(s.grow bB).set (us:=[iZ i,sZ r 32 32,uZ tot,r32 y]) lk;have M:=Holds.lt S (by rw[jO];decide);have F2:hZ f r 0 (eF o 0 i):=by
    rw[<-d.out];exact eN (Holds.below S bA M) oM
   have F3:ElQ (λ_=>True) 32 f (r32 y) (bx bl):=by
    rw[<-d.out];exact(F.keep ⟨by rw[setCells_size];exact XD _,λg hg _=>aE (k:=T) _ 0 H g (by have:=l.size;have:=m.size;omega)⟩).mono2 λ_ _ _=>trivial
   have F4:kZ w f:=by
    rw[<-d.out];exact RG.below_setCells Z _ _ _ (bw.trans (bB.mono bw.size))
   have F5:r<f.heap.size:=by
    rw[<-d.out,setCells_size];exact XC M bA.size
   rw[d.out]at U;obtain⟨B0,xs,U,hk⟩:=U;have L:=mk3 F4 (YV U hk) (YV F2 (YV F5 F3));have th:=I.2.2;refine PW.st (cs:=[iZ i,sZ r 32 32,uZ tot,r32 y]) d (Hid.mk' rfl) th iCl kR ?_;refine PW.en [iZ 0] ?_;refine Za<|XN (Cp 4 5 6 (T:=29) rfl h7 rfl rfl rfl uCl iCl) rfl ?_
   exact⟨_,rfl,L.1,_,r,r32 y,B0,xs,rfl,L.2.1,L.2.2.1,L.2.2.2.1,L.2.2.2.2⟩
end
section
open SPA
section
variable {P:YJ}{ops:Array Oper}{Q:Exit->Act->XA->Prop}{p r:Nat}{J:Iv}{fuel:Nat}{o:Oper}{listed:Array Bool}{a a':Act}{w w':XA}{d:Option Tmp}{x v:XB}{t:Tmp}{T:Yd}{b off:Nat}{cs:List XB}
def AG.va(i:Nat)(x:XB)(h:AW P ops Q p r J fuel (listed.setIfInBounds i true) a' w)(ho:ops[i]? = some o:=by(simp only[Yj,Yg,Yi])<;>rfl)(hd:o.dst=d:=by rfl)(b:Zc o (yielded ops a.tmps)=true:=by kernel_rfl)(hv:∀w,(Yh a.eval o).run P w=.ok (.value x) w:=by intro _;kernel_rfl)
 (k:a.put d x=a':=by(simp only[Ym,XF,XJ,XL])<;>rfl) (e:aw1 ops p r (fw ops i) i listed=true:=by kernel_rfl) (f:∀c a w,Q (.panic c) (a.put o.dst x) w->Q (.panic c) a w:=by exact λ_ _ _ h=>h):AW P ops Q p r J (fuel+1) listed a w:=
 AW.take i (fw ops i) ho hd (Ye ⟨b,λw _=>hv w⟩) k e f h
def AG.iv(i:Nat){I:Sem XB}(j:∀w,I.run P w=.ok x w)(h:AW P ops Q p r J fuel (listed.setIfInBounds i true) a' w)(ho:ops[i]? = some o:=by(simp only[Yj,Yg,Yi])<;>rfl)(hd:o.dst=d:=by rfl)(e:Zc o (yielded ops a.tmps)=true:=by kernel_rfl)(k:Yh a.eval o=I >>= λv=>pure (Next.value v):=by kernel_rfl)
 (b:a.put d x=a':=by(simp only[Ym,XF,XJ,XL])<;>rfl) (f:aw1 ops p r (fw ops i) i listed=true:=by kernel_rfl) (g:∀c a w,Q (.panic c) (a.put o.dst x) w->Q (.panic c) a w:=by exact λ_ _ _ h=>h):AW P ops Q p r J (fuel+1) listed a w:=
 AW.take i (fw ops i) ho hd (Ye ⟨e,λw _=>by rw[k,X1,j w];rfl⟩) b f g h
def AG.ce(i:Nat)(n:(P.underlying T).map (·.isRow)=some false)(f:∀W,J.p W->W.cell? ⟨b,off,none⟩=some x)(h:AW P ops Q p r J fuel (listed.setIfInBounds i true) a' w)(ho:ops[i]? = some o:=by(simp only[Yj,Yg,Yi])<;>rfl)(hd:o.dst=d:=by rfl)(j:Zc o (yielded ops a.tmps)=true:=by kernel_rfl)(k:o.op=.load T (.tmp t):=by rfl)(hx:a.eval (.tmp t)=oZ b off:=by rfl)
 (g:a.put d x=a':=by(simp only[Ym,XF,XJ,XL])<;>rfl) (l:aw1 ops p r (qw ops J.b p r i) i listed=true:=by kernel_rfl) (m:∀c a w,Q (.panic c) (a.put o.dst x) w->Q (.panic c) a w:=by exact λ_ _ _ h=>h):AW P ops Q p r J (fuel+1) listed a w:=
 AW.take i (qw ops J.b p r i) ho hd (Ye ⟨j,λw e=>by
  unfold Yh;rw[k];dsimp only;rw[hx,X1,eK (f w (Sa.bel e)) n];rfl⟩) g l m h
end
end
section
open SPA
def Vy(a b c d:XB)(w:XA):(Instr.box 29 (.agg #[a,b,c,d])).run prog w=.ok (jZ w.heap.size) (w.alloc (.cells [a,b,c,d].toArray 29)):=kR
def OR(O:Ord N)(n c:Nat)(q:Option Y0)(hn:n<=64)(h4:n<=c)(S:Nat->Bs)(tot s:Nat)(ht:tot<2^64)(Z:s<N)(X:Bs)(H:X.size=33)(rq m:Option Y0)(f p o:Nat)(w:XA)(hL:Lists w q n S)(hr:PartOk w (.slice rq 32 f) (eF S 0 n).toList)(b:Arg w (.slice m p o) (bx s))
 (E:∀W,kZ w W->cZ 13 #[.slice q n c] W (rZ W λe w'=>e=.tuple #[pvl X,tZ])) (hC:Gives 14 #[nv tot,nv s] (pvl X)) :
 cZ 5 #[.slice q n c,.agg #[iZ n,.slice rq 32 f,uZ tot,.slice m p o]] w (rZ w λe w'=>e=tZ):=by
 refine hG w.heap.size λK y=>?_
 refine hG (w.alloc (.cells [iZ n,.slice rq 32 f,uZ tot,.slice m p o].toArray 29)) λI C=>?_
 have J:=mk1 ((Mp.start w).new y C);have F:=Vy (iZ n) (.slice rq 32 f) (uZ tot) (.slice m p o) w;rw[y.out,C.out]at F;have j:=vZ O (k:=(bx s)) (w:=I) (b.below J.bl);rw[kQ O Z]at j;obtain⟨R,d⟩:=hE (nv s);obtain⟨vt,a⟩:=hE (nv tot);obtain⟨g,k⟩:=hE (pvl X);have B:Hid (cZ 11 #[.slice m p o] I (rZ I λe w'=>e=.tuple #[R,tZ])):=d.out▸j;have HO:Hid (∀W,cZ 15 #[uZ tot] W (rZ W λe w'=>e=vt)):=a.out▸rQ tot ht;have HC:Hid (∀W,cZ 14 #[vt,R] W (rZ W λe w'=>e=g)):=a.out▸d.out▸k.out▸hC;have U:Hid (∀W,kZ w W->cZ 13 #[.slice q n c] W (rZ W λe w'=>e=.tuple #[g,tZ])):=k.out▸E;have Y:Hid (∀W:XA,(eqGuard .eql 51 (.tmp 47) (.tmp 52) g g >>= λ_=>binOp .eql 51 g g).run prog W=.ok tZ W):=λW=>by
  rw[<-k.out,X1,show(eqGuard .eql 51 (.tmp 47) (.tmp 52) (pvl X) (pvl X)).run prog W=.ok () W by kernel_rfl];have:=LG H H (w:=W);rw[decide_eq_true rfl]at this;exact this
 have HL:=mk2 hL hr;have n1:decide ((64:Int)<(n:Int))=false:=decide_eq_false (by omega);have n2:((n:Int) != (n:Int))=false:=by simp
 have iX:gZ 51 (aA X).length:=by rw[aB H];exact iCP
 have lX:(aA X).length=z33.length:=aB H;clear hL hr b E hC j;obtain⟨vc,h0⟩:=hE (X9 #[iZ n,.slice rq 32 f,uZ tot,.slice m p o]);rw[h0.out]at F⊢;go_enter func5,ntmps5;refine PW.bg [] ?_;refine PW.ns F ?_;refine PW.en [fZ] ?_;refine PW.bg [oZ K 3] ?_;refine PW.ce ((J.at_ 0).2.1 3 _ rfl) QE ?_;refine PW.gi B λw2 i=>?_
 refine hG w2.heap.size λk5 z=>?_
 refine hG (lZ w2 (RG.z 4) 44) λw3 v=>?_
 refine hG (w3.setCells k5 0 (wn s)) λw4 u=>?_
 have K3:=mk1 ((J.grow i).new z v);have K4:=mk1 (K3.put 1 u);clear J i B F;refine PW.go [R,tZ] ?_;refine PW.al z v ?_;refine PW.st u d (K3.th 1) i40 (aI) ?_;refine PW.en [tZ] ?_;refine XG<|PW.bg [fZ] ?_
 refine PW.gd ?_;refine PW.go [] ?_;refine PW.gd ?_;refine PW.go [iZ n] ?_;refine PW.gd ?_;refine PW.go [.bool (decide ((64:Int)<(n:Int)))] ?_;rw[n1];refine PW.go [fZ] ?_;refine PW.gd ?_;refine PW.go [] ?_;refine PW.gd ?_;refine PW.go [iZ n] ?_;refine PW.gd ?_;refine PW.go [jZ K] ?_;refine PW.gd ?_;refine PW.ce ((K4.at_ 0).2.1 0 _ rfl) u3r ?_;refine PW.gd ?_;refine PW.go [.bool ((n:Int) != (n:Int))] ?_;rw[n2];refine PW.en [fZ] ?_;refine Yb rfl<|YU<|XG<|PW.bg [] ?_
 refine PW.ca (MA (S:=S) (n:=n) (q:=q) (c:=c) (w:=w4) (by omega) h4 (HL.1.below K4.bl)) ?_;rintro e G ⟨v5,rfl,h3,r,rfl,h5,T⟩;have L:=mk1 (K4.grow h3);have Q:cZ 12 #[sZ r 32 32,.slice rq 32 f] G (rZ G λe w'=>e=tZ):=(OH (q:=(some (aZ r))) (g:=rq) (n:=32) (c:=32) (f:=32) (i:=f) (b:=(eF S 0 n)) (d:=(eF S 0 n)) (w:=G) (Bt (jO _ _ _) T) (HL.2.below L.bl)).mono λe w' ⟨h1,h2⟩=>⟨_,h1,h2 ▸ XR _ _,by rw[decide_eq_true rfl]⟩
 refine PW.en [sZ r 32 32,iZ 0,sZ r 32 32,iZ 0] ?_;refine PW.bg [oZ K 1] ?_;refine PW.ce ((L.at_ 0).2.1 1 _ rfl) QE ?_;refine PW.gi Q λw6 M=>?_
 refine PW.en [fZ] ?_;have K6:=mk1 (L.grow M);refine Yb rfl<|YU<|PW.bg (P:=prog) [] ?_
 refine PW.gi (U w6 K6.bl) λw7 V=>?_
 refine hG w7.heap.size λk9 t=>?_
 refine hG (lZ w7 z33 51) λw8 x=>?_
 refine hG (w8.setCells k9 0 (aA X)) λw9 D=>?_
 have K8:=mk1 ((K6.grow V).new t x);have A:=mk1 (K8.put 2 D rfl lX);refine PW.go [g,tZ] ?_;refine PW.al t x ?_;refine PW.st D k (K8.th 2 rfl lX) iX bN ?_;refine PW.en [tZ] ?_;refine XG<|AW.beg 10 10 (J:=⟨λW=>kZ w9 W,λ_ _ b h=>h.trans (b.mono h.size),false⟩) ⟨rfl,rfl,rfl,XD _,λ_ _=>rfl⟩ ?_
 refine AW.mv 0 ?_;refine AW.mv 1 ?_;refine AG.ro 2 (λW b=>((A.at_ 2).below b).2.1) k uCP iX ?_;refine AG.va 3 (oZ K 2) ?_;refine AG.ce 4 Ad (λW b=>((A.at_ 0).below b).2.1 2 _ rfl) ?_;refine AG.ro 6 (λW b=>((A.at_ 1).below b).2.1) d u40 i40 ?_;refine AG.cw 5 (λ_=>HO _) (λe w' l h=>yEo l (h.1.mono (yEv l))) ?_;rintro e W1 ⟨h6,rfl⟩;refine AG.cw 7 (λ_=>HC _) (λe w' l h=>yEo l (h.1.mono (yEv l))) ?_;rintro e W2 ⟨i,rfl⟩;refine AG.iv 8 Y ?_;refine AW.nx 9 tZ ?_;refine AW.nx 10 tZ ?_;refine AW.dn λl=>?_
 have KE:=mk1 (A.bl.trans (yDy l A.bl.size));go_wp2;go_ret;exact⟨_,rfl,KE,rfl⟩
end
section
open SPA
section
variable {N:Nat}[NeZero N]{M:Type}(D:Md N M)
def Qc(H G:M)(a b u v w:Fin N):D.ad (D.cm H G a b) (D.ac w (D.cm H G u v))=D.cm H G (a+w*u) (b+v*w):=by
 unfold Md.cm;rw[D.acAd,D.swap,D.acAc,D.acAc,<-D.adAc,<-D.adAc,show w*v=v*w by grind]
def Jj(w:Nat->Fin N)(f:Nat->Nat->Fin N):Nat->Fin N
 | 0=>0
 | i+1=>Jj w f i+w 0*f i 0+w 1*f i 1
def En(w:Nat->Fin N)(f:Nat->Nat->Fin N):Nat->Fin N
 | 0=>0
 | i+1=>En w f i+f i 0*w 0+f i 1*w 1
def Vb(H G:M):D.cm H G 0 0=D.zo:=by
 unfold Md.cm;rw[D.zac,D.zac,D.zadd]
end
variable {P:Nat}[NeZero P]{N:Nat}[NeZero N]
def Tl.term(C:Fld P)(k:∀r:EC.Pt P,On r->mul N r=none)(b:1<N)(n:Fin N)(X:OnP P):Tl N [(n.val,wP X)] ((aC C k).ac n X):=by
 have h:=(Tl.one C b X).tm C k n;have e:[(1,wr X.1)].map (tmT N n.val)=[(n.val,wP X)]:=by
  show [(n.val*1%N,wr X.1)]=_;rw[Z5,X6 n.isLt]
 rw[e]at h;exact h
def Jl(C:Fld P)(k:∀r:EC.Pt P,On r->mul N r=none)(c:1<N)(H G:OnP P)(w:Nat->Fin N)(a b:Nat->Nat->Fin N)(f:Nat->Nat->Nat × Bs)(hf:∀i s,f i s=((w s).val,wP ((aC C k).cm H G (a i s) (b i s)))):
 ∀n,Tl N (tmP f n) ((aC C k).cm H G (Jj w a n) (En w b n))
 | 0=>by
  show Tl N [] ((aC C k).cm H G 0 0);rw[Vb];exact Tl.nil C k
 | n+1=>by
  have h:=(Tl.app C k (Tl.app C k (Jl C k c H G w a b f hf n) (Tl.term C k c (w 0) ((aC C k).cm H G (a n 0) (b n 0)))) (Tl.term C k c (w 1) ((aC C k).cm H G (a n 1) (b n 1))))
  rw[Qc,Qc,<-hf n 0,<-hf n 1]at h;exact h
def Ge(O:Ord N)(w:Nat->Fin N)(f:Nat->Nat->Fin N):∀n,(En w f n).val=opA N (λi s=>sTi N (f i s).val (w s).val) n
 | 0=>rfl
 | n+1=>by
  show(En w f n+f n 0*w 0+f n 1*w 1).val=sPl N (sPl N (opA N _ n) (sTi N _ _)) (sTi N _ _);rw[jP,jP,eR,eR,Ge O w f n]
def wF(N:Nat)[NeZero N]:Nat->Fin N
 | 0=>-1
 | _=>1
def Jc(O:Ord N):∀s,(wF N s).val=sdW N s
 | 0=>by
  show(-1:Fin N).val=sMi N 0 1;rw[Es];have:=O.n2
  congr 1
  exact X6 (show 1<N by omega)
 | _+1=>by
  have:=O.n2;exact X6 (show 1<N by omega)
def Ji(A B:Nat->Nat):∀n,Jj (wF N) (λi s=>ofF N (amN s (A i) (B i))) n+ofF N (aV A n)=ofF N (aV B n)
 | 0=>by
  show(0:Fin N)+ofF N 0=ofF N 0;rw[nU];grind
 | n+1=>by
  have h:=Ji A B n;show Jj (wF N) _ n+-1*ofF N (A n)+1*ofF N (B n)+ofF N (aV A n+A n)=ofF N (aV B n+B n);rw[rS,rS,<-h];grind
def QG{A B:Nat->Nat}{n:Nat}(h:aV A n<=aV B n):Jj (wF N) (λi s=>ofF N (amN s (A i) (B i))) n=ofF N (aV B n-aV A n):=by
 have k:=Ji (N:=N) A B n;have b:=rS (N:=N) (aV B n-aV A n) (aV A n);rw[Nat.sub_add_cancel h,<-k]at b;grind
end
section
open SPA
def ch1{α β:Type}{p:α->β->Prop}(h:∀i,∃x,p i x):∃x:α->β,∀i,p i (x i):=⟨λi=>(h i).choose,λi=>(h i).choose_spec⟩
def SG{N m:Nat}(h:m<N):∃k:Fin N,k.val=m:=⟨⟨m,h⟩,rfl⟩
def bks{N:Nat}(O:Ord N)(b:Bs):∃k:Nat->Nat->Fin N,∀i s,(k i s).val=blN N b s i:=ch1 λi=>ch1 λs=>SG (BZ O b s i)
variable {P:Nat}[NeZero P]{N:Nat}[NeZero N]
def Oj{n:Nat}(h:n<N):(ofF N n).val=n:=X6 h
def Qb{b:Fin N}(C:Fld P)(O:Ord N)(k:∀r:EC.Pt P,On r->mul N r=none){a:Nat}(c:a<N):Gives 14 #[nv a,nv b.val] (pvl (wP ((aC C k).cm (hPV C) (gPG C) (ofF N a) b))):=by
 have h:=lW C O c b.isLt;have e:=zC C k (ofF N a) b;rw[Oj c]at e;rw[e]at h;exact h
def pss(k:Bs):∃p:Nat->Nat->List UInt8,∀i s,p i s=(psB k s i).toList:=⟨_,λ_ _=>rfl⟩
def opW{b:Bs}(O:Ord N){k:Nat->Nat->Fin N}(h:∀i s,(k i s).val=blN N b s i):(λi s=>sTi N (k i s).val (wF N s).val)=blW N b:=funext λi=>funext λs=>by
 rw[h,Jc O];rfl
def books(C:Fld P)(O:Ord N)(d:∀r:EC.Pt P,On r->mul N r=none)(hP:IsP N)(hN:18446744073709551616<=N)(n:Nat)(hn:n<=64)(K A B:Nat->Nat)(hK:∀i,1<=K i/\K i<=3)(Y:∀i,A i<4294967296)(R:∀i,B i<4294967296)(H:aV A n<=aV B n)(t:Bs)(L:t.size=32)(q Z:Option Y0)(c sc:Nat)(w:XA)(hL:OpL w q n K A B)(hs:PartOk w (.slice Z 32 sc) t.toList):
 cZ 4 #[.slice Z 32 sc,.slice q n c] w (rZ w λe w'=>∃y G r b1 I j,e=.tuple #[.slice y n G,.agg #[iZ n,sZ r 32 32,uZ ((aV B n-aV A n:Nat):Int),.slice b1 I j],iZ 0] /\
  ∀W,kZ w' W->cZ 5 #[.slice y n G,.agg #[iZ n,sZ r 32 32,uZ ((aV B n-aV A n:Nat):Int),.slice b1 I j]] W (rZ W λe f=>e=tZ)):=by
 have n1:1<N:=oM;obtain⟨m,z⟩:=bks O t;obtain⟨ps,hc⟩:=pss t;obtain⟨V,hV⟩:=ch1 λi=>ch1 λs=>NC C O d hP hN (Fh (Y i) (R i) s)
 obtain⟨T,l⟩:=ch1 λi=>ch1 (hV i)
 clear hV;have u:∀i s,(V i s).size=33:=λi s=>by rw[(l i s).1];exact aL _
 have f:aV B n-aV A n<2^64:=by
  have:=rD R n;omega
 have E:=OM O n c q K A B hn hK Y R H t L Z sc (λi=>#[XS (K i)]++fsB (V i) 2++fsB (T i) 2) w hL hs λi W o hb =>
  Hu O (K i) (A i) (B i) i oM (Y i) (R i) t L Z sc (V i) (T i) (u i) (λs=>(l i s).2.1) (λs=>by
   rw[(l i s).1,<-z i s];exact Qb C O d (XC (Fh (Y i) (R i) s) oM)) (λs=>by
   rw[<-z i s,<-hc i s];exact(l i s).2.2.1) W (hs.below hb)
 have U:=Jl C d n1 (hPV C) (gPG C) (wF N) (λi s=>ofF N (amN s (A i) (B i))) m (λi s=>(sdW N s,V i s)) (λi s=>by rw[Jc O,<-(l i s).1]) n;have j:=Ge O (wF N) m n;rw[opW O z]at j;rw[QG H]at U;have F:=Qb C O d (XC f hN) (b:=(En (wF N) m n));have D:=(En (wF N) m n).isLt;rw[j]at F D;generalize En (wF N) m n=op at U F j;clear j;have J:∀(v:XB) (W:XA),SmZ 0 W v (tmP (λi s=>(sdW N s,V i s)) n)->(n=0->v=nZ)->cZ 33 #[v] W (rZ W λe w'=>e=pvl (wP ((aC C d).cm (hPV C) (gPG C) (ofF N (aV B n-aV A n)) op))):=λv W hv hz=>by
  have a:=Bf (λi s=>(sdW N s,V i s)) n;by_cases S:n=0
  .obtain rfl:=hz S;subst S;have e:wP ((aC C d).cm (hPV C) (gPG C) (ofF N (aV B 0-aV A 0)) op)=wr (none:EC.Pt P):=by
    show wr _=wr _;rw[<-U.sum];rfl
   rw[e];exact Ie C O
  .rcases hv with⟨rfl,hv⟩|hv
   .rw[hv]at a;exact absurd a (by simp;omega)
   .exact Tl.point C O d U oM oM hv
 have a:(wP ((aC C d).cm (hPV C) (gPG C) (ofF N (aV B n-aV A n)) op)).size=33:=aL _;generalize wP ((aC C d).cm (hPV C) (gPG C) (ofF N (aV B n-aV A n)) op)=X at F J a;generalize (aV B n-aV A n:Nat)=tot at E F f⊢;generalize opA N (blW N t) n=bl at E F D;refine E.mono ?_;rintro e w' ⟨_,rfl,hb,v,r,b,B0,xs,rfl,⟨h1,h2⟩,h3,h4,h5⟩;obtain⟨y,G,rfl,he,hq,M⟩:=AC h1 h2;obtain⟨g5,bc,rfl,-⟩:=id h5;refine⟨_,rfl,hb,y,G,r,some (aZ g5),32,bc,rfl,λW Q=>?_⟩;refine OR O n G y hn he _ tot bl f D X a _ _ 32 32 bc W (hq.below Q) (Bt (jO _ _ _) (Holds.below h3 Q h4)) (h5.argS.below Q) (λW1 hp=>?_) F;have b1:=Q.trans (hp.mono Q.size);have hj:∀i,∃x,(∀g,y=some (aZ g)->i<n->w'.cell? ⟨g,i,none⟩=some x)/\∃k c,x=sZ k 1313 c/\1313<=c/\(i<n->k<w'.heap.size/\hZ w' k 0 (#[XS (K i)]++fsB (V i) 2++fsB (T i) 2)):=λi=>by
  by_cases o:i<n
  .obtain⟨g,rfl,-,hx⟩:=M oM;obtain⟨x,hm,k,c,rfl,h6,-,-,h7,h8⟩:=hx i o;refine⟨_,λg' e _=>?_,k,c,rfl,h6,λ_=>⟨h7,h8⟩⟩;injection e with e
   injection e with e
   rw[<-e];exact hm
  .exact⟨_,λ_ _ h=>absurd h o,0,1313,rfl,XD _,λh=>absurd h o⟩
 obtain⟨x,hx⟩:=ch1 hj;refine Jp O y n G hn V u x X a W1 (λS=>?_) (λi=>?_) (λi W2 o ha=>?_) J
 .obtain⟨g,e,hg,-⟩:=M S;exact⟨g,e,XC hg b1.size,λi o=>by rw[b1.cell (p:=⟨g,i,none⟩) hg];exact(hx i).1 g e o⟩
 .obtain⟨-,k,c,e,-⟩:=hx i;exact⟨_,_,_,e⟩
 .obtain⟨-,k,c1,e,h9,h⟩:=hx i;obtain⟨hk,hH⟩:=h o;have I:=b1.trans (ha.mono b1.size);rw[e];exact Ri C k c1 (K i) h9 (hK i).1 (hK i).2 (V i) (T i) (u i) (λs=>(l i s).2.1) (λs=>by
   rw[(l i s).1];obtain⟨p,h,-⟩:=xR C ((aC C d).cm (hPV C) (gPG C) (ofF N (amN s (A i) (B i))) (m i s)).2;exact⟨p,h⟩) (λs=>(l i s).2.2.2) W2 (XC hk I.size) (Holds.below hH I hk)
end
section
open SPA
def IC{P:YJ}(w:XA)(i sT p c:Yd)(b o k e:Nat)(t:ByteArray)(n:P.underlying i=some (.slice c))(m:∀w,(Go.sizeOf c).run P w=.ok 1 w)
 (q:∀j,j<k->(w.cell? ⟨b,o+j,none⟩).isSome=true) (hf:∀j,j<k->w.frozen? ⟨b,o+j,none⟩=false) :
 (yAD #[i,sT] p #[qZ b o k e,.string t]).run P w=.ok (goInt (yAw t.size k)) (w.setCells b o ((t.data.toList.take k).map λx=>YW .u8 (x.toNat:Int))):=by
 by_cases f:t.size<=k
 .rw[run_copy_string w i sT p c b o k e t n m f (λj d=>q j oM) (λj d=>hf j oM),show yAw t.size k=t.size from Nat.min_eq_left f,List.take_of_length_le (by rw[<-yEF];exact f)]
 .have d:yAw t.size k=k:=Nat.min_eq_right oM;have l:((t.data.toList.take k).map λx=>YW .u8 (x.toNat:Int)).length=k:=by rw[XZ,Z8,<-yEF];omega
  have g:=run_storeCells_cells (P:=P) b o ((t.data.toList.take k).map λx=>YW .u8 (x.toNat:Int)) 0 w (by rw[l];simpa using q) (by rw[l];simpa using hf) (by
   intro v hv;obtain⟨x,_,rfl⟩:=List.mem_map.1 hv;rfl)
  rw[d];simp[yAD,run_underlying n,Builtin.lenOf,Builtin.firstCells,m,d];rw[List.map_take]at g;rw[g];rfl
def fnB(f:Nat->UInt8):Bs:=Array.ofFn (n:=32) λi=>f i.val
def rX{f:Nat->UInt8}:(fnB f).size=32:=by unfold fnB;simp
def Lv{f:Nat->UInt8}{j:Nat}(k:j<32):(fnB f)[j]! = f j:=by
 rw[getElem!_pos (fnB f) j (by rw[rX];exact k)];unfold fnB;simp
def sdF(s:ByteArray)(j:Nat):UInt8:=s.data.toList.getD j 0
theorem sd_holds{W:XA}{k:Nat}(s:ByteArray)(h:hZ W k 0 (XT 32 0)):hZ (W.setCells k 0 ((s.data.toList.take 32).map λx=>YW .u8 (x.toNat:Int))) k 0 (fnB (sdF s)):=by
 refine SP.Holds.setCells (o:=0) (p:=0) h _ (by rw[rX,X0]) (by rw[XZ,Z8,X0];omega) (λj b=>?_) (λj b c=>?_)
 .rw[XZ,Z8]at b;rw[Lv oM,List.getElem_map,List.getElem_take];unfold sdF;rw[XI,Z9,XO oM];rfl
 .rw[X0]at b;rw[XZ,Z8]at c;rw[Lv b,SP.rep_at 32 j b];unfold sdF;rw[Z9,List.getElem?_eq_none oM];rfl
end
section
open SPA
def tT(A B:Nat->Nat):Nat->Nat
 | 0=>0
 | i+1=>tT A B i+B i-if tT A B i+B i<A i then 0 else A i
def aT(A B:Nat->Nat)(i:Nat):Nat:=if tT A B i+B i<A i then 0 else A i
def VN{A B:Nat->Nat}{i:Nat}:aT A B i<=tT A B i+B i/\aT A B i<=A i:=by
 unfold aT;split<;>omega
def Jn(A B:Nat->Nat):∀n,tT A B n+aV (aT A B) n=aV B n
 | 0=>rfl
 | n+1=>by
  have h:=Jn A B n;have:=(VN (A:=A) (B:=B) (i:=n)).1;show tT A B n+B n-aT A B n+(aV (aT A B) n+aT A B n)=aV B n+B n;omega
def opR(K A B:Nat->Nat):Nat->List XB
 | 0=>[]
 | i+1=>opR K A B i++opC (K i) (A i) (B i)
def wI(K A B:Nat->Nat):∀n,(opR K A B n).length=3*n
 | 0=>rfl
 | n+1=>by
  show(opR K A B n++opC _ _ _).length=_;rw[XK,wI K A B n];rfl
def Ka{K A B:Nat->Nat}{i:Nat}:∀n,i<n->∀j u,(opC (K i) (A i) (B i))[j]? = some u->(opR K A B n)[3*i+j]? = some u
 | n+1,hi,j,u,hu=>by
  have k:j<3:=(XM.1 hu).1;show(opR K A B n++opC _ _ _)[3*i+j]? = _;by_cases h:i<n
  .rw[XY (by rw[wI];omega)];exact Ka n h j u hu
  .obtain rfl:i=n:=by omega
   rw[XW (by rw[wI];omega),wI,Nat.add_sub_cancel_left];exact hu
def VU:prog.underlying 22=some (.slice 26):=kR
def UJ:(prog.info? 26).map (λi=>(i.size,i.bytes,i.zero.map λz=>z.cells.size))=some (3,24,some 3):=kR
structure OwO(w W:XA)(i:Nat)(v:XB)(K A B:Nat->Nat):Prop where
 bl:kZ w W
 ow:W.ownsRow w.heap.size 26 3 v i (opR K A B i)
def OwO.grow{w W W':XA}{i:Nat}{v:XB}{K A B:Nat->Nat}(h:OwO w W i v K A B)(k:kZ W W'):OwO w W' i v K A B:=
 ⟨h.bl.trans (k.mono h.bl.size),bE h.ow λg b=>k.block g (bQ h.ow b).2.1⟩
def OwO.app{w W:XA}{i g:Nat}{v:XB}{K A B:Nat->Nat}(h:OwO w W i v K A B)(o:Row W g (opC (K i) (A i) (B i)))(a:i<=64):
 ∃c W',(YG #[22,22] 22 #[v,sZ g 1 1]).run prog W=.ok c W'/\OwO w W' (i+1) c K A B:=by
 obtain⟨x,d,l⟩:=XE.1 UJ;simp only[Prod.mk.injEq]at l;obtain⟨q,r,s⟩:=l;obtain⟨z,n,f⟩:=XE.1 s;obtain⟨c,W',y,p,b,-⟩:=run_append_own (P:=prog) W w.heap.size 22 22 26 x z 3 24 VU d n q r f (by decide) v i _ h.ow (aZ g) 1 1 (opC (K i) (A i) (B i)) rfl
  (λj u t=>by
   rw[gI];exact o.2.1 j u t) (λu m=>by
   simp only[opC,List.mem_cons,List.not_mem_nil,or_false]at m;rcases m with rfl|rfl|rfl<;>rfl) (by unfold maxLen;omega) (by omega) h.bl.size
 refine⟨c,W',y,⟨b.os.trans h.bl.os,b.tape.trans h.bl.tape,b.output.trans h.bl.output,XH h.bl.size b.size,λk m=>(b.block k (XC m h.bl.size) λe=>oN ((bQ h.ow e.symm).1)).trans (h.bl.block k m)⟩,p⟩
def OwO.opl{w W:XA}{i:Nat}{v:XB}{K A B:Nat->Nat}(h:OwO w W i v K A B):∃q c,v=.slice q i c/\OpL W q i K A B:=by
 rcases id h.ow with⟨-,⟨rfl,rfl⟩|⟨g,cap,cur,rfl,-⟩⟩
 .exact⟨none,0,rfl,λh=>absurd h (by omega)⟩
 .refine⟨_,cap,rfl,λ_=>⟨g,rfl,(bQ h.ow rfl).2.1,λj b m u k=>?_⟩⟩;have:=h.ow.cells (g:=g) rfl _ _ (Ka i b m u k);rw[gI,XI]at this;exact this
section
variable {P:YJ}{Q:Exit->Act->XA->Prop}{a:Act}{w:XA}{c y:Code}
def I8(C:XA->Prop)(h:c.wp P (λe b w'=>e=.normal/\C w'/\∃p,b=a.put (some 50) p) a w)(k:∀w' p,C w'->y.wp P Q (a.put (some 50) p) w'):c.wp P (Exit.then (y.wp P Q) Q) a w:=
 wp_mono h λe b w' ⟨d,g,p,f⟩=>by
  subst d f;exact k w' p g
end
def idxOf{g o n c i:Nat}(b:i<n)(w:XA):(Yv 22 (qZ g o n c) (iZ i)).run prog w=.ok (oZ g (o+3*i)) w:=by
 have k:=gI g o (3*i);go_simp
def PM{W:XA}{j k o:Nat}{cs:List XB}{x:XB}(h:W.rangeAt k o cs)(hx:cs[j]? = some x):W.rangeAt k (o+j) [x]:=λi v b=>by
 obtain rfl:i=0:=by have:=(XM.1 b).1;simp at this;omega
 rw[yAl];exact h j v (hx.trans b)
def row_one{W:XA}{k:Nat}{a b c u:XB}(h:Row W k [a,b,c]):W.there k 1 1/\Row (W.setCells k 1 [u]) k [a,u,c]:=by
 have t1:W.there k 1 1:=λj d=>by
  have:=h.2.2 (1+j) (by simp only[Yx,Zz];omega);rw[XI]at this;exact this
 have f:=Yn (PM (j:=0) h.2.1 rfl) k 1 [u] (X7 (Ye (XD 1)));have g:=YY W k 1 [u] t1;have e:=Yn (PM (j:=2) h.2.1 rfl) k 1 [u] (X7 (X7 (XD 2)));refine⟨t1,by rw[setCells_size];exact h.1,λj v d=>?_,Zg h.2.2 _ _ _⟩;match j,d with
 | 0,d=>exact f 0 v d
 | 1,d=>exact g 0 v d
 | 2,d=>exact e 0 v d
def Xa(k a b:Nat)(w:XA):(Yw 22 1 #[(0,.agg (opC k a b).toArray)]).run prog w=.ok (sZ w.heap.size 1 1) (w.alloc (.cells (opC k a b).toArray 26)):=kR
end
section
open SPA
def al3(w:XA):(Instr.alloc 26 true (.tuple #[])).run prog w=.ok (jZ w.heap.size) (w.alloc (.cells z3.toArray 26)):=kR
def O4(s:ByteArray)(q:Option Y0)(n c:Nat)(X Y:Nat->Nat)(w:XA)(hX:∀i,X i<2^64)(hY:∀i,Y i<2^64)(hq:0<n->∃g o,q=some ⟨g,o,none⟩/\g<w.heap.size/\∀i,i<n->w.cell? ⟨g,o+3*i+1,none⟩=some (uZ (X i:Int))/\w.cell? ⟨g,o+3*i+2,none⟩=some (uZ (Y i:Int)))
 (hB:∀(K A B:Nat->Nat) n,n<=64->(∀i,1<=K i/\K i<=3)->(∀i,A i<4294967296)->(∀i,B i<4294967296)->aV A n<=aV B n->∀(d:Bs),d.size=32->∀(q f:Option Y0) (c sc:Nat) (w:XA),OpL w q n K A B->PartOk w (.slice f 32 sc) d.toList ->
  YN prog 4 #[.slice f 32 sc,.slice q n c] w (rZ w λe w'=>∃b l r b1 v J,e=.tuple #[.slice b n l,.agg #[iZ n,sZ r 32 32,uZ ((aV B n-aV A n:Nat):Int),.slice b1 v J],iZ 0] /\
  ∀W,kZ w' W->YN prog 5 #[.slice b n l,.agg #[iZ n,sZ r 32 32,uZ ((aV B n-aV A n:Nat):Int),.slice b1 v J]] W (rZ W λe k=>e=.bool true))) :
 YN prog 3 #[.string s,.slice q n c] w (rZ w λe w'=>e=.bool true):=by
 have HX:=mk3 hX hY (YV hq hB);go_enter func3,ntmps3;refine PW.rg [.bool false] ?_;refine XG<|PW.rg [iZ n,.bool (decide ((8:Int)<(n:Int)))] ?_
 by_cases h8:(8:Int)<(n:Int)
 .rw[decide_eq_true h8];go_wp2;go_ret;exact⟨_,rfl,XR _ _,rfl⟩
 rw[decide_eq_false h8];refine Yb rfl<|YU<|hG w.heap.size λU L=>?_
 refine hG (w.alloc (.cells (madeCells #[.int .u8 0] 32) 5)) λW1 h5=>?_
 have m1:=WJ w;have b:Holds encB (w.alloc (.cells (madeCells #[.int .u8 0] 32) 5)) w.heap.size 0 (XT 32 0):=SP.Holds.made (enc:=encB) w 5 32 0;have b1:=aD (w:=w) (.cells (madeCells #[.int .u8 0] 32) 5);rw[h5.out]at m1 b b1;rw[L.out]at m1 b;refine PW.bg [] ?_;refine PW.ns m1 ?_;refine PW.en [sZ U 32 32] ?_;have cp:=IC (P:=prog) W1 23 9 3 5 U 0 32 32 s SP.slice22 SP.size5 (λj hj=>by rw[(b j (by rw[X0];exact hj)).1];rfl) (λj hj=>(b j (by rw[X0];exact hj)).2);have Q:=sd_holds s b;refine hG (W1.setCells U 0 ((s.data.toList.take 32).map λx=>YW .u8 (x.toNat:Int))) λV G=>?_
 have v:kZ w V:=by rw[<-G.out];exact RG.below_setCells (by rw[L.out];exact XD _) _ _ _ b1
 rw[G.out]at cp Q;refine PW.bg [] ?_;refine PW.ns cp ?_;refine PW.dn ?_;have N:=mk2 v (rN Q rX);refine PW.rg [.slice none 0 0] ?_;refine PW.rg [uZ 0] ?_;refine XG<|PW.rg [iZ 0] ?_
 apply YX;obtain⟨A,hA⟩:=hE (aT (λi=>X i%4294967296) (λi=>Y i%4294967296));obtain⟨B,d⟩:=hE (λi=>Y i%4294967296);obtain⟨K,hK⟩:=hE (λi=>1+i%3);obtain⟨t,ht⟩:=hE (tT (λi=>X i%4294967296) (λi=>Y i%4294967296));have fA:Hid (∀i,A i=if t i+B i<X i%4294967296 then 0 else X i%4294967296):=by rw[<-hA.out,<-d.out,<-ht.out];exact λ_=>rfl
 have ft:Hid (∀i,t (i+1)=t i+B i-A i):=by rw[<-hA.out,<-d.out,<-ht.out];exact λ_=>rfl
 have fS:Hid (∀i,t i+aV A i=aV B i):=by rw[<-hA.out,<-d.out,<-ht.out];exact λi=>Jn _ _ i
 have Z:Hid (∀i,B i<4294967296):=by rw[<-d.out];exact λi=>Y8 _ dC
 have fL:Hid (∀i,A i<4294967296):=λi=>by rw[fA.out];have:=Y8 (X i) (show 0<4294967296 by decide);split<;>omega
 have fK:Hid (∀i,K i=1+i%3):=by rw[<-hK.out];exact λ_=>rfl
 have h3:t 0=0:=by rw[<-ht.out];rfl
 have h1:Hid (∀i,B i=Y i%4294967296):=by rw[<-d.out];exact λ_=>rfl
 have O0:Hid (OwO V V 0 (.slice none 0 0) K A B):=⟨XR _ _,rfl,Ye ⟨rfl,rfl⟩⟩
 go_loopg [6,7,8] n (λgk s6 s7 s8 wr=>∃i:Nat,i+gk=n/\s8=iZ i/\s7=uZ (t i:Int)/\Hid (OwO V wr i s6 K A B))
 case atStart=>exact⟨0,oM,rfl,by rw[h3];rfl,O0⟩
 case round =>
  obtain⟨i,h7,rfl,rfl,H⟩:=hrel;refine XG<|PW.rg [iZ n,.bool (decide ((i:Int)<(n:Int)))] ?_
  by_cases hi:i<n
  .have a:(i:Int)<(n:Int):=oM;rw[decide_eq_true a];refine Yy rfl<|YU ?_
   have h0:Ya.wrap ((i:Int)+1)=((i+1:Nat):Int):=by rw[YD];omega
   have bw:=N.1.trans (H.bl.mono N.1.size);obtain⟨g,o,rfl,hg,hc⟩:=HX.2.2.1 oM;obtain⟨c1,c2⟩:=hc i hi;have C1:=mk2 c1 c2;have ha:=HX.1 i;have h9:=HX.2.1 i;have lt:=fS i;have ls:=rD Z i;have M:(i:Int).tmod 3=((i%3:Nat):Int):=by rw[yBp oM];omega
   have F:Ya.wrap (1+((i%3:Nat):Int))=((K i:Nat):Int):=by rw[YD,fK.out];omega
   have S:(X i:Int).tmod 4294967296=((X i%4294967296:Nat):Int):=by rw[yBp oM];omega
   have I:(Y i:Int).tmod 4294967296=((B i:Nat):Int):=by rw[yBp oM,h1.out];omega
   refine hG wr.drew.heap.size λl D=>?_
   refine hG (wr.drew.alloc (.cells z3.toArray 26)) λw4 f=>?_
   refine hG (w4.setCells l 0 (opC (K i) (X i%4294967296) (B i))) λw5 z=>?_
   have C:=mk1 ((Mp.start wr).drew.new D f);have R:=mk1 (C.put 0 z);have a3:=al3 wr.drew;have bb:=aD (w:=wr.drew) (.cells z3.toArray 26);rw[D.out,f.out]at a3;rw[f.out]at bb;obtain⟨vo,k⟩:=hE (X9 (opC (K i) (X i%4294967296) (B i)).toArray);refine XG<|YX<|XG<|AW.begin 17 17 ?_
   refine AW.mv 0 ?_;refine AW.va 1 (iZ ((i:Int).tmod 3)) ?_;rw[M];refine AW.va 2 (iZ (Ya.wrap (1+((i%3:Nat):Int)))) ?_;rw[F];refine AW.mv 3 ?_;refine AW.mv 4 ?_;refine AW.iv 5 (idxOf (g:=g) (o:=o) (n:=n) (c:=c) (i:=i) hi) ?_;refine AW.va 6 (.pointer (some ⟨g,o+3*i+1,none⟩)) ?_;refine AW.ce 7 Ad (λW hb=>((bw.trans (hb.mono bw.size)).cell (p:=⟨g,o+3*i+1,none⟩) hg).trans C1.1) ?_;refine AW.va 8 (uZ ((X i:Int).tmod 4294967296)) ?_;rw[S];refine AW.mv 9 ?_;refine AW.mv 10 ?_;refine AW.iv 11 (idxOf (g:=g) (o:=o) (n:=n) (c:=c) (i:=i) hi) ?_;refine AW.va 12 (.pointer (some ⟨g,o+3*i+2,none⟩)) ?_;refine AW.ce 13 Ad (λW hb=>((bw.trans (hb.mono bw.size)).cell (p:=⟨g,o+3*i+2,none⟩) hg).trans C1.2) ?_;refine AW.va 14 (uZ ((Y i:Int).tmod 4294967296)) ?_;rw[I];refine AW.va 15 (.agg (opC (K i) (X i%4294967296) (B i)).toArray) ?_;rw[k.out];refine AW.ns 16 a3 bb ?_;refine AW.fi k Bv iOp λ_=>?_
   rw[z.out];refine⟨C.th 0,?_⟩;clear C a3 bb f z M F S I k C1;have E:Yt.wrap ((t i:Int)+(B i:Int))=((t i+B i:Nat):Int):=by have:=Z i;rw[ZO];omega
   have lA:A i<=t i+B i:=by rw[fA.out];split<;>omega
   have h4:Yt.wrap (((t i+B i:Nat):Int)-(A i:Int))=((t (i+1):Nat):Int):=by have:=Z i;rw[ZO,ft.out];omega
   refine XG<|PW.bg [oZ l 1] ?_
   refine PW.ce ((R.at_ 0).2.1 1 _ rfl) Ad ?_;refine PW.go [oZ l 2] ?_;refine PW.ce ((R.at_ 0).2.1 2 _ rfl) Ad ?_;refine PW.go [uZ (Yt.wrap ((t i:Int)+(B i:Int)))] ?_;rw[E];refine PW.en [.bool (decide (((t i+B i:Nat):Int)<((X i%4294967296:Nat):Int)))] ?_;refine I8 (λW=>Mp wr W [(l,opC (K i) (A i) (B i))] []) ?_ ?_
   .by_cases m:t i+B i<X i%4294967296
    .rw[decide_eq_true oM];refine Yy rfl<|hG (w5.setCells l 1 [uZ 0]) λy O=>?_
     obtain⟨th,T⟩:=row_one (u:=uZ 0) (R.at_ 0);refine PW.bb [oZ l 1] ?_;refine Np 50 O th kR kR kR ?_;refine PW.dn ?_;refine⟨rfl,?_,_,rfl⟩;rw[fA.out,yEX m];exact R.upd 0 O T
    .rw[decide_eq_false oM];refine Yb rfl<|YU ?_
     refine⟨rfl,?_,_,rfl⟩;rw[fA.out,yEY m];exact R
   intro y p6 M6;have T:=mk2 M6 (H.grow M6.bl);obtain⟨vo,k⟩:=hE (X9 (opC (K i) (A i) (B i)).toArray);have bs:=Xa (K i) (A i) (B i) y;have bb:=aD (w:=y) (.cells (opC (K i) (A i) (B i)).toArray 26);obtain⟨v',w8,r8,h2⟩:=(T.2.grow bb).app (g:=y.heap.size) (row_new y (opC (K i) (A i) (B i)) 26) oM;refine hG y.heap.size λh6 m=>?_
   refine hG (y.alloc (.cells (opC (K i) (A i) (B i)).toArray 26)) λw7 O=>?_
   rw[m.out,O.out,k.out]at bs;rw[m.out,O.out]at r8;have KF:=mk1 h2;refine PW.bg [oZ l 2] ?_;refine PW.ce ((T.1.at_ 0).2.1 2 _ rfl) Ad ?_;refine PW.go [uZ (Yt.wrap ((t i:Int)+(B i:Int)))] ?_;rw[E];refine PW.go [oZ l 1] ?_;refine PW.ce ((T.1.at_ 0).2.1 1 _ rfl) Ad ?_;refine PW.go [uZ (Yt.wrap (((t i+B i:Nat):Int)-(A i:Int)))] ?_;rw[h4];refine PW.en [uZ ((t (i+1):Nat):Int)] ?_;refine PW.bb (P:=prog) [] ?_;refine PW.ro (T.1.at_ 0).2.1 k uOp iOp ?_;refine PW.ns bs ?_;refine PW.ns r8 ?_;refine PW.en [v'] ?_;refine PW.bb (P:=prog) [iZ (Ya.wrap ((i:Int)+1))] ?_;rw[h0];go_wp2;go_roundg (gk-1)
   case measure=>omega
   case rel=>exact⟨i+1,oM,rfl,rfl,KF⟩
  .have a:¬(i:Int)<(n:Int):=oM;obtain rfl:i=n:=oM;rw[decide_eq_false a];refine Yb rfl<|yAC ?_
   have bw:=N.1.trans (H.bl.mono N.1.size);obtain⟨q6,c6,rfl,hO⟩:=H.opl;have T:=HX.2.2.2 K A B i oM (λj=>by rw[fK.out];omega) fL Z (oN (fS i)) (fnB (sdF s)) rX q6 (some (aZ U)) c6 32 wr hO (N.2.below H.bl);rw[show aV B i-aV A i=t i by have:=fS.out i;omega]at T;have BW:=mk1 bw;refine PW.bg (P:=prog) [] ?_;refine PW.ca T ?_;rintro e R ⟨D,q1,c1,r,b1,v,J,rfl,O⟩;refine hG R.heap.size λm l=>?_
   refine hG (R.alloc (.cells zcl.toArray 29)) λw2 E=>?_
   obtain⟨cs,k⟩:=hE [iZ i,sZ r 32 32,uZ (t i:Int),.slice b1 v J];refine hG (w2.setCells m 0 cs) λw3 z=>?_
   have S:cs.length=4:=by rw[<-k.out];rfl
   have M2:=mk1 ((Mp.start R).new l E);have M:=mk1 (M2.put 0 z rfl (by rw[S];rfl));have x0:cs[0]? = some (iZ i):=by rw[<-k.out];rfl
   have x2:cs[2]? = some (uZ (t i:Int)):=by rw[<-k.out];rfl
   have o1:cs.toArray.all (·.oneCell')=true:=by rw[<-k.out];exact kR
   have iC:(prog.info? 29).map (·.size)=some cs.length:=by rw[S];exact iCl
   obtain⟨vc,F⟩:=hE (X9 #[iZ i,sZ r 32 32,uZ (t i:Int),.slice b1 v J]);have f:Hid (.agg cs.toArray=vc):=by rw[<-k.out,<-F.out];rfl
   have y:=O w3 M.bl;rw[F.out]at y⊢;have B3:=mk1 (BW.trans ((D.trans (M.bl.mono D.size)).mono BW.size));refine PW.go [.slice q1 i c1,vc,iZ 0] ?_;refine PW.al l E ?_;refine PW.go [.slice q1 i c1] ?_;refine PW.st z f (M2.th 0 rfl (by rw[S];rfl)) iC o1 ?_;refine PW.en [iZ 0] ?_;refine PW.bg [] ?_;refine PW.ro (M.at_ 0).2.1 f uCl iC ?_;refine PW.gi y λw4 I=>?_
   refine PW.en [.bool true] ?_;have C:=mk1 (M.grow I);have B4:=mk1 (B3.trans (I.mono B3.size));have et:((t i:Int) == (t i:Int))=true:=by simp
   have ei:((i:Int) == (i:Int))=true:=by simp
   refine PW.bg [.bool true] ?_;refine PW.gd ?_;refine PW.go [.bool true] ?_;refine PW.gd ?_;refine PW.go [oZ m 2] ?_;refine PW.gd ?_;refine PW.ce ((C.at_ 0).2.1 2 _ x2) Ad ?_;refine PW.gd ?_;refine PW.go [] ?_;refine PW.gd ?_;refine PW.go [.bool ((t i:Int) == (t i:Int))] ?_;rw[et];refine PW.go [.bool true] ?_;refine PW.gd ?_;refine PW.go [jZ m] ?_;refine PW.gd ?_;refine PW.ce ((C.at_ 0).2.1 0 _ x0) u3r ?_;refine PW.gd ?_;refine PW.go [] ?_;refine PW.gd ?_;refine PW.go [iZ i] ?_;refine PW.gd ?_;refine PW.go [.bool ((i:Int) == (i:Int))] ?_;rw[ei];refine PW.go [.bool true] ?_;refine PW.gd ?_;refine PW.go [] ?_;refine PW.gd ?_;refine PW.go [iZ i] ?_;refine PW.gd ?_;refine PW.go [] ?_;refine PW.gd ?_;refine PW.go [iZ i] ?_;refine PW.gd ?_;refine PW.go [.bool ((i:Int) == (i:Int))] ?_;rw[ei];refine PW.en [.bool true,.bool true] ?_;apply Za;go_ret;exact⟨_,rfl,B4,rfl⟩
end
def fld:∃(P:Nat) (_:NeZero P),Fld P:=by
 obtain⟨P,i,j,f⟩:=cur;have g:P=Go.Proofs.YtlofhpkoaljmeaaGreat.p0:=by rw[j];decide +kernel
 have d:=WX;have e:2<=Go.Proofs.YtlofhpkoaljmeaaGreat.p0%18446744073709551616:=dK;have b:Go.Proofs.YtlofhpkoaljmeaaGreat.p0/4%18446744073709551616<18446744073709551615:=dK;have c:Go.Proofs.YtlofhpkoaljmeaaGreat.p0%4=3:=dK;have k:7<Go.Proofs.YtlofhpkoaljmeaaGreat.p0:=dK;rw[<-g]at d e b c k;exact⟨P,i,⟨d,f,e,b,c,k⟩⟩
namespace EC
variable {P:Nat}[NeZero P]
def fo{α:Type}(x:Fin P)(f:Fin P->α):α:=
 match x.val with
 | 0=>f (ZT P 0)
 | n+1=>f (ZT P (n+1))
def UZ{α:Type}(x:Fin P)(f:Fin P->α):fo x f=f x:=by
 have hx:ZT P x.val=x:=Fin.ext (X6 x.isLt);unfold fo;split
 .next h=>rw[h]at hx;rw[hx]
 .next n h=>rw[h]at hx;rw[hx]
def runs(u v:Fin P)(e:Nat):Nat->Fin P->Fin P->Fin P->Bool
 | 0,_,_,z=>decide (z=0)
 | k+1,x,y,z=>fo (twX x y) λX=>fo (twY x y) λY=>fo (twZ y z) λZ =>
  if e/2^k%2=1 then
   if Z=0 then false else
   fo (cN X 1) λd=>fo (eM Y 1) λg=>fo (cN u Z) λbx=>fo (eM v Z) λf =>
   if d=bx/\g=f then false else
   fo (plX d g bx f) λa=>fo (plY d g bx f) λb=>fo (plZ Z 1 d bx) λc=>runs u v e k a b c
  else runs u v e k X Y Z
def Eo(C:Cur P):(1:Fin P)≠0:=λh=>C.two (by
 calc (2:Fin P)=2*1:=by grobner
  _=0:=by rw[h];grobner)
def Bm(C:Cur P){u v:Fin P}(c:On (some (u,v)))(e:Nat):∀(k m:Nat) (x y z:Fin P),Jac x y z (mul m (some (u,v)))->runs u v e k x y z=true->mul (m*2^k+e%2^k) (some (u,v))=none
 | 0,m,x,y,z,hj,h=>by
  have b:=of_decide_eq_true h;rw[Nat.pow_zero,Nat.mod_one,Z5,yAl];exact hj.zero C b
 | k+1,m,x,y,z,hj,h=>by
  have p:=cE C c m;have g:=hj.twice C p;rw[<-mul_add C c]at g;have n:e%2^(k+1)=e/2^k%2*2^k+e%2^k:=by
   rw[Zf,Nat.mod_mul,YK (2^k) (e/2^k%2),Nat.add_comm]
  have o:2^(k+1)=2*2^k:=by rw[Zf,YK]
  unfold runs at h;simp only[UZ]at h;by_cases b:e/2^k%2=1
  .rw[yEX b]at h;by_cases l:twZ y z=0
   .rw[yEX l]at h;cases h
   .rw[yEY l]at h;have f:Jac u v 1 (some (u,v)):=⟨Eo C,by grobner,by grobner⟩
    rcases g.plus C (cE C c _) f c l (Eo C)with⟨d,i,-⟩|⟨d,i⟩
    .rw[yEX ⟨d,i⟩]at h;cases h
    .rw[yEY d]at h;have j:=Bm C c e k (m+m+1) _ _ _ i h;rw[n,b,o];rw[show m*(2*2^k)+(1*2^k+e%2^k)=(m+m+1)*2^k+e%2^k by
      rw[yAs,yAs,<-yAo,YK m 2,yEx,yAs];omega]
     exact j
  .rw[yEY b]at h;have d:e/2^k%2=0:=oM;have j:=Bm C c e k (m+m) _ _ _ g h;rw[n,d,o];rw[show m*(2*2^k)+(0*2^k+e%2^k)=(m+m)*2^k+e%2^k by
    rw[<-yAo,YK m 2,yEx];omega]
   exact j
def pL:Nat:=115792089237316195423570985008687907853269984665640564039457584007908834671663
def nL:Nat:=115792089237316195423570985008687907852837564279074904382605163141518161494337
instance:NeZero pL:=⟨dK⟩
def Re:runs (P:=pL) (ZT pL 55066263022277343669578718895168534326250603453777594175500187360389116729240) (ZT pL 32670510020758816978083085130507043184471273380659243275938904335757337482424) nL 255 (ZT pL 55066263022277343669578718895168534326250603453777594175500187360389116729240) (ZT pL 32670510020758816978083085130507043184471273380659243275938904335757337482424) 1=true:=dK
def Nz:2*pL+1<3*nL:=dK
def Sr:1*2^255+nL%2^255=nL:=dK
def order(C:Cur P)(b:P=pL)(k:On (some (ZT P 55066263022277343669578718895168534326250603453777594175500187360389116729240,ZT P 32670510020758816978083085130507043184471273380659243275938904335757337482424))){r:Pt P}(c:On r):mul nL r=none:=by
 subst b;refine J8 C (n:=nL) NT.pN Nz k (λh=>by cases h) ?_ c;have h:=Bm C k nL 255 1 _ _ 1 (by
  show Jac _ _ 1 (add none _);rw[jS];exact⟨Eo C,by grobner,by grobner⟩) Re
 rwa[Sr]at h
end EC
section
def J4:Go.Proofs.YtlofhpkoaljmeaaGreat.p1=nL:=dK
variable {P:Nat}[NeZero P]
def order2(C:Fld P)(r:EC.Pt P)(b:On r):mul Go.Proofs.YtlofhpkoaljmeaaGreat.p1 r=none:=by
 rw[J4];have k:P=EC.pL:=by
  rw[C.eq];rfl
 exact order C.cur k (CZ C) b
end
section
open SPA
def Uo:Ord Go.Proofs.YtlofhpkoaljmeaaGreat.p1:=⟨WW,T9,dK,dK⟩
def NZ:IsP Go.Proofs.YtlofhpkoaljmeaaGreat.p1:=by
 rw[J4];exact NT.pN
def IY(s:ByteArray)(q:Option Y0)(n c:Nat)(w:XA)(h:n=0\/∃g o,q=some ⟨g,o,none⟩/\∀i,i<n->∃x y:Nat,x<18446744073709551616/\y<18446744073709551616/\w.cell? ⟨g,o+3*i+1,none⟩=some (uZ x)/\w.cell? ⟨g,o+3*i+2,none⟩=some (uZ y)):
 cZ 3 #[.string s,.slice q n c] w λe w'=>e=.returned tZ/\kZ w w':=by
 obtain⟨P,u,C⟩:=fld;have a:NeZero Go.Proofs.YtlofhpkoaljmeaaGreat.p1:=⟨dK⟩
 have hx:∀i,∃z:Nat × Nat,z.1<18446744073709551616/\z.2<18446744073709551616/\(i<n->∀g o,q=some ⟨g,o,none⟩->w.cell? ⟨g,o+3*i+1,none⟩=some (uZ (z.1:Int))/\w.cell? ⟨g,o+3*i+2,none⟩=some (uZ (z.2:Int))):=λi=>by
  by_cases b:i<n
  .rcases h with h|⟨g,o,rfl,h⟩
   .omega
   .obtain⟨x,y,d,f,k⟩:=h i b;refine⟨(x,y),d,f,λ_ l j e=>?_⟩;injection e with e
    injection e with e1 e2
    rw[<-e1,<-e2];exact k
  .exact⟨(0,0),by decide,by decide,λh=>absurd h b⟩
 refine(O4 s q n c (λi=>(hx i).choose.1) (λi=>(hx i).choose.2) w (λi=>(hx i).choose_spec.1) (λi=>(hx i).choose_spec.2.1) (λr=>?_) λK A B n d f k m t p l q j c sc w=>books C Uo (order2 C) NZ dK n d K A B f k m t p l q j c sc w).mono ?_
 .rcases h with h|⟨g,o,rfl,h⟩
  .omega
  .obtain⟨x,y,-,-,k,-⟩:=h 0 r;exact⟨g,o,rfl,World.block_lt_of_cell? _ _ k,λi b=>(hx i).choose_spec.2.2 b g o rfl⟩
 .rintro e w' ⟨v,rfl,h,rfl⟩;exact⟨rfl,h⟩
end
/-
  THE ROW OF 'AuditTrue' round its walk: a text and a slice of structs (three integers).
-/
namespace auditTrue
open Go.ChangeShapes Go.WideShapes Go.ChangeAt
open Go.ChangeMaps (open_string shut_string)
def own:ownKnob prog.godebug=none:=kR
def laidOut:laidOutB prog=true:=kR
def GW:prog.cellsOf 26=3:=kR
def cells3:prog.cellsOf 3=1:=kR
def cells24:prog.cellsOf 24=1:=kR
def JX{n:Int}(h:(Lit.int .u64 n).wf=true):∃m:Nat,m<2^64/\n=(m:Int):=by
 simp only[Lit.wf,Bool.and_eq_true,decide_eq_true_eq]at h;have e:Yt.min=0:=dC;have e':Yt.max=18446744073709551615:=dC;rw[e,e']at h;exact⟨n.toNat,oM,oM⟩
def PL{H:Type}{enc:Yd × XB->H}{W:XA}{n:Nat}{cs:List XB}{x:DataW H × List MemPlace}(h:DataW.trod enc prog W 0 (λ_=>true) true n 26 cs=some x):
 ∃(d:Int) (a b:Nat),a<2^64/\b<2^64/\cs=[iZ d,uZ a,uZ b]:=by
 obtain⟨A,y,z,m,_,f,q,p,s⟩:=Go.Deep.trod_struct3 underlying26 h;rw[GW]at f;match cs,f with
 | [a,b,c],_ =>
  obtain⟨j,e,_,_⟩:=yCC underlying3 q;obtain⟨v,k,_,i⟩:=yCC underlying24 p;obtain⟨w,g,_,r⟩:=yCC underlying24 s;obtain⟨u,t,rfl⟩:=JX i;obtain⟨o,l,rfl⟩:=JX r;simp only[cells3,cells24,List.drop_zero,List.drop_succ_cons,List.take_succ_cons,List.take_zero,List.cons.injEq,and_true]at e k g;exact⟨j,u,o,t,l,by rw[e,k,g]⟩
def lifted(Q:Os)(f:Q.Started)(H:Type)(enc:Yd × XB->H):
 ReturnsInHanded {} Tryz.checked Q 3 .any (Rows.auditTrueSpec.pre6 enc prog Tryz.f3 Rows.auditTrueRow.domain false) (Rows.auditTrueSpec.post enc prog Tryz.f3 false true false false):=by
 refine returnsInHanded_of_change (C:=Tryz.checked) own f kR func3
  (ChangeSpec.witness6 (enc:=enc) (C:=Tryz.checked) false ⟨#[],#[.string ByteArray.empty,nZ],[]⟩ 8 kR kR kR kR) ?_
 intro W U args ds gs B u X h2 _;have k:=u;have G:=X;obtain⟨p,q,O,hV,rfl,h5,h3⟩:=X;have Z:=O;rw[params3]at Z k;obtain⟨v0,h8,d0,h9,p0,q0,K,rfl,rfl,h0,r0⟩:=trodAll_cons Z;obtain⟨v1,h4,d1,h6,p1,q1,rfl,rfl,rfl,R,r1⟩:=trodAll_cons r0;obtain⟨rfl,rfl,rfl⟩:=trodAll_nil r1;obtain rfl:args=#[v0,v1]:=by cases args;simp_all
 obtain⟨rfl,rfl⟩:=trodVars_none hV;obtain⟨a0,rfl,rfl,rfl,w0⟩:=open_string underlying9 (k 0 9 v0 rfl rfl) h0;obtain⟨a1,len1,w,rfl⟩:=okWide_slice underlying22 (k 1 22 v1 rfl rfl);have Y:=R;have J:∀x∈p1,x.block<W.heap.size:=by obtain⟨m,T⟩:=Y;exact DataW.trod_lt m _ _ _ T
 have I:len1=0\/∃g o,a1=some ⟨g,o,none⟩/\∀i,i<len1->∃x y:Nat,x<2^64/\y<2^64/\W.cell? ⟨g,o+3*i+1,none⟩=some (uZ x)/\W.cell? ⟨g,o+3*i+2,none⟩=some (uZ y):=by
  obtain⟨V,hf⟩:=R;rcases Go.Deep.open_slice underlying22 hf with⟨r,_⟩|⟨a,l,c,m,n,D,Pl,r,_,hl,T,z,_,hx⟩
  .simp[yEn]at r;obtain⟨rfl,rfl,rfl⟩:=r;exact Ye rfl
  .simp[yEn]at r;obtain⟨rfl,rfl,rfl⟩:=r;simp only[if_true]at z;subst z;by_cases F:len1=0
   .exact Ye F
   rw[GW]at hx;obtain⟨b,off,A⟩:=a;obtain⟨h7,L,E⟩:=hx 0 oM;obtain⟨_,P,s⟩:=yDx L;obtain⟨_,_,_,_,_,rfl⟩:=PL E;have t:A=none:=by simpa[Addr.add]using World.cell?_spot (s 0 oM)
   subst t;refine X7 ⟨b,off,rfl,λi hi=>?_⟩;obtain⟨cs,hc,ht⟩:=hx i oM;obtain⟨_,S,v⟩:=yDx hc;obtain⟨d,x,y,M,N,rfl⟩:=PL ht;have e:∀j,j<3->W.cell? ⟨b,off+3*i+j,none⟩=[iZ d,uZ x,uZ y][j]?:=λj hj=>by
    have:=v j hj;rw[yDi,yDi]at this;rw[YK 3 i];exact this
   exact⟨x,y,M,N,e 1 dC,e 2 dC⟩
 refine(IY a0 a1 len1 w W I).mono λe W' ⟨r,bel⟩=>?_
 subst r;exact⟨_,rfl,_,_,_,[],_,[],G,trodAll_mk1 (shut_bool underlying4 _),trodAll_cons_mk (shut_string underlying9 w0) (trodAll_cons_mk (Below.trod laidOut kR (of_decide_eq_true kR) Y bel J) trodAll_mk0),rfl,bel.frame _,λh=>by cases h⟩
def over:Rows.auditTrueRow.holds Tryz.pinned (OpenSpec.ofChange Rows.auditTrueSpec):=
 OpenClaim.holds_of_wide 3 Tryz.f3 rfl rfl rfl rfl rfl rfl rfl ⟨rfl,rfl,rfl,rfl,rfl⟩ rfl rfl rfl rfl rfl kR func3 kR
  (of_decide_eq_true kR) (by unfold Func.isWrapper;first|(rw[yEX dK];kernel_rfl)|(rw[yEY dK];exact⟨rfl,rfl⟩))
  (λb k H enc _=>lifted b k H enc)
def proved:Rows.AuditTrueSaid:=
 over
end auditTrue
section
theorem auditTrue_holds:Rows.AuditTrueSaid:=auditTrue.proved
#print axioms auditTrue_holds
end
end Go.Proofs.YtlofhpkoaljmeaaGreat
