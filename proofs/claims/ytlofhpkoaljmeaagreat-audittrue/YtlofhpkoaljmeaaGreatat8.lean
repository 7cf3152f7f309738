import Derived.Deep.DeepCutAuto
import Derived.Deep.Upon
import Derived.Maps.AppendAt
import Derived.BigQuiet
import Derived.Test.YtlofhpkoaljmeaaGreatat7
set_option linter.unusedVariables false
set_option linter.constructorNameAsVariable false
set_option linter.unusedSimpArgs false
set_option maxRecDepth 1000000
set_option maxHeartbeats 4000000
namespace Go.Proofs.YtlofhpkoaljmeaaGreat
open EC NT RG SP
open _root_.And renaming intro->YP
open _root_.Array renaming getD_eq_getD_getElem?->XI,getElem?_push_size->ZT,getElem_append_left->yBq,mapM_eq_mapM_toList->ZP,size->Y8,size_append->Yg
open _root_.Go renaming Addr->YW,Calls->XH,FuncId->ZY,Oper->Yo,Program->YG,Tmp->Zs,TypeId->Yd,Value->Xu,World->Xs,bodyPost_ret->XE,execOp->Yb,run_loadVar_mid->yAA,undef->Zp,wpList_load_mid->Yv,wpList_store_mid->X8,wp_block->Y6,wp_cond_false->X7,wp_cond_true->Yx,wp_exit->yBh,wp_ret->Y5,wp_seq->Xy,wp_skip->YR
open _root_.Go.Act renaming put->XK
open _root_.Go.Builtin renaming append_->YA
open _root_.Go.Instr renaming box->Yl,buildSlice->Yr,indexAt->Yi,sliceAt->Zk
open _root_.Go.IntKind renaming i64->Yh,u32->yCd,u64->Yn,u8->yAV,wrap_i64->Zc,wrap_u32->yDg,wrap_u64->ZK
open _root_.Go.Lib renaming wpList_append_run->yAx
open _root_.Go.Next renaming value->ZN
open _root_.Go.Oper renaming upon_enter->ZI,wp->YV
open _root_.Go.Region renaming ready->Yf,wanted->YS
open _root_.Go.RowKit.Below renaming refl->XM
open _root_.Go.Sem renaming run_bind->XT
open _root_.Go.Value renaming agg->X6,int->YQ,ownBlock->Za
open _root_.Go.World renaming cell?->YO,cell?_setCell_other->XZ,cell?_setCell_same->Y1,frozen?->Zi,heap_setCells_other->yCF,rangeAt_setCells_same->YM,size_alloc->XF,size_setCell->yAP
open _root_.List renaming all_cons->yB5,all_nil->yCq,all_toArray->yAJ,append_assoc->YI,drop->ZR,eq_replicate_iff->yC2,getElem?_append_left->XQ,getElem?_append_right->XR,getElem?_cons_succ->Ya,getElem?_cons_zero->Yc,getElem?_eq_getElem->XJ,getElem?_eq_none->ZG,getElem?_eq_some_iff->XG,getElem?_map->Ys,getElem?_range->yBg,getElem?_toArray->Ye,getElem_map->Z9,length_append->XC,length_cons->Yq,length_eq_zero_iff->yCR,length_map->XV,length_nil->Zr,mapM_cons->yA3,mapM_nil->yBc,map_append->YU,map_cons->Z6,map_nil->yCn,mem_append->Y3,mem_cons->YX,mem_map->Yw,mem_of_getElem?->YK,mem_range->YZ,mem_replicate->yBj,mem_singleton->YY,not_mem_nil->X5,range->Yt,replicate->YE,setIfInBounds_toArray->Xt,set_cons_succ->Xv,set_cons_zero->Xw,sum_append->yDO,sum_cons->yD8,take->ZQ,take_add_one->yCl,take_append_drop->yBJ
open _root_.Nat renaming add_assoc->Zu,add_sub_cancel_left->ZM,le_of_ble_eq_true->Yy,le_refl->Xx,le_trans->XB,lt_of_lt_of_le->Xz,lt_of_succ_le->ZW,mod_lt->Y9,mul_comm->YF,mul_one->Z5,not_lt_zero->ZV,pow_le_pow_right->Y4,reduceAdd->YH,sub_self->yA8,zero_add->XD,zero_le->Zh,zero_lt_one->yDW
open _root_.Option renaming map->yEd,map_eq_some_iff->XA,some->XS
open _root_.Or renaming inl->X9,inr->X0
open _root_.Prod renaming mk->Ze
open _root_.UInt8 renaming ofNat->XN
open Go.Proofs.Tryz
open Go.RowKit Go.Sort Go.Deep
section
open SPA
section
variable {P:YG}{ops:Array Yo}{Q:Exit->Act->Xs->Prop}{p r:Nat}{J:Iv}{i fuel:Nat}{o:Yo}{listed:Array Bool}{a a':Act}{w w':Xs}{d:Option Zs}{x v:Xu}{t:Zs}{T:Yd}{b off:Nat}{cs:List Xu}
theorem AG.ro(i:Nat)(g:∀W,J.p W->W.rangeAt b off cs)(hv:Hid (.agg cs.toArray=x))(m:(P.underlying T).map (·.isRow)=some true)(j:(P.info? T).map (·.size)=some cs.length)(h:AW P ops Q p r J fuel (listed.setIfInBounds i true) a' w)(ho:ops[i]? = some o:=by(simp only[Ye,Ya,Yc])<;>rfl)(hd:o.dst=d:=by rfl)(f:YS o (yielded ops a.tmps)=true:=by kernel_rfl)(k:o.op=.load T (.tmp t):=by rfl)(hx:a.eval (.tmp t)=oZ b off:=by rfl)
 (l:a.put d x=a':=by(simp only[XK,Xt,Xv,Xw])<;>rfl) (s:aw1 ops p r (qw ops J.b p r i) i listed=true:=by kernel_rfl) (e:∀c a w,Q (.panic c) (a.put o.dst x) w->Q (.panic c) a w:=by exact λ_ _ _ h=>h):AW P ops Q p r J (fuel+1) listed a w:=by
 obtain rfl:=hv.out;obtain⟨q,u,v⟩:=XA.1 m;exact AW.take i (qw ops J.b p r i) ho hd (yieldsIf_load_mid f T (.tmp t) k b off hx cs q (λw n=>g w (Sa.bel n)) u v j) l s e h
theorem AG.mv(i:Nat)(h:AW P ops Q p r J fuel (listed.setIfInBounds i true) a' w)(ho:ops[i]? = some o:=by(simp only[Ye,Ya,Yc])<;>rfl)(hd:o.dst=d:=by rfl)(f:YS o (yielded ops a.tmps)=true:=by kernel_rfl)(k:o.op=.move (.tmp t):=by rfl)(hx:a.eval (.tmp t)=x:=by(conv=>lhs;whnf)<;>rfl)
 (g:a.put d x=a':=by(simp only[XK,Xt,Xv,Xw])<;>rfl) (b:aw1 ops p r (fw ops i) i listed=true:=by kernel_rfl) (e:∀c a w,Q (.panic c) (a.put o.dst x) w->Q (.panic c) a w:=by exact λ_ _ _ h=>h):AW P ops Q p r J (fuel+1) listed a w:=
 AW.take i (fw ops i) ho hd (X9 ⟨f,λw _=>by unfold Yb;rw[k];dsimp only;rw[hx];rfl⟩) g b e h
theorem AG.cw(i:Nat){f:ZY}{args:Array Xu}{R:Xu->Xs->Prop}(g:J.p w->XH P f args w (Ret R))(hR:∀e w',J.p w->R e w'->J.p w')(h:∀e w',R e w'->AW P ops Q p r J fuel (listed.setIfInBounds i true) (a.put d e) w')(ho:ops[i]? = some o:=by(simp only[Ye,Ya,Yc])<;>rfl)(hd:o.dst=d:=by rfl)(c:YS o (yielded ops a.tmps)=true:=by kernel_rfl)(hx:(Yb a.eval o).run P w=.ok (.enter f args) w:=by kernel_rfl)(j:Yf .any ops listed=[i]:=by kernel_rfl):AW P ops Q p r J (fuel+1) listed a w:=λb=>by
 subst hd;exact anyS.step ho j λK l=>by
  rw[yES c];unfold YV;rw[hx,ZI];refine(g b).mono ?_;rintro e w' ⟨v,rfl,k⟩;exact l.out _ _ (X0 (hR v w' b k)) (h v w' k (hR v w' b k))
end
variable {P:Nat}[NeZero P]{N:Nat}[NeZero N]
theorem Vr(a b c d e f g h i j k:Xu)(w:Xs):(Yl 66 (.agg #[a,b,c,d,e,f,g,h,i,j,k])).run prog w=.ok (jZ w.heap.size) (w.alloc (.cells #[a,b,c,d,e,f,g,h,i,j,k] 66)):=kR
def q33(g:Nat × Nat):Xu:=sZ g.1 33 g.2
def q32(g:Nat × Nat):Xu:=sZ g.1 32 g.2
structure RgU(Q:Nat->Prop)(W:Xs)(p:Rp)(a b c d e f g:Nat × Nat):Prop where
 a:ElQ Q 33 W (q33 a) p.a
 b:ElQ Q 33 W (q33 b) p.s
 c:ElQ Q 33 W (q33 c) p.c
 d:ElQ Q 33 W (q33 d) p.d
 e:ElQ Q 32 W (q32 e) (bx p.u)
 f:ElQ Q 32 W (q32 f) (bx p.m)
 g:ElQ Q 32 W (q32 g) (bx p.t)
theorem RgU.keep{Q:Nat->Prop}{W W':Xs}{p:Rp}{a b c d e f g:Nat × Nat}(h:RgU Q W p a b c d e f g)(k:Kq Q W W'):RgU Q W' p a b c d e f g:=⟨h.a.keep k,h.b.keep k,h.c.keep k,h.d.keep k,h.e.keep k,h.f.keep k,h.g.keep k⟩
structure RgV(t:Nat)(p:Rp)(Lb Rb:Nat->Bs)(Ab Bb:Bs)(e:Xu)(W:Xs):Prop where
 ex:∃a b c d u m s vL vR vA vB,e=.agg #[q33 a,q33 b,q33 c,q33 d,q32 u,q32 m,q32 s,vL,vR,vA,vB]/\RgU (λ_=>True) W p a b c d u m s/\TlV t W vL Lb/\TlV t W vR Rb/\ElQ (λ_=>True) 32 W vA Ab/\ElQ (λ_=>True) 32 W vB Bb
theorem RgV.below{t:Nat}{p:Rp}{g Rb:Nat->Bs}{i j:Bs}{e:Xu}{W W':Xs}(h:RgV t p g Rb i j e W)(f:kZ W W'):RgV t p g Rb i j e W':=by
 obtain⟨a,b,c,d,u,m,s,l,y,v,q,o,x,r,hR,w,n⟩:=h.ex;have k:Kq (λ_=>True) W W':=Kq.of_below f;exact⟨a,b,c,d,u,m,s,l,y,v,q,o,x.keep k,r.below f,hR.below f,w.keep k,n.keep k⟩
theorem Vl(a b c:Nat × Nat)(w:Xs):(Yr 27 3 #[(0,q32 a),(1,q32 b),(2,q32 c)]).run prog w=.ok (sZ w.heap.size 3 3) (w.alloc (.cells #[q32 a,q32 b,q32 c] 23)):=kR
theorem Xd(a b c d:Nat × Nat)(w:Xs):(Yr 27 4 #[(0,q33 a),(1,q33 b),(2,q33 c),(3,q33 d)]).run prog w=.ok (sZ w.heap.size 4 4) (w.alloc (.cells #[q33 a,q33 b,q33 c,q33 d] 23)):=kR
abbrev pqP(k n:Nat)(B:Nat->Bs):Pq:=⟨λQ W=>PtL Q W k n B,λ_ _ _ k h=>h.keep k,λ_ _ _ m h=>h.mono2 m⟩
def four(a b c d:Bs)(j:Nat):Bs:=if j=0 then a else if j=1 then b else if j=2 then c else d
def Be{α:Type}(a b c:α)(j:Nat):α:=if j=0 then a else if j=1 then b else c
theorem Fh{Q:Nat->Prop}{W':Xs}{k:Nat}{a b c:Nat × Nat}{x y z:Bs}(h:ElQ Q 32 W' (q32 a) x)(g:ElQ Q 32 W' (q32 b) y)(e:ElQ Q 32 W' (q32 c) z)(d:Row W' k [q32 a,q32 b,q32 c]):Args W' (some (aZ k)) 3 (Be x y z):=λ_=>by
 refine⟨_,rfl,d.1,λj f=>?_⟩;match j,f with
 | 0,_=>exact⟨_,d.2.1 0 _ rfl,h.argS⟩
 | 1,_=>exact⟨_,d.2.1 1 _ rfl,g.argS⟩
 | 2,_=>exact⟨_,d.2.1 2 _ rfl,e.argS⟩
 | j+3,h=>omega
theorem JB{Q:Nat->Prop}{W:Xs}{k n c:Nat}{a:Nat->Nat}(h:SLq Q W (sZ k n c) n a)(i:Nat)(b:i<n):W.rangeAt k (0+4*i) (wn (a i)):=by
 obtain⟨g,o,d,e,-,-,-,h⟩:=h;cases e
 exact h i b
theorem FW{Q:Nat->Prop}{W:Xs}{k n:Nat}{B:Nat->Bs}(h:PtL Q W k n B)(i:Nat)(b:i<n):W.rangeAt k (0+33*i) (aA (B i)):=by
 rw[XD];exact(h i b).2.2
abbrev Z3:List Xu:=[.slice none 0 0,.slice none 0 0,.slice none 0 0]
theorem Qx{x:Xu}(h:x∈Z3):x=.slice none 0 0:=by
 simp only[YX,X5,or_false,or_self]at h;exact h
def pLw(v:Xu)(r:Nat)(L:Bs):S1:=⟨λx w=>x=v/\r<w.heap.size/\Holds encB w r 0 L,λ_ _ _ k h=>⟨h.1,Xz h.2.1 k.size,Holds.below h.2.2 k h.2.1⟩⟩
theorem row_ne{rs:List (Nat × List Xu)}{k r:Nat}{c t:List Xu}(h:(rs.map (·.1)).Nodup)(i j:Nat)(l:i≠j)(o:rs[i]? = some (k,c))(n:rs[j]? = some (r,t)):k≠r:=λe=>by
 have g:=List.pairwise_iff_getElem.1 h;obtain⟨m,p⟩:=XG.1 o;obtain⟨q,u⟩:=XG.1 n;have d:(rs.map (·.1))[i]'(by simpa using m)=k:=by rw[Z9,p]
 have f:(rs.map (·.1))[j]'(by simpa using q)=r:=by rw[Z9,u]
 rcases Nat.lt_or_ge i j with b|s
 ·exact g i j _ _ b (d.trans (e.trans f.symm))
 ·exact g j i _ _ oM (f.trans (e.symm.trans d.symm))
theorem Nm(C:Fld P)(O:Ord N)(k:∀r:EC.Pt P,On r->mul N r=none)(j:IsP N)(u:18446744073709551616<=N){n t:Nat}(q:Wd n t)(p:Rp)(ok:p.Ok)(V:Bs)(b d c:OnP P)(i:V=wP b)(f:p.c=wP d)(s:p.d=wP c)(tau tt x y z:Fin N)(l:p.u=tau.val)(m:p.t=tt.val)(w:Xs)(X:Bs)(g:X=wP ((aD C k).cm (hPV C) (gPG C) (tt-rgD n y z) tau))(o:X=wP ((aD C k).ad ((aD C k).ad ((aD C k).ac (z*z) b) ((aD C k).ac x d)) ((aD C k).ac (x*x) c))):
 XH prog 162 #[.agg p.l.toArray,pvl V,iZ n,nv x.val,nv y.val,nv z.val] w (rZ w λe w'=>e=.bool true):=by
 refine(Nn C O k j u q p ok V b d c i f s tau tt x y z l m w X X g o).mono ?_;rintro e w' ⟨v,rfl,f,rfl⟩;refine⟨_,rfl,f,?_⟩;generalize X=Y;simp only[decide_true]
theorem uIl:(prog.underlying 252).map (·.isRow)=some true:=kR
theorem iIl(c k t a b:Nat):(prog.info? 252).map (·.size)=some (inL c k t a b).length:=kR
theorem Qz(C:Fld P)(O:Ord N)(d:∀r:EC.Pt P,On r->mul N r=none)(hP:IsP N)(hN:18446744073709551616<=N){n t:Nat}(hw:Wd n t)(p:Rp)(ok:p.Ok)(V:Bs)(Vp PA PS P1 P2:OnP P)(hV:V=wP Vp)(hA:p.a=wP PA)(hS:p.s=wP PS)(S:p.c=wP P1)(h2:p.d=wP P2)(tau mu tt x y z Z:Fin N)(hu:p.u=tau.val)(hm:p.m=mu.val)(ht:p.t=tt.val)(L3 L6 L8:Bs)(l3:L3=bgL V n p.a p.s)(ey:y=kX N L3)(ez:z=kX N (aX L3))(l6:L6=mdL (aX (aX L3)) p.c p.d)(ex:x=kX N L6)(l8:L8=enL (aX L6) p.u p.m p.t)(ew:Z=kX N L8)
 (Lb Rb:Nat->Bs) (Lp Tp:Nat->OnP P) (du:∀j,Lb j=wP (Lp j)) (dw:∀j,Rb j=wP (Tp j)) (a b:Fin N) (u:OnP P) (eu:u=(aD C d).ac Z (uPt C)) (v0:Md.Vs Bs (OnP P)) (d9:v0.s=aX L8) (ed:v0.g=gPt C ⟨#[108,101,102,116]⟩) (ej:v0.h=λi=>(aD C d).ac (pwF (ivF y) i) (gPt C ⟨#[114,105,103,104,116]⟩ i)) (ee:v0.p=(aD C d).ad ((aD C d).ad ((aD C d).ad ((aD C d).ad PA ((aD C d).ac x PS)) ((aD C d).ac (-1) ((aD C d).ac mu (gPG C)))) ((aD C d).ad ((aD C d).dt (λ_=>-z) v0.g n) ((aD C d).dt (rgS y z) v0.h n))) ((aD C d).ac tt u)) (X:Bs) (hX:X=wP ((aD C d).cm (hPV C) (gPG C) (tt-rgD n y z) tau)) (hY:X=wP ((aD C d).ad ((aD C d).ad ((aD C d).ac (z*z) Vp) ((aD C d).ac x P1)) ((aD C d).ac (x*x) P2))) (ep:(aD C d).MW u a b ((aD C d).vst (chF N) ivF t Lp Tp v0 t)) (e:Xu) (w:Xs) (bl:RgV t p Lb Rb (bx a.val) (bx b.val) e w) :
 XH prog 107 #[pvl V,iZ n,e] w (rZ w λe w'=>e=.bool true):=by
 obtain⟨g1,g2,g3,g4,g5,g6,g7,vL,vR,vA,vB,rfl,hT,hL,hR,eA,eB⟩:=bl.ex;have cv:=hw.2.2;have sV:V.size=33:=by rw[hV];exact aL _
 have k6:=λ(W:Xs) (D:kZ w W)=>(Kq.of_below D:Kq (λ_=>True) w W)
 have HT:=mk1 (λ(W:Xs) (D:kZ w W)=>hT.keep (k6 W D));have h4:∀X:OnP P,∃q,rd P (wP X)=some q:=λX=>by obtain⟨q,hq,-⟩:=xT C X.2;exact⟨q,hq⟩
 have br:=mk1 (λ(W:Xs) (D:kZ w W)=>NQ C O cv W (hL.below D) (hR.below D) (eA.keep (k6 W D)) (eB.keep (k6 W D)) (λj _=>by rw[du];exact h4 _) (λj _=>by rw[dw];exact h4 _) (kT O a.isLt) (kT O b.isLt));obtain⟨vV,h0⟩:=hE (pvl V);obtain⟨k3,d0⟩:=hE (w.heap.size);obtain⟨w1,cq⟩:=hE (w.alloc (.cells (aA V).toArray 51));obtain⟨k5,bm⟩:=hE (w1.heap.size);obtain⟨w2,d2⟩:=hE (w1.alloc (.cells [q33 g1,q33 g2,q33 g3,q33 g4,q32 g5,q32 g6,q32 g7,vL,vR,vA,vB].toArray 66));have K2:=mk1 (((Mp.start w).new d0 cq).new bm d2);obtain⟨ve,cx⟩:=hE (X6 #[q33 g1,q33 g2,q33 g3,q33 g4,q32 g5,q32 g6,q32 g7,vL,vR,vA,vB]);have B1:Hid ((Yl 51 vV).run prog w=.ok (jZ k3) w1):=by rw[<-h0.out,<-cq.out,<-d0.out];exact sM sV w
 have B2:Hid ((Yl 66 ve).run prog w1=.ok (jZ k5) w2):=by rw[<-cx.out,<-d2.out,<-bm.out];exact Vr _ _ _ _ _ _ _ _ _ _ _ w1
 have co:=mk1 (hw.hv w2);rw[h0.out,cx.out];clear bl hT hL hR eA eB k6;go_enter func107,ntmps107;refine Xy ?_;refine PW.begin ?_;refine PW.ns B1.out ?_;refine PW.ns B2.out ?_;refine PW.va (.bool false) ?_;refine PW.dn ?_;refine Xy ?_;refine PW.begin ?_;refine PW.mv ?_;refine PW.gi co.out λw3 dx=>?_
 have K3:=mk1 (K2.grow dx);clear K2 dx co B1 B2;refine PW.mv ?_;refine PW.va (iZ t) ?_;refine PW.va (.bool true) ?_;refine PW.va (iZ t) ?_;refine PW.va (.bool true) ?_;refine PW.dn ?_;refine Xy ?_;refine PW.begin ?_;refine PW.va (oZ k5 7) ?_;refine PW.ro (cs:=[vL,vR,vA,vB]) (rnB (xs:=[q33 g1,q33 g2,q33 g3,q33 g4,q32 g5,q32 g6,q32 g7]) (K3.at_ 1).2.1 rfl) (Hid.mk' rfl) Nc KU ?_;refine PW.mv ?_;refine PW.ca (br w3 K3.bl) ?_;rintro e w4 ⟨dy,kl,kr,rfl,ci,cp⟩;simp only[XK,Xt,Xv,Xw];have A:=mk1 ((K3.gets dy (pqP kl t Lb) ci).has (pqP kr t Rb) (cp.mono2 λg _ hg=>K3.nk g hg));clear br dy ci cp K3;obtain⟨vI,hvI⟩:=hE (X6 (inL kl kr t a.val b.val).toArray);rw[hvI.out];refine PW.mv ?_;refine PW.va vI ?_;refine PW.va (.bool true) ?_;obtain⟨k9,da⟩:=hE (w4.heap.size);obtain⟨w5,bz⟩:=hE (w4.alloc (.cells inZ.toArray 252));obtain⟨w6,dl⟩:=hE (w5.setCells k9 0 (inL kl kr t a.val b.val));have B:=mk1 (A.new da bz);have K6:=mk1 (B.put 2 dl);refine PW.al da bz ?_;refine PW.st dl hvI (B.th 2) (iIl _ _ _ _ _) (Gz _ _ _ _ _) ?_;refine PW.va (.bool true) ?_;clear A B;refine PW.dn ?_;have I:=HT w6 K6.bl;obtain⟨kb,eb⟩:=hE (w6.heap.size);obtain⟨w7,c9⟩:=hE (w6.alloc (.cells [q33 g1,q33 g2,q33 g3,q33 g4].toArray 23));have h8:Hid ((Yr 27 4 #[(0,q33 g1),(1,q33 g2),(2,q33 g3),(3,q33 g4)]).run prog w6=.ok (sZ kb 4 4) w7):=by rw[<-c9.out,<-eb.out];exact Xd _ _ _ _ w6
 have F7:=aM eb c9;have e5:Hid (XH prog 56 #[.func (.func 57) #[] #[],sZ kb 4 4] w7 (rZ w7 λe w'=>∃K,e=.tuple #[sZ K 4 4,.bool true]/\PtL (w7.heap.size<=·) w' K 4 (four p.a p.s p.c p.d))):=by
  have kq:Kq (λ_=>True) w6 w7:=Kq.of_below F7.1;refine(Fp C kb 4 4 dC (four p.a p.s p.c p.d) w7 F7.2.1 λj T=>?_).mono ?_
  ·match j,T with
   | 0,_=>exact⟨_,F7.2.2.1 0 _ rfl,(I.a.keep kq).arg⟩
   | 1,_=>exact⟨_,F7.2.2.1 1 _ rfl,(I.b.keep kq).arg⟩
   | 2,_=>exact⟨_,F7.2.2.1 2 _ rfl,(I.c.keep kq).arg⟩
   | 3,_=>exact⟨_,F7.2.2.1 3 _ rfl,(I.d.keep kq).arg⟩
  ·rintro e w' ⟨v,rfl,D,h⟩;rcases h with⟨-,K,rfl,l,s,k3⟩|⟨⟨j,T,f⟩,-⟩
   ·exact⟨_,rfl,D,K,rfl,λj T=>⟨l,s,k3 j T⟩⟩
   ·exfalso;have:∃q,rd P (four p.a p.s p.c p.d j)=some q:=by
     match j,T with
     | 0,_=>rw[show four p.a p.s p.c p.d 0=p.a from rfl,hA];exact h4 _
     | 1,_=>rw[show four p.a p.s p.c p.d 1=p.s from rfl,hS];exact h4 _
     | 2,_=>rw[show four p.a p.s p.c p.d 2=p.c from rfl,S];exact h4 _
     | 3,_=>rw[show four p.a p.s p.c p.d 3=p.d from rfl,h2];exact h4 _
    obtain⟨q,hq⟩:=this;rw[hq]at f;cases f
 refine Xy ?_;refine PW.begin ?_;refine PW.va (jZ k5) ?_;refine PW.ce ((K6.at_ 1).2.1 0 _ rfl) uBy ?_;refine PW.va (oZ k5 1) ?_;refine PW.ce ((K6.at_ 1).2.1 1 _ rfl) uBy ?_;refine PW.va (oZ k5 2) ?_;refine PW.ce ((K6.at_ 1).2.1 2 _ rfl) uBy ?_;refine PW.va (oZ k5 3) ?_;refine PW.ce ((K6.at_ 1).2.1 3 _ rfl) uBy ?_;refine PW.ns h8.out ?_;refine PW.ca e5.out ?_;rintro e w8 ⟨d4,A,rfl,e9⟩;simp only[XK,Xt,Xv,Xw];have K8:=mk1 ((K6.grow F7.1).gets d4 (pqP A 4 (four p.a p.s p.c p.d)) e9);clear e5 h8 F7 I K6 d4 e9;refine PW.mv ?_;refine PW.va (sZ A 4 4) ?_;refine PW.va (.bool true) ?_;refine PW.va (sZ A 4 4) ?_;refine PW.va (.bool true) ?_;refine PW.dn ?_;have I:=HT w8 K8.bl;obtain⟨kc,cn⟩:=hE (w8.heap.size);obtain⟨w9,cu⟩:=hE (w8.alloc (.cells [q32 g5,q32 g6,q32 g7].toArray 23));have h8:Hid ((Yr 27 3 #[(0,q32 g5),(1,q32 g6),(2,q32 g7)]).run prog w8=.ok (sZ kc 3 3) w9):=by rw[<-cu.out,<-cn.out];exact Vl _ _ _ w8
 have F9:=aM cn cu;have k0:Kq (λ_=>True) w8 w9:=Kq.of_below F9.1;have ct:=mk1 (Mw O 3 3 dC (some (aZ kc)) (Be (bx p.u) (bx p.m) (bx p.t)) (Be p.u p.m p.t) w9 (Fh (I.e.keep k0) (I.f.keep k0) (I.g.keep k0) F9.2) λj T=>by
  match j,T with
  | 0,_=>exact kT O (by rw[hu];exact tau.isLt)
  | 1,_=>exact kT O (by rw[hm];exact mu.isLt)
  | 2,_=>exact kT O (by rw[ht];exact tt.isLt)
  | j+3,h=>omega)
 refine Xy ?_;refine PW.begin ?_;refine PW.va (oZ k5 4) ?_;refine PW.ce ((K8.at_ 1).2.1 4 _ rfl) uBy ?_;refine PW.va (oZ k5 5) ?_;refine PW.ce ((K8.at_ 1).2.1 5 _ rfl) uBy ?_;refine PW.va (oZ k5 6) ?_;refine PW.ce ((K8.at_ 1).2.1 6 _ rfl) uBy ?_;refine PW.ns h8.out ?_;refine PW.ca ct.out ?_;rintro e hr ⟨kh,B,rfl,c0⟩;simp only[XK,Xt,Xv,Xw];have J:=mk1 ((K8.grow F9.1).gets kh (pqS (sZ B 3 3) 3 (Be p.u p.m p.t)) c0);clear ct h8 F9 I K8 kh c0 k0;refine PW.mv ?_;refine PW.va (sZ B 3 3) ?_;refine PW.va (.bool true) ?_;refine PW.va (sZ B 3 3) ?_;refine PW.va (.bool true) ?_;refine PW.dn ?_;refine Xy ?_;go_wp2_with fail
 rename_i Q' K hKK
 refine hG (pvl p.a) λva c5=>?_
 refine hG (pvl p.s) λvs d6=>?_
 refine hG (pvl p.c) λvc e0=>?_
 refine hG (pvl p.d) λvd db=>?_
 refine hG (nv p.u) λvu d3=>?_
 refine hG (nv p.m) λvm d5=>?_
 refine hG (nv p.t) λvt de=>?_
 refine hG (X6 p.l.toArray) λvp E=>?_
 refine hG hr.heap.size λb0 D=>?_
 have he:∀ {W},kZ hr W->b0<=W.heap.size:=λh=>D.out ▸ h.size
 refine(gwL [pE (sZ A 4 4),pE (.pointer (some ⟨A,0+33*0,none⟩)),pE va,pE (sZ A 4 4),pE (.pointer (some ⟨A,0+33*1,none⟩)),pE vs,pE (sZ A 4 4),pE (.pointer (some ⟨A,0+33*2,none⟩)),pE vc,pE (sZ A 4 4),pE (.pointer (some ⟨A,0+33*3,none⟩)),pE vd,pE (sZ B 3 3),pE (.pointer (some ⟨B,0+4*0,none⟩)),pE vu,pE (sZ B 3 3),pE (.pointer (some ⟨B,0+4*1,none⟩)),pE vm,pE (sZ B 3 3),pE (.pointer (some ⟨B,0+4*2,none⟩)),pE vt,pE vp,RG.pN b0 rp0.l] (λW=>kZ hr W) (λW W' D h=>h.trans (D.mono h.size))).tail2 23 kR kR kR ⟨
  gO 11 (sZ A 4 4),
  EH 0 67 (sZ A 4 4) (.pointer (some ⟨A,0+33*0,none⟩)) (Yi 83 (sZ A 4 4) (iZ ((0:Nat):Int))) (atP A 0 4 4 0 dC) (λx W h=>h) (λ_=>rfl),
  gLr (cs:=aA p.a) 1 68 (λW s=>FW ((J.grow s).get 2) 0 dC) uCP (by rw[aB ok.a];exact iCP) (hR:=λ_=>c5.out),
  gO 11 (sZ A 4 4),
  EH 3 70 (sZ A 4 4) (.pointer (some ⟨A,0+33*1,none⟩)) (Yi 83 (sZ A 4 4) (iZ ((1:Nat):Int))) (atP A 0 4 4 1 dC) (λx W h=>h) (λ_=>rfl),
  gLr (cs:=aA p.s) 4 71 (λW s=>FW ((J.grow s).get 2) 1 dC) uCP (by rw[aB ok.s];exact iCP) (hR:=λ_=>d6.out),
  gO 11 (sZ A 4 4),
  EH 6 73 (sZ A 4 4) (.pointer (some ⟨A,0+33*2,none⟩)) (Yi 83 (sZ A 4 4) (iZ ((2:Nat):Int))) (atP A 0 4 4 2 dC) (λx W h=>h) (λ_=>rfl),
  gLr (cs:=aA p.c) 7 74 (λW s=>FW ((J.grow s).get 2) 2 dC) uCP (by rw[aB ok.c];exact iCP) (hR:=λ_=>e0.out),
  gO 11 (sZ A 4 4),
  EH 9 76 (sZ A 4 4) (.pointer (some ⟨A,0+33*3,none⟩)) (Yi 83 (sZ A 4 4) (iZ ((3:Nat):Int))) (atP A 0 4 4 3 dC) (λx W h=>h) (λ_=>rfl),
  gLr (cs:=aA p.d) 10 77 (λW s=>FW ((J.grow s).get 2) 3 dC) uCP (by rw[aB ok.d];exact iCP) (hR:=λ_=>db.out),
  gO 13 (sZ B 3 3),
  EH 12 79 (sZ B 3 3) (.pointer (some ⟨B,0+4*0,none⟩)) (Yi 143 (sZ B 3 3) (iZ ((0:Nat):Int))) (mC B 0 3 3 0 dC) (λx W h=>h) (λ_=>rfl),
  gLr (cs:=wn p.u) 13 80 (λW s=>JB ((J.grow s).get 3) 0 dC) u40 i40 (hR:=λ_=>d3.out),
  gO 13 (sZ B 3 3),
  EH 15 82 (sZ B 3 3) (.pointer (some ⟨B,0+4*1,none⟩)) (Yi 143 (sZ B 3 3) (iZ ((1:Nat):Int))) (mC B 0 3 3 1 dC) (λx W h=>h) (λ_=>rfl),
  gLr (cs:=wn p.m) 16 83 (λW s=>JB ((J.grow s).get 3) 1 dC) u40 i40 (hR:=λ_=>d5.out),
  gO 13 (sZ B 3 3),
  EH 18 85 (sZ B 3 3) (.pointer (some ⟨B,0+4*2,none⟩)) (Yi 143 (sZ B 3 3) (iZ ((2:Nat):Int))) (mC B 0 3 3 2 dC) (λx W h=>h) (λ_=>rfl),
  gLr (cs:=wn p.t) 19 86 (λW s=>JB ((J.grow s).get 3) 2 dC) u40 i40 (hR:=λ_=>de.out),
  Lg [(69,va),(72,vs),(75,vc),(78,vd),(81,vu),(84,vm),(87,vt)] vp (λa W f=>⟨f.n 2 69 kR kR,f.n 5 72 kR kR,f.n 8 75 kR kR,f.n 11 78 kR kR,f.n 14 81 kR kR,f.n 17 84 kR kR,f.n 20 87 kR kR,yEU⟩) (λ_=>rfl) (λW=>by rw[<-c5.out,<-d6.out,<-e0.out,<-db.out,<-d3.out,<-d5.out,<-de.out,<-E.out];unfold pvl Rp.l;rw[dE ok.a,dE ok.s,dE ok.c,dE ok.d];kernel_rfl),
  tY rp0.l 153 (λW W' h s=>⟨_,rfl,he s,h⟩),yEU⟩ ⟨rfl,rfl,rfl,Xx _,λ_ _=>rfl⟩ ?_
 intro Y7 eg hR s;have ck:Y7 21=vp:=hR 21 dC;obtain⟨bg,bi,bs,dp⟩:=hR 22 dC;have bd:=mk1 (J.add s dp (by rw[D.out];exact bs));dsimp only[bY,YH,ZQ,ZR];simp only[XK,Xt,Xv,Xw];rw[ck,bi];clear hR s ck bi J D he bs dp;refine hG (eg.setCells bg 0 p.l) λhc ke=>?_
 have lR:p.l.length=rp0.l.length:=(Rp.len ok).trans (Rp.len JO).symm;have k7:=mk1 (bd.put 3 ke rfl lR);have h5:(prog.info? 153).map (·.size)=some p.l.length:=by rw[Rp.len ok];exact iRd
 refine PW.st ke E (bd.th 3 rfl lR) h5 (Rp.one p) ?_;clear bd;refine PW.dn ?_;refine hKK _ _ ?_;clear hKK K;refine hG (aX (aX L3)) λL5 b2=>?_
 have s5:L5.size=32:=by rw[<-b2.out];exact bD _ _
 refine hG (nv y.val) λvy R=>?_
 refine hG (nv z.val) λvz h6=>?_
 have kj:n<=64:=by rw[hw.1];exact XB (Y4 dC hw.2.2) dC
 have ky:Hid (XH prog 79 #[vp,vV,iZ n] hc (rZ hc λe w'=>∃r,e=.tuple #[lgV r,vy,vz]/\hc.heap.size<=r/\Holds encB w' r 0 L5)):=by
  have h:=Qi O p ok V sV n oM hc;rw[<-l3,nJ O hP ey,nJ O hP ez,b2.out,E.out,h0.out,R.out,h6.out]at h;exact h
 have iV:(prog.info? 51).map (·.size)=some (aA V).length:=by rw[aB sV];exact iCP
 refine Xy ?_;refine PW.begin ?_;refine PW.ro (k7.at_ 3).2.1 E uRd h5 ?_;refine PW.ro (k7.at_ 0).2.1 h0 uCP iV ?_;refine PW.mv ?_;refine PW.ca ky.out ?_;rintro e cg ⟨kw,r,rfl,lr,Hr⟩;simp only[XK,Xt,Xv,Xw];have c4:=mk1 (k7.add kw (qP Hr (Holds.lt Hr (by rw[s5];decide))) lr);clear ky kw lr Hr k7;refine PW.mv ?_;refine PW.va (lgV r) ?_;refine PW.va vy ?_;refine PW.va vz ?_;refine hG (cg.heap.size) λba k8=>?_
 refine hG (cg.alloc (.cells [.pointer none].toArray 159)) λea ko=>?_
 refine hG ea.heap.size λb9 ka=>?_
 refine hG (ea.alloc (.cells (RG.z 4).toArray 44)) λd8 kn=>?_
 refine hG d8.heap.size λdz km=>?_
 refine hG (d8.alloc (.cells (RG.z 4).toArray 44)) λer ki=>?_
 refine hG (er.setCells ba 0 [jZ r]) λek kf=>?_
 refine hG (ek.setCells b9 0 (wn y.val)) λes kv=>?_
 refine hG (es.setCells dz 0 (wn z.val)) λbf kk=>?_
 have bc:=mk1 (((c4.new k8 ko).new ka kn).new km ki);have b5:=mk1 (bc.put 5 kf);have b3:=mk1 (b5.put 6 kv);have h9:=mk1 (b3.put 7 kk);refine PW.al k8 ko ?_;refine PW.al ka kn ?_;refine PW.al km ki ?_;refine PW.st kf (Hid.mk' rfl) (bc.th 5) iLg kR ?_;refine PW.st kv R (b5.th 6) i40 (aI _) ?_;refine PW.st kk h6 (b3.th 7) i40 (aI _) ?_;clear c4 bc b5 b3;refine PW.dn ?_;refine hG (aX L6) λL7 bb=>?_
 have s7:L7.size=32:=by rw[<-bb.out];exact bD _ _
 refine hG (nv x.val) λvx h7=>?_
 have kd:Hid (XH prog 85 #[vp,lgV r] bf (Ret λe w'=>SP.Only r 0 32 bf w'/\Holds encB w' r 0 L7/\e=vx)):=by
  have h:=PN O p ok r L5 bf (h9.log 4) s5;rw[show mdL L5 p.c p.d=L6 by rw[<-b2.out];exact l6.symm,nJ O hP ex,bb.out,E.out,h7.out]at h;exact h
 refine Xy ?_;refine PW.begin ?_;refine PW.ro (h9.at_ 3).2.1 E uRd h5 ?_;refine PW.ro (cs:=[jZ r]) (h9.at_ 5).2.1 (Hid.mk' rfl) uLg iLg ?_;refine PW.ca kd.out ?_;rintro e bo ⟨kg,kx,d7⟩;obtain rfl:=d7.symm;simp only[XK,Xt,Xv,Xw];have cz:=mk1 (h9.say 4 kg kx);clear kd kg kx h9;refine hG (bo.heap.size) λbp kp=>?_
 refine hG (bo.alloc (.cells (RG.z 4).toArray 44)) λet kt=>?_
 refine hG (et.setCells bp 0 (wn x.val)) λL ku=>?_
 have b6:=mk1 (cz.new kp kt);have F:=mk1 (b6.put 8 ku);refine PW.al kp kt ?_;refine PW.st ku h7 (b6.th 8) i40 (aI _) ?_;clear cz b6;refine PW.dn ?_;refine hG (aX L8) λL9 hz=>?_
 have s9:L9.size=32:=by rw[<-hz.out];exact bD _ _
 refine hG (nv Z.val) λvw dq=>?_
 have be:0<n:=by rw[hw.1];exact Nat.pow_pos dC
 obtain⟨Q2,hQ⟩:=F.out.q;have nr:∀g,Q2 g->g≠r:=F.ne hQ 4;have hs:=(F.at_ 4).1;have l:Hid (∀ {k:Nat}{c:List Xu}{W:Xs},Row L k c->k≠r->SP.Only r 0 32 L W->Row W k c):=λS h2 h3=>aS S h3.size (h3.block _ S.1 h2)
 have nk:Hid ((b9≠r/\bg≠r)/\ba≠r):=by
  have h:=F.out.nd;simp only[Z6,yCn,List.nodup_cons,YX,X5,or_false,not_or]at h;exact⟨⟨λe=>h.2.2.2.2.1.2.1 e.symm,h.2.2.2.1.1⟩,λe=>h.2.2.2.2.1.1 e.symm⟩
 have bq:=oH C hP.1 n;have cd:Hid (∀W,Holds encB W r 0 L7->XH prog 88 #[vp,lgV r] W (Ret λe w'=>SP.Only r 0 32 W w'/\Holds encB w' r 0 L9/\e=vw)):=λW hH=>by
  have h:=P7 O p ok (by rw[hu];exact tau.isLt) (by rw[hm];exact mu.isLt) (by rw[ht];exact tt.isLt) r L7 W hH s7;rw[show enL L7 p.u p.m p.t=L8 by rw[<-bb.out];exact l8.symm,nJ O hP ew,hz.out,E.out,dq.out]at h;exact h
 have bv:Hid (∀W v,(∀g,W.heap.size<=g->Q2 g)->GRq Q2 W v n (gGT P) (hGT P) (uGT P)->XH prog 91 #[v,vy,vw] W (rZ W λe w'=>GRq Q2 w' e n (gGT P) (qD N y.val (hGT P)) ((uGT P).map (tmT N Z.val)))):=λW v S h2=>by
  rw[<-R.out,<-dq.out];exact Jj O n be kj (gGT P) (hGT P) (uGT P) (λi G=>⟨(bq.tl i G).ok,by show 1<=512;decide⟩) (nM C hP.1).ok (by show 1<=512;decide) y.val Z.val y.isLt Z.isLt v W S h2
 refine hG L.heap.size λb0 D=>?_
 have he:∀ {W},SP.Only r 0 32 L W->b0<=W.heap.size:=λh=>D.out ▸ h.size
 have Gk:Hid (∀ {W W':Xs}{v:Xu}{G H U},SP.Only r 0 32 W W'->GRq Q2 W v n G H U->GRq Q2 W' v n G H U):=λhO h=>h.keep ⟨hO.size,λg hg hl=>hO.block g hl (nr g hg)⟩
 have rb:r<b0:=by rw[<-D.out];exact hs
 have ha:Hid (∀ {W:Xs},SP.Only r 0 32 L W->∀g,W.heap.size<=g->Q2 g):=λh g hg=>F.nkq hQ g (XB h.size hg)
 refine Xy ?_;refine(gwL [pE (iZ n),pR Q2 n (gGT P) (hGT P) (uGT P),pE vy,pE vp,pE (lgV r),pLw vw r L9,pR Q2 n (gGT P) (qD N y.val (hGT P)) ((uGT P).map (tmT N Z.val)),pX b0 Z3] (λW=>SP.Only r 0 32 L W) (λ_ _ D h=>h.trans (SP.Only.of_below D rfl (Xz hs h.size)))).tailL 5 (λW W'=>SP.Only r 0 32 W W') (λW=>r<W.heap.size/\Holds encB W r 0 L7) 8 (λj v W W' T hO h=>by
  match j,T with
  | 0,_=>exact h
  | 1,_=>exact Gk.out hO h
  | 2,_=>exact h
  | 3,_=>exact h
  | 4,_=>exact h
  | 5,T=>exact(T rfl).elim
  | 6,_=>exact Gk.out hO h
  | 7,_=>exact Oa hO rb h
  | j+8,_=>exact h) (λW W' hO h=>SP.Only.trans h hO) (λW W' D h=>⟨Xz h.1 D.size,Holds.below h.2 D h.1⟩) kR kR kR ⟨
  Ey (gO 1 (iZ n)),
  Ey (oG 0 100 76 (λx=>#[x]) (λx W e1 s=>by
   obtain rfl:x=iZ n:=e1;refine(yO (P:=P) C n oM W).mono ?_;rintro e W' ⟨M,rfl,S,h2⟩;exact⟨_,rfl,S,h2.mono (ha.out s)⟩)),
  Ey (gLo (cs:=wn y.val) 17 (λW s=>(l.out (F.at_ 6) nk.1.1 s).2.1) u40 i40 (hR:=λ_=>R.out)),
  Ey (gLo (cs:=p.l) 15 (λW s=>(l.out (F.at_ 3) nk.1.2 s).2.1) uRd h5 (hR:=λ_=>E.out)),
  Ey (gLo (cs:=[jZ r]) 16 (λW s=>(l.out (F.at_ 5) nk.2 s).2.1) uLg iLg),
  WI (λa W f s=>⟨[(103,vp),(104,lgV r)],88,#[vp,lgV r],⟨f.n 3 103 kR kR,f.n 4 104 kR kR,yEU⟩,kR,by
   refine(cd.out W s.2).mono ?_;rintro e W' ⟨M,rfl,S,h2,h3⟩;exact⟨_,rfl,S,h3,Xz s.1 S.size,h2⟩⟩),
  Ey (nG 1 101 2 102 5 105 91 (λx y z=>#[x,y,z]) (λx u z W e1 e2 e3 s=>by
   obtain rfl:u=vy:=e2;obtain rfl:z=vw:=e3.1;exact bv.out W x (ha.out s) e1)),
  Ey (UQ b0 Z3 150 (λW s=>he s) (λv W h=>h)),yEU⟩ (SP.Only.of_below (⟨rfl,rfl,rfl,Xx _,λ_ _=>rfl⟩:kZ L L.drew) rfl hs) ⟨hs,F.log 4⟩ ?_
 intro Y bh hR s;have dd:GRq Q2 bh (Y 6) n (gGT P) (qD N y.val (hGT P)) ((uGT P).map (tmT N Z.val)):=hR 6 dC;have c8:Holds encB bh r 0 L9:=(hR 5 dC).2.2;obtain⟨e4,e7,dm,ds,bn⟩:=hR 7 dC;obtain⟨cj,dh⟩:=F.out.sayAdd 4 s c8 ds (by rw[D.out];exact dm);have gl:∀j,j<n->0<(gGT P j).length:=λj T=>by rw[(wQ C hP.1 n).len j T];decide
 have hl:∀j,j<n->0<(qD N y.val (hGT P) j).length:=λj T=>by rw[(Lq C d hP y n).len j T];decide
 have k4:=(dd.offX be gl hl (by rw[XV];show 0<1;decide) (λi x hx=>Qx (bn i x hx))).mono λg hg=>dh g (by rw[hQ.out];exact hg.1) hg.2
 obtain⟨q1,q2,q3,e6,dk,e8,d1⟩:=k4.ex;obtain⟨ga,oa,ca,e1⟩:∃g o c,q1=.slice (some ⟨g,o,none⟩) n c:=by obtain⟨g,o,c,h,-⟩:=dk;exact⟨g,o,c,h⟩
 obtain⟨gb,ob,cb,e2⟩:∃g o c,q2=.slice (some ⟨g,o,none⟩) n c:=by obtain⟨g,o,c,h,-⟩:=e8;exact⟨g,o,c,h⟩
 obtain⟨gc,mc,cc,e3⟩:∃g m c,q3=sZ g m c:=by obtain⟨g,c,h,-⟩:=d1;exact⟨g,_,c,h⟩
 subst e1 e2 e3;rw[e6]at k4;have b7:=mk1 (cj.has (pqG _ n (gGT P) (qD N y.val (hGT P)) ((uGT P).map (tmT N Z.val))) k4);dsimp only[bY,YH,ZQ,ZR];simp only[XK,Xt,Xv,Xw];rw[e6,e7];clear hR s dd k4 dk e8 d1 c8 ds bn dm e6 e7 F cj dh D he rb ha Gk l cd bv nk hs nr hQ Q2 bq;refine hG (bh.setCells e4 0 [.slice (some ⟨ga,oa,none⟩) n ca,.slice (some ⟨gb,ob,none⟩) n cb,sZ gc mc cc]) λhk kz=>?_
 have f:=mk1 (b7.put 9 kz);refine PW.st kz (Hid.mk' rfl) (b7.th 9) iGr kR ?_;clear b7;refine PW.dn ?_;have ef:Hid (∀W,XH prog 162 #[vp,vV,iZ n,vx,vy,vz] W (rZ W λe w'=>e=.bool true)):=λW=>by
  rw[<-E.out,<-h0.out,<-h7.out,<-R.out,<-h6.out];exact Nm C O d hP hN hw p ok V Vp P1 P2 hV S h2 tau tt x y z hu ht W X hX hY
 have G1:Gd N n 1 (gGT P) v0.g:=by rw[ed];exact wQ C hP.1 n
 have G2:Gd N n 1 (qD N y.val (hGT P)) v0.h:=by rw[ej];exact Lq C d hP y n
 have G3:Tl N ((uGT P).map (tmT N Z.val)) u:=by rw[eu];exact(nM C hP.1).tm C d Z
 have G4:((uGT P).map (tmT N Z.val)).length=1:=by rw[XV];rfl
 obtain⟨lh,c7,ei,bu⟩:=UN C O d hP hN be kj p ok PA PS hA hS mu tt x y z hm ht (gGT P) (qD N y.val (hGT P)) ((uGT P).map (tmT N Z.val)) v0.g v0.h u G1 G2 G3 G4;rw[<-ee]at c7;rw[E.out,h7.out,R.out,h6.out]at bu;refine hG (X6 #[.slice (some ⟨ga,oa,none⟩) n ca,.slice (some ⟨gb,ob,none⟩) n cb,sZ gc mc cc]) λvg b8=>?_
 rw[b8.out]at f;have bj:=(f.at_ 4).1;refine Xy ?_;have l:Hid (∀ {k:Nat}{c:List Xu}{W:Xs},Row hk k c->k≠r->SP.Only r 0 32 hk W->Row W k c):=λS h2 h3=>aS S h3.size (h3.block _ S.1 h2)
 have c6:bg≠r:=(row_ne f.out.nd 3 4 dC rfl rfl)
 have n3:k3≠r:=(row_ne f.out.nd 0 4 dC rfl rfl)
 have n9:k9≠r:=(row_ne f.out.nd 2 4 dC rfl rfl)
 have en:ba≠r:=(row_ne f.out.nd 5 4 dC rfl rfl)
 have c3:b9≠r:=(row_ne f.out.nd 6 4 dC rfl rfl)
 have bk:dz≠r:=(row_ne f.out.nd 7 4 dC rfl rfl)
 have cf:bp≠r:=(row_ne f.out.nd 8 4 dC rfl rfl)
 have bt:e4≠r:=(row_ne f.out.nd 9 4 dC rfl rfl)
 refine AW.beg 20 20 (Iv.only bj) (SP.Only.of_below (⟨rfl,rfl,rfl,Xx _,λ_ _=>rfl⟩:kZ hk hk.drew) rfl bj) ?_;refine AW.ro 0 (cs:=p.l) (λW h=>(l.out (f.at_ 3) c6 h).2.1) E uRd h5 ?_;refine AW.ro 1 (λW h=>(l.out (f.at_ 0) n3 h).2.1) h0 uCP iV ?_;refine AW.mv 2 ?_;refine AW.ro 3 (λW h=>(l.out (f.at_ 8) cf h).2.1) h7 u40 i40 ?_;refine AW.ro 4 (λW h=>(l.out (f.at_ 6) c3 h).2.1) R u40 i40 ?_;refine AW.ro 5 (λW h=>(l.out (f.at_ 7) bk h).2.1) h6 u40 i40 ?_;refine AW.gi 6 (λ_=>ef.out _) λeo df=>?_
 have hy:=mk1 (f.drew.grow df);refine AW.mv 7 ?_;refine AG.ro 8 (cs:=inL kl kr t a.val b.val) (λW h=>(l.out (f.at_ 2) n9 h).2.1) hvI uIl (iIl _ _ _ _ _) ?_;refine AG.ro 9 (cs:=[jZ r]) (λW h=>(l.out (f.at_ 5) en h).2.1) (Hid.mk' rfl) uLg iLg ?_;refine AG.ro 10 (cs:=[.slice (some ⟨ga,oa,none⟩) n ca,.slice (some ⟨gb,ob,none⟩) n cb,sZ gc mc cc]) (λW h=>(l.out (f.at_ 9) bt h).2.1) b8 uGr iGr ?_;refine AG.ro 11 (cs:=p.l) (λW h=>(l.out (f.at_ 3) c6 h).2.1) E uRd h5 ?_;refine AG.ro 12 (cs:=[.slice (some ⟨ga,oa,none⟩) n ca,.slice (some ⟨gb,ob,none⟩) n cb,sZ gc mc cc]) (λW h=>(l.out (f.at_ 9) bt h).2.1) b8 uGr iGr ?_;refine AG.mv 13 ?_;refine AG.ro 14 (λW h=>(l.out (f.at_ 8) cf h).2.1) h7 u40 i40 ?_;refine AG.ro 15 (λW h=>(l.out (f.at_ 6) c3 h).2.1) R u40 i40 ?_;refine AG.ro 16 (λW h=>(l.out (f.at_ 7) bk h).2.1) h6 u40 i40 ?_;refine AG.cw 17 (λ_=>bu _ vg eo (hy.get 4)) (λe w' hJ h=>SP.Only.trans hJ (SP.Only.of_below h.1 rfl (hy.at_ 4).1)) ?_;rintro sv b4 ⟨ec,em⟩;simp only[XK,Xt,Xv,Xw];have M:=mk1 (hy.grow ec);have eh:Hid (XH prog 163 #[vI,lgV r,vg,sv] b4 (Ret λe w'=>SP.Only r 0 32 b4 w'/\e=.bool true)):=by
  obtain⟨Q,hQ⟩:=M.out.q;have nr:∀g,Q g->g≠r:=M.ne hQ 4;have f1:=(hy.at_ 4).1;rw[<-hvI.out];exact NM C O d hP t cv Lp Tp v0 u (gGT P) (qD N y.val (hGT P)) ((uGT P).map (tmT N Z.val)) lh (by rw[<-hw.1];exact G1) (by rw[<-hw.1];exact G2) G3 (by rw[G4];decide) (by rw[G4];decide) c7 ei Lb Rb du dw r kl kr a b vg sv b4 (by rw[d9,hz.out];exact M.log 4) (by rw[d9,hz.out];exact s9) (PtL.mono2 (M.vW hQ 0) λg _ hg=>nr g hg) (PtL.mono2 (M.vW hQ 1) λg _ hg=>nr g hg) (by rw[<-hw.1];exact GRq.mono (M.vW hQ 4) nr) (em.q.mono λg hg=>oM) true (by simp only[true_iff];exact ep)
 refine AG.cw 18 (λ_=>eh.out) (λe w' hJ h=>SP.Only.trans hJ h.1) ?_;rintro e f0 ⟨cy,rfl⟩;simp only[XK,Xt,Xv,Xw];refine AW.nx 19 (.bool true) ?_;refine AW.nx 20 (.bool true) ?_;refine AW.dn λ_=>?_
 have hF:=M.bl.trans (yC cy M.bl.size (M.rw (r,aA L9) (YK (i:=4) rfl)).1);go_wp2;go_ret;exact⟨_,rfl,hF,rfl⟩
end
section
variable {P:Nat}[NeZero P]{N:Nat}
def Cor(W:Xs)(k:List (YW × Nat))(us:List Xu):Prop:=k.length=us.length/\∀(j:Nat) x u,k[j]? = some x->us[j]? = some u->(∃b o,x.1=⟨b,o,none⟩)/\W.cell? x.1=some u
theorem Cor.app{W:Xs}{p1 p2:List (YW × Nat)}{u1 u2:List Xu}(k:Cor W p1 u1)(d:Cor W p2 u2):Cor W (p1++p2) (u1++u2):=by
 refine⟨by rw[XC,XC,k.1,d.1],λj x u hx b=>?_⟩;by_cases c:j<p1.length
 ·rw[XQ c]at hx;rw[XQ (by rw[<-k.1];exact c)]at b;exact k.2 j x u hx b
 ·rw[XR oM]at hx;rw[XR (by rw[<-k.1];omega),<-k.1]at b;exact d.2 _ x u hx b
theorem Cor.lp{W:Xs}{s:Sv}{b o:Nat}{ys:List Xu}(h:VL W s.q s.n ys)(c:s.n=0\/s.q=some ⟨b,o,none⟩):Cor W (lp b o s.n) ys:=by
 refine⟨by rw[jT,h.len],λj x u hx f=>?_⟩;unfold Go.Proofs.YtlofhpkoaljmeaaGreat.lp at hx;rw[Ys]at hx;obtain⟨k,g,rfl⟩:=XA.1 hx;have m:j<s.n:=by
  have:=(XG.1 g).1;simpa using this
 have e:j=k:=by
  have:=(XG.1 g).2;simpa using this
 subst e;refine⟨⟨_,_,rfl⟩,?_⟩;rcases h.cells with l|⟨p,n,d,-,i⟩
 ·rw[l]at f;cases f
 ·rcases c with c|c
  ·omega
  ·rw[c]at d;have d:=XS.inj d;injection d with e1 e2 _
   subst e1 e2;exact i j u f
def qS(p:Rg)(k b:List Xu):List Xu:=[p.a.v,p.b.v,p.c.v,p.d.v,p.e.v,p.f.v,p.g.v]++k++b++[p.x.v,p.y.v]
def gA(k b c n d or m:Nat):List (YW × Nat):=uI k++lp b c n++lp d or m++endP k
theorem OI{W:Xs}{l i g m or:Nat}{p:Rg}{e d:List Xu}(f:W.rangeAt l 0 p.cs)(o:VL W p.l.q p.l.n e)(hR:VL W p.r.q p.r.n d)(n:p.l.n=0\/p.l.q=some ⟨i,g,none⟩)(q:p.r.n=0\/p.r.q=some ⟨m,or,none⟩):
 Cor W (gA l i g p.l.n m or p.r.n) (qS p e d):=by
 refine Cor.app (Cor.app (Cor.app ?_ (Cor.lp o n)) (Cor.lp hR q)) ?_
 ·refine⟨rfl,λj x u hx b=>?_⟩;have c:=f j u;rw[XD]at c;match j,hx,b with
  | 0,hx,b|1,hx,b|2,hx,b|3,hx,b|4,hx,b|5,hx,b|6,hx,b =>
   obtain rfl:=XS.inj hx;exact⟨⟨_,_,rfl⟩,c b⟩
  | k+7,hx,b=>cases hx
 ·refine⟨rfl,λj x u hx b=>?_⟩;match j,hx,b with
  | 0,hx,b =>
   obtain rfl:=XS.inj hx;exact⟨⟨_,_,rfl⟩,by have c:=f 9 u b;rw[XD]at c;exact c⟩
  | 1,hx,b =>
   obtain rfl:=XS.inj hx;exact⟨⟨_,_,rfl⟩,by have c:=f 10 u b;rw[XD]at c;exact c⟩
  | k+2,hx,b=>cases hx
def fD(n m:Nat):List Nat:=[33,33,33,33,32,32,32]++YE n 33++YE m 33++[32,32]
theorem tQ(c k d n e or m:Nat):(gA c k d n e or m).map (·.2)=fD n m:=by
 have h:∀b o n,(lp b o n).map (·.2)=YE n 33:=λb o n=>by
  unfold lp;rw[List.map_map];exact List.ext_getElem (by simp) (λi f g=>by simp)
 unfold gA fD;rw[YU,YU,YU,h,h];rfl
theorem Ge(n m:Nat):∀k∈fD n m,k<=33:=by
 intro k b;unfold fD at b;simp only[Y3,YX,X5,or_false,yBj]at b;omega
theorem lM(n m:Nat):(fD n m).length=n+m+9:=by
 unfold fD;simp only[XC,List.length_replicate,Yq,Zr];omega
def PtB(W:Xs)(us:List Xu)(BB:List SP.Bs):Prop:=BB.length=us.length/\∀(j:Nat) u b,us[j]? = some u->BB[j]? = some b->Pt W u b
def fC(n:Nat)(BB:List SP.Bs)(i:Nat):SP.Bs:=(BB.take i).foldl (·++·) #[n.toUInt8]
theorem mA(n:Nat)(BB:List SP.Bs)(i:Nat)(b:SP.Bs)(h:BB[i]? = some b):fC n BB (i+1)=fC n BB i++b:=by
 unfold fC;rw[yCl,h];simp
def kS(n m:Nat)(BB:List SP.Bs):Prop:=n=m/\n<=6/\BB.map Y8=fD n m
def VH(w:Xs)(n m:Nat)(BB:List SP.Bs)(e:Ending)(W:Xs):Prop:=kZ w W/\((kS n m BB/\∃v,e=.returned (.tuple #[v,iZ 0])/\Pt W v (fC n BB (n+m+9))/\∃g c,v=sZ g (Y8 (fC n BB (n+m+9))) c/\Y8 (fC n BB (n+m+9))<=c)\/(¬kS n m BB/\e=.returned (.tuple #[.slice none 0 0,iZ 2])))
theorem PuI.cap{w k W:Xs}{d f:Nat}{v:Xu}{b:SP.Bs}(h:PuI w k W d f v b):∃g c,v=sZ g (Y8 b) c/\Y8 b<=c:=by
 rcases id h.ow with⟨l,⟨rfl,-⟩|⟨g,cap,cur,rfl,i,j,e,-⟩⟩
 ·exact absurd rfl h.nn
 ·exact⟨g,cap,rfl,e⟩
theorem PuI.pt{w o W:Xs}{l m:Nat}{v:Xu}{b:SP.Bs}(h:PuI w o W l m v b):Pt W v b:=by
 have k:=h.lt;rcases id h.ow with⟨t,⟨rfl,-⟩|⟨g,cap,cur,rfl,u,n,q,r,x,p⟩⟩
 ·exact absurd rfl h.nn
 ·obtain⟨s,d,e,-,i⟩:=k;injection e with e _ _
  injection e with e
  injection e with e _ _
  subst e;refine⟨_,_,rfl,X0 ⟨g,0,rfl,i,λj c=>?_⟩⟩;have f:=h.ow.cells (g:=g) rfl j (SP.encB b[j]!) (by
   unfold bC;rw[Ys,XJ (by simpa using c),Option.map_some,getElem!_pos b j c];simp)
  rw[gU,XD]at f;refine⟨by rw[XD];exact f,?_⟩;simp[Zi,n]
theorem TF:(prog.underlying 101).map (·.isRow)=some true:=kR
theorem iPt:(prog.info? 101).map (·.size)=some 2:=kR
theorem PZ(g n c i:Nat)(d:i<n)(w:Xs):(Yi 96 (sZ g n c) (iZ i)).run prog w=.ok (.pointer (some ⟨g,i*2,none⟩)) w:=by
 have b:¬(i:Int)<0:=oM;have e:(i:Int)<(n:Int):=oM;have k:=gU g 0 (i*2);rw[XD]at k;go_simp
theorem QY(p:Rg){R Q L or:Nat}{F C:List Xu}{BB:List SP.Bs}(w:Xs)(hL:VL w p.l.q p.l.n F)(hR:VL w p.r.q p.r.n C)(hl:p.l.n=0\/p.l.q=some ⟨R,Q,none⟩)(hr:p.r.n=0\/p.r.q=some ⟨L,or,none⟩)(hB:PtB w (qS p F C) BB)(n1:p.l.n<=1000)(n2:p.r.n<=1000):
 XH prog 22 #[.agg p.cs.toArray] w (VH w p.l.n p.r.n BB):=by
 obtain⟨cs,r⟩:∃cs:List Xu,Hid (p.cs=cs):=⟨_,rfl⟩
 obtain⟨l,s⟩:∃l,Hid (w.alloc (.cells cs.toArray 66)=l):=⟨_,rfl⟩
 have X:l.heap.size=w.heap.size+1:=by rw[<-s.out,XF]
 have b1:Below w.heap.size w l:=by rw[<-s.out];exact bJ _ _
 have r1:l.rangeAt w.heap.size 0 cs:=by rw[<-s.out];exact oK w cs _
 have V:l.cell? ⟨w.heap.size,7,none⟩=some p.l.v:=by have:=r1 7 p.l.v (by rw[<-r.out];rfl);rw[XD]at this;exact this
 have T:l.cell? ⟨w.heap.size,8,none⟩=some p.r.v:=by have:=r1 8 p.r.v (by rw[<-r.out];rfl);rw[XD]at this;exact this
 obtain⟨G,a⟩:∃G,Hid (l.alloc (.cells #[.int .u8 (p.l.n:Int)] 5)=G):=⟨_,rfl⟩
 have b2:Below l.heap.size l G:=by rw[<-a.out];exact bJ _ _
 have Y:G.heap.size=l.heap.size+1:=by rw[<-a.out,XF]
 have hP:Hid (XH prog 44 #[.pointer (some ⟨w.heap.size,0,none⟩)] G λe w'=>∃v,e=.returned v/\PLs G w' v (gA w.heap.size R Q p.l.n L or p.r.n)):=
  Aw w.heap.size p.l p.r R Q L or G oM (by rw[b2.cell (p:=⟨w.heap.size,7,none⟩) (by show w.heap.size<_;omega)];exact V) (by rw[b2.cell (p:=⟨w.heap.size,8,none⟩) (by show w.heap.size<_;omega)];exact T) hl hr n1 n2
 have D:=Hid.mkP b1;have h2:=Hid.mkP b2;have Z:=Hid.mkP r1;have HE:Hid (l.heap.size=w.heap.size+1/\G.heap.size=l.heap.size+1):=⟨X,Y⟩
 have HL:=Hid.mkP hL;have HR:=Hid.mkP hR;have Hl:=Hid.mkP hl;have Hr:=Hid.mkP hr;have HB:=Hid.mkP hB;have o:Hid ((qS p F C).length=p.l.n+p.r.n+9):=by
  show _=_;unfold qS;simp only[XC,hL.len,hR.len,Yq,Zr];omega
 clear b1 b2 r1 X Y hL hR hl hr hB;rw[r.out];obtain⟨f,S⟩:∃f,Hid (p.l.n=f):=⟨_,rfl⟩
 obtain⟨nr,N⟩:∃nr,Hid (p.r.n=nr):=⟨_,rfl⟩
 rw[show p.l.v=.slice p.l.q p.l.n p.l.c from rfl]at V;rw[show p.r.v=.slice p.r.q p.r.n p.r.c from rfl]at T;rw[S.out,N.out]at hP o⊢;rw[S.out]at V n1 a;rw[N.out]at T n2;generalize p.l.q=ql at V;generalize p.l.c=cl at V;generalize p.r.q=qr at T;generalize p.r.c=cr at T;go_enter func22,ntmps22;by_cases hg:f=nr
 ·subst hg;by_cases h6:f<=6
  ·have hc:¬(6:Int)<(f:Int):=oM;have hq:yAV.wrap (f:Int)=(f:Int):=by
    show((f:Int)%256)=_;omega
   go_wp2_with (first|(refine dO (v:=.pointer (some ⟨w.heap.size,0,none⟩)) (w':=l) rfl (.box 66 (.tmp 0)) rfl ?_ ?_;(rw[<-s.out,<-r.out];kernel_rfl))|(refine dO (v:=.slice (some ⟨l.heap.size,0,none⟩) 1 1) (w':=G) rfl (.buildSlice 23 1 #[(0,.tmp 23)]) rfl ?_ ?_;(rw[<-a.out];kernel_rfl))|fail)
   refine hP.out.mono ?_;rintro e U ⟨v3,rfl,O⟩;obtain⟨J,h0,rfl,h9,hb⟩:=O.lt;have hM:(gA w.heap.size R Q f L or f).length=f+f+9:=by
    rw[<-lM f f,<-tQ w.heap.size R Q f L or f,XV]
   have I0:Hid (PuI w U U w.heap.size J (.slice (some ⟨l.heap.size,0,none⟩) 1 1) (fC f BB 0)):=by
    obtain⟨z1,z2⟩:=HE.out;have m:=O.bl.size;refine⟨D.out.trans ((h2.out.mono D.out.size).trans (O.bl.mono oM)),⟨rfl,X0 ⟨l.heap.size,1,#[.int .u8 f],rfl,oM,?_,Xx _,dC,rfl,?_⟩⟩,by simp[Za],by simp[Za];omega,by simp[Za];omega,rfl,rfl,Xx _,oM,oM⟩
    ·rw[O.bl.block l.heap.size oM,<-a.out];exact ZT
    ·show [YQ .u8 f]=[SP.encB f.toUInt8];unfold SP.encB SP.ub;have:(f.toUInt8).toNat=f:=by
      rw[UInt8.toNat_ofNat'];omega
     simp[this]
   have HC:Hid (∀W v b,PuI w U W w.heap.size J v b->∀i,i<f+f+9->∃z y k q n c B,(fD f f)[i]? = some k/\k<=33/\W.rangeAt J (i*2) [.pointer (some ⟨z,y,none⟩),.int .i64 k]/\W.cell? ⟨z,y,none⟩=some (.slice q n c)/\BB[i]? = some B/\Pt W (.slice q n c) B):=λW v b hI i hi=>by
    obtain⟨z1,z2⟩:=HE.out;have t:W.rangeAt w.heap.size 0 p.cs:=λj u H=>by
     have e:=hI.e1;have m:U.heap[w.heap.size]? = l.heap[w.heap.size]?:=by rw[O.bl.block _ oM,h2.out.block _ oM]
     have:W.cell? ⟨w.heap.size,0+j,none⟩=l.cell? ⟨w.heap.size,0+j,none⟩:=by unfold YO;rw[e,m]
     rw[this];exact Z.out j u (by rw[<-r.out];exact H)
    have I:=OI t (HL.out.below hI.bl) (HR.out.below hI.bl) Hl.out Hr.out;rw[S.out,N.out]at I;obtain⟨x,hx⟩:∃x,(gA w.heap.size R Q f L or f)[i]? = some x:=⟨_,XJ oM⟩
    obtain⟨u,P⟩:∃u,(qS p F C)[i]? = some u:=⟨_,XJ (by rw[o.out];omega)⟩
    obtain⟨B,A⟩:∃B,BB[i]? = some B:=⟨_,XJ (by rw[HB.out.1,o.out];omega)⟩
    obtain⟨⟨z,y,m⟩,E⟩:=I.2 i x u hx P;have hpt:=(HB.out.2 i u B P A).below hI.bl;have hk:(fD f f)[i]? = some x.2:=by rw[<-tQ w.heap.size R Q f L or f,Ys,hx];rfl
    have K:=O.at i x hx;rw[m]at E;obtain⟨q,c,rfl,-⟩:=id hpt;refine⟨z,y,x.2,q,_,c,B,hk,Ge f f _ (YK hk),λj u H=>?_,E,A,hpt⟩;have e:=hI.e2;have:W.cell? ⟨J,i*2+j,none⟩=U.cell? ⟨J,i*2+j,none⟩:=by unfold YO;rw[e]
    rw[this,YF];exact K j u (by unfold pC;rw[m];exact H)
   obtain⟨M,t⟩:∃M,Hid (f+f+9=M):=⟨_,rfl⟩
   rw[t.out]at HC hM;rw[hM];have ht:M<=21:=by have:=t.out;omega
   have h4:Hid (BB.length=M):=by show _=_;rw[HB.out.1,o.out,t.out]
   have h5:Hid ((fD f f).length=M):=by show _=_;rw[lM,t.out]
   obtain⟨dP,he,hm⟩:=XA.1 TF;clear O hM hP HB HL HR Hl Hr o V T h9 hb Z;go_wp2;go_loopg [5,27] M (λgk s5 s27 wr=>∃i:Nat,i+gk=M/\s27=.int .i64 i/\Hid (PuI w U wr w.heap.size J s5 (fC f BB i)/\(fC f BB i).size<=1+33*i/\∀j,j<i->(BB[j]?).map Y8=(fD f f)[j]?))
   case atStart=>exact⟨0,oM,rfl,I0.out,by show 1<=_;omega,λj H=>absurd H (ZV _)⟩
   case round =>
    obtain⟨i,hi,rfl,K⟩:=hrel;obtain⟨g,cap,rfl,-,-⟩:=K.out.1.lt;by_cases h3:i<M
    ·have h1:(i:Int)<(M:Int):=oM;have hs:=PZ J M h0 i h3;obtain⟨z,y,k,q,n,c,B,k1,k2,k3,k4,k5,k6⟩:=HC.out _ _ _ K.out.1 i h3;have K3:=Hid.mkP k3;have I:Hid ((fD f f)[i]? = some k/\BB[i]? = some B/\Pt wr (.slice q n c) B):=⟨k1,k5,k6⟩
     clear k1 k3 k5 k6;obtain⟨A,E⟩:∃A,Hid (wr.alloc (.cells #[.pointer (some ⟨z,y,none⟩),.int .i64 k] 101)=A):=⟨_,rfl⟩
     have P:Below wr.heap.size wr A:=by rw[<-E.out];exact bJ _ _
     have a0:A.cell? ⟨wr.heap.size,0,none⟩=some (.pointer (some ⟨z,y,none⟩)):=by rw[<-E.out];exact fQ wr _ _ 0 _ rfl
     have a1:A.cell? ⟨wr.heap.size,1,none⟩=some (.int .i64 k):=by rw[<-E.out];exact fQ wr _ _ 1 _ rfl
     have a2:A.cell? ⟨z,y,none⟩=some (.slice q n c):=by rw[P.cell (p:=⟨z,y,none⟩) (World.block_lt_of_cell? _ _ k4)];exact k4
     have KA:Hid (∀d,Below wr.heap.size wr (A.drewN d)):=λd=>⟨P.os,P.tape,P.output,P.size,P.block⟩
     clear P;go_wp2_with (first|(refine Yv rfl 101 _ rfl J (i*2) ?_ [.pointer (some ⟨z,y,none⟩),.int .i64 k] dP ?_ ?_ ?_ ?_ ?_;rfl;exact K3.out;exact he;exact hm;exact iPt;skip)|fail)
     rw[E.out];go_quiet (fail);have KB:=Hid.mkP (KA.out nq);have q0:(A.drewN nq).cell? ⟨wr.heap.size,0,none⟩=some (.pointer (some ⟨z,y,none⟩)):=a0;have q2:(A.drewN nq).cell? ⟨z,y,none⟩=some (.slice q n c):=a2;clear KA a0 a1 a2;generalize A.drewN nq=wb at KB q0 q2⊢;by_cases ha:n=k
     ·subst ha;obtain⟨X,hv⟩:=(I.out.2.2.below KB.out).vl;subst X;have h7:=K.out.2.1;obtain⟨v',W',x1,m⟩:=(K.out.1.below KB.out).app (c:=c) hv oM;rw[<-mA f BB i B I.out.2.1]at m;have X2:=Hid.mkP m;have X3:Hid ((fC f BB (i+1)).size<=1+33*(i+1)/\∀j,j<i+1->(BB[j]?).map Y8=(fD f f)[j]?):=by
       refine⟨?_,λj H=>?_⟩
       ·rw[mA f BB i B I.out.2.1,Yg];omega
       ·by_cases h8:j=i
        ·subst h8;rw[I.out.2.1,I.out.1];rfl
        ·exact K.out.2.2 j oM
      have X1:=Hid.mkP x1;obtain⟨g',hp,rfl,-,-⟩:=m.lt;generalize Y8 (fC f BB (i+1))=N2 at X1 X2;generalize Y8 (fC f BB i)=N1 at X1⊢;clear K x1 m hv h7;generalize Y8 B=nB at X1 q2⊢;go_wp2_with (first|(at_builtin;refine yAx wb rfl _ _ _ _ rfl _ _ rfl rfl _ _ X1.out ?_)|fail)
      go_roundg (gk-1)
      case measure=>omega
      case rel=>exact⟨i+1,oM,rfl,X2.out,X3.out⟩
     ·have hn:¬(n:Int)=(k:Int):=oM;have m:¬kS f f BB:=λh=>by
       have e0:(BB.map Y8)[i]? = (fD f f)[i]?:=by rw[h.2.2]
       rw[Ys,I.out.2.1,I.out.1]at e0;have X:Y8 B=k:=XS.inj e0;obtain⟨q',c',Y,-⟩:=I.out.2.2;injection Y with _ Y _
       omega
      have HW:=Hid.mkP (K.out.1.bl.trans (KB.out.mono K.out.1.bl.size));clear K;go_wp2
      go_ret2
      exact⟨HW.out,X0 ⟨m,rfl⟩⟩
    ·have h1:¬(i:Int)<(M:Int):=oM;obtain rfl:i=M:=oM;have A:Hid (VH w f f BB (.returned (.tuple #[.slice (some ⟨g,0,none⟩) (fC f BB i).size cap,.int .i64 0])) wr):=by
      refine⟨K.out.1.bl,X9 ⟨⟨rfl,h6,List.ext_getElem? λj=>?_⟩,_,rfl,?_,?_⟩⟩
      ·by_cases H:j<i
       ·rw[Ys];exact K.out.2.2 j H
       ·rw[ZG (by rw[XV,h4.out];omega),ZG (by rw[h5.out];omega)]
      ·rw[t.out];exact K.out.1.pt
      ·rw[t.out];exact K.out.1.cap
     clear K;go_wp2
     go_ret2
     exact A.out
  ·have hc:(6:Int)<(f:Int):=oM;have m:¬kS f f BB:=λh=>h6 h.2.1
   go_wp2_with (first|(refine dO (v:=.pointer (some ⟨w.heap.size,0,none⟩)) (w':=l) rfl (.box 66 (.tmp 0)) rfl ?_ ?_;(rw[<-s.out,<-r.out];kernel_rfl))|fail)
   go_ret2
   exact⟨D.out,X0 ⟨m,rfl⟩⟩
 ·have t:¬(nr:Int)=(f:Int):=oM;have m:¬kS f nr BB:=λh=>hg h.1
  go_wp2_with (first|(refine dO (v:=.pointer (some ⟨w.heap.size,0,none⟩)) (w':=l) rfl (.box 66 (.tmp 0)) rfl ?_ ?_;(rw[<-s.out,<-r.out];kernel_rfl))|fail)
  go_ret2
  exact⟨D.out,X0 ⟨m,rfl⟩⟩
end
section
namespace RG
variable {P:YG}{ops:Array Yo}{Q:Exit->Act->Xs->Prop}{a0:Act}{F:Flow}
theorem lW{k:Nat}{o:Yo}(h:∀(a:Act) (w:Xs),PreF F ops a0 k o a w->∃(b:List (Zs × Xu)) (v:Xu) (w':Xs),AllE a b/\(cN (b.map (·.1)) o,(Yb (evo (evl b)) o).run P w)=(true,.ok (.value v) w')/\F.E k w w'/\F.R k v w'):bE P Q F ops a0 k o:=
 nA λa w d=>by
  obtain⟨b,v,w',e,c,hE⟩:=h a w d;simp only[Ze.injEq]at c;refine⟨v,w',?_,hE⟩;rw[jE (evl b) (b.map (·.1)) c.1 e.ev];exact c.2
theorem ES{k:Nat}{o:Yo}(T:Yd)(t:Zs)(ho:o.op=.load T (.tmp t))(c:(P.underlying T).map (·.isRow)=some false)
 (h:∀(a:Act) (w:Xs),PreF F ops a0 k o a w->∃g off v,a.eval (.tmp t)=oZ g off/\w.cell? ⟨g,off,none⟩=some v/\F.E k w w/\F.R k v w):bE P Q F ops a0 k o:=
 nA λa w e=>by
  obtain⟨g,off,v,b,d,f⟩:=h a w e;refine⟨v,w,?_,f⟩;unfold Yb;rw[ho];dsimp only;rw[b,XT,eN d c];rfl
end RG
end
section
theorem RN(a:YW)(n c:Nat)(w:Xs):(binOp .eql 23 (.slice (some a) n c) (.slice none 0 0)).run prog w=.ok (.bool false) w:=kR
theorem Mz{g o b k:Nat}(h:some (⟨g,o,none⟩:YW)=some ⟨b,k,none⟩):g=b/\o=k:=by
 cases h
 exact⟨rfl,rfl⟩
theorem Il{W:Xs}{B n s:Nat}{T:Yd}{v:Xu}{xs:List Xu}(h:W.ownsRow B T s v n xs):∃q c,v=.slice q n c:=by
 rcases h.2 with⟨e,e'⟩|⟨g,cap,cur,e,-⟩
 ·exact⟨none,0,by rw[e,e']⟩
 ·exact⟨_,_,e⟩
structure FrC(N:Nat)(X:SP.Bs)(v:Xu)(W:Xs):Prop where
 own:W.ownsRow N 5 1 v X.size (bC X)
 nn:v.ownBlock≠none
theorem FrC.below{N:Nat}{X:SP.Bs}{v:Xu}{W W':Xs}(h:FrC N X v W)(b:kZ W W'):FrC N X v W':=⟨bG h.own (λg k=>b.block g (bU h.own k).2.1),h.nn⟩
theorem LS(g o c:Nat)(X:SP.Bs)(J:X.size<=1000000)(w:Xs)(A:g<w.heap.size)(t:Holds SP.encB w g o X):
 XH prog 159 #[.slice (some ⟨g,o,none⟩) X.size c] w λe w'=>∃v,e=.returned v/\kZ w w'/\FrC w.heap.size X v w':=by
 obtain⟨i,B,a⟩:=XA.1 KT;simp only[Ze.injEq]at a;obtain⟨G,H,D⟩:=a;obtain⟨z,C,r⟩:=XA.1 D;obtain⟨d,f⟩:∃d,Hid (w.alloc (.cells #[] 5)=d):=⟨_,rfl⟩
 have p:d.heap.size=w.heap.size+1:=by rw[<-f.out,XF]
 have b1:kZ w d:=by rw[<-f.out];exact bJ _ _
 have ho:d.ownsRow w.heap.size 5 1 (sZ w.heap.size 0 0) 0 []:=by
  rw[<-f.out];exact⟨rfl,.inr ⟨w.heap.size,0,#[],rfl,Xx _,ZT,Xx _,Zh _,rfl,rfl⟩⟩
 have hpt:Pt d (.slice (some ⟨g,o,none⟩) X.size c) X:=⟨_,_,rfl,X0 ⟨g,o,rfl,oM,SP.Holds.below t b1 A⟩⟩
 obtain⟨-,hv⟩:=hpt.vl;have m:∀(j:Nat) u,(bC X)[j]? = some u->d.cell? ((⟨g,o,none⟩:YW).add j)=some u:=λj u q=>by
  rcases hv.cells with s|⟨b,x,n,-,m⟩
  ·rw[s]at q;cases q
  ·obtain⟨p,l⟩:=Mz n;subst p l;rw[gU];exact m j u q
 obtain⟨E,W',s,n,l,x⟩:=run_append_own (P:=prog) d w.heap.size 23 23 5 i z 1 1 Ag B C G H r dC _ 0 [] ho ⟨g,o,none⟩ X.size c (bC X) (by rw[uJ];omega) m (zQ X) (by unfold maxLen;omega) oM oM;rw[XD,List.nil_append]at n;have K:Hid (kZ w W'/\FrC w.heap.size X E W'):=by
  refine⟨⟨by rw[l.os,b1.os],by rw[l.tape,b1.tape],by rw[l.output,b1.output],XB b1.size l.size,λk F=>?_⟩,n,?_⟩
  ·rw[l.block k oM (by simp[Za];omega),b1.block k F]
  ·rcases n.2 with⟨I,-⟩|⟨L,y,cur,rfl,-⟩
   ·have:=(x.1 I).1;exact absurd this (by simp)
   ·simp[Za]
 have y:=Hid.mkP s;have F:=RN ⟨g,o,none⟩ X.size c;clear s n l x m hv hpt ho b1 p t;go_enter func159,ntmps159;go_wp2_with (first|(refine dO (v:=sZ w.heap.size 0 0) (w':=d) rfl (.buildSlice 23 0 #[]) rfl ?_ ?_;(rw[<-f.out];kernel_rfl))|(at_builtin;refine yAx d rfl _ _ _ _ rfl _ _ rfl rfl _ _ y.out ?_)|fail)
 go_ret;exact⟨_,rfl,K.out.1,K.out.2⟩
theorem heap_set (w : World) (a : Addr) (v : Value) (k : Nat) : (w.setCell a v).heap[k]? = if a.block = k then (w.heap[k]?).map (fun
      | .cells c elem frozen => .cells (if a.spot.isSome then c else c.setIfInBounds a.off v) elem frozen
      | o => o) else w.heap[k]? := by
  show(w.heap.modify a.block _)[k]? = _;rw [Array.getElem?_modify];rfl
theorem IW{N:Nat}{ws w:Xs}(h:Below N ws w)(a:YW)(v:Xu):Below N (ws.setCell a v) (w.setCell a v):=
 ⟨h.os,h.tape,h.output,by rw[yAP,yAP];exact h.size,λk b=>by rw[heap_set,heap_set,h.block k b]⟩
def StR(ws:Xs)(k b:Nat)(X:SP.Bs)(w:Xs):Prop:=∃v,Below ws.heap.size (ws.setCell ⟨k,b,none⟩ v) w/\FrC ws.heap.size X v w
def FR(ws:Xs)(ga d e k gi off m c nx:Nat)(X:SP.Bs):Flow where
 R i v w:=match i with
  | 0=>v=jZ ga
  | 1=>v=oZ d e
  | 2=>v=.slice (some ⟨gi,off,none⟩) m c
  | 3=>v=oZ ga 1
  | 4=>v=iZ k
  | 5=>v=.slice (some ⟨gi,off,none⟩) k c
  | 6=>FrC ws.heap.size X v w
  | 7=>v=.slice (some ⟨gi,off,none⟩) m c
  | 8=>v=oZ ga 1
  | 9=>v=iZ k
  | 10=>v=.slice (some ⟨gi,nx,none⟩) (m-k) (c-k)
  | 11=>v=oZ d e
  | 12=>StR ws d e X w
  | _=>v=.slice (some ⟨gi,nx,none⟩) (m-k) (c-k)
 B b w:=match b with
  | 0=>kZ ws w
  | _=>w.cell? ⟨ga,0,none⟩=some (oZ d e)/\w.cell? ⟨ga,1,none⟩=some (iZ k)/\ga<ws.heap.size/\ws.heap.size<=w.heap.size
 E i w w':=match i with
  | 12=>∃v,w'=w.setCell ⟨d,e,none⟩ v
  | _=>kZ w w'
 kill _:=[]
 killB b:=match b with
  | 0=>[12]
  | _=>[]
variable {ws:Xs}{ga bb oo k gi off m c nx:Nat}{X:SP.Bs}
theorem StR.below{w w':Xs}(h:StR ws bb oo X w)(b:kZ w w'):StR ws bb oo X w':=by
 obtain⟨v,k,c⟩:=h;refine⟨v,k.trans (b.mono ?_),c.below b⟩;have:=k.size;rw[yAP]at this;exact this
theorem FR.stab(l:bb<ws.heap.size)(i j:Nat)(f:i≠j)(v:Xu)(w w':Xs)(hE:(FR ws ga bb oo k gi off m c nx X).E i w w')(hR:(FR ws ga bb oo k gi off m c nx X).R j v w):(FR ws ga bb oo k gi off m c nx X).R j v w':=by
 have key:j≠6->j≠12->(FR ws ga bb oo k gi off m c nx X).R j v w':=λe b=>by
  match j,e,b,hR with
  | 0,_,_,h|1,_,_,h|2,_,_,h|3,_,_,h|4,_,_,h|5,_,_,h|7,_,_,h|8,_,_,h|9,_,_,h|10,_,_,h|11,_,_,h|_+13,_,_,h=>exact h
  | 6,h,_,_=>exact absurd rfl h
  | 12,_,h,_=>exact absurd rfl h
 by_cases e:j=6
 ·subst e;by_cases b:i=12
  ·subst b;obtain⟨u,rfl⟩:=hE;have hR:FrC ws.heap.size X v w:=hR;refine(⟨bG hR.own (λg d=>?_),hR.nn⟩:FrC ws.heap.size X v _);have:=(bU hR.own d).1;rw[heap_set,yET (by show bb≠g;omega)]
  ·have d:kZ w w':=by
    unfold FR at hE;dsimp only at hE;split at hE
    ·exact absurd rfl b
    ·exact hE
   exact(FrC.below (show FrC ws.heap.size X v w from hR) d:FrC ws.heap.size X v w')
 ·by_cases b:j=12
  ·subst b;have d:kZ w w':=by
    unfold FR at hE;dsimp only at hE;split at hE
    ·exact absurd rfl f
    ·exact hE
   exact(StR.below (show StR ws bb oo X w from hR) d:StR ws bb oo X w')
  ·exact key e b
theorem FR.stabB(f:bb≠ga)(i b:Nat)(n:((FR ws ga bb oo k gi off m c nx X).killB b).contains i=false)(w w':Xs)(hE:(FR ws ga bb oo k gi off m c nx X).E i w w')(l:(FR ws ga bb oo k gi off m c nx X).B b w):(FR ws ga bb oo k gi off m c nx X).B b w':=by
 by_cases j:i=12
 ·subst j;obtain⟨u,rfl⟩:=hE;match b,n,l with
  | 0,n,_=>exact absurd (show([12]:List Nat).contains 12=false from n) dC
  | _+1,_,⟨h1,h2,h3,h4⟩ =>
   refine⟨?_,?_,h3,by rw[yAP];exact h4⟩
   ·rw[XZ _ _ _ _ (by intro e;injection e with e _ _;exact f e)];exact h1
   ·rw[XZ _ _ _ _ (by intro e;injection e with e _ _;exact f e)];exact h2
 ·have d:kZ w w':=by
   unfold FR at hE;dsimp only at hE;split at hE
   ·exact absurd rfl j
   ·exact hE
  match b,l with
  | 0,l =>
   have g:kZ ws w:=l;exact(g.trans (d.mono g.size):kZ ws w')
  | _+1,⟨h1,h2,h3,h4⟩ =>
   refine⟨?_,?_,h3,XB h4 d.size⟩
   ·rw[d.cell (p:=⟨ga,0,none⟩) (by show ga<_;omega)];exact h1
   ·rw[d.cell (p:=⟨ga,1,none⟩) (by show ga<_;omega)];exact h2
end
section
structure PsOk(w w4:Xs)(gr gq gp:Nat)(ps:List (YW × Nat)):Prop where
 ad:∀(j:Nat) x,ps[j]? = some x->∃b o,x.1=⟨b,o,none⟩/\b<w4.heap.size/\w.heap.size<=b/\b≠gq/\b≠gr/\x.1≠⟨gp,7,none⟩/\x.1≠⟨gp,8,none⟩
 ne:∀(j j':Nat) x x',j≠j'->ps[j]? = some x->ps[j']? = some x'->x.1≠x'.1
 q:gq<w4.heap.size
 r:gr<w4.heap.size
 p:gp<w4.heap.size
structure RdI(w w4 W:Xs)(gr gq gp:Nat)(lv rv:Xu)(ps:List (YW × Nat))(vs:List Xu)(CH:Nat->SP.Bs):Prop where
 bl:kZ w W
 st:∀(j:Nat) x u,ps[j]? = some x->vs[j]? = some u->W.cell? x.1=some u
 th:∀(j:Nat) x,ps[j]? = some x->(∃u,W.cell? x.1=some u)/\W.frozen? x.1=false
 c7:W.cell? ⟨gp,7,none⟩=some lv
 c8:W.cell? ⟨gp,8,none⟩=some rv
 eq:W.heap[gq]? = w4.heap[gq]?
 er:W.heap[gr]? = w4.heap[gr]?
 sz:w4.heap.size<=W.heap.size
 ow:∀(j:Nat) u,vs[j]? = some u->FrC w4.heap.size (CH j) u W
 ne:∀(j j':Nat) u u' g,j<j'->vs[j]? = some u->vs[j']? = some u'->u.ownBlock=some g->u'.ownBlock≠some g
variable {w w4 W:Xs}{gr gq gp:Nat}{lv rv:Xu}{ps:List (YW × Nat)}{vs:List Xu}{CH:Nat->SP.Bs}
theorem RdI.below{W':Xs}(h:RdI w w4 W gr gq gp lv rv ps vs CH)(c:PsOk w w4 gr gq gp ps)(k:kZ W W'):RdI w w4 W' gr gq gp lv rv ps vs CH:=by
 have g:=h.sz;have n:=c.p;have l:=c.q;have i:=c.r;have d:∀(j:Nat) x,ps[j]? = some x->W'.cell? x.1=W.cell? x.1/\W'.frozen? x.1=W.frozen? x.1:=λj x hx=>by
  obtain⟨b,o,e,m,-⟩:=c.ad j x hx;have f:=k.block b oM;rw[e];unfold YO Zi;rw[f];exact⟨rfl,rfl⟩
 refine⟨h.bl.trans (k.mono h.bl.size),λj x u hx f=>by rw[(d j x hx).1];exact h.st j x u hx f,λj x hx=>by rw[(d j x hx).1,(d j x hx).2];exact h.th j x hx,?_,?_,by rw[k.block gq oM];exact h.eq,by rw[k.block gr oM];exact h.er,XB g k.size,λj u f=>(h.ow j u f).below k,h.ne⟩
 ·rw[k.cell (p:=⟨gp,7,none⟩) (by show gp<_;omega)];exact h.c7
 ·rw[k.cell (p:=⟨gp,8,none⟩) (by show gp<_;omega)];exact h.c8
theorem RdI.step{W':Xs}{i y k:Nat}(h:RdI w w4 W gr gq gp lv rv ps vs CH)(z:PsOk w w4 gr gq gp ps)(hx:ps[vs.length]? = some (⟨i,y,none⟩,k))(N:StR W i y (CH vs.length) W'):∃v,RdI w w4 W' gr gq gp lv rv ps (vs++[v]) CH:=by
 obtain⟨v,o,F⟩:=N;have S:=h.sz;have V:=z.p;have T:=z.q;have Q:=z.r;obtain⟨U,R,e',p1,p2,M,K,L,p6⟩:=z.ad _ _ hx;injection e' with e1 e2 _
 subst e1 e2;obtain⟨⟨old,t⟩,O⟩:=h.th _ _ hx;have f:∀g,g<W.heap.size->g≠i->W'.heap[g]? = W.heap[g]?:=λg s d=>by
  rw[o.block g s,heap_set,yET (by show i≠g;omega)]
 have b:∀a:YW,a.block<W.heap.size->a≠⟨i,y,none⟩->W'.cell? a=W.cell? a:=λa E d=>by
  rw[o.cell (p:=a) E,XZ _ _ _ _ (λe=>d e.symm)]
 have D:∀a:YW,a.block<W.heap.size->W'.frozen? a=W.frozen? a:=λa E=>by
  have c:W'.frozen? a=(W.setCell ⟨i,y,none⟩ v).frozen? a:=by
   unfold Zi;rw[o.block a.block E]
  rw[c];exact World.frozen?_setCells i [v] y W a
 have B:W.heap.size<=W'.heap.size:=by
  have:=o.size;rw[yAP]at this;exact this
 refine⟨v,⟨⟨by rw[o.os];exact h.bl.os,by rw[o.tape];exact h.bl.tape,by rw[o.output];exact h.bl.output,XB h.bl.size B,λg s=>?_⟩,λj x u q c=>?_,λj x q=>?_,?_,?_,?_,?_,oM,λj u c=>?_,λj G u I g r c n s=>?_⟩⟩
 ·have:=h.bl.size;rw[f g oM oM,h.bl.block g s]
 ·obtain⟨A,J,C,H,-⟩:=z.ad j x q;by_cases m:j<vs.length
  ·rw[XQ m]at c;have d:=z.ne j vs.length x _ oM q hx;rw[b x.1 (by rw[C];show A<_;omega) d];exact h.st j x u q c
  ·have l:j=vs.length:=by
    have:=(XG.1 c).1;rw[XC]at this;simp only[Yq,Zr]at this;omega
   subst l;rw[hx]at q;obtain rfl:=XS.inj q;rw[XR (Xx _),yA8]at c;obtain rfl:v=u:=by simpa using c
   rw[o.cell (p:=⟨i,y,none⟩) (by show i<_;omega)];exact Y1 _ _ _ t
 ·obtain⟨A,J,C,H,-⟩:=z.ad j x q;have r:x.1.block<W.heap.size:=by rw[C];show A<_;omega
  refine⟨?_,by rw[D x.1 r];exact(h.th j x q).2⟩;by_cases d:x.1=⟨i,y,none⟩
  ·rw[d];exact⟨v,by rw[o.cell (p:=⟨i,y,none⟩) (by show i<_;omega)];exact Y1 _ _ _ t⟩
  ·rw[b x.1 r d];exact(h.th j x q).1
 ·rw[b ⟨gp,7,none⟩ (by show gp<_;omega) (λe=>L e.symm)];exact h.c7
 ·rw[b ⟨gp,8,none⟩ (by show gp<_;omega) (λe=>p6 e.symm)];exact h.c8
 ·rw[f gq oM (λe=>M e.symm)];exact h.eq
 ·rw[f gr oM (λe=>K e.symm)];exact h.er
 ·by_cases m:j<vs.length
  ·rw[XQ m]at c;have C:=h.ow j u c;refine⟨bG C.own (λg s=>?_),C.nn⟩;have:=bU C.own s;exact f g this.2.1 oM
  ·have l:j=vs.length:=by
    have:=(XG.1 c).1;rw[XC]at this;simp only[Yq,Zr]at this;omega
   subst l;rw[XR (Xx _),yA8]at c;obtain rfl:v=u:=by simpa using c
   refine⟨?_,F.nn⟩;rcases F.own with⟨H,A|⟨g,cap,cur,A,P,J⟩⟩
   ·exact⟨H,X9 A⟩
   ·exact⟨H,X0 ⟨g,cap,cur,A,oM,J⟩⟩
 ·have A:=(XG.1 n).1;rw[XC]at A;simp only[Yq,Zr]at A;rw[XQ oM]at c;by_cases m:G<vs.length
  ·rw[XQ m]at n;exact h.ne j G u I g r c n s
  ·have l:G=vs.length:=oM;subst l;rw[XR (Xx _),yA8]at n;obtain rfl:v=I:=by simpa using n
   intro e;have C:=(bU F.own e).1;have H:=(bU (h.ow j u c).own s).2.1;omega
end
section
variable {P:Nat}[NeZero P]{N:Nat}
theorem Ow:(prog.info? 23).map (λi=>(i.zero,i.size,i.bytes))=some (some (.slice none 0 0),1,24):=kR
structure R4(w1 W:Xs)(gp gL gR k:Nat):Prop where
 bl:kZ w1 W
 d1:gp≠gL
 d2:gp≠gR
 d3:gL≠gR
 p1:w1.heap.size<=gp/\gp<W.heap.size
 p2:w1.heap.size<=gL/\gL<W.heap.size
 p3:w1.heap.size<=gR/\gR<W.heap.size
 hp:W.heap[gp]? = some (.cells #[.slice none 0 0,.slice none 0 0,.slice none 0 0,.slice none 0 0,.slice none 0 0,.slice none 0 0,.slice none 0 0,sZ gL k k,sZ gR k k,.slice none 0 0,.slice none 0 0] 66 (0,0))
 hL:W.heap[gL]? = some (.cells (madeCells #[.slice none 0 0] k) 23 (0,0))
 hR:W.heap[gR]? = some (.cells (madeCells #[.slice none 0 0] k) 23 (0,0))
theorem three(k:Xs)(a b c:Array Xu)(A B C:Yd):kZ k (((k.alloc (.cells a A)).alloc (.cells b B)).alloc (.cells c C)).drew/\(((k.alloc (.cells a A)).alloc (.cells b B)).alloc (.cells c C)).drew.heap.size=k.heap.size+3/\(((k.alloc (.cells a A)).alloc (.cells b B)).alloc (.cells c C)).drew.heap[k.heap.size]? = some (.cells a A (0,0))/\(((k.alloc (.cells a A)).alloc (.cells b B)).alloc (.cells c C)).drew.heap[k.heap.size+1]? = some (.cells b B (0,0))/\(((k.alloc (.cells a A)).alloc (.cells b B)).alloc (.cells c C)).drew.heap[k.heap.size+1+1]? = some (.cells c C (0,0)):=by
 have l:=bJ k (.cells a A);have i:(k.alloc (.cells a A)).heap.size=k.heap.size+1:=XF _ _;have f:=bJ (k.alloc (.cells a A)) (.cells b B);have g:((k.alloc (.cells a A)).alloc (.cells b B)).heap.size=k.heap.size+2:=by rw[XF,i]
 have e:=bJ ((k.alloc (.cells a A)).alloc (.cells b B)) (.cells c C);have z3:(((k.alloc (.cells a A)).alloc (.cells b B)).alloc (.cells c C)).heap.size=k.heap.size+3:=by rw[XF,g]
 have m:(k.alloc (.cells a A)).heap[k.heap.size]? = some (.cells a A (0,0)):=ZT;have j:((k.alloc (.cells a A)).alloc (.cells b B)).heap[(k.alloc (.cells a A)).heap.size]? = some (.cells b B (0,0)):=ZT;have e3:(((k.alloc (.cells a A)).alloc (.cells b B)).alloc (.cells c C)).heap[((k.alloc (.cells a A)).alloc (.cells b B)).heap.size]? = some (.cells c C (0,0)):=ZT;rw[i]at j;rw[g]at e3;have d:=(l.trans (f.mono oM)).trans (e.mono oM);refine⟨⟨d.os,d.tape,d.output,d.size,d.block⟩,z3,?_,?_,e3⟩
 ·show(((k.alloc (.cells a A)).alloc (.cells b B)).alloc (.cells c C)).heap[k.heap.size]? = _;rw[e.block _ oM,f.block _ oM];exact m
 ·show(((k.alloc (.cells a A)).alloc (.cells b B)).alloc (.cells c C)).heap[k.heap.size+1]? = _;rw[e.block _ oM];exact j
def zR:List Xu:=YE 11 (.slice none 0 0)
theorem dU{f q p n r or m j:Nat}{x:YW × Nat}(h:(gA f q p n r or m)[j]? = some x):(j<7/\x.1=⟨f,j,none⟩)\/(7<=j/\j<7+n/\x.1=⟨q,p+(j-7),none⟩)\/(7+n<=j/\j<7+n+m/\x.1=⟨r,or+(j-7-n),none⟩)\/(7+n+m<=j/\j<9+n+m/\x.1=⟨f,9+(j-7-n-m),none⟩):=by
 have e:∀ {b o k i:Nat}{y:YW × Nat},(lp b o k)[i]? = some y->i<k/\y.1=⟨b,o+i,none⟩:=λ{b o k i y} h=>by
  unfold lp at h;rw[Ys]at h;obtain⟨z,s,rfl⟩:=XA.1 h;have d:=(XG.1 s)
  obtain⟨l,g⟩:=d;have c:i<k:=by simpa using l
  have t:i=z:=by simpa using g
  subst t;exact⟨c,rfl⟩
 unfold gA at h;by_cases d:j<7
 ·left;refine⟨d,?_⟩;rw[YI,YI,XQ (by show j<7;exact d)]at h;match j,d,h with
  | 0,_,h|1,_,h|2,_,h|3,_,h|4,_,h|5,_,h|6,_,h =>
   obtain rfl:=XS.inj h;rfl
 ·right;rw[YI,YI,XR (by show 7<=j;omega)]at h;have s:(uI f).length=7:=rfl;rw[s]at h;by_cases l:j-7<n
  ·left;rw[XQ (by rw[jT];exact l)]at h;obtain⟨-,c⟩:=e h;exact⟨oM,oM,c⟩
  ·right;rw[XR (by rw[jT];omega),jT]at h;by_cases g:j-7-n<m
   ·left;rw[XQ (by rw[jT];exact g)]at h;obtain⟨-,c⟩:=e h;exact⟨oM,oM,c⟩
   ·right;rw[XR (by rw[jT];omega),jT]at h;obtain⟨i,c⟩:∃i,j-7-n-m=i:=⟨_,rfl⟩
    rw[c]at h⊢;match i,c,h with
    | 0,c,h|1,c,h =>
     obtain rfl:=XS.inj h;exact⟨oM,oM,rfl⟩
    | i+2,_,h=>cases h
theorem CQ(k j:Nat)(z:Xu)(h:j<k):(madeCells #[z] k)[j]? = some z:=by
 unfold madeCells;rw[Array.getElem?_map,Array.getElem?_range,yES h];simp[Nat.mod_one]
theorem J1{w C G t:Xs}{l m o k a n c:Nat}{CH:Nat->SP.Bs}(h:R4 C G l m o k)(F:kZ w C)(N:w.heap.size<C.heap.size)(p:PLs G t (sZ a n c) (gA l m 0 k o 0 k)):
 PsOk w t w.heap.size a l (gA l m 0 k o 0 k)/\RdI w t t w.heap.size a l (sZ m k k) (sZ o k k) (gA l m 0 k o 0 k) [] CH:=by
 obtain⟨Q,P,e,I,E⟩:=p.lt;injection e with e _ _
 injection e with e
 injection e with e _ _
 subst e;have z3:=p.bl.size;obtain⟨p1,A⟩:=h.p1;obtain⟨p2,z⟩:=h.p2;obtain⟨O,B⟩:=h.p3;have R:=h.d1;have U:=h.d2;have M:=h.d3;have v:=p.bl.block l A;have L:=p.bl.block m z;have H:=p.bl.block o B;refine⟨⟨λj x hx=>?_,λj J x S K hx D e=>?_,E,by have:=h.bl.size;omega,oM⟩,⟨?_,λj x u _ r=>by simp at r,λj x hx=>?_,?_,?_,rfl,rfl,Xx _,λj u r=>by simp at r,λj J u T g _ r=>by simp at r⟩⟩
 ·rcases dU hx with⟨f,b⟩|⟨f,d,b⟩|⟨f,d,b⟩|⟨f,d,b⟩
  ·exact⟨l,j,b,oM,oM,oM,oM,by rw[b];intro e;injection e with _ e _;omega,by rw[b];intro e;injection e with _ e _;omega⟩
  ·exact⟨m,_,b,oM,oM,oM,oM,by rw[b];intro e;injection e with e _ _;omega,by rw[b];intro e;injection e with e _ _;omega⟩
  ·exact⟨o,_,b,oM,oM,oM,oM,by rw[b];intro e;injection e with e _ _;omega,by rw[b];intro e;injection e with e _ _;omega⟩
  ·exact⟨l,_,b,oM,oM,oM,oM,by rw[b];intro e;injection e with _ e _;omega,by rw[b];intro e;injection e with _ e _;omega⟩
 ·rcases dU hx with⟨f,b⟩|⟨f,d,b⟩|⟨f,d,b⟩|⟨f,d,b⟩<;>rcases dU D with⟨y,s⟩|⟨y,q,s⟩|⟨y,q,s⟩|⟨y,q,s⟩<;>(rw[b,s]at e;injection e with e1 e2 _;omega)
 ·exact(F.trans (h.bl.mono F.size)).trans (p.bl.mono (by have:=h.bl.size;omega))
 ·rcases dU hx with⟨f,b⟩|⟨f,d,b⟩|⟨f,d,b⟩|⟨f,d,b⟩
  ·rw[b];unfold YO Zi;rw[v,h.hp];refine⟨?_,by simp⟩;match j,f with
   | 0,_|1,_|2,_|3,_|4,_|5,_|6,_=>exact⟨_,rfl⟩
  ·rw[b];unfold YO Zi;rw[L,h.hL];exact⟨⟨_,CQ k (0+(j-7)) _ oM⟩,by simp⟩
  ·rw[b];unfold YO Zi;rw[H,h.hR];exact⟨⟨_,CQ k (0+(j-7-k)) _ oM⟩,by simp⟩
  ·rw[b];unfold YO Zi;rw[v,h.hp];refine⟨?_,by simp⟩;obtain⟨i,q⟩:∃i,j-7-k-k=i:=⟨_,rfl⟩
   rw[q];match i,q with
   | 0,_|1,_=>exact⟨_,rfl⟩
   | i+2,q=>omega
 ·unfold YO;rw[v,h.hp];rfl
 ·unfold YO;rw[v,h.hp];rfl
def offs(n j:Nat):Nat:=1+((fD n n).take j).sum
theorem lO(n j k:Nat)(h:(fD n n)[j]? = some k):offs n (j+1)=offs n j+k:=by
 unfold offs;rw[yCl,h,yDO];simp[Zu]
theorem uP:∀(l:List Nat) (j:Nat),(l.take j).sum<=l.sum
 | [],j=>by simp
 | a :: r,0=>by simp
 | a :: r,j+1=>by
  have:=uP r j;simp only[List.take_succ_cons,yD8];omega
theorem Oh(n j:Nat):offs n j<=1+(fD n n).sum:=by
 have:=uP (fD n n) j;unfold offs;omega
theorem CG(n:Nat):(fD n n).sum=292+66*n:=by
 unfold fD;simp only[yDO,List.sum_replicate_nat,yD8,List.sum_nil];omega
theorem rP(n:Nat):offs n (n+n+9)=293+66*n:=by
 unfold offs;rw[List.take_of_length_le (by rw[lM];omega),CG];omega
def chk(s:SP.Bs)(n j:Nat):SP.Bs:=s.extract (offs n j) (offs n (j+1))
def oL(s:SP.Bs):Prop:=0<s.size/\s[0]!.toNat<=6/\s.size=293+66*s[0]!.toNat
def RdR(w:Xs)(s:SP.Bs)(k:Nat)(e:Ending)(W:Xs):Prop:=
 (¬oL s/\kZ w W/\e=.returned (.tuple #[.agg zR.toArray,iZ 2])) \/
 (oL s/\kZ w W/\∃(g c:Xs) (i b d f:Nat) (vs cs:List Xu),vs.length=k+k+9/\PsOk w g w.heap.size i b (gA b d 0 k f 0 k)/\RdI w g c w.heap.size i b (sZ d k k) (sZ f k k) (gA b d 0 k f 0 k) vs (chk s k)/\cs.length=11/\c.rangeAt b 0 cs/\W=c.setCells w.heap.size 0 cs/\e=.returned (.tuple #[.agg cs.toArray,iZ 0]))
theorem VJ(d b n c k:Nat)(e:k<=n)(j:n<c)(w:Xs):(Zk 23 (.slice (some ⟨d,b,none⟩) n c) (some (iZ k)) none none).run prog w=.ok (.slice (some ⟨d,b+k,none⟩) (n-k) (c-k)) w:=by
 have g:(k:Int)<=n:=oM;have i:(n:Int)<=c:=oM;have l:¬c=k:=oM;have f:¬c-k=0:=oM;go_simp
theorem NA(d b n c k:Nat)(f:k<=n)(l:n<=c):∃nx,(0<c-k->nx=b+k)/\∀w:Xs,(Zk 23 (.slice (some ⟨d,b,none⟩) n c) (some (iZ k)) none none).run prog w=.ok (.slice (some ⟨d,nx,none⟩) (n-k) (c-k)) w:=by
 have i:(k:Int)<=n:=oM;have j:(n:Int)<=c:=oM;by_cases e:c=k
 ·obtain rfl:n=k:=oM;subst e;refine⟨b,λh=>oM,λw=>?_⟩;rw[yA8];go_simp
 ·have g:¬c-k=0:=oM;refine⟨b+k,λ_=>rfl,λw=>?_⟩;go_simp
theorem NB(d b n c k:Nat)(e:k<=c)(w:Xs):(Zk 23 (.slice (some ⟨d,b,none⟩) n c) none (some (iZ k)) none).run prog w=.ok (.slice (some ⟨d,b,none⟩) k c) w:=by
 have f:(k:Int)<=c:=oM;go_simp
theorem fJ{P:YG}{c:Func}{tmps:Array Xu}{W:Xs}{k:Nat}{vs:List Xu}{v:Xu}(t u:Zs)(T:Yd)(f:c.results=#[.cell t T,.tmp u])(h:W.rangeAt k 0 vs)(i:tmps[t]? = some (jZ k))(hv:tmps[u]? = some v)
 (b:(P.underlying T).map (·.isRow)=some true) (e:(P.info? T).map (·.size)=some vs.length):(results c tmps).run P W=.ok (.tuple #[.agg vs.toArray,v]) W:=by
 obtain⟨d,b,hd⟩:=XA.1 b;have j:=yAA (P:=P) W k 0 T vs d h b hd e;have l:tmps.getD t Zp=jZ k:=by rw[XI,i];rfl
 have g:tmps.getD u Zp=v:=by rw[XI,hv];rfl
 unfold results;rw[f];simp only[ZP,yA3,yBc,l,g,asAddr];simp[XT,j]
theorem FV{w W:Xs}{cs:List Xu}(g:W.heap[w.heap.size]? = some (.cells zR.toArray 66 (0,0)))(l:cs.length=11)(c:kZ w W):W.there w.heap.size 0 cs.toArray.size/\(W.setCells w.heap.size 0 cs).rangeAt w.heap.size 0 cs/\kZ w (W.setCells w.heap.size 0 cs):=by
 have e:W.there w.heap.size 0 cs.length:=λj i=>by
  unfold YO Zi;rw[g];refine⟨?_,by simp⟩;have:(0+j)<zR.toArray.size:=by show 0+j<11;omega
  simp only[Array.getElem?_eq_getElem this];rfl
 refine⟨by simpa using e,YM _ _ _ _ e,⟨(World.os_setCells _ _ _ _).trans c.os,?_,(World.output_setCells _ _ _ _).trans c.output,?_,λk f=>?_⟩⟩
 ·have d:=below_setCells (B:=0) (b:=w.heap.size) (Zh _) cs 0 W (XM 0 W);rw[d.tape];exact c.tape
 ·have d:=below_setCells (B:=0) (b:=w.heap.size) (Zh _) cs 0 W (XM 0 W);exact XB c.size d.size
 ·rw[yCF W _ 0 cs (by have:=c.size;omega) oM];exact c.block k f
end
section
open SPA
section
variable {P:YG}{ops:Array Yo}{rest:List Yo}{o:Yo}{a:Act}{w:Xs}{Q:Exit->Act->Xs->Prop}
theorem PW.gd(h:wpList P ops Q ({ o with guard:=none } :: rest) a w)(k:YS o (yielded ops a.tmps)=true:=by kernel_rfl):wpList P ops Q (o :: rest) a w:=by
 unfold wpList at h⊢;rw[yES k];rw[yES (show YS { o with guard:=none }(yielded ops a.tmps)=true from rfl)]at h;exact h
end
variable {P:Nat}[NeZero P]{N:Nat}[NeZero N]
theorem Tu(C:Fld P){n t:Nat}(hw:Wd n t)(V:Bs)(q:Fin P × Fin P)(O:rd P V=some q)(v:Xu)(j i p x y m A g a b k:Xu)(w:Xs)(S:Arg33 w v V)(H:∀W,kZ w W->XH prog 107 #[pvl V,iZ n,.agg #[j,i,p,x,y,m,A,g,a,b,k]] W (rZ W λe w'=>e=.bool true)):
 XH prog 61 #[v,iZ n,.agg #[j,i,p,x,y,m,A,g,a,b,k]] w (rZ w λe w'=>e=.bool true):=by
 have Q:V.size=33:=FT O;obtain⟨F,d⟩:=hE (pvl V);obtain⟨M,c⟩:=hE (X6 #[j,i,p,x,y,m,A,g,a,b,k]);obtain⟨k5,s⟩:=hE (w.heap.size);obtain⟨R,l⟩:=hE (w.alloc (.cells [j,i,p,x,y,m,A,g,a,b,k].toArray 66));have D:=mk1 ((Mp.start w).new s l);have I:Hid ((Yl 66 M).run prog w=.ok (jZ k5) R):=by rw[<-c.out,<-l.out,<-s.out];exact Vr _ _ _ _ _ _ _ _ _ _ _ w
 have U:Hid (∀W,kZ w W->XH prog 57 #[v] W (rZ W λe w'=>e=.tuple #[F,.bool true])):=λW X=>by
  rw[<-d.out];exact G5 C v V q W (S.below X) O
 have Z:Hid (∀W,kZ w W->XH prog 107 #[F,iZ n,M] W (rZ W λe w'=>e=.bool true)):=by
  rw[<-d.out,<-c.out];exact H
 have T:(prog.info? 51).map (·.size)=some (aA V).length:=by rw[aB Q];exact iCP
 rw[c.out];clear H S;go_enter func61,ntmps61;refine Xy ?_;refine PW.begin ?_;refine PW.ns I.out ?_;refine PW.va (.bool false) ?_;refine PW.dn ?_;refine Xy ?_;refine PW.begin ?_;refine PW.mv ?_;refine PW.gi (U.out R D.bl) λK o=>?_
 have N:=mk1 (D.grow o);clear D o U I;refine PW.mv ?_;refine PW.va F ?_;refine PW.va (.bool true) ?_;refine hG (K.heap.size) λY u=>?_
 refine hG (K.alloc (.cells z33.toArray 51)) λw3 r=>?_
 refine hG (w3.setCells Y 0 (aA V)) λw4 z=>?_
 have L:(aA V).length=z33.length:=aB Q;have G:=mk1 (N.new u r);have J:=mk1 (G.put 1 z rfl L);refine PW.al u r ?_;refine PW.st z d (G.th 1 rfl L) T (bQ _) ?_;refine PW.va (.bool true) ?_;clear N G;refine PW.dn ?_;refine Xy ?_;refine PW.begin ?_;refine PW.mv ?_;refine PW.mv ?_;refine PW.gd ?_;refine PW.mv ?_;refine PW.gd ?_;refine PW.gi (PU hw w4) λw5 f=>?_
 have B:=mk1 (J.grow f);clear J f;refine PW.va (.bool true) ?_;refine PW.mv ?_;refine PW.gd ?_;refine PW.ro (B.at_ 1).2.1 d uCP T ?_;refine PW.gd ?_;refine PW.mv ?_;refine PW.gd ?_;refine PW.ro (cs:=[j,i,p,x,y,m,A,g,a,b,k]) (B.at_ 0).2.1 c uAr iAr ?_;refine PW.gd ?_;refine PW.gi (Z.out w5 B.bl) λw6 E=>?_
 have K6:=mk1 (B.grow E);refine PW.va (.bool true) ?_;refine PW.va (.bool true) ?_;refine PW.dn ?_;go_wp2;go_ret;exact⟨_,rfl,K6.bl,rfl⟩
theorem Ug(C:Fld P)(O:Ord N)(k:∀r:EC.Pt P,On r->mul N r=none)(hP:IsP N){t:Nat}(R:Rv N)(p:Wd R.n t)(hv:R.v<2^R.n)(hN:18446744073709551616<=N)(sd:List UInt8)(X:Option YW)(sc:Nat)(V A S Y C2 L3 L6 L8:Bs)(hL:RvL C k R V A S Y C2 L3 L6 L8)(hS:RvS R sd)(q:Md.Ps Bs (Fin N) (OnP P))(h8:q.s=aX L8)(ha:q.a=R.a)(hj:q.b=R.b)(h1:q.g=gPt C ⟨#[108,101,102,116]⟩)(h9:q.h=R.hh (aD C k) (gPt C ⟨#[114,105,103,104,116]⟩))(u:OnP P)(hu:u=(aD C k).ac R.w (uPt C))(Lb Rb:Nat->Bs)(h3:∀j,Lb j=wP ((aD C k).pLi (chF N) ivF u t q j))(h7:∀j,Rb j=wP ((aD C k).pTi (chF N) ivF u t q j))(Ab Bb:Bs)(hc:Ab=bx (((aD C k).pst (chF N) ivF u t q t).a 0).val)(hg:Bb=bx (((aD C k).pst (chF N) ivF u t q t).b 0).val)(U:Rp)(h0:Hid (⟨A,S,Y,C2,R.tau.val,R.mu.val,R.t.val⟩=U))(v1:Xu)(w:Xs)(hk:Arg w v1 (bx R.k.val))(hp:PartOk w (.slice X 32 sc) sd):
 XH prog 20 #[uZ (R.v:Int),v1,iZ (R.n:Int),.slice X 32 sc] w (rZ w λe w'=>∃e' B0,e=.tuple #[e',iZ 0]/\w.heap.size<=B0/\RgA B0 t U Lb Rb Ab Bb e' w'):=by
 have h4:R.n<=64:=by rw[p.1];exact XB (Y4 dC p.2.2) dC
 have h2:R.v<18446744073709551616:=Xz hv (XB (Y4 dC h4) dC);have i:=λ(W:Xs) (D:kZ w W)=>NX C O k hP t p.2.2 R p.1 h2 hN sd X 32 sc V A S Y C2 L3 L6 L8 hL hS q h8 ha hj h1 h9 u hu Lb Rb h3 h7 Ab Bb hc hg U h0 W (hp.below D)
 have o:=λ(W:Xs) (D:kZ w W)=>wE O v1 (bx R.k.val) W (hk.below D)
 rw[kT O R.k.isLt]at o;have M:¬((2^R.n-1:Nat):Int)<(R.v:Int):=oM;have Z:decide (((2^R.n-1:Nat):Int)<(R.v:Int))=false:=decide_eq_false M;generalize hl:R.v=vn at *;generalize h6:(2^R.n-1:Nat)=gn at *;have HG:=λ(W:Xs)=>GH p W
 rw[h6]at HG;have HW:=λ(W:Xs)=>PU p W
 generalize hm:R.n=nn at *;obtain⟨vk,b⟩:=hE (nv R.k.val);rw[b.out]at i;have hi:Hid (∀W,kZ w W->XH prog 11 #[v1] W (rZ W λe w'=>e=.tuple #[vk,.bool true])):=λW D=>by
  rw[<-b.out];exact o W D
 have HH:=mk3 i HG HW;clear i HG HW o hp hk hL hS;refine hG (w.heap.size) λk8 y=>?_
 refine hG (w.alloc (.cells z11.toArray 66)) λw1 E=>?_
 have K1:=mk1 ((Mp.start w).new y E);go_enter func20,ntmps20;refine Xy ?_;refine PW.begin ?_;refine PW.al y E ?_;refine PW.va (iZ 0) ?_;refine PW.dn ?_;refine Xy ?_;refine Xy ?_;refine PW.begin ?_;refine PW.mv ?_;refine PW.gi (HH.2.2 w1) λw2 v=>?_
 have K2:=mk1 (K1.grow v);clear K1 v;refine PW.va (.bool false) ?_;refine PW.mv ?_;refine PW.gd ?_;refine PW.mv ?_;refine PW.gd ?_;refine PW.va (iZ 32) ?_;refine PW.gd ?_;refine PW.va (.bool false) ?_;refine PW.va (.bool false) ?_;refine PW.dn ?_;refine X7 rfl ?_;refine YR ?_;refine Xy ?_;refine PW.begin ?_;refine PW.mv ?_;refine PW.gi (hi.out w2 K2.bl) λw3 a=>?_
 have K3:=mk1 (K2.grow a);clear K2 a;refine PW.mv ?_;refine PW.va vk ?_;refine PW.va (.bool true) ?_;refine hG (w3.heap.size) λhe d=>?_
 refine hG (w3.alloc (.cells (RG.z 4).toArray 44)) λw4 F=>?_
 refine hG (w4.setCells he 0 (wn R.k.val)) λw5 B=>?_
 have Q:=mk1 (K3.new d F);have K5:=mk1 (Q.put 1 B);refine PW.al d F ?_;refine PW.st B b (Q.th 1) i40 (aI _) ?_;refine PW.va (.bool true) ?_;clear K3 Q;refine PW.dn ?_;refine Xy ?_;refine Xy ?_;refine PW.begin ?_;refine PW.mv ?_;refine PW.va (.bool false) ?_;refine PW.dn ?_;refine X7 rfl ?_;refine YR ?_;refine Xy ?_;refine Xy ?_;refine PW.begin ?_;refine PW.mv ?_;refine PW.mv ?_;refine PW.gi (HH.2.1 w5) λw6 x=>?_
 have s:=mk1 (K5.grow x);clear K5 x;refine PW.va (.bool (decide ((gn:Int)<(vn:Int)))) ?_;rw[Z];refine PW.dn ?_;refine X7 rfl ?_;refine YR ?_;refine Xy ?_;refine PW.begin ?_;refine PW.mv ?_;refine PW.ro (s.at_ 1).2.1 b u40 i40 ?_;refine PW.mv ?_;refine PW.mv ?_;refine PW.ca (HH.1 w6 s.bl) ?_;rintro e w7 ⟨z,B0,h5,f⟩;simp only[XK,Xt,Xv,Xw];have l8:=(s.at_ 0).1;have H:=mk1 (s.grow z);have RA:=mk1 f;obtain⟨ra,rb,rc,l,re,rf,n,K,G,J,I,rfl,-,tL,tR,eA,eB⟩:=f.ex;have c:J.oneCell'=true/\I.oneCell'=true/\K.oneCell'=true/\G.oneCell'=true:=⟨eA.one.2,eB.one.2,tL.one.2,tR.one.2⟩
 clear f tL tR eA eB z;refine hG (w7.setCells k8 0 [r33 ra,r33 rb,r33 rc,r33 l,r32 re,r32 rf,r32 n,K,G,J,I]) λw8 m=>?_
 have K8:=mk1 (H.put 0 m);have T:=mk1 (RA.set (us:=[r33 ra,r33 rb,r33 rc,r33 l,r32 re,r32 rf,r32 n,K,G,J,I]) (H.at_ 0) oM);rw[m.out]at T;refine PW.st (cs:=[r33 ra,r33 rb,r33 rc,r33 l,r32 re,r32 rf,r32 n,K,G,J,I]) m (Hid.mk' rfl) (H.th 0) iAr (by simp only[yAJ,yB5,yCq,c.1,c.2.1,c.2.2.1,c.2.2.2,show ∀g,(r33 g).oneCell'=true from λ_=>rfl,show ∀g,(r32 g).oneCell'=true from λ_=>rfl,Bool.and_true]) ?_;refine PW.va (iZ 0) ?_;refine PW.dn ?_;have L:=mk2 K8.bl (YP (XB s.bl.size h5) T.out);have Kr:=(K8.at_ 0).2.1;clear s H K8 RA T;refine Y5 ?_;refine XE (fJ 8 9 66 rfl Kr rfl rfl uAr iAr) rfl ?_;exact⟨_,rfl,L.1,_,_,rfl,L.2.1,L.2.2⟩
end
section
open SPA
variable {N:Nat}
theorem Mp.pop{w W:Xs}{rs:List (Nat × List Xu)}{x:Nat × List Xu}(h:Mp w W (rs++[x]) []):Mp w W rs []:=⟨h.bl,λy k=>h.rw y (List.mem_append_left _ k),(by have:=h.nd;rw[YU]at this;exact(List.nodup_append.1 this).1),λ_ h=>(X5 h).elim⟩
section
variable {P:YG}{o:Yo}{ev:Operand->Xu}{w:Xs}{x:Xu}
theorem EW{k:Array Yd}{s t:Zs}{f:ZY}(hf:∀args W,(callFunc f args).run P W=.ok (.enter f args) W)(ho:o.op=.call ⟨.value (.tmp s),#[.tmp t],k⟩)(b:ev (.tmp s)=.func (.func f) #[] #[])(hx:ev (.tmp t)=x):(Yb ev o).run P w=.ok (.enter f #[x]) w:=by
 unfold Yb;rw[ho];have e:(#[Operand.tmp t].map ev)=#[x]:=by simp[hx]
 simp only[resolve,b,Deferred.ofValue,XT,Sem.run_pure,Result.andThen_ok,invoke,e];rw[show(#[]:Array Xu)++#[x]=#[x] from rfl]<;>exact hf _ _
end
theorem GA(g i:Nat)(c:i<2)(w:Xs):(Yi 57 (sZ g 2 2) (iZ i)).run prog w=.ok (.pointer (some ⟨g,7*i,none⟩)) w:=by
 have b:¬(i:Int)<0:=by omega
 have d:(i:Int)<2:=by omega
 have k:=gU g 0 (7*i);rw[XD]at k;go_simp
theorem FS{W:Xs}{g i:Nat}(b:i<2)(h:Row W g (sdC N 0++sdC N 1)):W.rangeAt g (7*i) (sdC N i):=λj u k=>by
 rcases(show i=0\/i=1 by omega)with rfl|rfl
 ·have:=h.2.1 j u (by rw[XQ (XG.1 k).1];exact k);rw[Nat.mul_zero];exact this
 ·have:=h.2.1 (7+j) u (by rw[XR (by show 7<=7+j;omega),show 7+j-(sdC N 0).length=j from ZM 7 j];exact k);rw[XD]at this;rw[Z5];exact this
theorem uSd:(prog.underlying 61).map (·.isRow)=some true:=kR
theorem iSd:(prog.info? 61).map (·.size)=some 7:=kR
theorem TI:(prog.underlying 59).map (·.isRow)=some false:=kR
def z7:List Xu:=[.string ⟨#[]⟩,.string ⟨#[]⟩,.nilFunc]++RG.z 4
theorem Qc:∀i args W,(callFunc (sdA i) args).run prog W=.ok (.enter (sdA i) args) W
 | 0,_,_=>kR
 | _+1,_,_=>kR
def amN:Nat->Nat->Nat->Nat
 | 0,a,_=>a
 | _,_,b=>b
theorem VA(k a b:Nat):∀i,Gives (sdA i) #[.agg (opC k a b).toArray] (uZ (amN i a b:Int))
 | 0=>VC k a b
 | _+1=>VB k a b
theorem Bh(i:Nat):(sdC N i).toArray.all (·.oneCell')=true:=kR
theorem u3r:(prog.underlying 3).map (·.isRow)=some false:=kR
theorem MP(O:Ord N)(k a b n:Nat)(C:1<=k)(y:k<=3)(ha:a<4294967296)(hb:b<4294967296)(hn:n<=1048575):Gives 16 #[iZ n,.agg (opC k a b).toArray] (iZ 0):=λw=>by
 refine hG w.heap.size λA j=>?_
 refine hG (w.alloc (.cells (opC k a b).toArray 26)) λV f=>?_
 have v:=mk1 ((Mp.start w).new j f);have B:=G7 k a b w;rw[j.out,f.out]at B;have M:decide ((n:Int)<0)=false:=decide_eq_false (by omega);have L:decide (1048575<(n:Int))=false:=decide_eq_false (by omega);have Q:=mk1 (PV k C y);have S:=mk1 (λW=>wG O W);have I:=mk1 (VA k a b);have E:Hid (∀i,decide (4294967295<(amN i a b:Int))=false):=λi=>decide_eq_false (by
  match i with
  | 0=>show ¬_<(a:Int);omega
  | _+1=>show ¬_<(b:Int);omega)
 obtain⟨vo,t⟩:=hE (X6 (opC k a b).toArray);rw[t.out]at B I⊢;go_enter func16,ntmps16;refine Xy ?_;refine PW.begin ?_;refine PW.ns B ?_;refine PW.va (iZ 0) ?_;refine PW.dn ?_;refine Xy ?_;refine Xy ?_;refine PW.begin ?_;refine PW.va (jZ A) ?_;refine PW.ce ((v.out.at_ 0).2.1 0 _ rfl) u3r ?_;refine PW.gi (Q.out V) λT p=>?_
 refine PW.va (.bool false) ?_;refine PW.dn ?_;refine X7 rfl ?_;refine YR ?_;refine Xy ?_;refine Xy ?_;refine PW.begin ?_;refine PW.mv ?_;refine PW.va (.bool (decide ((n:Int)<0))) ?_;rw[M];refine PW.mv ?_;refine PW.gd ?_;refine PW.mv ?_;refine PW.gd ?_;refine PW.va (.bool (decide (1048575<(n:Int)))) ?_;rw[L];refine PW.va (.bool false) ?_;refine PW.dn ?_;refine X7 rfl ?_;refine YR ?_;refine Xy ?_;refine Xy ?_;refine PW.begin ?_;refine PW.ca (S.out T) ?_;rintro e w3 ⟨l,g,rfl,G,c⟩;simp only[XK,Xt,Xv,Xw];refine PW.va (iZ 2) ?_;refine PW.va (iZ 0) ?_;refine PW.dn ?_;have R:=mk1 ((v.out.grow p).add l c G);clear v p l G c Q S M L B f j;refine Y6 ?_;go_loopg [19] 2 (λgk s19 wr=>∃i:Nat,i+gk=2/\s19=iZ i/\Hid (Mp w wr [(A,opC k a b),(g,sdC N 0++sdC N 1)] []))
 case atStart=>exact⟨0,by omega,rfl,R⟩
 case round =>
  clear R;obtain⟨i,X,rfl,K⟩:=hrel;by_cases J:i<2
  ·have d:(i:Int)<2:=by omega
   have D:Yh.wrap ((i:Int)+1)=((i+1:Nat):Int):=by rw[Zc];omega
   refine hG wr.heap.size λF q=>?_
   refine hG (wr.alloc (.cells z7.toArray 61)) λZ s=>?_
   refine hG (Z.setCells F 0 (sdC N i)) λU m=>?_
   have z:=mk1 (K.out.new q s);have u:=mk1 (z.out.put 2 m);have H:=FS J (K.out.at_ 1);obtain⟨vs,o⟩:=hE (X6 (sdC N i).toArray);refine Xy ?_;refine PW.begin ?_;refine PW.va (.bool (decide ((i:Int)<2))) ?_;rw[decide_eq_true d];refine PW.dn ?_;refine Xy ?_;refine Yx rfl ?_;refine YR ?_;refine Xy ?_;refine Y6 ?_;refine Xy ?_;refine PW.begin ?_;refine PW.ns (GA g i J wr) ?_;refine PW.ro H o uSd iSd ?_;refine PW.al q s ?_;refine PW.st m o (z.out.th 2) iSd (Bh i) ?_;refine PW.dn ?_;refine Xy ?_;refine PW.begin ?_;refine PW.va (oZ F 2) ?_;refine PW.ce ((u.out.at_ 2).2.1 2 _ rfl) TI ?_;refine PW.ro (u.out.at_ 0).2.1 t uOp iOp ?_;refine PW.ca (I.out i U) ?_ rfl rfl (EW (Qc i) rfl rfl rfl);rintro e w6 ⟨r,rfl⟩;simp only[XK,Xt,Xv,Xw];have Y:=mk1 (Mp.pop (rs:=[(A,opC k a b),(g,sdC N 0++sdC N 1)]) (x:=(F,sdC N i)) (u.out.grow r));clear K z u r H;refine PW.va (.bool (decide (4294967295<(amN i a b:Int)))) ?_;rw[E.out i];refine PW.dn ?_;refine X7 rfl ?_;refine YR ?_;refine PW.begin ?_;refine PW.va (iZ (Yh.wrap ((i:Int)+1))) ?_;rw[D];go_wp2;go_roundg (gk-1)
   case measure=>omega
   case rel=>exact⟨i+1,by omega,rfl,Y⟩
  ·have d:¬(i:Int)<2:=by omega
   refine Xy ?_;refine PW.begin ?_;refine PW.va (.bool (decide ((i:Int)<2))) ?_;rw[decide_eq_false d];refine PW.dn ?_;refine Xy ?_;refine X7 rfl ?_;refine yBh ?_;refine Xy (P:=prog) ?_;refine PW.begin ?_;refine PW.va (iZ 0) ?_;refine PW.dn ?_;go_wp2;go_ret;exact⟨_,rfl,K.out.bl,rfl⟩
end
section
open SPA
variable {P:Nat}[NeZero P]{N:Nat}
def OpL(W:Xs)(q:Option YW)(n:Nat)(K A B:Nat->Nat):Prop:=0<n->∃g,q=some (aZ g)/\g<W.heap.size/\∀i,i<n->W.rangeAt g (3*i) (opC (K i) (A i) (B i))
theorem OpL.below{W W':Xs}{q:Option YW}{n:Nat}{K A B:Nat->Nat}(h:OpL W q n K A B)(b:kZ W W'):OpL W' q n K A B:=λd=>by
 obtain⟨g,c,k,f⟩:=h d;exact⟨g,c,Xz k b.size,λi e=>range_below (f i e) b k⟩
def aW(f:Nat->Nat):Nat->Nat
 | 0=>0
 | n+1=>aW f n+f n
theorem rC{f:Nat->Nat}(h:∀i,f i<4294967296):∀n,aW f n<=n*4294967296
 | 0=>Xx _
 | n+1=>by
  have:=rC h n;have:=h n;unfold aW;omega
theorem P0(g n c i:Nat)(d:i<n)(w:Xs):(Yi 22 (sZ g n c) (iZ i)).run prog w=.ok (.pointer (some ⟨g,3*i,none⟩)) w:=by
 have b:¬(i:Int)<0:=by omega
 have e:(i:Int)<(n:Int):=by omega
 have k:=gU g 0 (3*i);rw[XD]at k;go_simp
def z3:List Xu:=[iZ 0,uZ 0,uZ 0]
theorem Bv(k a b:Nat):(opC k a b).toArray.all (·.oneCell')=true:=kR
theorem Vv(O:Ord N)(n c:Nat)(q:Option YW)(K A B:Nat->Nat)(hn:n<=64)(a:∀i,1<=K i/\K i<=3)(u:∀i,A i<4294967296)(r:∀i,B i<4294967296)(H:aW A n<=aW B n)(w:Xs)(D:OpL w q n K A B):
 XH prog 6 #[.slice q n c] w (Ret λe w'=>Below w.heap.size w w'/\e=.tuple #[.int .u64 ((aW B n-aW A n:Nat):Int),.int .i64 0]):=by
 have Q:=mk1 (λi (j:Nat) (L:j<=1048575)=>MP O (K i) (A i) (B i) j (a i).1 (a i).2 (u i) (r i) L);have R:=rC u;have E:=rC r;have HL:=mk1 D;have t:=mk3 u r H;go_enter func6,ntmps6;refine Xy ?_;refine PW.begin ?_;refine PW.va (.int .u64 0) ?_;refine PW.va (.int .i64 0) ?_;refine PW.dn ?_;refine Xy ?_;refine PW.begin ?_;refine PW.va (.int .u64 0) ?_;refine PW.va (.int .u64 0) ?_;refine PW.dn ?_;refine Xy ?_;refine Xy ?_;refine PW.begin ?_;refine PW.mv ?_;refine PW.va (.int .i64 n) ?_;refine PW.va (.int .i64 0) ?_;refine PW.dn ?_;refine Y6 ?_;have F:=mk1 (Mp.start w);clear a u r H D;go_loopg [4,5,11] n (λgk s4 s5 s11 wr=>∃i:Nat,i+gk=n/\s4=.int .u64 (aW A i:Int)/\s5=.int .u64 (aW B i:Int)/\s11=.int .i64 i/\Hid (Mp w wr [] []))
 case atStart=>exact⟨0,by omega,rfl,rfl,rfl,F⟩
 case round =>
  clear F;obtain⟨i,T,rfl,rfl,rfl,s⟩:=hrel;by_cases G:i<n
  ·have b:(i:Int)<(n:Int):=by omega
   have z:Yh.wrap ((i:Int)+1)=((i+1:Nat):Int):=by rw[Zc];omega
   have l1:=R i;have Z:=E i;have l3:=t.out.1 i;have l4:=t.out.2.1 i;have S:Yn.wrap ((aW A i:Int)+(A i:Int))=((aW A (i+1):Nat):Int):=by rw[ZK,show aW A (i+1)=aW A i+A i from rfl];omega
   have I:Yn.wrap ((aW B i:Int)+(B i:Int))=((aW B (i+1):Nat):Int):=by rw[ZK,show aW B (i+1)=aW B i+B i from rfl];omega
   obtain⟨g,rfl,Y,d⟩:=(HL.out.below s.out.bl) (by omega);refine hG wr.heap.size λJ o=>?_
   refine hG (wr.alloc (.cells z3.toArray 26)) λV p=>?_
   refine hG (V.setCells J 0 (opC (K i) (A i) (B i))) λM f=>?_
   have y:=mk1 (s.out.new o p);have x:=mk1 (y.out.put 0 f);have C:=d i G;obtain⟨X,k⟩:=hE (X6 (opC (K i) (A i) (B i)).toArray);have m:Hid (∀W,XH prog 16 #[.int .i64 i,X] W (Ret λe w'=>Below W.heap.size W w'/\e=.int .i64 0)):=by rw[<-k.out];exact Q.out i i (by omega)
   clear d;refine Xy ?_;refine PW.begin ?_;refine PW.va (.bool (decide ((i:Int)<(n:Int)))) ?_;rw[decide_eq_true b];refine PW.dn ?_;refine Xy ?_;refine Yx rfl ?_;refine YR ?_;refine Xy ?_;refine Y6 ?_;refine Xy ?_;refine PW.begin ?_;refine PW.mv ?_;refine PW.ns (P0 g n c i G wr) ?_;refine PW.ro C k uOp iOp ?_;refine PW.al o p ?_;refine PW.va (.int .i64 i) ?_;refine PW.st f k (y.out.th 0) iOp (Bv _ _ _) ?_;refine PW.dn ?_;refine Xy ?_;refine Xy ?_;refine PW.begin ?_;refine PW.mv ?_;refine PW.ro (x.out.at_ 0).2.1 k uOp iOp ?_;refine PW.gi (m.out M) λw6 l=>?_
   refine PW.va (.int .i64 0) ?_;refine PW.dn ?_;have v:=mk1 (x.out.grow l);have c1:=(v.out.at_ 0).2.1 1 (.int .u64 (A i:Int)) rfl;have c2:=(v.out.at_ 0).2.1 2 (.int .u64 (B i:Int)) rfl;have U:=mk1 (Mp.pop (rs:=[]) v.out);clear y x v l s m C;refine Xy ?_;refine PW.begin ?_;refine PW.mv ?_;refine PW.va (.bool false) ?_;refine PW.dn ?_;refine X7 rfl ?_;refine YR ?_;go_quiet (fail);refine PW.begin (P:=prog) ?_;refine PW.va (.int .i64 (Yh.wrap ((i:Int)+1))) ?_;rw[z];go_wp2;go_roundg (gk-1)
   case measure=>omega
   case rel=>exact⟨i+1,by omega,by rw[<-S],by rw[<-I],rfl,U.out.grow ⟨rfl,rfl,rfl,Xx _,λ_ _=>rfl⟩⟩
  ·have b:¬(i:Int)<(n:Int):=by omega
   obtain rfl:i=n:=by omega
   have hd:decide ((aW B i:Int)<(aW A i:Int))=false:=decide_eq_false (by have:=t.out.2.2;omega);have k:Yn.wrap ((aW B i:Int)-(aW A i:Int))=((aW B i-aW A i:Nat):Int):=by
    have:=E i;have:=t.out.2.2;rw[ZK];omega
   refine Xy ?_;refine PW.begin ?_;refine PW.va (.bool (decide ((i:Int)<(i:Int)))) ?_;rw[decide_eq_false b];refine PW.dn ?_;refine Xy ?_;refine X7 rfl ?_;refine yBh ?_;refine Xy (P:=prog) ?_;refine Xy ?_;refine PW.begin ?_;refine PW.mv ?_;refine PW.mv ?_;refine PW.va (.bool (decide ((aW B i:Int)<(aW A i:Int)))) ?_;rw[hd];refine PW.dn ?_;refine X7 rfl ?_;refine YR ?_;refine Xy ?_;refine PW.begin ?_;refine PW.mv ?_;refine PW.mv ?_;refine PW.va (.int .u64 (Yn.wrap ((aW B i:Int)-(aW A i:Int)))) ?_;rw[k];refine PW.va (.int .u64 ((aW B i-aW A i:Nat):Int)) ?_;refine PW.va (.int .i64 0) ?_;refine PW.dn ?_;refine Y5 ?_;refine XE (dQ 2 3 rfl _ _ rfl rfl) rfl ?_;exact⟨_,rfl,s.out.bl,rfl⟩
def opA(N:Nat)(f:Nat->Nat->Nat):Nat->Nat
 | 0=>0
 | i+1=>sPl N (sPl N (opA N f i) (f i 0)) (f i 1)
def opI(N:Nat)(f:Nat->Nat->Nat)(i:Nat):Nat->Nat
 | 0=>opA N f i
 | s+1=>sPl N (opI N f i s) (f i s)
def blW(N:Nat)(k:Bs)(i s:Nat):Nat:=sTi N (blN N k s i) (sdW N s)
theorem JJ(O:Ord N)(a b:Nat):sPl N a b<N:=Y9 _ O.pos
theorem QX(O:Ord N)(a b:Nat):sTi N a b<N:=Y9 _ O.pos
theorem Ke(O:Ord N)(f:Nat->Nat->Nat):∀i,opA N f i<N
 | 0=>O.pos
 | _+1=>JJ O _ _
theorem Ry(O:Ord N)(f:Nat->Nat->Nat)(i:Nat):∀s,opI N f i s<N
 | 0=>Ke O f i
 | _+1=>JJ O _ _
theorem QS(O:Ord N):∀s,sdW N s<N
 | 0=>Y9 _ O.pos
 | _+1=>by have:=O.n2;show 1<N;omega
theorem VM:wn 0=RG.z 4:=kR
theorem Io(O:Ord N)(n:Nat)(hn:n<=64)(k:Bs)(R:k.size=32)(J:Option YW)(sc:Nat)(w:Xs)(D:PartOk w (.slice J 32 sc) k.toList):
 XH prog 9 #[.slice J 32 sc,iZ n] w (rZ w λe w'=>e=nv (opA N (blW N k) n)):=by
 refine hG w.heap.size λj o=>?_
 refine hG (w.alloc (.cells (RG.z 4).toArray 44)) λw1 r=>?_
 have Z:=mk1 ((Mp.start w).new o r);refine hG w1.heap.size λu m=>?_
 refine hG (w1.alloc (.cells (RG.z 4).toArray 44)) λw2 t=>?_
 have K2:Hid (Mp w w2 [(j,RG.z 4),(u,wn (opA N (blW N k) 0))] []):=by
  rw[show wn (opA N (blW N k) 0)=RG.z 4 from VM];exact Z.out.new m t
 have HB:=mk1 (λi (hi:i<64) s (W:Xs) (b:kZ w W)=>Qf O s i (by omega) k R J sc W (D.below b));have HS:=mk1 (λW=>wG O W);clear D Z;go_enter func9,ntmps9;refine Xy ?_;refine PW.begin ?_;refine PW.al o r ?_;refine PW.dn ?_;refine Xy ?_;refine PW.begin ?_;refine PW.al m t ?_;refine PW.dn ?_;clear r t o m;refine Xy ?_;refine Xy ?_;refine PW.begin ?_;refine PW.mv ?_;refine PW.va (iZ 0) ?_;refine PW.dn ?_;refine Y6 ?_;go_loopg [10] n (λgk s10 wr=>∃i:Nat,i+gk=n/\s10=iZ i/\Hid (Mp w wr [(j,RG.z 4),(u,wn (opA N (blW N k) i))] []))
 case atStart=>exact⟨0,by omega,rfl,K2⟩
 case round =>
  clear K2;obtain⟨i,h0,rfl,K⟩:=hrel;by_cases hi:i<n
  ·have p:(i:Int)<(n:Int):=by omega
   have V:Yh.wrap ((i:Int)+1)=((i+1:Nat):Int):=by rw[Zc];omega
   have I:yCd.wrap (i:Int)=(i:Int):=by rw[yDg];omega
   refine Xy ?_;refine PW.begin ?_;refine PW.va (.bool (decide ((i:Int)<(n:Int)))) ?_;rw[decide_eq_true p];refine PW.dn ?_;refine Xy ?_;refine Yx rfl ?_;refine YR ?_;refine Xy ?_;refine Y6 ?_;refine Xy ?_;refine PW.begin ?_;refine PW.mv ?_;refine PW.va (iZ i) ?_;refine PW.dn ?_;refine Xy ?_;refine PW.begin ?_;refine PW.ca (HS.out wr) ?_;rintro e w3 ⟨E,g,rfl,Y,l⟩;simp only[XK,Xt,Xv,Xw];refine PW.va (iZ 2) ?_;refine PW.va (iZ 0) ?_;refine PW.dn ?_;obtain⟨T,h2⟩:∃x,x=gk:=⟨_,rfl⟩
   have K3:Hid (Mp w w3 [(j,RG.z 4),(u,wn (opI N (blW N k) i 0)),(g,sdC N 0++sdC N 1)] []):=K.out.add E l Y;clear K E Y l;refine Y6 ?_;go_loopg [15] 2 (λgk s15 wr=>∃s:Nat,s+gk=2/\s15=iZ s/\Hid (Mp w wr [(j,RG.z 4),(u,wn (opI N (blW N k) i s)),(g,sdC N 0++sdC N 1)] []))
   case atStart=>exact⟨0,by omega,rfl,K3⟩
   case round =>
    clear K3;obtain⟨s,h1,rfl,K⟩:=hrel;by_cases D:s<2
    ·have a:(s:Int)<2:=by omega
     have U:Yh.wrap ((s:Int)+1)=((s+1:Nat):Int):=by rw[Zc];omega
     refine hG wr.heap.size λS A=>?_
     refine hG (wr.alloc (.cells z7.toArray 61)) λQ d=>?_
     refine hG (Q.setCells S 0 (sdC N s)) λw5 F=>?_
     have v:=mk1 (K.out.new A d);have q:=mk1 (v.out.put 3 F);have R0:=FS D (K.out.at_ 2);have HT:=gV O (blN N k s i) (sdW N s) (B6 O k s i) (QS O s);have X:=mM O (opI N (blW N k) i s) (blW N k i s) (Ry O _ i s) (QX O _ _);have B:=λW b=>HB.out i (by omega) s W b
     obtain⟨vs,f⟩:=hE (X6 (sdC N s).toArray);obtain⟨va,c⟩:=hE (nv (opI N (blW N k) i s));obtain⟨vb,y⟩:=hE (nv (blN N k s i));obtain⟨vw,z⟩:=hE (nv (sdW N s));obtain⟨vt,C⟩:=hE (nv (blW N k i s));obtain⟨vr,G⟩:=hE (nv (opI N (blW N k) i (s+1)));rw[show sTi N (blN N k s i) (sdW N s)=blW N k i s from rfl,y.out,z.out,C.out]at HT;rw[show sPl N (opI N (blW N k) i s) (blW N k i s)=opI N (blW N k) i (s+1) from rfl,c.out,C.out,G.out]at X;rw[f.out,y.out]at B;refine Xy ?_;refine PW.begin ?_;refine PW.va (.bool (decide ((s:Int)<2))) ?_;rw[decide_eq_true a];refine PW.dn ?_;refine Xy ?_;refine Yx rfl ?_;refine YR ?_;refine Xy ?_;refine Y6 ?_;refine Xy ?_;refine PW.begin ?_;refine PW.ns (GA g s D wr) ?_;refine PW.ro R0 f uSd iSd ?_;refine PW.al A d ?_;refine PW.st F f (v.out.th 3) iSd (Bh s) ?_;refine PW.dn ?_;refine AW.begin 10 10 ?_;refine AW.ro 0 (λW b=>((q.out.at_ 1).below b).2.1) c u40 i40 ?_;refine AW.ro 1 (λW b=>((q.out.at_ 3).below b).2.1) f uSd iSd ?_;refine AW.mv 2 ?_;refine AW.mv 3 ?_;refine AW.va 4 (.int .u32 (yCd.wrap (i:Int))) ?_;rw[I];refine AW.va 6 (oZ S 3) ?_;refine AW.ro 7 (λW b=>rnB (xs:=[.string (sdL s),.string (sdP s),.func (.func (sdA s)) #[] #[]]) ((q.out.at_ 3).below b).2.1 rfl) z u40 i40 ?_;refine AW.gi 5 (λb=>B _ (q.out.bl.trans (b.mono q.out.bl.size))) λW1 _=>?_
     refine AW.gi 8 (λ_=>HT _) λW2 _=>?_
     refine AW.gi 9 (λ_=>X _) λW3 _=>?_
     refine AW.fi (us:=wn (opI N (blW N k) i (s+1))) G (aI _) i40 (λb=>?_);have L:=q.out.grow b;obtain⟨W4,H⟩:=hE (W3.setCells u 0 (wn (opI N (blW N k) i (s+1))));have M:=mk1 (Mp.pop (rs:=[(j,RG.z 4),(u,wn (opI N (blW N k) i (s+1))),(g,sdC N 0++sdC N 1)]) (x:=(S,sdC N s)) (L.put 1 H));rw[H.out];refine⟨L.th 1,?_⟩;clear K v q L b;refine PW.begin (P:=prog) ?_;refine PW.va (iZ (Yh.wrap ((s:Int)+1))) ?_;rw[U];go_wp2;go_roundg (gk-1)
     case measure=>omega
     case rel=>exact⟨s+1,by omega,rfl,M⟩
    ·have a:¬(s:Int)<2:=by omega
     obtain rfl:s=2:=by omega
     have M:Hid (Mp w wr [(j,RG.z 4),(u,wn (opA N (blW N k) (i+1)))] []):=Mp.pop (x:=(g,sdC N 0++sdC N 1)) K.out;refine Xy ?_;refine PW.begin ?_;refine PW.va (.bool false) ?_;refine PW.dn ?_;refine Xy ?_;refine X7 rfl ?_;refine yBh ?_;refine PW.begin (P:=prog) ?_;refine PW.va (iZ (Yh.wrap ((i:Int)+1))) ?_;rw[V];go_wp2;go_roundg (T-1)
     case measure=>omega
     case rel=>exact⟨i+1,by omega,rfl,M⟩
  ·have p:¬(i:Int)<(n:Int):=by omega
   obtain rfl:i=n:=by omega
   refine hG (wr.setCells j 0 (wn (opA N (blW N k) i))) λQ d=>?_
   have v:=mk1 (K.out.put 0 d);obtain⟨va,c⟩:=hE (nv (opA N (blW N k) i));refine Xy ?_;refine PW.begin ?_;refine PW.va (.bool (decide ((i:Int)<(i:Int)))) ?_;rw[decide_eq_false p];refine PW.dn ?_;refine Xy ?_;refine X7 rfl ?_;refine yBh ?_;refine Xy (P:=prog) ?_;refine PW.begin ?_;refine PW.ro (K.out.at_ 1).2.1 c u40 i40 ?_;refine PW.st d c (K.out.th 0) i40 (aI _) ?_;refine PW.dn ?_;refine Y5 ?_;refine XE (aF 4 44 rfl (show Row Q j (wn (opA N (blW N k) i)) from v.out.at_ 0) rfl u40 i40) rfl ?_;exact⟨_,rfl,v.out.bl,rfl⟩
end
section
open SPA
variable {P:Nat}[NeZero P]{N:Nat}[NeZero N]
theorem Tv(C:Fld P)(O:Ord N)(k:∀r:EC.Pt P,On r->mul N r=none)(d:IsP N)(T:18446744073709551616<=N){t:Nat}(R:Rv N)(G:Wd R.n t)(hv:R.v<2^R.n)(V A S x B H I s:Bs)(b:RvL C k R V A S x B H I s)(q:Md.Ps Bs (Fin N) (OnP P))(m:q.s=aX s)(v:q.a=R.a)(z:q.b=R.b)(c:q.g=gPt C ⟨#[108,101,102,116]⟩)(g:q.h=R.hh (aD C k) (gPt C ⟨#[114,105,103,104,116]⟩))(u:OnP P)(F:u=(aD C k).ac R.w (uPt C))(l Rb:Nat->Bs)(n:∀j,l j=wP ((aD C k).pLi (chF N) ivF u t q j))(y:∀j,Rb j=wP ((aD C k).pTi (chF N) ivF u t q j))(J K:Bs)(o:J=bx (((aD C k).pst (chF N) ivF u t q t).a 0).val)(p:K=bx (((aD C k).pst (chF N) ivF u t q t).b 0).val)(E:Rp)(i:Hid (⟨A,S,x,B,R.tau.val,R.mu.val,R.t.val⟩=E))(e:Xu)(w:Xs)(f:RgV t E l Rb J K e w):
 XH prog 107 #[pvl V,iZ (R.n:Int),e] w (rZ w λe w'=>e=.bool true):=by
 obtain rfl:=i.out;have D:R.y.val≠0:=by rw[b.y];exact Hd d.1 _
 have ok:(⟨A,S,x,B,R.tau.val,R.mu.val,R.t.val⟩:Rp).Ok:=⟨by rw[b.eA];exact aL _,by rw[b.eS];exact aL _,by rw[b.e1];exact aL _,by rw[b.e2];exact aL _⟩
 have M:=R.sums (aD C k) (gPG C) (hPV C) d D hv;have U:=R.point (aD C k) (gPG C) (uPt C) (gPt C ⟨#[108,101,102,116]⟩) (gPt C ⟨#[114,105,103,104,116]⟩) d D;have hf:=SA C k d u t q;rw[o,p]at f;generalize ((aD C k).pst (chF N) ivF u t q t).a 0=Q at *;generalize ((aD C k).pst (chF N) ivF u t q t).b 0=L at *;refine Qz C O k d T G _ ok V _ _ _ _ _ b.eV b.eA b.eS b.e1 b.e2 R.tau R.mu R.t R.x R.y R.z R.w rfl rfl rfl H I s b.l3 b.y b.z b.l6 b.x b.l8 b.w l Rb _ _ n y Q L u F ⟨q.s,(aD C k).hdP u (2^t) q,q.g,q.h⟩ m c g ?_ _ rfl ?_ hf e w f
 ·show(aD C k).hd q.a q.b q.g q.h u (2^t)=(aD C k).ad ((aD C k).ad ((aD C k).ad ((aD C k).ad _ _) _) ((aD C k).ad ((aD C k).dt (λ_=>-R.z) q.g R.n) ((aD C k).dt (rgS R.y R.z) q.h R.n))) _;rw[<-G.1,v,z,c,g,F];exact U.symm
 ·exact congrArg wP M
theorem TW(C:Fld P)(O:Ord N)(b:∀r:EC.Pt P,On r->mul N r=none)(v n:Nat)(k:Fin N)(d:List UInt8):∃(R:Rv N) (V A S m o e f j:Bs),R.v=v/\R.n=n/\R.k=k/\RvL C b R V A S m o e f j/\RvS R d:=by
 have lt:∀l B,chL N l B<N:=λl B=>oU O _
 obtain⟨s,I⟩:∃s:Nat->Fin N,∀i,(s i).val=chL N [115,108] [d,(gB i).toList]:=⟨λi=>⟨_,lt _ _⟩,λ_=>rfl⟩
 obtain⟨q,J⟩:∃s:Nat->Fin N,∀i,(s i).val=chL N [115,114] [d,(gB i).toList]:=⟨λi=>⟨_,lt _ _⟩,λ_=>rfl⟩
 obtain⟨al,u⟩:∃x:Fin N,x.val=chL N [97,108,112,104,97] [d]:=⟨⟨_,lt _ _⟩,rfl⟩
 obtain⟨c,g⟩:∃x:Fin N,x.val=chL N [114,104,111] [d]:=⟨⟨_,lt _ _⟩,rfl⟩
 obtain⟨t1,p⟩:∃x:Fin N,x.val=chL N [116,97,117,49] [d]:=⟨⟨_,lt _ _⟩,rfl⟩
 obtain⟨t2,t⟩:∃x:Fin N,x.val=chL N [116,97,117,50] [d]:=⟨⟨_,lt _ _⟩,rfl⟩
 obtain⟨V,D⟩:∃V,V=wP ((⟨v,n,s,q,al,c,t1,t2,k,0,0,0,0⟩:Rv N).pV (aD C b) (gPG C) (hPV C)):=⟨_,rfl⟩
 obtain⟨A,U⟩:∃A,A=wP ((⟨v,n,s,q,al,c,t1,t2,k,0,0,0,0⟩:Rv N).pA (aD C b) (gPG C) (gPt C ⟨#[108,101,102,116]⟩) (gPt C ⟨#[114,105,103,104,116]⟩)):=⟨_,rfl⟩
 obtain⟨S,Q⟩:∃A,A=wP ((⟨v,n,s,q,al,c,t1,t2,k,0,0,0,0⟩:Rv N).pS (aD C b) (gPG C) (gPt C ⟨#[108,101,102,116]⟩) (gPt C ⟨#[114,105,103,104,116]⟩)):=⟨_,rfl⟩
 obtain⟨e,H⟩:∃L,L=bgL V n A S:=⟨_,rfl⟩
 obtain⟨y,G⟩:∃y,y=kX N e:=⟨_,rfl⟩
 obtain⟨z,E⟩:∃z,z=kX N (aX e):=⟨_,rfl⟩
 obtain⟨m,T⟩:∃A,A=wP ((⟨v,n,s,q,al,c,t1,t2,k,y,z,0,0⟩:Rv N).p1 (aD C b) (gPG C) (hPV C)):=⟨_,rfl⟩
 obtain⟨o,W⟩:∃A,A=wP ((⟨v,n,s,q,al,c,t1,t2,k,y,z,0,0⟩:Rv N).p2 (aD C b) (gPG C) (hPV C)):=⟨_,rfl⟩
 obtain⟨f,F⟩:∃L,L=mdL (aX (aX e)) m o:=⟨_,rfl⟩
 obtain⟨x,hx⟩:∃x,x=kX N f:=⟨_,rfl⟩
 obtain⟨j,K⟩:∃L,L=enL (aX f) (⟨v,n,s,q,al,c,t1,t2,k,y,z,x,0⟩:Rv N).tau.val (⟨v,n,s,q,al,c,t1,t2,k,y,z,x,0⟩:Rv N).mu.val (⟨v,n,s,q,al,c,t1,t2,k,y,z,x,0⟩:Rv N).t.val:=⟨_,rfl⟩
 obtain⟨w,M⟩:∃w,w=kX N j:=⟨_,rfl⟩
 exact⟨⟨v,n,s,q,al,c,t1,t2,k,y,z,x,w⟩,V,A,S,m,o,e,f,j,rfl,rfl,rfl,⟨D,U,Q,T,W,H,G,E,F,hx,K,M⟩,⟨I,J,u,g,p,t⟩⟩
theorem RgA.below{j t:Nat}{p:Rp}{l Rb:Nat->Bs}{o q:Bs}{e:Xu}{W W':Xs}(h:RgA j t p l Rb o q e W)(i:kZ W W'):RgA j t p l Rb o q e W':=by
 obtain⟨a,b,c,d,u,m,s,r,B,y,x,w,A,n,hR,z,v⟩:=h.ex;have k:Kq (λ_=>True) W W':=Kq.of_below i;exact⟨a,b,c,d,u,m,s,r,B,y,x,w,A.keep k,n.keep k λg f=>i.block g (n.lt f).2,hR.keep k λg f=>i.block g (hR.lt f).2,z.keep k,v.keep k⟩
theorem Uf{S R M:Type}(s:S)(a b:Nat->R)(g h:Nat->M):∃q:Md.Ps S R M,q.s=s/\q.a=a/\q.b=b/\q.g=g/\q.h=h:=⟨⟨s,a,b,g,h⟩,rfl,rfl,rfl,rfl,rfl⟩
theorem Ns(C:Fld P)(O:Ord N)(f:∀r:EC.Pt P,On r->mul N r=none)(Z:IsP N)(hN:18446744073709551616<=N){n t:Nat}(U:Wd n t)(v:Nat)(hv:v<2^n)(k:Fin N)(M:List UInt8):∃(V:Bs) (B:Rp) (g Rb:Nat->Bs) (i l:Bs),V=wP ((aD C f).cm (hPV C) (gPG C) (ofF N v) k) /\
 (∀(K:Option YW) (sc:Nat) (v1:Xu) (w:Xs),Arg w v1 (bx k.val)->PartOk w (.slice K 32 sc) M->XH prog 20 #[uZ v,v1,iZ n,.slice K 32 sc] w (rZ w λe w'=>∃e' o,e=.tuple #[e',iZ 0]/\w.heap.size<=o/\RgA o t B g Rb i l e' w')) /\
 (∀(e v0:Xu) (w:Xs),Arg33 w v0 V->RgV t B g Rb i l e w->(XH prog 61 #[v0,iZ n,e] w (rZ w λe w'=>e=.bool true)))/\B.Ok/\(∀j,(g j).size=33)/\(∀j,(Rb j).size=33)/\i.size=32/\l.size=32:=by
 obtain⟨R,V,A,S,T,Y,L3,L6,Q,rfl,rfl,rfl,o,hS⟩:=TW C O f v n k M;obtain⟨q,G,I,J,F,H⟩:=Uf (aX Q) R.a R.b (gPt C ⟨#[108,101,102,116]⟩) (R.hh (aD C f) (gPt C ⟨#[114,105,103,104,116]⟩));obtain⟨u,hu⟩:∃u,u=(aD C f).ac R.w (uPt C):=⟨_,rfl⟩
 obtain⟨g,y⟩:∃g:Nat->Bs,∀j,g j=wP ((aD C f).pLi (chF N) ivF u t q j):=⟨λj=>wP ((aD C f).pLi (chF N) ivF u t q j),λ_=>rfl⟩
 obtain⟨Rb,E⟩:∃Rb:Nat->Bs,∀j,Rb j=wP ((aD C f).pTi (chF N) ivF u t q j):=⟨λj=>wP ((aD C f).pTi (chF N) ivF u t q j),λ_=>rfl⟩
 obtain⟨i,z⟩:∃i,i=bx (((aD C f).pst (chF N) ivF u t q t).a 0).val:=⟨_,rfl⟩
 obtain⟨l,D⟩:∃l,l=bx (((aD C f).pst (chF N) ivF u t q t).b 0).val:=⟨_,rfl⟩
 obtain⟨B,p⟩:=hE (⟨A,S,T,Y,R.tau.val,R.mu.val,R.t.val⟩:Rp);refine⟨V,B,g,Rb,i,l,o.eV,λK sc v1 w X L=>?_,λe v0 w X L=>?_,?_,λj=>by rw[y];exact aL _,λj=>by rw[E];exact aL _,by rw[z];exact cU _,by rw[D];exact cU _⟩
 ·exact Ug C O f Z R U hv hN M K sc V A S T Y L3 L6 Q o hS q G I J F H u hu g Rb y E i l z D B p v1 w X L
 ·have hr:∃q,rd P V=some q:=by
   rw[o.eV];obtain⟨q,hq,-⟩:=xT C (R.pV (aD C f) (gPG C) (hPV C)).2;exact⟨q,hq⟩
  obtain⟨x,hx⟩:=hr;obtain⟨a,b,c,d,u',m,s,vL,vR,vA,vB,e1,-⟩:=L.ex;subst e1;exact Tu C U V x hx v0 _ _ _ _ _ _ _ _ _ _ _ w X λW hb=>Tv C O f Z hN R U hv V A S T Y L3 L6 Q o q G I J F H u hu g Rb y E i l z D B p _ W (L.below hb)
 ·rw[<-p.out];exact⟨by rw[o.eA];exact aL _,by rw[o.eS];exact aL _,by rw[o.e1];exact aL _,by rw[o.e2];exact aL _⟩
end
section
open SPA
variable {P:Nat}[NeZero P]{N:Nat}
theorem TlL.vl{Q:Nat->Prop}{k t:Nat}{W:Xs}{v:Xu}{B:Nat->Bs}(h:TlL Q k t W v B)(p:0<t):∃g c ys,v=sZ g t c/\VL W (some (aZ g)) t ys/\∀j,j<t->∃x,ys[j]? = some x/\ElQ Q 33 W x (B j):=by
 obtain⟨xs,d,i⟩:=h.ex;obtain⟨g,c,rfl⟩:=mT d p;have l:xs.length=t:=by have:=d.1;omega
 have m:=(h.lt (g:=g) rfl).2;refine⟨g,c,xs,rfl,⟨l,λe=>(by cases e),X0 ⟨g,0,rfl,m,λj u b=>?_⟩,λu b=>?_⟩,i⟩
 ·rw[XD];exact jI d b
 ·obtain⟨j,n,rfl⟩:=List.mem_iff_getElem.1 b;obtain⟨x,f,o⟩:=i j oM;rw[XJ n]at f;obtain rfl:=XS.inj f;exact o.one.2
theorem ElQ.pt{Q:Nat->Prop}{m:Nat}{W:Xs}{x:Xu}{b:Bs}(h:ElQ Q m W x b):Pt W x b:=by
 obtain⟨k,c,rfl,-,f,-,d,e⟩:=h;exact⟨_,c,by rw[f],X0 ⟨k,0,rfl,d,e⟩⟩
def rgB(t:Nat)(p:Rp)(c Rb:Nat->Bs)(b k:Bs):List Bs:=[p.a,p.s,p.c,p.d,bx p.u,bx p.m,bx p.t]++(Yt t).map c++(Yt t).map Rb++[b,k]
theorem PtB.app{W:Xs}{us vs:List Xu}{A B:List Bs}(h:PtB W us A)(e:PtB W vs B):PtB W (us++vs) (A++B):=by
 refine⟨by rw[XC,XC,h.1,e.1],λj u b k c=>?_⟩;by_cases d:j<us.length
 ·rw[XQ d]at k;rw[XQ (by rw[h.1];exact d)]at c;exact h.2 j u b k c
 ·rw[XR oM]at k;rw[XR (by rw[h.1];omega),h.1]at c;exact e.2 _ u b k c
theorem PtB.one{W:Xs}{u:Xu}{b:Bs}(h:Pt W u b):PtB W [u] [b]:=⟨rfl,λj d e k c=>by
 match j with
 | 0 =>
  cases k
  cases c
  exact h
 | j+1=>cases k⟩
theorem PtB.list{W:Xs}{Q:Nat->Prop}{t:Nat}{ys:List Xu}{B:Nat->Bs}(e:ys.length=t)(h:∀j,j<t->∃x,ys[j]? = some x/\ElQ Q 33 W x (B j)):PtB W ys ((Yt t).map B):=⟨by simp[e],λj u b k d=>by
 have c:j<t:=by rw[<-e];exact(XG.1 k).1
 obtain⟨x,f,g⟩:=h j c;rw[k]at f;obtain rfl:=XS.inj f;rw[Ys,yBg c]at d;obtain rfl:=XS.inj d;exact g.pt⟩
theorem RgA.rg{x t:Nat}{p:Rp}{l Rb:Nat->Bs}{r w:Bs}{e:Xu}{W:Xs}(h:RgA x t p l Rb r w e W)(o:0<t):∃(q:Rg) (f k:List Xu) (i j:Nat),e=.agg q.cs.toArray/\q.l.n=t/\q.r.n=t/\q.a.n=33/\VL W q.l.q q.l.n f/\VL W q.r.q q.r.n k/\q.l.q=some (aZ i)/\q.r.q=some (aZ j)/\PtB W (qS q f k) (rgB t p l Rb r w):=by
 obtain⟨a,b,c,d,u,m,s,H,K,J,I,rfl,g,z,hR,v,n⟩:=h.ex;obtain⟨i,cl,f,rfl,v1,y⟩:=z.vl o;obtain⟨j,cr,k,rfl,v2,C⟩:=hR.vl o;have pA:=v.pt;have D:=n.pt;obtain⟨E,G,rfl,-⟩:=v;obtain⟨F,B,rfl,-⟩:=n;refine⟨⟨⟨some (aZ a),33,_⟩,⟨some (aZ b),33,_⟩,⟨some (aZ c),33,_⟩,⟨some (aZ d),33,_⟩,⟨some (aZ u),32,_⟩,⟨some (aZ m),32,_⟩,⟨some (aZ s),32,_⟩,⟨some (aZ i),t,cl⟩,⟨some (aZ j),t,cr⟩,⟨some (aZ E),32,G⟩,⟨some (aZ F),32,B⟩⟩,f,k,i,j,rfl,rfl,rfl,rfl,v1,v2,rfl,rfl,?_⟩;exact(((PtB.one g.a.pt).app ((PtB.one g.b.pt).app ((PtB.one g.c.pt).app ((PtB.one g.d.pt).app ((PtB.one g.e.pt).app ((PtB.one g.f.pt).app (PtB.one g.g.pt))))))).app (PtB.list v1.len y)).app (PtB.list v2.len C) |>.app ((PtB.one pA).app (PtB.one D))
theorem RgA.cl{k t:Nat}{p:Rp}{d Rb:Nat->Bs}{j l:Bs}{e:Xu}{W:Xs}(h:RgA k t p d Rb j l e W)(i:0<t):∃cs:List Xu,Hid (.agg cs.toArray=e)/\cs.length=11/\cs.toArray.all (·.oneCell')=true/\∃q c,cs[0]? = some (.slice q 33 c):=by
 obtain⟨q,f,b,m,n,rfl,-,-,g,-⟩:=h.rg i;exact⟨q.cs,rfl,rfl,by simp only[yAJ,Rg.cs,rgC,Sv.v,yB5,yCq];rfl,q.a.q,q.a.c,by rw[<-g];rfl⟩
theorem TlL.sz{Q:Nat->Prop}{d t:Nat}{W:Xs}{v:Xu}{B:Nat->Bs}(h:TlL Q d t W v B):((Yt t).map B).map Y8=YE t 33:=by
 obtain⟨xs,-,g⟩:=h.ex;refine yC2.2 ⟨by simp,λx hx=>?_⟩;simp only[Yw,YZ]at hx;obtain⟨b,⟨j,e,rfl⟩,rfl⟩:=hx;obtain⟨y,-,k,c,-,-,f,-⟩:=g j e;exact f
theorem ElQ.sz{Q:Nat->Prop}{m:Nat}{W:Xs}{x:Xu}{b:Bs}(h:ElQ Q m W x b):Y8 b=m:=by
 obtain⟨k,c,-,-,d,-⟩:=h;exact d
theorem RgA.good{j t:Nat}{p:Rp}{f Rb:Nat->Bs}{g i:Bs}{e:Xu}{W:Xs}(h:RgA j t p f Rb g i e W)(o:t<=6):kS t t (rgB t p f Rb g i):=by
 obtain⟨a,b,c,d,u,m,s,r,x,w,v,-,k,n,hR,q,l⟩:=h.ex;refine⟨rfl,o,?_⟩;unfold rgB;rw[YU,YU,YU,n.sz,hR.sz];simp only[Z6,yCn,k.a.sz,k.b.sz,k.c.sz,k.d.sz,k.e.sz,k.f.sz,k.g.sz,q.sz,l.sz];rfl
theorem OA{t:Nat}{p:Rp}{k Rb:Nat->Bs}{d e:Bs}(i:t<=6)(ok:p.Ok)(g:∀j,(k j).size=33)(hR:∀j,(Rb j).size=33)(l:d.size=32)(f:e.size=32):kS t t (rgB t p k Rb d e):=by
 have c:∀(B:Nat->Bs),(∀j,(B j).size=33)->((Yt t).map B).map Y8=YE t 33:=λB h=>yC2.2 ⟨by simp,λx hx=>by
  simp only[Yw,YZ]at hx;obtain⟨b,⟨j,m,rfl⟩,rfl⟩:=hx;exact h j⟩
 refine⟨rfl,i,?_⟩;unfold rgB;rw[YU,YU,YU,c k g,c Rb hR];simp only[Z6,yCn,ok.a,ok.s,ok.c,ok.d,cU,l,f];rfl
theorem RgA.put{m t:Nat}{p:Rp}{k Rb:Nat->Bs}{b d:Bs}{e:Xu}{W:Xs}(h:RgA m t p k Rb b d e W)(z:0<t)(y:t<=6):XH prog 22 #[e] W (rZ W λe W'=>∃v,e=.tuple #[v,iZ 0]/\Pt W' v (fC t (rgB t p k Rb b d) (t+t+9))/\∃g c,v=sZ g (Y8 (fC t (rgB t p k Rb b d) (t+t+9))) c/\Y8 (fC t (rgB t p k Rb b d) (t+t+9))<=c):=by
 have r:=h.good y;obtain⟨q,o,n,A,B,rfl,f,j,-,v1,v2,x,s,u⟩:=h.rg z;refine(QY q W v1 v2 (X0 x) (X0 s) u oM oM).mono ?_;rintro e W' ⟨w,⟨-,v,rfl,l⟩|⟨i,-⟩⟩
 ·rw[f,j]at l;exact⟨_,rfl,w,v,rfl,l⟩
 ·rw[f,j]at i;exact absurd r i
end
section
variable {n:Nat}{BB:List Bs}
theorem wO(h:kS n n BB){j:Nat}{b:Bs}(k:BB[j]? = some b):(fD n n)[j]? = some (Y8 b):=by
 rw[<-h.2.2,Ys,k];rfl
theorem lS(h:kS n n BB):BB.length=n+n+9:=by
 have:=congrArg List.length h.2.2;unfold fD at this;simp at this;omega
theorem sL(h:kS n n BB):∀i,i<=n+n+9->Y8 (fC n BB i)=offs n i
 | 0,_=>rfl
 | i+1,hi=>by
  have b:i<BB.length:=by rw[lS h];omega
  have k:=XJ b;rw[mA n BB i _ k,Yg,sL h i oM,lO n i _ (wO h k)]
theorem zM(i:Nat):∀m,i+m<=BB.length->∃r,fC n BB (i+m)=fC n BB i++r
 | 0,_=>⟨#[],by simp⟩
 | m+1,hm=>by
  obtain⟨r,b⟩:=zM i m oM;have k:=XJ (show i+m<BB.length by omega);refine⟨r++BB[i+m],?_⟩;rw[<-Zu,mA n BB (i+m) _ k,b,Array.append_assoc]
theorem OQ(h:kS n n BB){j:Nat}{b:Bs}(k:BB[j]? = some b):chk (fC n BB (n+n+9)) n j=b:=by
 have d:=(XG.1 k).1;rw[lS h]at d;obtain⟨r,c⟩:=zM (n:=n) (BB:=BB) (j+1) (n+n+9-(j+1)) (by rw[lS h];omega);rw[show j+1+(n+n+9-(j+1))=n+n+9 by omega,mA n BB j b k]at c;have s1:=sL h j oM;have s2:=lO n j _ (wO h k);unfold chk;rw[c,s2,<-s1];apply Array.ext
 ·simp
 ·intro i e f;simp[Array.getElem_append]
theorem Mc(h:kS n n BB):(fC n BB (n+n+9))[0]!.toNat=n/\oL (fC n BB (n+n+9)):=by
 have d:=h.2.1;obtain⟨r,b⟩:=zM (n:=n) (BB:=BB) 0 (n+n+9) (by rw[lS h];omega);rw[XD]at b;have k:=sL h (n+n+9) (Xx _);rw[rP]at k;have c:(fC n BB (n+n+9))[0]!.toNat=n:=by
  rw[b];have:(fC n BB 0++r)[0]! = n.toUInt8:=by
   rw[show fC n BB 0=#[n.toUInt8] from rfl,getElem!_pos _ 0 (by simp;omega),yBq (by simp)];rfl
  rw[this];exact Nat.mod_eq_of_lt oM
 exact⟨c,oM,oM,by rw[c];exact k⟩
end
section
open SPA
variable {P:Nat}[NeZero P]{N:Nat}[NeZero N]
structure PrT(T:Bs)(e:Xu)(w:Xs):Prop where
 cs:∃cs:List Xu,Hid (.agg cs.toArray=e)/\cs.length=11/\cs.toArray.all (·.oneCell')=true
 put:∀(W1 W:Xs) (k:Nat) (us vs:List Xu),kZ w W1->Row W1 k (.slice none 0 0 :: vs)->Below (W1.setCells k 0 us).heap.size (W1.setCells k 0 us) W->XH prog 22 #[e] W (rZ W λx W'=>∃g c,x=.tuple #[sZ g 623 c,iZ 0]/\623<=c/\g<W'.heap.size/\Holds encB W' g 0 T)
theorem pt_holds{W:Xs}{g n c:Nat}{b:Bs}(h:Pt W (sZ g n c) b)(i:0<b.size):g<W.heap.size/\Holds encB W g 0 b:=by
 obtain⟨q,l,e,m|⟨j,o,k,f,d⟩⟩:=h
 ·omega
 injection e with e1 e2 e3
 rw[k]at e1;injection e1 with e1
 injection e1 with e1 e4 e5
 subst e1 e4;exact⟨f,d⟩
omit [NeZero P] [NeZero N] in
theorem RgA.set0{l t k:Nat}{p:Rp}{v Rb:Nat->Bs}{C D:Bs}{e:Xu}{W:Xs}{us vs:List Xu}(h:RgA l t p v Rb C D e W)(A:0<t)(w:Row W k (.slice none 0 0 :: vs)):RgA l t p v Rb C D e (W.setCells k 0 us):=by
 obtain⟨a,b,c,d,u,m,s,F,S,O,J,I,f,K,hR,R,H⟩:=h.ex;have kq:Kq (·≠k) W (W.setCells k 0 us):=Kq.set λg i=>i
 have el:∀ {m:Nat}{x:Xu}{b:Bs},0<m->ElQ (λ_=>True) m W x b->ElQ (λ_=>True) m (W.setCells k 0 us) x b:=λM hx=>((hx.off M w).keep kq).mono2 λ_ _ _=>trivial
 have E:∀ {z:Xu}{B:Nat->Bs},TlL (λ_=>True) l t W z B->TlL (λ_=>True) l t (W.setCells k 0 us) z B:=λhx=>by
  obtain⟨xs,o,y⟩:=hx.ex;obtain⟨g,c,rfl⟩:=mT o A;obtain⟨T,n,q⟩:=y 0 A;have G:=jI o n;have r:g≠k:=λe=>by
   subst e;have:=w.2.1 0 _ rfl;rw[XD,G]at this;obtain⟨Q,L,rfl,-⟩:=q;cases this
  refine⟨xs,bG o λQ i=>aE k us 0 W Q (by injection i with i;rw[<-i];exact r),λj L=>?_⟩;obtain⟨x,n,q⟩:=y j L;exact⟨x,n,el dC q⟩
 exact⟨a,b,c,d,u,m,s,F,S,O,J,I,⟨el dC f.a,el dC f.b,el dC f.c,el dC f.d,el dC f.e,el dC f.f,el dC f.g⟩,E K,E hR,el dC R,el dC H⟩
end
section
open SPA
theorem UI:(prog.info? 5).map (λi=>(i.size,i.bytes,i.zero.map λz=>z.cells.size))=some (1,1,some 1):=kR
theorem TA:prog.underlying 23=some (.slice 5):=kR
theorem Tc{k g o c:Nat}{W:Xs}{v:Xu}{X Y:Bs}(m:W.ownsRow k 5 1 v X.size (bC X))(y:Holds encB W g o Y)(E:X.size+Y.size<=1000000)(p:k<=W.heap.size):
 ∃b W',(YA #[23,23] 23 #[v,.slice (some ⟨g,o,none⟩) Y.size c]).run prog W=.ok b W'/\W'.ownsRow k 5 1 b (X++Y).size (bC (X++Y))/\W.grownBy W' v.ownBlock/\(b.ownBlock=v.ownBlock\/b.ownBlock=some W.heap.size):=by
 obtain⟨i,r,f⟩:=XA.1 UI;simp only[Ze.injEq]at f;obtain⟨A,B,t⟩:=f;obtain⟨z,s,e⟩:=XA.1 t;have n:∀(j:Nat) u,(bC Y)[j]? = some u->W.cell? ((⟨g,o,none⟩:YW).add j)=some u:=λj u d=>by
  unfold bC at d;rw[Ys]at d;obtain⟨x,hx,rfl⟩:=XA.1 d;rw[Array.getElem?_toList]at hx;have:=(Array.getElem?_eq_some_iff.1 hx)
  rw[gU,(y j this.1).1,getElem!_pos Y j this.1,this.2];rfl
 obtain⟨b,W',l,D,C,-,q⟩:=run_append_own_at (P:=prog) (w:=W) k 23 23 5 i z 1 1 TA r s A B e (by decide) v X.size (bC X) m ⟨g,o,none⟩ Y.size c (bC Y) (by rw[uJ,Z5]) n (zQ Y) (by unfold maxLen;omega) (by omega) p;exact⟨b,W',l,by rw[Mm,Yg];exact D,C,q⟩
structure Wt(w W:Xs)(v u:Xu)(A B:Bs):Prop where
 bl:kZ w W
 oA:W.ownsRow w.heap.size 5 1 v A.size (bC A)
 oB:W.ownsRow w.heap.size 5 1 u B.size (bC B)
 ne:∀g,v.ownBlock=some g->u.ownBlock≠some g
section
variable {w W W':Xs}{v u:Xu}{A B:Bs}
theorem Wt.swap(h:Wt w W v u A B):Wt w W u v B A:=⟨h.bl,h.oB,h.oA,λg b k=>h.ne g k b⟩
theorem Wt.grow(h:Wt w W v u A B)(k:kZ W W'):Wt w W' v u A B:=⟨h.bl.trans (k.mono h.bl.size),bG h.oA λg b=>k.block g (bU h.oA b).2.1,bG h.oB λg b=>k.block g (bU h.oB b).2.1,h.ne⟩
theorem Wt.app{g o c:Nat}{Y:Bs}(h:Wt w W v u A B)(q:Holds encB W g o Y)(p:A.size+Y.size<=1000000):
 ∃f W',(YA #[23,23] 23 #[v,.slice (some ⟨g,o,none⟩) Y.size c]).run prog W=.ok f W'/\Wt w W' f u (A++Y) B/\W.heap.size<=W'.heap.size/\∀k,k<W.heap.size->v.ownBlock≠some k->W'.heap[k]? = W.heap[k]?:=by
 obtain⟨f,W',m,r,i,n⟩:=Tc h.oA q p h.bl.size;refine⟨f,W',m,⟨h.bl.grown i h.bl.size λk b=>(bU h.oA b).1,r,bG h.oB λk b=>i.block k (bU h.oB b).2.1 (λe=>h.ne k e.symm b),λk d l=>?_⟩,i.size,λk b j=>i.block k b (λe=>j e.symm)⟩;rcases n with e|e
 ·rw[e]at d;exact h.ne k d l
 ·rw[e]at d;have:=(bU h.oB l).2.1;injection d with d
  omega
end
section
variable {P:YG}{ops:Array Yo}{Q:Exit->Act->Xs->Prop}{p r:Nat}{J:Iv}{o:Yo}{a a':Act}{w w':Xs}{fuel:Nat}{listed:Array Bool}{d:Option Zs}{x:Xu}
theorem AW.nw(i:Nat){I:Sem Xu}(hx:I.run P w=.ok x w')(k:J.p w->J.p w')(h:AW P ops Q p r J fuel (listed.setIfInBounds i true) a' w')(ho:ops[i]? = some o:=by(simp only[Ye,Ya,Yc])<;>rfl)(hd:o.dst=d:=by rfl)(c:o.guard=none:=by rfl)(f:Yb a.eval o=I >>= λv=>pure (ZN v):=by kernel_rfl)
 (g:a.put d x=a':=by(simp only[XK,Xt,Xv,Xw])<;>rfl) (e:Yf .any ops listed=[i]:=by kernel_rfl):AW P ops Q p r J (fuel+1) listed a w:=λb=>by
 subst g;exact anyS.ins ho hx (X0 (k b)) (h (k b)) e c f hd
end
section
variable {P:YG}{ops:Array Yo}{Q:Exit->Act->Xs->Prop}{a0:Act}{k:Nat}{o:Yo}{G:RG.Gw}
open RG
theorem gw_cv(j:Nat)(t:Zs)(c:Nat)(b:Zs)(f:ZY){l:Array Yd}(hf:∀args W,(callFunc f args).run P W=.ok (.enter f args) W)(m:∀x W,G.R j x W->x=.func (.func f) #[] #[])(i:∀y W,G.R c y W->G.B W->XH P f #[y] W (rZ W λe W'=>G.R k e W'))(hd:((cQ o j,aV ops j),(cQ o c,aV ops c))=((true,some t),(true,some b)):=by kernel_rfl)(n:cN [t,b] o=true:=by kernel_rfl)(ho:o.op=.call ⟨.value (.tmp t),#[.tmp b],l⟩:=by rfl)(g:t≠b:=by decide):bE P Q G.flow ops a0 k o:=
 gC λa W d=>⟨[(t,.func (.func f) #[] #[]),(b,a.eval (.tmp b))],f,#[a.eval (.tmp b)],⟨m _ W (d.n j t (congrArg (·.1.1) hd) (congrArg (·.1.2) hd)),rfl,yEU⟩,by
  rw[show([(t,Value.func (.func f) #[] #[]),(b,a.eval (.tmp b))].map (·.1))=[t,b] from rfl,n]
  congr 1
  refine EW hf ho ?_ ?_
  ·simp[evo,evl]
  ·simp[evo,evl,g,Ne.symm g],i _ W (d.n c b (congrArg (·.2.1) hd) (congrArg (·.2.2) hd)) d.b⟩
end
end
section
section
variable {P:YG}{ops:Array Yo}{Q:Exit->Act->Xs->Prop}{a0:Act}{F:RG.Flow}{k:Nat}{o:Yo}
theorem OU(T:Yd)(s t:Zs)(ho:o.op=.slice T (.tmp s) none (some (.tmp t)) none)
 (h:∀(a:Act) (w:Xs),PreF F ops a0 k o a w->∃v1 v2 v,a.eval (.tmp s)=v1/\a.eval (.tmp t)=v2/\(Zk T v1 none (some v2) none).run P w=.ok v w/\F.E k w w/\F.R k v w):bE P Q F ops a0 k o:=
 nA λa w d=>by
  obtain⟨v1,v2,v,b,c,e,hE,hR⟩:=h a w d;refine⟨v,w,?_,hE,hR⟩;unfold Yb;rw[ho];dsimp only[yEd];rw[b,c,XT,e];rfl
theorem OT(T:Yd)(s t:Zs)(ho:o.op=.slice T (.tmp s) (some (.tmp t)) none none)
 (h:∀(a:Act) (w:Xs),PreF F ops a0 k o a w->∃v1 v2 v,a.eval (.tmp s)=v1/\a.eval (.tmp t)=v2/\(Zk T v1 (some v2) none none).run P w=.ok v w/\F.E k w w/\F.R k v w):bE P Q F ops a0 k o:=
 nA λa w d=>by
  obtain⟨v1,v2,v,b,c,e,hE,hR⟩:=h a w d;refine⟨v,w,?_,hE,hR⟩;unfold Yb;rw[ho];dsimp only[yEd];rw[b,c,XT,e];rfl
theorem II(h:∀(a:Act) (w:Xs),PreF F ops a0 k o a w->∃(b:List (Zs × Xu)) (f:ZY) (args:Array Xu),AllE a b/\(cN (b.map (·.1)) o,(Yb (evo (evl b)) o).run P w)=(true,.ok (.enter f args) w)/\XH P f args w (λe w'=>∃v,e=.returned v/\F.E k w w'/\F.R k v w')):bE P Q F ops a0 k o:=by
 intro a w K i l g j;obtain⟨b,f,args,m,c,d⟩:=h a w ⟨i,l,g⟩;simp only[Ze.injEq]at c;unfold YV;rw[jE (evl b) (b.map (·.1)) c.1 m.ev,c.2,ZI];refine d.mono ?_;rintro e w' ⟨v,rfl,hE,hR⟩;exact j _ _ hE hR
theorem IH(T:Yd)(t u:Zs)(ho:o.op=.store T (.tmp t) (.tmp u))(hd:o.dst=none)(c:(P.info? T).map (·.size)=some 1)
 (h:∀(a:Act) (w:Xs),PreF F ops a0 k o a w->∃g off v old,a.eval (.tmp t)=oZ g off/\a.eval (.tmp u)=v/\w.cell? ⟨g,off,none⟩=some old/\w.frozen? ⟨g,off,none⟩=false/\v.oneCell'=true/\v.cells=#[v]/\F.E k w (w.setCell ⟨g,off,none⟩ v)/\F.R k Zp (w.setCell ⟨g,off,none⟩ v)):bE P Q F ops a0 k o:=by
 intro a w K i l d j;obtain⟨g,off,v,old,b,e,e3,m,n,f,hE,hR⟩:=h a w ⟨i,l,d⟩;have:=j Zp _ hE hR;unfold YV Yb;rw[ho];dsimp only;rw[b,e,XT,xO e3 m n f c];show K (a.put o.dst Zp) _;exact this
end
theorem SQ(s:SP.Bs)(k i j:Nat)(c:j<(chk s k i).size)(b:offs k i+j<s.size):(chk s k i)[j]! = s[offs k i+j]!:=by
 rw[getElem!_pos (chk s k i) j c,getElem!_pos s (offs k i+j) b];unfold chk at c⊢;rw[Array.getElem_extract]
theorem JY{w z W:Xs}{o q d f i k:Nat}{vs:List Xu}{CH:Nat->SP.Bs}(h:RdI w z W o q d (sZ f k k) (sZ i k k) (gA d f 0 k i 0 k) vs CH)(a:vs.length=k+k+9):∃cs:List Xu,cs.length=11/\W.rangeAt d 0 cs/\∀v∈cs,v.oneCell'=true:=by
 have D:(gA d f 0 k i 0 k).length=k+k+9:=by
  rw[<-lM k k,<-tQ d f 0 k i 0 k,XV]
 have c:∀j,j<k+k+9->∃u,(∀x,(gA d f 0 k i 0 k)[j]? = some x->W.cell? x.1=some u)/\u.oneCell'=true:=λj b=>by
  obtain⟨u,l⟩:∃u,vs[j]? = some u:=⟨_,XJ oM⟩
  exact⟨u,λx hx=>h.st j x u hx l,by rcases(h.ow j u l).own.2 with⟨e,-⟩|⟨g,cap,cur,e,-⟩<;>rw[e]<;>rfl⟩
 have two:∀j,j<2->∃u,W.cell? ⟨d,9+j,none⟩=some u/\u.oneCell'=true:=λj b=>by
  obtain⟨u,p,r⟩:=c (7+k+k+j) oM;obtain⟨x,hx⟩:∃x,(gA d f 0 k i 0 k)[7+k+k+j]? = some x:=⟨_,XJ oM⟩
  rcases dU hx with⟨n,m⟩|⟨n,l,m⟩|⟨n,l,m⟩|⟨n,l,m⟩
  ·omega
  ·omega
  ·omega
  ·have:=p x hx;rw[m,show 7+k+k+j-7-k-k=j by omega]at this;exact⟨u,this,r⟩
 obtain⟨u0,a0,b0⟩:=c 0 oM;obtain⟨u1,n,b1⟩:=c 1 oM;obtain⟨u2,a2,G⟩:=c 2 oM;obtain⟨u3,s,C⟩:=c 3 oM;obtain⟨u4,y,E⟩:=c 4 oM;obtain⟨u5,r,B⟩:=c 5 oM;obtain⟨u6,m,F⟩:=c 6 oM;obtain⟨u9,p,A⟩:=two 0 oM;obtain⟨u10,l,t⟩:=two 1 oM;refine⟨[u0,u1,u2,u3,u4,u5,u6,sZ f k k,sZ i k k,u9,u10],rfl,λj u b=>?_,λv hv=>?_⟩
 ·rw[XD];match j,b with
  | 0,b=>obtain rfl:=XS.inj b;exact a0 _ rfl
  | 1,b=>obtain rfl:=XS.inj b;exact n _ rfl
  | 2,b=>obtain rfl:=XS.inj b;exact a2 _ rfl
  | 3,b=>obtain rfl:=XS.inj b;exact s _ rfl
  | 4,b=>obtain rfl:=XS.inj b;exact y _ rfl
  | 5,b=>obtain rfl:=XS.inj b;exact r _ rfl
  | 6,b=>obtain rfl:=XS.inj b;exact m _ rfl
  | 7,b=>obtain rfl:=XS.inj b;exact h.c7
  | 8,b=>obtain rfl:=XS.inj b;exact h.c8
  | 9,b=>obtain rfl:=XS.inj b;exact p
  | 10,b=>obtain rfl:=XS.inj b;exact l
  | j+11,b=>simp at b
 ·simp only[YX,X5,or_false]at hv;rcases hv with rfl|rfl|rfl|rfl|rfl|rfl|rfl|rfl|rfl|rfl|rfl<;>first|assumption|rfl
end
section
variable {P:Nat}[NeZero P]{N:Nat}
theorem TE:(prog.underlying 99).map (·.isRow)=some false:=kR
theorem Pr:(prog.underlying 3).map (·.isRow)=some false:=kR
theorem i22:(prog.info? 23).map (·.size)=some 1:=kR
theorem CL{cs:List Xu}(h:∀v∈cs,v.oneCell'=true):cs.toArray.all (·.oneCell')=true:=Go.all_oneCell_toArray h
theorem A3:∀v∈zR,v.oneCell'=true:=λv hv=>by
 rw[(yBj.1 hv).2];rfl
theorem JI(s:SP.Bs)(gi oz c:Nat)(hs:s.size<=100000)(hc:s.size<=c)(h9:1<c)(w:Xs)(hy:gi<w.heap.size)(hH:Holds SP.encB w gi oz s):
 XH prog 106 #[.slice (some ⟨gi,oz,none⟩) s.size c] w (RdR w s s[0]!.toNat):=by
 obtain⟨A,J⟩:∃A,Hid (w.alloc (.cells zR.toArray 66)=A):=⟨_,rfl⟩
 have b1:kZ w A:=by rw[<-J.out];exact bJ _ _
 have z1:A.heap.size=w.heap.size+1:=by rw[<-J.out,XF]
 have O:A.heap[w.heap.size]? = some (.cells zR.toArray 66 (0,0)):=by rw[<-J.out];exact ZT
 have kk:=Hid.mkP b1;have hr:=Hid.mkP z1;have kb:=Hid.mkP O;have P1:=Hid.mkP (FV (cs:=zR) O rfl b1);have HH:=Hid.mkP hH;obtain⟨n,hn⟩:∃n:Nat,Hid (n=s.size):=⟨_,rfl⟩
 obtain⟨k,hk⟩:∃k:Nat,Hid (k=s[0]!.toNat):=⟨_,rfl⟩
 rw[<-hk.out];rw[<-hn.out]at hs hc⊢;by_cases h0:0<n
 ·have U:=(SP.Holds.below hH b1 hy 0 (by rw[<-hn.out];exact h0)).1;unfold SP.encB SP.ub at U;rw[<-hk.out,Nat.add_zero]at U;obtain⟨m,hm⟩:∃m,n=m+1:=⟨n-1,oM⟩
  have Z:¬((m:Int)+1=0):=oM;have kw:(0:Int)<(m:Int)+1:=oM;have kv:((m:Int)+1 == 0)=false:=by simpa using Z
  rw[hm]at hc hs⊢;have Hm:Hid (s.size=m+1):=by rw[<-hn.out,hm];rfl
  by_cases h6:k<=6
  ·have kp:¬(6:Int)<(k:Int):=oM;have km:=run_make_row' (P:=prog) 27 23 (.slice none 0 0) 24 FB Ow rfl .i64 .i64 k oM oM;have H:Hid (oL s↔m+1=293+66*k):=by
    show _↔_;unfold oL;rw[<-hk.out,Hm.out];exact⟨λh=>h.2.2,λh=>⟨oM,h6,h⟩⟩
   clear hm Z h0 hH b1 O z1;go_enter func106,ntmps106;go_wp2_with (first|(refine dO (v:=jZ w.heap.size) (w':=A) rfl (.alloc 66) rfl ?_ ?_;(rw[<-J.out];kernel_rfl))|fail)
   go_cut [5] (λs5 wx=>∃l y z,s5=jZ l/\Hid (R4 A wx l y z k))
   case first =>
    go_region
    all_goals (try go_wp2)
    all_goals (go_meet;first|(refine⟨_,A.heap.size,A.heap.size+1,rfl,(⟨(three _ _ _ _ _ _ _).1,?_,?_,?_,?_,?_,?_,?_,?_,?_⟩:R4 _ _ _ _ _ _)⟩<;>first|(rw[(three _ _ _ _ _ _ _).2.1];omega)|exact(three _ _ _ _ _ _ _).2.2.1|exact(three _ _ _ _ _ _ _).2.2.2.1|exact(three _ _ _ _ _ _ _).2.2.2.2|omega)|(refine⟨_,A.heap.size,A.heap.size+1+1,rfl,(⟨(three _ _ _ _ _ _ _).1,?_,?_,?_,?_,?_,?_,?_,?_,?_⟩:R4 _ _ _ _ _ _)⟩<;>first|(rw[(three _ _ _ _ _ _ _).2.1];omega)|exact(three _ _ _ _ _ _ _).2.2.1|exact(three _ _ _ _ _ _ _).2.2.2.1|exact(three _ _ _ _ _ _ _).2.2.2.2|omega)|(refine⟨_,A.heap.size+1,A.heap.size,rfl,(⟨(three _ _ _ _ _ _ _).1,?_,?_,?_,?_,?_,?_,?_,?_,?_⟩:R4 _ _ _ _ _ _)⟩<;>first|(rw[(three _ _ _ _ _ _ _).2.1];omega)|exact(three _ _ _ _ _ _ _).2.2.1|exact(three _ _ _ _ _ _ _).2.2.2.1|exact(three _ _ _ _ _ _ _).2.2.2.2|omega)|(refine⟨_,A.heap.size+1,A.heap.size+1+1,rfl,(⟨(three _ _ _ _ _ _ _).1,?_,?_,?_,?_,?_,?_,?_,?_,?_⟩:R4 _ _ _ _ _ _)⟩<;>first|(rw[(three _ _ _ _ _ _ _).2.1];omega)|exact(three _ _ _ _ _ _ _).2.2.1|exact(three _ _ _ _ _ _ _).2.2.2.1|exact(three _ _ _ _ _ _ _).2.2.2.2|omega)|(refine⟨_,A.heap.size+1+1,A.heap.size,rfl,(⟨(three _ _ _ _ _ _ _).1,?_,?_,?_,?_,?_,?_,?_,?_,?_⟩:R4 _ _ _ _ _ _)⟩<;>first|(rw[(three _ _ _ _ _ _ _).2.1];omega)|exact(three _ _ _ _ _ _ _).2.2.1|exact(three _ _ _ _ _ _ _).2.2.2.1|exact(three _ _ _ _ _ _ _).2.2.2.2|omega)|(refine⟨_,A.heap.size+1+1,A.heap.size+1,rfl,(⟨(three _ _ _ _ _ _ _).1,?_,?_,?_,?_,?_,?_,?_,?_,?_⟩:R4 _ _ _ _ _ _)⟩<;>first|(rw[(three _ _ _ _ _ _ _).2.1];omega)|exact(three _ _ _ _ _ _ _).2.2.1|exact(three _ _ _ _ _ _ _).2.2.2.1|exact(three _ _ _ _ _ _ _).2.2.2.2|omega))
   case rest =>
    obtain⟨l,y,z,rfl,H4⟩:=hcut;have c7:wc.cell? ⟨l,7,none⟩=some (sZ y k k):=by unfold YO;rw[H4.out.hp];rfl
    have c8:wc.cell? ⟨l,8,none⟩=some (sZ z k k):=by unfold YO;rw[H4.out.hp];rfl
    have hu:=Hid.mkP (Aw l ⟨some (aZ y),k,k⟩ ⟨some (aZ z),k,k⟩ y 0 z 0 wc H4.out.p1.2 c7 c8 (X0 rfl) (X0 rfl) (by show k<=_;omega) (by show k<=_;omega));have kc:¬c=1:=oM;have ka:¬c-1=0:=oM;have kj:(1:Int)<=(m:Int)+1:=oM;have ku:(m:Int)+1<=(c:Int):=oM;clear c7 c8 U;go_wp2_with fail
    refine hu.out.mono ?_;rintro e w3 ⟨v3,rfl,g3⟩;obtain⟨T,ha,rfl,kl,ko⟩:=g3.lt;have h4:=J1 (CH:=chk s k) H4.out kk.out (by have:=hr.out;omega) g3;have R:=Hid.mkP h4.1;have I0:=Hid.mkP h4.2;have hM:(gA l y 0 k z 0 k).length=k+k+9:=by
     rw[<-lM k k,<-tQ l y 0 k z 0 k,XV]
    have h8:(uI l++lp y 0 k++lp z 0 k++endP l).length=k+k+9:=hM;have hw:Hid (∀W v,RdI w w3 W w.heap.size T l (sZ y k k) (sZ z k k) (gA l y 0 k z 0 k) v (chk s k)->∀i,i<k+k+9->∃t D f,(fD k k)[i]? = some f/\(gA l y 0 k z 0 k)[i]? = some (⟨t,D,none⟩,f)/\f<=33/\32<=f/\W.rangeAt T (i*2) [oZ t D,iZ f]):=λW v G i hi=>by
     obtain⟨x,hx⟩:∃x,(gA l y 0 k z 0 k)[i]? = some x:=⟨_,XJ oM⟩
     obtain⟨t,D,o,-⟩:=R.out.ad i x hx;have Q:(fD k k)[i]? = some x.2:=by rw[<-tQ l y 0 k z 0 k,Ys,hx];rfl
     have d:=YK Q;have r:=g3.at i x hx;refine⟨t,D,x.2,Q,by rw[hx,<-o],Ge k k _ d,?_,λj u hj=>?_⟩
     ·unfold fD at d;simp only[Y3,YX,X5,or_false,yBj]at d;omega
     ·have e:=G.eq;have:W.cell? ⟨T,i*2+j,none⟩=w3.cell? ⟨T,i*2+j,none⟩:=by unfold YO;rw[e]
      rw[this,YF];exact r j u (by unfold pC;rw[o];exact hj)
    have h7:Hid (w3.heap[w.heap.size]? = some (.cells zR.toArray 66 (0,0))):=by
     have:=hr.out;have d:=H4.out.bl.size;show _=_;rw[g3.bl.block w.heap.size oM,H4.out.bl.block w.heap.size oM];exact kb.out
    obtain⟨M,S⟩:∃M,Hid (k+k+9=M):=⟨_,rfl⟩
    rw[S.out]at hw h8;rw[h8];have b6:M<=21:=by have:=S.out;omega
    obtain⟨dP,k7,k8⟩:=XA.1 TF;obtain⟨C1,hq⟩:∃C1,c-1=C1:=⟨_,rfl⟩
    rw[hq];have kr:1+C1=c:=oM;clear g3 hM h8 h4 hu kl ko km hq kc ka kj ku;go_wp2;go_loopg [0,32] M (λgk s0 s32 wr=>∃(i off ad L C:Nat),i+gk=M/\s32=iZ i/\s0=.slice (some ⟨gi,ad,none⟩) L C/\off+L=m+1/\off+C=c/\Hid (0<C->ad=oz+off)/\Hid (off=offs k i/\∃vs,vs.length=i/\RdI w w3 wr w.heap.size T l (sZ y k k) (sZ z k k) (gA l y 0 k z 0 k) vs (chk s k)))
    case atStart=>exact⟨0,1,oz+1,m,C1,oM,rfl,rfl,oM,kr,λ_=>rfl,rfl,[],rfl,I0.out⟩
    case round =>
     clear I0;obtain⟨i,off,ad,L,C,hi,rfl,rfl,b4,kz,kn,K⟩:=hrel;by_cases k6:i<M
     ·have he:(i:Int)<(M:Int):=oM;have b2:=PZ T M ha i k6;obtain⟨B,vs,E,G⟩:=K.out;obtain⟨t,D,f,k1,k2,k3,b3,k4⟩:=hw.out _ _ G i k6;have K4:=Hid.mkP k4;obtain⟨o,I⟩:∃o,Hid (wr.alloc (.cells #[oZ t D,iZ f] 101)=o):=⟨_,rfl⟩
      have ba:kZ wr o:=by rw[<-I.out];exact bJ _ _
      have za:o.heap.size=wr.heap.size+1:=by rw[<-I.out,XF]
      have a0:o.cell? ⟨wr.heap.size,0,none⟩=some (oZ t D):=by rw[<-I.out];exact fQ wr _ _ 0 _ rfl
      have a1:o.cell? ⟨wr.heap.size,1,none⟩=some (iZ f):=by rw[<-I.out];exact fQ wr _ _ 1 _ rfl
      have X:Hid (RdI w w3 o w.heap.size T l (sZ y k k) (sZ z k k) (gA l y 0 k z 0 k) vs (chk s k)):=G.below R.out ba;have F:Hid (off=offs k i/\(fD k k)[i]? = some f/\(gA l y 0 k z 0 k)[vs.length]? = some (⟨t,D,none⟩,f)/\vs.length=i/\t<wr.heap.size/\o.heap.size=wr.heap.size+1):=by
       refine⟨B,k1,by rw[E];exact k2,E,?_,za⟩;obtain⟨d,r,e',p1,-⟩:=R.out.ad i _ k2;injection e' with e' _ _
       have:=G.sz;omega
      clear K k4 k2 k1 G ba za B E;by_cases ky:L<f
      ·have hz:(L:Int)<(f:Int):=oM;have N:=Hid.mkP (FV (cs:=zR) (by rw[X.out.er];exact h7.out) rfl X.out.bl);have r:¬oL s:=λh=>by
        have U:=H.out.1 h;have V:=Oh k (i+1);rw[CG,lO k i f F.out.2.1]at V;have:=F.out.1;omega
       go_wp2_with (first|(refine Yv rfl 101 _ rfl T (i*2) ?_ [oZ t D,iZ f] dP ?_ ?_ ?_ ?_ ?_;rfl;exact K4.out;exact k7;exact k8;exact iPt;skip)|(refine X8 rfl 66 _ _ rfl w.heap.size 0 zR.toArray ?_ ?_ ?_ ?_ ?_ ?_;rfl;rfl;(rw[I.out];exact N.out.1);exact iRg;exact CL A3;rw[show zR.toArray.toList=zR from rfl,I.out])|fail)
       refine XE (fJ 2 3 66 rfl N.out.2.1 rfl rfl uRg iRg) rfl ?_;exact X9 ⟨r,N.out.2.2,rfl⟩
      ·have hz:¬(L:Int)<(f:Int):=oM;have ht:Hid (ad=oz+off):=kn.out oM;go_wp2_with (first|(refine Yv rfl 101 _ rfl T (i*2) ?_ [oZ t D,iZ f] dP ?_ ?_ ?_ ?_ ?_;rfl;exact K4.out;exact k7;exact k8;exact iPt;skip)|fail)
       rw[I.out];have Q:(chk s k i).size=f:=by
        unfold chk;rw[lO k i f F.out.2.1,Array.size_extract,Hm.out];have:=F.out.1;omega
       have HX:Hid (∀W,kZ o W->Holds SP.encB W gi ad (chk s k i)):=λW Y j hj=>by
        have kf:kZ w W:=X.out.bl.trans (Y.mono X.out.bl.size);have d:off+j<s.size:=by rw[Hm.out];omega
        have U:=(SP.Holds.below HH.out kf hy) (off+j) d;rw[show oz+(off+j)=ad+j by have:=ht.out;omega]at U;have e:(chk s k i)[j]! = s[off+j]!:=by
         rw[F.out.1];exact SQ s k i j hj (by rw[<-F.out.1];exact d)
        rw[e];exact U
       have k9:=NB gi ad L C f oM;obtain⟨nx,hl,kd⟩:=NA gi ad L C f oM oM;have kt:Hid (0<C-f->nx=oz+(off+f)):=λh=>by have:=hl h;have:=ht.out;omega
       clear hl;have k0:=Hid.mkP Q;clear Q;refine qV (FR o wr.heap.size t D f gi ad L C nx (chk s k i)) kR ⟨kR,Dg ?_,λi j _ _ ke _ _ v w w' hE hR=>FR.stab (by have:=F.out.2.2.2.2;omega) i j ke v w w' hE hR,λi b _ hk w w' hE hB=>FR.stabB (by have:=F.out.2.2.2.2;omega) i b hk w w' hE hB⟩ (λb=>by
        match b with
        | 0=>exact(⟨rfl,rfl,rfl,Xx _,λ_ _=>rfl⟩:kZ o o.drew)
        | _+1=>exact⟨a0,a1,by have:=F.out.2.2.2.2;omega,Xx _⟩) ?_
       ·exact⟨lW λa W d=>⟨[(7,jZ wr.heap.size)],_,W,⟨d.o 7 kR,yEU⟩,kR,XM _ _,rfl⟩,
         ES 99 42 rfl TE λa W d=>⟨wr.heap.size,0,oZ t D,d.n 0 42 kR kR kR,(d.b 1 kR).1,XM _ _,rfl⟩,
         lW λa W d=>⟨[(0,.slice (some ⟨gi,ad,none⟩) L C)],_,W,⟨d.o 0 kR,yEU⟩,kR,XM _ _,rfl⟩,
         lW λa W d=>⟨[(7,jZ wr.heap.size)],_,W,⟨d.o 7 kR,yEU⟩,kR,XM _ _,rfl⟩,
         ES 3 45 rfl Pr λa W d=>⟨wr.heap.size,1,iZ f,d.n 3 45 kR kR kR,(d.b 1 kR).2.1,XM _ _,rfl⟩,
         OU 23 44 46 rfl λa W d=>⟨_,_,_,d.n 2 44 kR kR kR,d.n 4 46 kR kR kR,k9 W,XM _ _,rfl⟩,
         II λa W d=>⟨[(47,.slice (some ⟨gi,ad,none⟩) f C)],159,#[.slice (some ⟨gi,ad,none⟩) f C],⟨d.n 5 47 kR kR kR,yEU⟩,kR,by
          have Y:kZ o W:=d.b 0 kR;have hc:=LS gi ad C (chk s k i) (by rw[k0.out];omega) W (by have U:=X.out.bl.size;have V:=Y.size;omega) (HX.out W Y);rw[k0.out]at hc;refine hc.mono ?_;rintro e' W' ⟨v,rfl,U,V⟩;refine⟨v,rfl,U,?_⟩;have h3:=Y.size;refine(⟨?_,V.nn⟩:FrC o.heap.size (chk s k i) v W');rcases V.own with⟨x0,x1|⟨g,cap,cur,x1,x2,x3⟩⟩
          ·exact⟨x0,X9 x1⟩
          ·exact⟨x0,X0 ⟨g,cap,cur,x1,oM,x3⟩⟩⟩,
         lW λa W d=>⟨[(0,.slice (some ⟨gi,ad,none⟩) L C)],_,W,⟨d.o 0 kR,yEU⟩,kR,XM _ _,rfl⟩,
         lW λa W d=>⟨[(7,jZ wr.heap.size)],_,W,⟨d.o 7 kR,yEU⟩,kR,XM _ _,rfl⟩,
         ES 3 50 rfl Pr λa W d=>⟨wr.heap.size,1,iZ f,d.n 8 50 kR kR kR,(d.b 1 kR).2.1,XM _ _,rfl⟩,
         OT 23 49 51 rfl λa W d=>⟨_,_,_,d.n 7 49 kR kR kR,d.n 9 51 kR kR kR,kd W,XM _ _,rfl⟩,
         lW λa W d=>⟨[(43,oZ t D)],_,W,⟨d.n 1 43 kR kR kR,yEU⟩,kR,XM _ _,rfl⟩,
         IH 23 53 48 rfl rfl i22 λa W d=>by
          have Y:kZ o W:=d.b 0 kR;have hF:FrC o.heap.size (chk s k i) (a.eval (.tmp 48)) W:=d.n 6 48 kR kR kR;obtain⟨⟨old,kh⟩,kg⟩:=X.out.th _ _ F.out.2.2.1;have V:t<o.heap.size:=by have:=F.out.2.2.2.2;omega
          obtain⟨q,c',hv⟩:=Il hF.own;refine⟨t,D,_,old,d.n 11 53 kR kR kR,rfl,?_,?_,by rw[hv];rfl,by rw[hv];rfl,⟨_,rfl⟩,?_⟩
          ·rw[Y.cell (p:=⟨t,D,none⟩) V];exact kh
          ·have:W.frozen? ⟨t,D,none⟩=o.frozen? ⟨t,D,none⟩:=by unfold Zi;rw[Y.block t V]
           rw[this];exact kg
          ·refine(⟨_,IW Y _ _,⟨bG hF.own (λg hg=>?_),hF.nn⟩⟩:StR o t D (chk s k i) _);have:=(bU hF.own hg).1;rw[heap_set,yET (by show t≠g;omega)],
         nC 52 λa W d=>⟨a.eval (.tmp 52),W,kR,kR,XM _ _,d.n 10 52 kR kR kR⟩,yEU⟩
       ·intro V w5 hV hB;have hS:StR o t D (chk s k i) w5:=hV 12 (ZW (Yy kR)) rfl;have k5:V 13=.slice (some ⟨gi,nx,none⟩) (L-f) (C-f):=hV 13 (ZW (Yy kR)) rfl;obtain⟨v,d⟩:=X.out.step R.out F.out.2.2.1 (by rw[F.out.2.2.2.1];exact hS);have K5:Hid (off+f=offs k (i+1)/\∃vs,vs.length=i+1/\RdI w w3 w5 w.heap.size T l (sZ y k k) (sZ z k k) (gA l y 0 k z 0 k) vs (chk s k)):=by
         refine⟨by rw[lO k i f F.out.2.1,F.out.1],_,?_,d⟩;rw[XC,F.out.2.2.2.1];rfl
        dsimp only[bY,YH];simp only[XK,Xt,Xv,Xw];rw[k5];clear hV hB hS k5 d X F HX;go_wp2;go_roundg (gk-1)
        case measure=>omega
        case rel=>exact⟨i+1,off+f,nx,L-f,C-f,oM,rfl,rfl,oM,oM,kt,K5⟩
     ·have he:¬(i:Int)<(M:Int):=oM;obtain⟨B,vs,E,G⟩:=K.out;have kx:off=293+66*k:=by
       rw[B,show i=k+k+9 by have:=S.out;omega];exact rP k
      have X:=Hid.mkP G;by_cases b5:0<L
      ·have d:(0:Int)<(L:Int):=oM;have N:=Hid.mkP (FV (cs:=zR) (by rw[G.er];exact h7.out) rfl G.bl);have r:¬oL s:=λh=>by
        have U:=H.out.1 h;omega
       clear K G B E;go_wp2_with (first|(refine X8 rfl 66 _ _ rfl w.heap.size 0 zR.toArray ?_ ?_ ?_ ?_ ?_ ?_;rfl;rfl;exact N.out.1;exact iRg;exact CL A3;rw[show zR.toArray.toList=zR from rfl])|fail)
       refine XE (fJ 2 3 66 rfl N.out.2.1 rfl rfl uRg iRg) rfl ?_;exact X9 ⟨r,N.out.2.2,rfl⟩
      ·obtain rfl:L=0:=oM;have I:oL s:=H.out.2 oM;obtain⟨cs,d,F,h9⟩:=JY G (by rw[E];have:=S.out;omega);have N:=Hid.mkP (FV (cs:=cs) (by rw[G.er];exact h7.out) d G.bl);have HC:=Hid.mkP F;have V:=Hid.mkP h9;have o:=Hid.mkP d;have KR:Hid (RdR w s k (.returned (.tuple #[.agg cs.toArray,iZ 0])) (wr.setCells w.heap.size 0 cs)):=X0 ⟨I,N.out.2.2,w3,wr,T,l,y,z,vs,cs,by rw[E];have:=S.out;omega,R.out,G,d,F,rfl,rfl⟩;obtain⟨dR,Q,Y⟩:=XA.1 uRg;clear K G B E F h9 X;go_wp2_with (first|(refine Yv rfl 66 _ rfl l 0 ?_ cs dR ?_ ?_ ?_ ?_ ?_;rfl;exact HC.out;exact Q;exact Y;(rw[o.out];exact iRg);skip)|(refine X8 rfl 66 _ _ rfl w.heap.size 0 cs.toArray ?_ ?_ ?_ ?_ ?_ ?_;rfl;rfl;exact N.out.1;(rw[List.size_toArray,o.out];exact iRg);exact CL V.out;rw[show cs.toArray.toList=cs from rfl])|fail)
       refine XE (fJ 2 3 66 rfl N.out.2.1 rfl rfl uRg (by rw[o.out];exact iRg)) rfl ?_;exact KR.out
  ·have kp:(6:Int)<(k:Int):=oM;have r:¬oL s:=λh=>h6 (by rw[hk.out];exact h.2.1)
   clear hm Z h0 hH b1 O z1;go_enter func106,ntmps106;go_wp2_with (first|(refine dO (v:=jZ w.heap.size) (w':=A) rfl (.alloc 66) rfl ?_ ?_;(rw[<-J.out];kernel_rfl))|(refine X8 rfl 66 _ _ rfl w.heap.size 0 zR.toArray ?_ ?_ ?_ ?_ ?_ ?_;rfl;rfl;exact P1.out.1;exact iRg;exact CL A3;rw[show zR.toArray.toList=zR from rfl])|fail)
   refine XE (fJ 2 3 66 rfl P1.out.2.1 rfl rfl uRg iRg) rfl ?_;exact X9 ⟨r,P1.out.2.2,rfl⟩
 ·have d:n=0:=oM;have r:¬oL s:=λh=>h0 (by rw[hn.out];exact h.1)
  subst d;clear h0 hH b1 O z1;go_enter func106,ntmps106;go_wp2_with (first|(refine dO (v:=jZ w.heap.size) (w':=A) rfl (.alloc 66) rfl ?_ ?_;(rw[<-J.out];kernel_rfl))|(refine X8 rfl 66 _ _ rfl w.heap.size 0 zR.toArray ?_ ?_ ?_ ?_ ?_ ?_;rfl;rfl;exact P1.out.1;exact iRg;exact CL A3;rw[show zR.toArray.toList=zR from rfl])|fail)
  refine XE (fJ 2 3 66 rfl P1.out.2.1 rfl rfl uRg iRg) rfl ?_;exact X9 ⟨r,P1.out.2.2,rfl⟩
def RdG(w:Xs)(s:SP.Bs)(k:Nat)(e:Ending)(W:Xs):Prop:=kZ w W/\∃(p:Rg) (d c:List Xu) (B:Nat),e=.returned (.tuple #[.agg p.cs.toArray,iZ 0])/\VL W p.l.q p.l.n d/\VL W p.r.q p.r.n c/\p.l.n=k/\p.r.n=k/\(∀b o,p.l.q=some ⟨b,o,none⟩->0<k->w.heap.size<=b)/\(∀b o,p.r.q=some ⟨b,o,none⟩->0<k->w.heap.size<=b)/\w.heap.size<=B/\B<=W.heap.size/\(∀j,j<k+k+9->∃u,(qS p d c)[j]? = some u/\FrC B (chk s k j) u W)/\(∀(j i:Nat) u f g,j<i->(qS p d c)[j]? = some u->(qS p d c)[i]? = some f->u.ownBlock=some g->f.ownBlock≠some g)/\∃gl l,p.l.q=some (aZ gl)/\p.r.q=some (aZ l)
theorem Mb{W W':Xs}{g:Nat}(h:W'.heap[g]? = W.heap[g]?)(j:Nat):W'.cell? ⟨g,j,none⟩=W.cell? ⟨g,j,none⟩/\W'.frozen? ⟨g,j,none⟩=W.frozen? ⟨g,j,none⟩:=by
 unfold YO Zi;rw[h];exact⟨rfl,rfl⟩
theorem Ju{k:Nat}(vs:List Xu)(h:vs.length=k+k+9):∃hd c b d,vs=hd++c++b++d/\hd.length=7/\c.length=k/\b.length=k/\d.length=2:=by
 refine⟨vs.take 7,(vs.drop 7).take k,((vs.drop 7).drop k).take k,((vs.drop 7).drop k).drop k,?_,?_,?_,?_,?_⟩
 ·rw[YI,yBJ,YI,yBJ,yBJ]
 all_goals (simp only[List.length_take,List.length_drop];omega)
theorem len2:∀(l:List Xu),l.length=2->∃k b,l=[k,b]
 | [k,b],_=>⟨k,b,rfl⟩
theorem WJ:∀(l:List Xu),l.length=7->∃k e b z3 d c f,l=[k,e,b,z3,d,c,f]
 | [k,e,b,z3,d,c,f],_=>⟨k,e,b,z3,d,c,f,rfl⟩
theorem UB:∀(l:List Xu),l.length=11->∃c i d z3 f e j z7 b g k,l=[c,i,d,z3,f,e,j,z7,b,g,k]
 | [c,i,d,z3,f,e,j,z7,b,g,k],_=>⟨c,i,d,z3,f,e,j,z7,b,g,k,rfl⟩
theorem JX{w W:Xs}{s:SP.Bs}{k:Nat}{e:Ending}(h:RdR w s k e W)(Q:oL s):RdG w s k e W:=by
 rcases h with⟨h,-⟩|⟨-,hb,w3,p,gq,E,C,G,vs,cs,hl,P,A,hc,hr,rfl,rfl⟩
 ·exact absurd Q h
 have hz:=P.r;have h4:=A.sz;have Z:∀b,b<p.heap.size->b≠w.heap.size->(p.setCells w.heap.size 0 cs).heap[b]? = p.heap[b]?:=λb H N=>yCF p _ 0 cs H N
 have hM:(gA E C 0 k G 0 k).length=k+k+9:=by rw[<-lM k k,<-tQ E C 0 k G 0 k,XV]
 have z:∀(j:Nat) u,vs[j]? = some u->∃x,(gA E C 0 k G 0 k)[j]? = some x/\p.cell? x.1=some u:=λj u l=>by
  obtain⟨x,hx⟩:∃x,(gA E C 0 k G 0 k)[j]? = some x:=⟨_,XJ (by have:=(XG.1 l).1;omega)⟩
  exact⟨x,hx,A.st j x u hx l⟩
 have O:∀(j:Nat) u,vs[j]? = some u->∃t:Sv,u=t.v:=λj u l=>by
  obtain⟨q,c,hv⟩:∃q c,u=.slice q (Y8 (chk s k j)) c:=by
   rcases(A.ow j u l).own with⟨-,⟨rfl,i⟩|⟨g,cap,cur,rfl,-⟩⟩
   ·exact⟨none,0,by rw[i]⟩
   ·exact⟨_,_,rfl⟩
  exact⟨⟨q,_,c⟩,hv⟩
 have hF:∀(j:Nat) u,vs[j]? = some u->FrC w3.heap.size (chk s k j) u (p.setCells w.heap.size 0 cs):=λj u l=>by
  have H:=A.ow j u l;exact⟨bG H.own (λg Q=>Z g (bU H.own Q).2.1 (by have:=(bU H.own Q).1;omega)),H.nn⟩
 have V:=A.ne;have h3:p.heap.size<=(p.setCells w.heap.size 0 cs).heap.size:=(below_setCells (B:=0) (b:=w.heap.size) (Zh _) cs 0 p (XM 0 p)).size;have J:∀(g T:Nat) (ys:List Xu),ys.length=k->(∀j,j<k->∃u x,ys[j]? = some u/\vs[T+j]? = some u/\(gA E C 0 k G 0 k)[T+j]? = some x/\x.1=⟨g,j,none⟩)->VL (p.setCells w.heap.size 0 cs) (some (aZ g)) k ys/\(0<k->w.heap.size<=g):=λg T ys hn R=>by
  refine⟨⟨hn,λe=>(by cases e),?_,λu l=>?_⟩,λL=>?_⟩
  ·by_cases L:k=0
   ·exact X9 (yCR.1 oM)
   ·obtain⟨u0,v,-,-,m,D⟩:=R 0 oM;obtain⟨b,o,i,H,-,-,N,-⟩:=P.ad _ v m;rw[D]at i;injection i with i _ _
    subst i;refine X0 ⟨g,0,rfl,oM,λj u r=>?_⟩;obtain⟨S,M,n,F,K,I⟩:=R j (by have:=(XG.1 r).1;omega);rw[r]at n;obtain rfl:=XS.inj n;rw[XD,(Mb (Z g oM N) j).1,<-I];exact A.st _ M u K F
  ·obtain⟨j,r⟩:=List.getElem?_of_mem l;obtain⟨S,M,n,F,-⟩:=R j (by have:=(XG.1 r).1;omega);rw[r]at n;obtain rfl:=XS.inj n;obtain⟨t,rfl⟩:=O _ u F;rfl
  ·obtain⟨u0,v,-,-,m,D⟩:=R 0 L;obtain⟨b,o,i,H,N,-⟩:=P.ad _ v m;rw[D]at i;injection i with i _ _
   subst i;exact N
 obtain⟨hd,F,D,K,rfl,S,U,n3,n4⟩:=Ju vs hl;have Y:=J C 7 F U (λj r=>by
  obtain⟨u,l⟩:∃u,F[j]? = some u:=⟨_,XJ oM⟩
  have hv:(hd++F++D++K)[7+j]? = some u:=by
   rw[YI,YI,XR oM,S,ZM,XQ oM];exact l
  obtain⟨x,hx,-⟩:=z _ u hv;refine⟨u,x,l,hv,hx,?_⟩;rcases dU hx with⟨n,m⟩|⟨n,i,m⟩|⟨n,i,m⟩|⟨n,i,m⟩
  ·omega
  ·rw[m,ZM];congr 1;omega
  ·omega
  ·omega)
 have V2:=J G (7+k) D n3 (λj r=>by
  obtain⟨u,l⟩:∃u,D[j]? = some u:=⟨_,XJ oM⟩
  have hv:(hd++F++D++K)[7+k+j]? = some u:=by
   rw[YI,XR (by rw[XC];omega),XC,S,U,ZM,XQ oM];exact l
  obtain⟨x,hx,-⟩:=z _ u hv;refine⟨u,x,l,hv,hx,?_⟩;rcases dU hx with⟨n,m⟩|⟨n,i,m⟩|⟨n,i,m⟩|⟨n,i,m⟩
  ·omega
  ·omega
  ·rw[m];congr 1;omega
  ·omega)
 have X:∀j,j<2->∀u,K[j]? = some u->p.cell? ⟨E,9+j,none⟩=some u/\∃t:Sv,u=t.v:=λj r u l=>by
  have hv:(hd++F++D++K)[7+k+k+j]? = some u:=by
   rw[XR (by rw[XC,XC];omega),XC,XC,S,U,n3,ZM];exact l
  refine⟨?_,O _ u hv⟩;obtain⟨x,hx,v⟩:=z _ u hv;rcases dU hx with⟨n,m⟩|⟨n,i,m⟩|⟨n,i,m⟩|⟨n,i,m⟩
  ·omega
  ·omega
  ·omega
  ·rw[m,show 7+k+k+j-7-k-k=j by omega]at v;exact v
 have I:∀j,j<7->∀u,hd[j]? = some u->p.cell? ⟨E,j,none⟩=some u/\∃t:Sv,u=t.v:=λj r u l=>by
  have hv:(hd++F++D++K)[j]? = some u:=by
   rw[YI,YI,XQ oM];exact l
  refine⟨?_,O _ u hv⟩;obtain⟨x,hx,v⟩:=z _ u hv;rcases dU hx with⟨n,m⟩|⟨n,i,m⟩|⟨n,i,m⟩|⟨n,i,m⟩
  ·rw[m]at v;exact v
  ·omega
  ·omega
  ·omega
 have i:∀j u,cs[j]? = some u->p.cell? ⟨E,j,none⟩=some u:=λj u r=>by
  have:=hr j u r;rw[XD]at this;exact this
 have c7:=A.c7;have c8:=A.c8;clear z J A P hr O;obtain⟨v0,v1,v2,v3,v4,v5,v6,rfl⟩:=WJ hd S;obtain⟨x,y,rfl⟩:=len2 K n4;obtain⟨z0,z1,z2,z3,z4,z5,z6,z7,z8,z9,m,rfl⟩:=UB cs hc;obtain⟨q0,a,rfl⟩:=I 0 oM v0 rfl;obtain⟨q1,b,rfl⟩:=I 1 oM v1 rfl;obtain⟨q2,c,rfl⟩:=I 2 oM v2 rfl;obtain⟨q3,d,rfl⟩:=I 3 oM v3 rfl;obtain⟨q4,e,rfl⟩:=I 4 oM v4 rfl;obtain⟨q5,f,rfl⟩:=I 5 oM v5 rfl;obtain⟨q6,g,rfl⟩:=I 6 oM v6 rfl;obtain⟨q9,M,rfl⟩:=X 0 oM x rfl;obtain⟨n,v,rfl⟩:=X 1 oM y rfl;obtain rfl:=XS.inj ((i 0 z0 rfl).symm.trans q0);obtain rfl:=XS.inj ((i 1 z1 rfl).symm.trans q1);obtain rfl:=XS.inj ((i 2 z2 rfl).symm.trans q2);obtain rfl:=XS.inj ((i 3 z3 rfl).symm.trans q3);obtain rfl:=XS.inj ((i 4 z4 rfl).symm.trans q4);obtain rfl:=XS.inj ((i 5 z5 rfl).symm.trans q5);obtain rfl:=XS.inj ((i 6 z6 rfl).symm.trans q6);obtain rfl:=XS.inj ((i 7 z7 rfl).symm.trans c7);obtain rfl:=XS.inj ((i 8 z8 rfl).symm.trans c8);obtain rfl:=XS.inj ((i 9 z9 rfl).symm.trans q9);obtain rfl:=XS.inj ((i 10 m rfl).symm.trans n);refine⟨hb,⟨a,b,c,d,e,f,g,⟨some (aZ C),k,k⟩,⟨some (aZ G),k,k⟩,M,v⟩,F,D,w3.heap.size,rfl,Y.1,V2.1,rfl,rfl,λb o e L=>by injection e with e;injection e with e _ _;subst e;exact Y.2 L,λb o e L=>by injection e with e;injection e with e _ _;subst e;exact V2.2 L,oM,oM,λj r=>?_,V,C,G,rfl,rfl⟩;obtain⟨u,l⟩:∃u,([a.v,b.v,c.v,d.v,e.v,f.v,g.v]++F++D++[M.v,v.v])[j]? = some u:=⟨_,XJ oM⟩
 exact⟨u,l,hF j u l⟩
theorem wL{W:Xs}{B:Nat}{v:Xu}{b:SP.Bs}(h:W.ownsRow B 5 1 v b.size (bC b))(f:0<b.size):ElQ (B<=·) b.size W v b:=by
 rcases id h with⟨-,⟨-,d⟩|⟨g,cap,cur,rfl,c,e,k,-⟩⟩
 ·omega
 ·exact⟨g,cap,rfl,k,rfl,c,(bU h rfl).2.1,Ei h⟩
structure RdB(B t:Nat)(BB:List SP.Bs)(e:Xu)(W:Xs):Prop where
 ex:∃(p:Rg) (l1 l2:List Xu),e=.agg p.cs.toArray/\VL W p.l.q p.l.n l1/\VL W p.r.q p.r.n l2/\p.l.n=t/\p.r.n=t/\(∃gl gr,p.l.q=some (aZ gl)/\p.r.q=some (aZ gr)/\(0<t->B<=gl/\B<=gr))/\∀j,j<t+t+9->∃u b,(qS p l1 l2)[j]? = some u/\BB[j]? = some b/\ElQ (B<=·) b.size W u b
theorem JW{t:Nat}{BB:List SP.Bs}(k:kS t t BB)(W:Xs)(g o c:Nat)(x:Pt W (.slice (some ⟨g,o,none⟩) (Y8 (fC t BB (t+t+9))) c) (fC t BB (t+t+9)))(i:Y8 (fC t BB (t+t+9))<=c):XH prog 106 #[.slice (some ⟨g,o,none⟩) (Y8 (fC t BB (t+t+9))) c] W (rZ W λe W'=>∃e',e=.tuple #[e',iZ 0]/\RdB W.heap.size t BB e' W'):=by
 have N:=k.2.1;have M:=lS k;have v:=sL k (t+t+9) (Xx _);rw[rP]at v;obtain⟨d,hG⟩:=Mc k;have w:∀j b,BB[j]? = some b->chk (fC t BB (t+t+9)) t j=b:=λj b=>OQ k
 generalize fC t BB (t+t+9)=s at v d hG w x i;obtain⟨q,P,e,h|⟨Q,O,K,L,F⟩⟩:=x
 ·omega
 injection e with e1 e2 e3
 rw[K]at e1;injection e1 with e1
 injection e1 with e1 e4 e5
 subst e1 e4;have:=JI s g o c oM i oM W L F;rw[d]at this;refine this.mono λe W' h=>?_
 obtain⟨z,p,a,y,B,rfl,v1,v2,G,E,D,J,A,-,I,-,gl,m,l,n⟩:=JX h hG;refine⟨_,rfl,z,_,rfl,⟨p,a,y,rfl,v1,v2,G,E,⟨gl,m,l,n,λd=>⟨D gl 0 l d,J m 0 n d⟩⟩,λj C=>?_⟩⟩;obtain⟨u,H,hf⟩:=I j C;have f:BB[j]? = some BB[j]:=XJ oM;refine⟨u,_,H,f,?_⟩;have hf:=hf.own;rw[w j _ f]at hf;have r:=YK (wO k f);unfold fD at r;simp only[Y3,YX,X5,or_false,yBj]at r;exact(wL hf (by omega)).mono2 λg _ k=>XB A k
end
section
open SPA
variable {P:Nat}[NeZero P]{N:Nat}
def fsB(V:Nat->Bs):Nat->Bs
 | 0=>#[]
 | s+1=>fsB V s++V s
theorem yQ{V:Nat->Bs}{m:Nat}(h:∀s,(V s).size=m):∀s,(fsB V s).size=m*s
 | 0=>rfl
 | s+1=>by
  rw[show fsB V (s+1)=fsB V s++V s from rfl,Yg,yQ h s,h,Nat.mul_succ]
theorem Fj{a b:Nat}(c:a<4294967296)(k:b<4294967296):∀s,amN s a b<4294967296
 | 0=>c
 | _+1=>k
theorem JQ{W W':Xs}{k:Nat}{vs:List Xu}(h:Row W k vs)(c:W.heap.size<=W'.heap.size)(e:W'.heap[k]? = W.heap[k]?):Row W' k vs:=by
 refine⟨Xz h.1 c,λj u b=>?_,λj b=>?_⟩
 ·have:=h.2.1 j u b;unfold YO at this⊢;rw[e];exact this
 ·have:=h.2.2 j b;unfold YO Zi at this⊢;rw[e];exact this
theorem Xc(x:Int)(w:Xs):(Yr 23 1 #[(0,.int .u8 x)]).run prog w=.ok (sZ w.heap.size 1 1) (w.alloc (.cells [YQ .u8 x].toArray 5)):=kR
theorem Vk(d c1 f c c2 e b k:Nat)(w:Xs):(Yr 27 3 #[(0,sZ d 1 c1),(1,sZ f c c2),(2,sZ e b k)]).run prog w=.ok (sZ w.heap.size 3 3) (w.alloc (.cells [sZ d 1 c1,sZ f c c2,sZ e b k].toArray 23)):=kR
def Uk(b m:Nat)(B:Bs):S1:=⟨λx W=>ElQ (b<=·) m W x B,λ_ _ _ k h=>h.keep (Kq.of_below k)⟩
theorem PrT.below{T:Bs}{e:Xu}{w w':Xs}(h:PrT T e w)(b:kZ w w'):PrT T e w':=⟨h.cs,λc W k us vs d f g=>h.put c W k us vs (b.trans (d.mono b.size)) f g⟩
def Ui(T:Bs):S1:=⟨λx W=>∃e',x=.tuple #[e',iZ 0]/\PrT T e' W,λ_ _ _ c ⟨e',k,b⟩=>⟨e',k,b.below c⟩⟩
def Ww(T:Bs):S1:=⟨λx W=>PrT T x W,λ_ _ _ k h=>h.below k⟩
theorem ElQ.part{Q:Nat->Prop}{W:Xs}{x:Xu}{b:Bs}(h:ElQ Q 32 W x b):∃q c,x=.slice q 32 c/\PartOk W x b.toList:=by
 obtain⟨k,c,rfl,f,e,-,-,d⟩:=h;exact⟨_,_,rfl,some (aZ k),k,0,c,b,by rw[e],rfl,by omega,by omega,X0 ⟨rfl,d⟩⟩
theorem Hw(O:Ord N)(k a b i:Nat)(hi:i<4294967296)(ha:a<4294967296)(p:b<4294967296)(E:Bs)(ki:E.size=32)(n:Option YW)(sc:Nat)(V T:Nat->Bs)(hV:∀s,(V s).size=33)(hT:∀s,(T s).size=623)(hC:∀s,Gives 14 #[nv (amN s a b),nv (blN N E s i)] (pvl (V s)))
 (kb:∀s (n:Option YW) (sc:Nat) (v1:Xu) (w:Xs),Arg w v1 (bx (blN N E s i))->PartOk w (.slice n 32 sc) (psB E s i).toList->XH prog 20 #[uZ (amN s a b:Int),v1,iZ 32,.slice n 32 sc] w (rZ w λe w'=>∃e',e=.tuple #[e',iZ 0]/\PrT (T s) e' w'))
 (w:Xs) (hs:PartOk w (.slice n 32 sc) E.toList) :
 XH prog 7 #[.slice n 32 sc,.int .u32 i,.agg (opC k a b).toArray] w (rZ w λe w'=>ElQ (w.heap.size<=·) 1313 w' e (#[XN k]++fsB V 2++fsB T 2)):=by
 refine hG w.heap.size λk5 h9=>?_
 refine hG (w.alloc (.cells (opC k a b).toArray 26)) λw1 ht=>?_
 have K1:=mk1 ((Mp.start w).new h9 ht);have B:=G7 k a b w;rw[h9.out,ht.out]at B;have HS:=mk1 (λW=>wG O W);have HA:=mk1 (VA k a b);have HB:=mk1 (λs (W:Xs) (p:kZ w W)=>Qf O s i hi E ki n sc W (hs.below p));have HP:=mk1 (λs (W:Xs) (p:kZ w W)=>Ue (N:=N) s i hi E ki n sc W (hs.below p));have HO:=mk1 (λs=>rQ (amN s a b) (Nat.lt_trans (Fj ha p s) (by decide)));have Q:=mk3 hC kb (YP hV hT);obtain⟨vo,b6⟩:=hE (X6 (opC k a b).toArray);rw[b6.out]at B⊢;clear hs hC kb hV hT ht h9;go_enter func7,ntmps7;refine Xy ?_;refine PW.begin ?_;refine PW.ns B ?_;refine PW.va (.slice none 0 0) ?_;refine PW.dn ?_;refine Xy ?_;refine PW.begin ?_;refine PW.va (.slice none 0 0) ?_;refine PW.va (.slice none 0 0) ?_;refine PW.dn ?_;refine Xy ?_;refine Xy ?_;refine PW.begin ?_;refine PW.ca (HS.out w1) ?_;rintro e w3 ⟨G,g,rfl,hg,h0⟩;simp only[XK,Xt,Xv,Xw];refine PW.va (iZ 2) ?_;refine PW.va (iZ 0) ?_;refine PW.dn ?_;have I:=mk1 (K1.out.add G h0 hg);clear K1 G hg h0 B HS;have W0:Hid (Wt w3 w3 (.slice none 0 0) (.slice none 0 0) (fsB V 0) (fsB T 0)):=⟨XM _ _,⟨rfl,X9 ⟨rfl,rfl⟩⟩,⟨rfl,X9 ⟨rfl,rfl⟩⟩,λg e=>by cases e⟩
 refine Y6 ?_;go_loopg [7,8,19] 2 (λgk s7 s8 s19 wr=>∃s:Nat,s+gk=2/\s19=iZ s/\Hid (Wt w3 wr s7 s8 (fsB V s) (fsB T s)))
 case atStart=>exact⟨0,by omega,rfl,W0⟩
 case round =>
  clear W0;obtain⟨s,ba,rfl,K⟩:=hrel;by_cases hs:s<2
  ·have k9:(s:Int)<2:=by omega
   have b2:Yh.wrap ((s:Int)+1)=((s+1:Nat):Int):=by rw[Zc];omega
   refine hG wr.heap.size λf H=>?_
   refine hG (wr.alloc (.cells z7.toArray 61)) λw4 A=>?_
   refine hG (w4.setCells f 0 (sdC N s)) λL u=>?_
   have M4:=mk1 ((Mp.start wr).new H A);have l:=mk1 (M4.out.put 0 u);have R0:=FS hs ((I.out.at_ 1).below K.out.bl);obtain⟨vs,k2⟩:=hE (X6 (sdC N s).toArray);have hm:=λW p=>HB.out s W p
   have hu:=Q.out.1 s;have R:=λn sc v1 W=>Q.out.2.1 s n sc v1 W
   have k7:=B6 O E s i;have h7:(psB E s i).size=32:=AN _ _ _ _;have hw:=λW p=>HP.out s W p
   generalize blN N E s i=m at hm hu R k7;generalize psB E s i=ps at R hw h7;have H1:=mk3 hm hu (YP R hw);clear hm hu R hw;refine Xy ?_;refine PW.begin ?_;refine PW.va (.bool (decide ((s:Int)<2))) ?_;rw[decide_eq_true k9];refine PW.dn ?_;refine Xy ?_;refine Yx rfl ?_;refine YR ?_;refine Xy ?_;refine Y6 ?_;refine Xy ?_;refine PW.begin ?_;refine PW.ns (GA g s hs wr) ?_;refine PW.ro R0 k2 uSd iSd ?_;refine PW.al H A ?_;refine PW.st u k2 (M4.out.th 0) iSd (Bh s) ?_;refine PW.dn ?_;clear R0 M4 A u;refine Xy ?_;have hz:=mk1 (K.out.grow l.out.bl);have hl:=mk1 (I.out.bl.trans (hz.out.bl.mono I.out.bl.size));obtain⟨bb,t⟩:=hE (L.heap.size);have q:∀ {W},kZ L W->bb<=W.heap.size:=λh=>t.out ▸ h.size
   refine(gwL [pE (oZ f 2),pE (.func (.func (sdA s)) #[] #[]),pE (.agg (opC k a b).toArray),pE (uZ (amN s a b:Int)),pE (.agg (sdC N s).toArray),pE (.slice n 32 sc),pE (.int .u32 i),pE (nv m),RG.pN bb (RG.z 4)] (λW=>kZ L W) (λW W' p h=>h.trans (p.mono h.size))).tail2 9 kR kR kR ⟨
    gP 10 (jZ f) (oZ f 2),
    fF 59 0 23 f 2 (.func (.func (sdA s)) #[] #[]) TI (λx W h=>h) (λW d=>((l.out.at_ 0).below d).2.1 2 _ rfl) (λ_=>rfl),
    gLo (cs:=opC k a b) 5 (λW d=>(((I.out.at_ 0).below hz.out.bl).below d).2.1) uOp iOp,
    gw_cv 1 24 2 25 (sdA s) (Qc s) (λx W h=>h) (λy W C d=>by
     obtain rfl:y=.agg (opC k a b).toArray:=C;exact HA.out s W),
    gLo (cs:=sdC N s) 10 (λW d=>((l.out.at_ 0).below d).2.1) uSd iSd,
    gP 0 (.slice n 32 sc) (.slice n 32 sc),
    gP 1 (.int .u32 i) (.int .u32 i),
    nG 4 27 5 28 6 29 18 (λx y z=>#[x,y,z]) (λx y z W C U e3 d=>by
     obtain rfl:x=.agg (sdC N s).toArray:=C;obtain rfl:y=.slice n 32 sc:=U;obtain rfl:z=.int .u32 i:=e3;exact H1.out.1 W (hl.out.trans (d.mono hl.out.size))),
    tY (RG.z 4) 44 (λW W' h d=>⟨_,rfl,q d,h⟩),yEU⟩ ⟨rfl,rfl,rfl,Xx _,λ_ _=>rfl⟩ ?_
   intro Y w6 hR d;have e0:Y 3=uZ (amN s a b:Int):=hR 3 dC;have C:Y 7=nv (m):=hR 7 dC;obtain⟨F,U,kn,hk⟩:=hR 8 dC;dsimp only[bY,YH,ZQ,ZR];simp only[XK,Xt,Xv,Xw];rw[e0,C,U];clear hR e0 C U;generalize Y 0=x0;generalize Y 1=x1;generalize Y 2=x2;generalize Y 4=x4;generalize Y 5=x5;generalize Y 6=x6;have kw:=mk1 hk;refine hG (w6.setCells F 0 (wn m)) λw7 k1=>?_
   have M6:=mk1 (l.out.add d hk (by rw[t.out];exact kn));have M7:=mk1 (M6.out.put 1 k1);obtain⟨vb,J⟩:=hE (nv m);rw[J.out];refine PW.va (uZ (amN s a b:Int)) ?_;refine PW.st k1 J (M6.out.th 1) i40 (aI _) ?_;refine PW.dn ?_;clear l M6 hk kw d kn q t hz hl k1;have kt:=mk1 (K.out.grow M7.out.bl);obtain⟨va,k0⟩:=hE (nv (amN s a b));obtain⟨vp,h5⟩:=hE (pvl (V s));have kr:Hid (∀W,XH prog 15 #[uZ (amN s a b:Int)] W (rZ W λe w'=>e=va)):=by rw[<-k0.out];exact HO.out s
   have ke:Hid (∀W,XH prog 14 #[va,vb] W (rZ W λe w'=>e=vp)):=by rw[<-k0.out,<-J.out,<-h5.out];exact H1.out.2.1
   have k4:Hid (∀W,XH prog 19 #[vp] W (rZ W λe w'=>ElQ (W.heap.size<=·) 33 w' e (V s)/\∃g,e=r33 g)):=by rw[<-h5.out];exact λW=>eJ (Q.out.2.2.1 s) W
   have S:∀g,wr.heap.size<=g->u7.ownBlock≠some g:=λg hg e=>by have:=(bU K.out.oA e).2.1;omega
   have kc:wr.heap.size<=f:=by rw[H.out];exact Xx _
   have kv:=(M7.out.lt (g:=F) (by simp)).1;refine Xy ?_;refine AW.beg 6 6 ⟨λW=>Row W f (sdC N s)/\Row W F (wn m),λW W' p h=>⟨h.1.below p,h.2.below p⟩,false⟩ ⟨M7.out.drew.at_ 0,M7.out.drew.at_ 1⟩ ?_;refine AW.mv 0 ?_;refine AW.mv 1 ?_;refine AW.ro 3 (λW h=>h.2.2.1) J rSc nSc ?_;refine AW.gi 2 (λ_=>kr.out _) λW1 ko=>?_
   refine AW.gi 4 (λ_=>ke.out _) λW2 k3=>?_
   refine AW.ca 5 (λ_=>k4.out _) (λe w' h=>h.1) ?_;rintro e W3 ⟨G,kx,b5,rfl⟩;simp only[XK,Xt,Xv,Xw];have ka:=(((kt.out.grow (show kZ w7 w7.drew from⟨rfl,rfl,rfl,Xx _,λ_ _=>rfl⟩)).grow ko).grow k3).grow G;obtain⟨g',c',e',-,-,-,-,hH⟩:=kx;obtain rfl:b5=g':=by
    unfold r33 at e';injection e' with e' _ _
    injection e' with e'
    injection e' with e' _ _
   have hn:=Q.out.2.2.1 s;have hf:=yQ Q.out.2.2.1 s;obtain⟨v7,W4,r1,ku,hc,he⟩:=ka.app (c:=33) hH (by rw[hf,hn];omega);rw[hn]at r1;refine AW.nw 6 r1 (λhJ=>⟨JQ hJ.1 hc (he f hJ.1.1 (S f kc)),JQ hJ.2 hc (he F hJ.2.1 (S F kv))⟩) ?_;refine AW.nx 7 v7 ?_;refine AW.dn λhJ=>?_
   have hq:=mk1 ku;have RJ:=mk1 hJ;clear ku ka kt hJ he hc r1 hf hn hH ko k3 G kr ke k4 M7 h5 k0;have b4:=mk1 (I.out.bl.trans (hq.out.bl.mono I.out.bl.size));obtain⟨bb,t⟩:=hE (W4.heap.size);have q:∀ {W},kZ W4 W->bb<=W.heap.size:=λh=>t.out ▸ h.size
   refine Xy (P:=prog) ?_;refine(gwL [pE (uZ (amN s a b:Int)),pE (nv m),Uk bb 32 (bx m),pE (.agg (sdC N s).toArray),pE (.slice n 32 sc),pE (.int .u32 i),Uk bb 32 ps,Ui (T s),Ui (T s),Ww (T s),pE (iZ 0),RG.pN bb z11] (λW=>kZ W4 W) (λW W' p h=>h.trans (p.mono h.size))).late 12 [10] (λj hj=>by
    obtain rfl:=YY.1 hj;exact late1 13 8 38 λv W ⟨e',D,_⟩=>⟨iZ 0,rfl,λo ho W'=>by
     cases ho
     rw[D];kernel_rfl⟩) (Fo [11] ⟨al1 z11 66 yA,yEU⟩) kR kR kR ⟨
    gO 11 (uZ (amN s a b:Int)),
    gLo (cs:=wn m) 12 (λW d=>(RJ.out.2.below d).2.1) rSc nSc,
    oG 1 40 10 (λx=>#[x]) (λx W C d=>by
     obtain rfl:x=nv m:=C;exact(eI O k7 W).mono λe W' ⟨v,D,h2,M,_⟩=>⟨v,D,h2,M.mono2 λg _ hg=>XB (q d) hg⟩),
    gLo (cs:=sdC N s) 10 (λW d=>(RJ.out.1.below d).2.1) uSd iSd,
    gO 0 (.slice n 32 sc),
    gO 1 (.int .u32 i),
    nG 3 42 4 43 5 44 21 (λx y z=>#[x,y,z]) (λx y z W C U e3 d=>by
     obtain rfl:x=.agg (sdC N s).toArray:=C;obtain rfl:y=.slice n 32 sc:=U;obtain rfl:z=.int .u32 i:=e3;refine(H1.out.2.2.2 W (b4.out.trans (d.mono b4.out.size))).mono ?_;rintro e W' ⟨v,rfl,D,r,rfl,h2,M⟩;exact⟨_,rfl,D,r,32,rfl,Xx _,h7,XB (q d) h2,Holds.lt M (by rw[h7];decide),M⟩),
    nG 0 39 2 41 6 45 20 (λx y z=>#[x,y,iZ 32,z]) (λx y z W C U e3 d=>by
     obtain rfl:x=uZ (amN s a b:Int):=C;obtain⟨X,c',rfl,M⟩:=ElQ.part e3;exact H1.out.2.2.1 X c' y W (ElQ.argS U) M),
    C3 7 46 id (λx W h=>h),
    bL λa W M=>by
     obtain⟨e',D,h2⟩:=M.n 8 38 kR kR;exact⟨[(38,.tuple #[e',iZ 0])],e',W,⟨D,yEU⟩,kR,XM _ _,h2⟩,
    bL λa W M=>by
     obtain⟨e',D,h2⟩:=M.n 8 38 kR kR;exact⟨[(38,.tuple #[e',iZ 0])],iZ 0,W,⟨D,yEU⟩,kR,XM _ _,rfl⟩,
    tY z11 66 (λW W' h d=>⟨_,rfl,q d,h⟩),yEU⟩ ⟨rfl,rfl,rfl,Xx _,λ_ _=>rfl⟩ ?_
   intro X w8 hR d hD;have PR:PrT (T s) (X 9) w8:=hR 9 dC;have k8:X 10=iZ 0:=hR 10 dC;obtain⟨km,kd,kf,h8⟩:=hR 11 dC;dsimp only[bY,YH,ZQ,ZR];simp only[XK,Xt,Xv,Xw];rw[k8,kd];clear hR k8 kd hD;generalize X 9=ep at PR;generalize X 0=y0;generalize X 1=y1;generalize X 2=y2;generalize X 3=y3;generalize X 4=y4;generalize X 5=y5;generalize X 6=y6;generalize X 7=y7;generalize X 8=y8;obtain⟨cs,kj,hr,kz⟩:=PR.cs;have k6:(prog.info? 66).map (·.size)=some cs.length:=by rw[hr];exact iAr
   refine hG (w8.setCells km 0 cs) λw9 M=>?_
   have hy:=mk1 ((Mp.start W4).add d h8 (by rw[t.out];exact kf));have MX:=mk1 (hy.out.put 0 M rfl (by rw[hr];rfl));have kp:=PR.put w8 w9 km cs _ (XM _ _) h8 (by rw[M.out];exact XM _ _);refine PW.st M kj (hy.out.th 0 rfl (by rw[hr];rfl)) k6 kz ?_;refine PW.va (iZ 0) ?_;refine PW.dn ?_;have kl:=mk1 (hq.out.grow MX.out.bl);clear hq hy d h8 PR q t kf M;refine Xy (P:=prog) ?_;refine PW.begin ?_;refine PW.ro (MX.out.at_ 0).2.1 kj uAr k6 ?_;refine PW.ca kp ?_;rintro e b8 ⟨Z,kg,h6,rfl,b7,b9,h4⟩;simp only[XK,Xt,Xv,Xw];refine PW.mv ?_;refine PW.va (sZ kg 623 h6) ?_;refine PW.va (iZ 0) ?_;refine PW.va (sZ kg 623 h6) ?_;refine PW.va (iZ 0) ?_;refine PW.dn ?_;have hf:=yQ Q.out.2.2.2 s;have kh:=Q.out.2.2.2 s;obtain⟨v8,bc,r2,kk,-,-⟩:=(kl.out.grow Z).swap.app (c:=h6) h4 (by rw[hf,kh];omega);rw[kh]at r2;have b3:=mk1 kk.swap;clear kk kl Z h4 kp MX;refine PW.begin (P:=prog) ?_;refine PW.mv ?_;refine PW.mv ?_;refine PW.ns r2 ?_;refine PW.va v8 ?_;refine PW.dn ?_;refine PW.begin (P:=prog) ?_;refine PW.va (iZ (Yh.wrap ((s:Int)+1))) ?_;rw[b2];go_wp2;go_roundg (gk-1)
   case measure=>omega
   case rel=>exact⟨s+1,by omega,rfl,b3⟩
  ·have k9:¬(s:Int)<2:=by omega
   obtain rfl:s=2:=by omega
   have X:=yQ Q.out.2.2.1 2;have S:=yQ Q.out.2.2.2 2;have Y:=wL K.out.oA (by rw[X];decide);have Z:=wL K.out.oB (by rw[S];decide);have Q0:=((I.out.at_ 0).below K.out.bl).2.1 0 _ rfl;have bw:=mk1 (I.out.bl.trans (K.out.bl.mono I.out.bl.size));generalize fsB V 2=C at Y X⊢;generalize fsB T 2=F at Z S⊢;rw[X]at Y;rw[S]at Z;have J:=mk2 Y Z;obtain⟨g7,c7,rfl,-⟩:=Y;obtain⟨g8,c8,rfl,-⟩:=Z;clear K I;refine hG wr.heap.size λH d=>?_
   refine hG (wr.alloc (.cells [YQ .u8 (yAV.wrap (k:Int))].toArray 5)) λw4 A=>?_
   have B1:=Xc (yAV.wrap (k:Int)) wr;rw[d.out,A.out]at B1;refine hG w4.heap.size λky f=>?_
   refine hG (w4.alloc (.cells [sZ H 1 1,sZ g7 (33*2) c7,sZ g8 (623*2) c8].toArray 23)) λL u=>?_
   have B2:=Vk H 1 g7 (33*2) c7 g8 (623*2) c8 w4;rw[f.out,u.out]at B2;have l:=mk1 (((Mp.start wr).new d A).new f u);have t:=Dc ky 3 3 (λj=>if j=0 then #[XN k] else if j=1 then C else F) (by decide) (λj hj=>by
    match j,hj with
    | 0,_=>show 1<=_;decide
    | 1,_=>show C.size<=_;omega
    | 2,_=>show F.size<=_;omega) L (l.out.at_ 1).1 (λj hj=>by
    match j,hj with
    | 0,_=>exact⟨_,(l.out.at_ 1).2.1 0 _ rfl,H,1,rfl,Xx _,rfl,(l.out.at_ 0).1,λi hi=>by
     obtain rfl:i=0:=by have:i<1:=hi;omega
     have D:=(l.out.at_ 0).2.1 0 _ rfl;have h2:=((show Row L H [.int .u8 (yAV.wrap (k:Int))] from l.out.at_ 0).2.2 0 yDW).2;rw[Pm]at D;exact⟨D,h2⟩⟩
    | 1,_=>exact⟨_,(l.out.at_ 1).2.1 1 _ rfl,by rw[show(if 1=0 then #[XN k] else if 1=1 then C else F)=C from rfl,X];exact(J.out.1.keep (Kq.of_below l.out.bl)).el⟩
    | 2,_=>exact⟨_,(l.out.at_ 1).2.1 2 _ rfl,by rw[show(if 2=0 then #[XN k] else if 2=1 then C else F)=F from rfl,S];exact(J.out.2.keep (Kq.of_below l.out.bl)).el⟩)
   have eL:iD (λj=>if j=0 then #[XN k] else if j=1 then C else F) 3=(#[XN k]++C++F).toList:=by
    rw[hZ,hZ,hZ];simp[iD]
   have U:(#[XN k]++C++F).size=1313:=by rw[Yg,Yg,X,S];rfl
   rw[eL]at t;generalize #[XN k]++C++F=EB at t U⊢;have M:=mk1 t;have D:=mk1 (bw.out.trans (l.out.bl.mono bw.out.size));clear t eL J l bw d f A u;refine Xy ?_;refine PW.begin ?_;refine PW.va (.bool false) ?_;refine PW.dn ?_;refine Xy ?_;refine X7 rfl ?_;refine yBh ?_;refine Xy (P:=prog) ?_;refine PW.begin ?_;refine PW.va (jZ k5) ?_;refine PW.ce Q0 u3r ?_;refine PW.va (.int .u8 (yAV.wrap (k:Int))) ?_;refine PW.ns B1 ?_;refine PW.mv ?_;refine PW.mv ?_;refine PW.ns B2 ?_;refine PW.ca M.out ?_;rintro e w6 ⟨R,q⟩;simp only[XK,Xt,Xv,Xw];refine PW.va e ?_;refine PW.dn ?_;have hE:=wL (b:=EB) (show w6.ownsRow L.heap.size 5 1 e EB.size (bC EB) by rw[Array.length_toList]at q;exact q) (by omega);rw[U]at hE;have KE:=mk2 (D.out.trans (R.mono D.out.size)) (hE.mono2 (Q':=(w.heap.size<=·)) λg _ hg=>XB D.out.size hg);clear hE q R M;go_wp2;go_ret;exact⟨_,rfl,KE.out.1,KE.out.2⟩
end
section
open SPA
theorem Bn{Q:Nat->Prop}{W:Xs}{v:Xu}{b:Bs}(h:ElQ Q 33 W v b):∃g,v=q33 g:=by
 obtain⟨k,c,rfl,-⟩:=h;exact⟨(k,c),rfl⟩
theorem D9{Q:Nat->Prop}{W:Xs}{v:Xu}{b:Bs}(h:ElQ Q 32 W v b):∃g,v=q32 g:=by
 obtain⟨k,c,rfl,-⟩:=h;exact⟨(k,c),rfl⟩
theorem RdB.v{B t:Nat}{p:Rp}{d Rb:Nat->Bs}{m r:Bs}{e:Xu}{W:Xs}(H:kS t t (rgB t p d Rb m r))(h:RdB B t (rgB t p d Rb m r) e W):RgV t p d Rb m r e W:=by
 obtain⟨q,i,f,rfl,v1,v2,Q,J,⟨gl,gr,X,hr,-⟩,U⟩:=h.ex;have I:=lS H;have E:∀(j:Nat) (b:Bs) (u:Xu) (n:Nat),(rgB t p d Rb m r)[j]? = some b->(qS q i f)[j]? = some u->(fD t t)[j]? = some n->ElQ (λ_=>True) n W u b:=λj b u n k C A=>by
  have c:=(XG.1 k).1;obtain⟨D,y,x,w,z⟩:=U j (by omega);rw[k]at w;rw[C]at x;obtain rfl:=XS.inj w;obtain rfl:=XS.inj x;have v:=wO H k;rw[A]at v;rw[XS.inj v];exact z.mono2 λ_ _ _=>trivial
 have D:=E 0 p.a q.a.v 33 rfl rfl rfl;have G:=E 1 p.s q.b.v 33 rfl rfl rfl;have e3:=E 2 p.c q.c.v 33 rfl rfl rfl;have O:=E 3 p.d q.d.v 33 rfl rfl rfl;have K:=E 4 (bx p.u) q.e.v 32 rfl rfl rfl;have N:=E 5 (bx p.m) q.f.v 32 rfl rfl rfl;have F:=E 6 (bx p.t) q.g.v 32 rfl rfl rfl;have v:i.length=t:=by rw[v1.len,Q]
 have y:f.length=t:=by rw[v2.len,J]
 have Z:∀j,j<t->∃u,i[j]? = some u/\ElQ (λ_=>True) 33 W u (d j):=λj c=>by
  refine⟨i[j],XJ (by omega),E (7+j) (d j) i[j] 33 ?_ ?_ ?_⟩
  ·unfold rgB;rw[XQ (by simp;omega),XQ (by simp;omega),XR (by simp)];simp[c]
  ·unfold qS;rw[XQ (by simp;omega),XQ (by simp;omega),XR (by simp)];simp[v,c]
  ·unfold fD;rw[XQ (by simp;omega),XQ (by simp;omega),XR (by simp)];simp[c]
 have eR:∀j,j<t->∃u,f[j]? = some u/\ElQ (λ_=>True) 33 W u (Rb j):=λj c=>by
  refine⟨f[j],XJ (by omega),E (7+t+j) (Rb j) f[j] 33 ?_ ?_ ?_⟩
  ·unfold rgB;rw[XQ (by simp;omega),XR (by simp;omega)];simp[c,show 7+t+j-(t+1+1+1+1+1+1+1)=j by omega]
  ·unfold qS;rw[XQ (by simp;omega),XR (by simp;omega)];simp[v,y,c,show 7+t+j-(t+1+1+1+1+1+1+1)=j by omega]
  ·unfold fD;rw[XQ (by simp;omega),XR (by simp;omega)];simp[c,show 7+t+j-(t+1+1+1+1+1+1+1)=j by omega]
 have e8:=E (7+t+t) m q.x.v 32 (by
  unfold rgB;rw[XR (by simp;omega)];simp[show 7+t+t-(t+t+1+1+1+1+1+1+1)=0 by omega]) (by
  unfold qS;rw[XR (by simp;omega)];simp[v,y,show 7+t+t-(t+t+1+1+1+1+1+1+1)=0 by omega]) (by
  unfold fD;rw[XR (by simp;omega)];simp[show 7+t+t-(t+t+1+1+1+1+1+1+1)=0 by omega])
 have T:=E (7+t+t+1) r q.y.v 32 (by
  unfold rgB;rw[XR (by simp;omega)];simp[show 7+t+t+1-(t+t+1+1+1+1+1+1+1)=1 by omega]) (by
  unfold qS;rw[XR (by simp;omega)];simp[v,y,show 7+t+t+1-(t+t+1+1+1+1+1+1+1)=1 by omega]) (by
  unfold fD;rw[XR (by simp;omega)];simp[show 7+t+t+1-(t+t+1+1+1+1+1+1+1)=1 by omega])
 have tv:∀(s:Sv) (l:List Xu) (g:Nat) (B:Nat->Bs),VL W s.q s.n l->s.n=t->s.q=some (aZ g)->(∀j,j<t->∃u,l[j]? = some u/\ElQ (λ_=>True) 33 W u (B j))->TlV t W s.v B:=λs l g B hv L S hB=>by
  refine⟨s.q,s.c,by unfold Sv.v;rw[L],λM=>⟨g,S,?_⟩⟩;rcases hv.cells with k|⟨b,o,k,C,A⟩
  ·have:=hv.len;rw[k,L]at this;exact absurd this (by simp;omega)
  ·rw[S]at k;injection k with k
   injection k with k x _
   subst k x;refine⟨C,λj c=>?_⟩;obtain⟨u,w,z⟩:=hB j c;have:=A j u w;rw[XD]at this;exact⟨u,this,z.arg⟩
 obtain⟨Y,w⟩:=Bn D;obtain⟨a2,f2⟩:=Bn G;obtain⟨a3,x⟩:=Bn e3;obtain⟨V,M⟩:=Bn O;obtain⟨a5,P⟩:=D9 K;obtain⟨a6,z⟩:=D9 N;obtain⟨a7,R⟩:=D9 F;refine⟨Y,a2,a3,V,a5,a6,a7,q.l.v,q.r.v,q.x.v,q.y.v,?_,⟨w ▸ D,f2 ▸ G,x ▸ e3,M ▸ O,P ▸ K,z ▸ N,R ▸ F⟩,tv q.l i gl d v1 Q X Z,tv q.r f gr Rb v2 J hr eR,e8,T⟩;rw[<-w,<-f2,<-x,<-M,<-P,<-z,<-R];rfl
theorem Fz{B t:Nat}{W W':Xs}{q:Option YW}{g m:Nat}{ys:List Xu}(h:VL W q m ys)(p:q=some (aZ g))(i:0<t->B<=g)(r:m=t)(d:Kq (B<=·) W W'):VL W' q m ys:=by
 refine⟨h.len,h.nil,?_,h.one⟩;rcases h.cells with c|⟨b,o,k,f,n⟩
 ·exact X9 c
 ·by_cases c:0<t
  ·have e:b=g:=by
    rw[p]at k;injection k with k
    injection k with k _ _
    exact k.symm
   subst e;refine X0 ⟨b,o,k,Xz f d.1,λj u l=>?_⟩;have:=n j u l;unfold YO at this⊢;rw[d.2 b (i c) f];exact this
  ·exact X9 (yCR.1 (by rw[h.len];omega))
theorem RdB.keep{B t:Nat}{BB:List Bs}{e:Xu}{W W':Xs}(h:RdB B t BB e W)(c:Kq (B<=·) W W'):RdB B t BB e W':=by
 obtain⟨p,n,l,m,v1,v2,i,g,⟨gl,o,d,f,k⟩,s⟩:=h.ex;refine⟨p,n,l,m,Fz v1 d (λh=>(k h).1) i c,Fz v2 f (λh=>(k h).2) g c,i,g,⟨gl,o,d,f,k⟩,λj q=>?_⟩;obtain⟨u,b,v,w,r⟩:=s j q;exact⟨u,b,v,w,r.keep c⟩
structure VrT(B:Nat)(V:Bs)(e:Xu)(w:Xs):Prop where
 cs:∃cs:List Xu,Hid (.agg cs.toArray=e)/\cs.length=11/\cs.toArray.all (·.oneCell')=true
 ver:∀(W:Xs) (v0:Xu),Kq (B<=·) w W->Arg33 W v0 V->XH prog 61 #[v0,iZ 32,e] W (rZ W λx W'=>x=.bool true)
variable {P:Nat}[NeZero P]{N:Nat}[NeZero N]
theorem NC(C:Fld P)(O:Ord N)(d:∀r:EC.Pt P,On r->mul N r=none)(L:IsP N)(S:18446744073709551616<=N)(v:Nat)(hv:v<4294967296)(k:Fin N)(B:List UInt8):∃V T:Bs,V=wP ((aD C d).cm (hPV C) (gPG C) (ofF N v) k)/\T.size=623 /\
 (∀(j:Option YW) (sc:Nat) (v1:Xu) (w:Xs),Arg w v1 (bx k.val)->PartOk w (.slice j 32 sc) B->XH prog 20 #[uZ v,v1,iZ 32,.slice j 32 sc] w (rZ w λe w'=>∃e',e=.tuple #[e',iZ 0]/\PrT T e' w')) /\
 ∀(g o c:Nat) (w:Xs),g<w.heap.size->Holds encB w g o T->623<=c->XH prog 106 #[.slice (some ⟨g,o,none⟩) 623 c] w (rZ w λe w'=>∃e',e=.tuple #[e',iZ 0]/\VrT w.heap.size V e' w'):=by
 have M:Wd 32 5:=⟨rfl,by decide,by decide⟩
 obtain⟨V,D,A,Rb,F,E,H,Q,R,ok,I,m,p,f⟩:=Ns C O d L S M v hv k B;have l:=OA (t:=5) (by decide) ok I m p f;have s:=sL l 19 (Xx _);rw[show offs 5 19=623 from rP 5]at s;have b:Y8 (fC 5 (rgB 5 D A Rb F E) (5+5+9))=623:=s;refine⟨V,fC 5 (rgB 5 D A Rb F E) 19,H,s,λj sc v1 w p z=>(Q j sc v1 w p z).mono ?_,λg o c w a G i=>?_⟩
 ·rintro e w' ⟨Y,rfl,f,e',U,rfl,-,hR⟩;obtain⟨cs,c1,c2,J,-⟩:=hR.cl (by decide);refine⟨_,rfl,f,e',rfl,⟨cs,c1,c2,J⟩,λX W k us vs u m n=>((((hR.below u).set0 (by decide) m).below n).put (by decide) (by decide)).mono ?_⟩;rintro x W' ⟨y,rfl,q,K,rfl,z,g,c,rfl,i⟩;have hh:=pt_holds z (by rw[b];decide);rw[b]at i;exact⟨_,rfl,q,g,c,by rw[b],i,hh.1,hh.2⟩
 ·have hR:=JW l w g o c ⟨_,c,rfl,X0 ⟨g,o,rfl,a,G⟩⟩ (by rw[b];exact i);rw[b]at hR;refine hR.mono ?_;rintro e w' ⟨y,rfl,f,e',rfl,n⟩;obtain⟨q,U,K,rfl,-⟩:=id n.ex;refine⟨_,rfl,f,_,rfl,⟨q.cs,rfl,rfl,by simp only[yAJ,Rg.cs,rgC,Sv.v,yB5,yCq];rfl⟩,λW v0 u J=>R _ v0 W J ((n.keep u).v l)⟩
end
section
open SPA
variable {P:Nat}[NeZero P]{N:Nat}
theorem VrT.keep{B:Nat}{V:Bs}{e:Xu}{w w':Xs}(h:VrT B V e w)(k:Kq (B<=·) w w'):VrT B V e w':=⟨h.cs,λW v0 d f=>h.ver W v0 ⟨XB k.size d.size,λg b c=>(d.block g b (Xz c k.size)).trans (k.block g b c)⟩ f⟩
theorem T9(V:Bs)(v:Xu)(w:Xs)(hR:∀W,kZ w W->XH prog 106 #[v] W (rZ W λe w'=>∃e',e=.tuple #[e',iZ 0]/\VrT W.heap.size V e' w')):
 XH prog 60 #[v] w (rZ w λe w'=>∃e' B,e=.tuple #[e',.bool true]/\w.heap.size<=B/\VrT B V e' w'):=by
 refine hG w.heap.size λu o=>?_
 refine hG (w.alloc (.cells z11.toArray 66)) λD m=>?_
 have n:=mk1 ((Mp.start w).new o m);have C:=(n.out.at_ 0).1;have E:=mk1 (hR D n.out.bl);clear hR;go_enter func60,ntmps60;refine Xy ?_;refine PW.begin ?_;refine PW.al o m ?_;refine PW.va (.bool false) ?_;refine PW.dn ?_;refine Xy ?_;refine PW.begin ?_;refine PW.mv ?_;refine PW.ca E.out ?_;rintro e q ⟨l,e',rfl,r⟩;simp only[XK,Xt,Xv,Xw];obtain⟨cs,d,k,p⟩:=r.cs;have b:(prog.info? 66).map (·.size)=some cs.length:=by rw[k];exact iAr
 refine hG q.heap.size λH i=>?_
 refine hG (q.alloc (.cells z11.toArray 66)) λI j=>?_
 refine hG (I.setCells H 0 cs) λz f=>?_
 refine hG (z.setCells u 0 cs) λa c=>?_
 have G:=mk1 (n.out.grow l);have y:=mk1 (G.out.new i j);have s:=mk1 (y.out.put 1 f rfl (by rw[k];rfl));have F:=mk1 (s.out.put 0 c rfl (by rw[k];rfl));have t:=((Mp.start q).new i j).put 0 f rfl (by rw[k];rfl);have kq:Kq (D.heap.size<=·) q a:=by
  refine⟨?_,λg J x=>?_⟩
  ·rw[<-c.out,setCells_size];exact t.bl.size
  ·rw[<-c.out,aE u cs 0 z g (by omega)];exact t.bl.block g x
 have x:=mk2 (r.keep kq) n.out.bl.size;clear r kq t l E n;refine PW.mv ?_;refine PW.va e' ?_;refine PW.va (iZ 0) ?_;refine PW.al i j ?_;refine PW.st f d (y.out.th 1 rfl (by rw[k];rfl)) b p ?_;refine PW.va (iZ 0) ?_;refine PW.dn ?_;refine Xy ?_;refine PW.begin ?_;refine PW.ro (s.out.at_ 1).2.1 d uAr b ?_;refine PW.mv ?_;refine PW.va (.bool true) ?_;refine PW.st c d (s.out.th 0 rfl (by rw[k];rfl)) b p ?_;refine PW.va (.bool true) ?_;refine PW.dn ?_;refine Y5 ?_;refine XE (fJ 2 3 66 rfl (show a.rangeAt u 0 cs from(F.out.at_ 0).2.1) rfl rfl uAr b) rfl ?_;exact⟨_,rfl,F.out.bl,e',_,by rw[d.out];rfl,x.out.2,x.out.1⟩
theorem CB(d f c m n cap:Nat)(w:Xs)(q:0<c)(x:n=c*m)(y:m<=1024)(i:n<=cap)(g:n<=1073741824):
 XH prog 58 #[.slice (some ⟨d,f,none⟩) n cap,iZ c] w (rZ w λe w'=>w'.ownsRow w.heap.size 23 1 e m ((Yt m).map (chv d f c))):=by
 obtain⟨a,b⟩:=hE ((w.alloc (.cells #[.slice (some ⟨d,f,none⟩) n cap] 23)).alloc (.cells #[iZ c] 3));obtain⟨k,B⟩:=hE w.heap.size;have v:=row_new w [Value.slice (some ⟨d,f,none⟩) n cap] 23;have a2:=row_new (w.alloc (.cells #[.slice (some ⟨d,f,none⟩) n cap] 23)) [iZ c] 3;have b1:=aC w (.cells #[.slice (some ⟨d,f,none⟩) n cap] 23);have s:=aC (w.alloc (.cells #[.slice (some ⟨d,f,none⟩) n cap] 23)) (.cells #[iZ c] 3);have o:=Row.below v s;have z:(w.alloc (.cells #[.slice (some ⟨d,f,none⟩) n cap] 23)).heap.size=w.heap.size+1:=XF _ _;rw[z]at a2;have r:=b1.trans (s.mono b1.size);have p:=LV d f n cap c q w;have t:=LU d f c m n cap a q x y i g w.heap.size (by rw[<-b.out];exact a2.1) (by rw[<-b.out];exact o.2.1 0 _ rfl) (by rw[<-b.out];exact a2.2.1 0 _ rfl);rw[b.out]at p r;rw[B.out]at p t;have j:=mk3 p t r;clear p t r v a2 b1 s o z b x y i g q;go_enter func58,ntmps58;refine Xy ?_;refine PW.begin ?_;refine PW.va (.slice none 0 0) ?_;refine PW.dn ?_;refine Xy ?_;refine PW.begin ?_;refine PW.mv ?_;refine PW.mv ?_;refine PW.ca j.out.1 ?_;rintro e C ⟨rfl,rfl⟩;simp only[XK,Xt,Xv,Xw];refine PW.ca j.out.2.1 ?_;rintro e D ⟨l,ho,-⟩;simp only[XK,Xt,Xv,Xw];refine PW.va e ?_;refine PW.dn ?_;have u:=mk2 (j.out.2.2.trans (l.mono j.out.2.2.size)) (own_base ho j.out.2.2.size);clear j l ho;go_wp2;go_ret;exact⟨_,rfl,u.out.1,u.out.2⟩
def z22:List Xu:=YE 22 (.slice none 0 0)
theorem WB(w:Xs):(Instr.makeSlice 117 (iZ 2) (iZ 2)).run prog w=.ok (sZ w.heap.size 2 2) (w.alloc (.cells z22.toArray 66)):=kR
theorem UJ(k i:Nat)(d:i<2)(w:Xs):(Yi 117 (sZ k 2 2) (iZ i)).run prog w=.ok (.pointer (some ⟨k,11*i,none⟩)) w:=by
 have c:¬(i:Int)<0:=by omega
 have e:(i:Int)<2:=by omega
 have b:=gU k 0 (11*i);rw[XD]at b;go_simp
theorem VS:(prog.underlying 23).map (·.isRow)=some false:=kR
theorem U9:∀args W,(callFunc 60 args).run prog W=.ok (.enter 60 args) W:=λ_ _=>kR
def PrL(w W:Xs)(K i:Nat)(V:Nat->Bs):Prop:=kZ w W/\w.heap.size<=K/\K<W.heap.size/\W.there K 0 22/\∀j,j<i->∃e cs B,Hid (.agg cs.toArray=e)/\cs.length=11/\W.rangeAt K (11*j) cs/\K<B/\VrT B (V j) e W
theorem PrL.grow{w W W':Xs}{K i:Nat}{V:Nat->Bs}(h:PrL w W K i V)(k:kZ W W'):PrL w W' K i V:=by
 obtain⟨f,p,d,n,q⟩:=h;refine⟨f.trans (k.mono f.size),p,Xz d k.size,λj c=>?_,λj c=>?_⟩
 ·have:=n j c;have e:=k.block K d;unfold YO Zi at this⊢;rw[e];exact this
 ·obtain⟨e,cs,B,m,l,o,g,b⟩:=q j c;exact⟨e,cs,B,m,l,range_below o k d,g,b.keep (Kq.of_below k)⟩
theorem PrL.put{w W W':Xs}{K i:Nat}{V:Nat->Bs}{e:Xu}{cs:List Xu}{B:Nat}(h:PrL w W K i V)(a:i<2)(l:Hid (.agg cs.toArray=e))(s:cs.length=11)(c:K<B)(r:VrT B (V i) e W)(k:Hid (W.setCells K (11*i) cs=W')):W.there K (11*i) cs.length/\PrL w W' K (i+1) V:=by
 obtain⟨o,p,x,n,z⟩:=h;have th:W.there K (11*i) cs.length:=λj t=>by
  have:=n (11*i+j) (by omega);rw[XD]at this;exact this
 have kq:∀B,K<B->Kq (B<=·) W W':=λB c=>by
  rw[<-k.out];exact⟨by rw[setCells_size];exact Xx _,λg o _=>aE K cs (11*i) W g (by omega)⟩
 refine⟨th,by rw[<-k.out];exact RG.below_setCells p _ _ _ o,p,by rw[<-k.out,setCells_size];exact x,?_,λj t=>?_⟩
 ·rw[<-k.out];exact World.there_setCells n _ _ _
 ·by_cases f:j<i
  ·obtain⟨e',d,q,v,u,y,m,b⟩:=z j f;refine⟨e',d,q,v,u,?_,m,b.keep (kq q m)⟩;rw[<-k.out];exact World.rangeAt_setCells_apart y _ _ _ (by omega)
  ·obtain rfl:j=i:=by omega
   refine⟨e,cs,B,l,s,?_,c,r.keep (kq B c)⟩;rw[<-k.out];exact YM _ _ _ _ th
theorem Td(g c:Nat)(V:Nat->Bs)(x:Nat->Xu)(w:Xs)(M:g<w.heap.size)(hx:∀i,i<2->w.cell? ⟨g,i,none⟩=some (x i))(R:∀i,∃q n c,x i=.slice q n c)(hR:∀i W,i<2->kZ w W->XH prog 60 #[x i] W (rZ W λe w'=>∃e' B,e=.tuple #[e',.bool true]/\W.heap.size<=B/\VrT B (V i) e' w')):
 XH prog 59 #[.func (.func 60) #[] #[],sZ g 2 c] w (Ret λe w'=>∃K,e=.tuple #[sZ K 2 2,.bool true]/\PrL w w' K 2 V):=by
 refine hG w.heap.size λK E=>?_
 refine hG (w.alloc (.cells z22.toArray 66)) λS d=>?_
 have G:=WB w;rw[E.out,d.out]at G;have D:=(Mp.start w).new E d;have N:Hid (PrL w S K 0 V):=⟨D.bl,Nat.le_of_eq E.out,(D.at_ 0).1,(show Row S K z22 from D.at_ 0).2.2,λj Y=>absurd Y (ZV _)⟩
 have C:=mk3 M hx (YP R hR);clear D M hx R hR;go_enter func59,ntmps59;refine Xy ?_;refine PW.begin ?_;refine PW.va (.slice none 0 0) ?_;refine PW.va (.bool false) ?_;refine PW.dn ?_;refine Xy ?_;refine PW.begin ?_;refine PW.mv ?_;refine PW.va (iZ 2) ?_;refine PW.ns G ?_;refine PW.va (sZ K 2 2) ?_;refine PW.dn ?_;refine Xy ?_;refine Xy ?_;refine PW.begin ?_;refine PW.mv ?_;refine PW.va (iZ 2) ?_;refine PW.va (iZ 0) ?_;refine PW.dn ?_;clear G d E;refine Y6 ?_;go_loopg [16] 2 (λgk s16 wr=>∃i:Nat,i+gk=2/\s16=iZ i/\Hid (PrL w wr K i V))
 case atStart=>exact⟨0,by omega,rfl,N⟩
 case round =>
  clear N;obtain⟨i,h0,rfl,o⟩:=hrel;by_cases v:i<2
  ·have r:(i:Int)<2:=by omega
   have J:Yh.wrap ((i:Int)+1)=((i+1:Nat):Int):=by rw[Zc];omega
   have L:wr.cell? ⟨g,i,none⟩=some (x i):=by rw[o.out.1.cell (p:=⟨g,i,none⟩) C.out.1];exact C.out.2.1 i v
   have m:=C.out.2.2.2 i wr v o.out.1;obtain⟨q8,U,X,ex⟩:=C.out.2.2.1 i;rw[ex]at L m;refine Xy ?_;refine PW.begin ?_;refine PW.va (.bool (decide ((i:Int)<2))) ?_;rw[decide_eq_true r];refine PW.dn ?_;refine Xy ?_;refine Yx rfl ?_;refine YR ?_;refine Xy ?_;refine Y6 ?_;refine Xy ?_;refine PW.begin ?_;refine PW.mv ?_;refine PW.ns (UK g 2 c i v wr) ?_;refine PW.ce L VS ?_;refine PW.va (iZ i) ?_;refine PW.va (.slice q8 U X) ?_;refine PW.dn ?_;refine Xy ?_;refine PW.begin ?_;refine PW.mv ?_;refine PW.mv ?_;refine PW.ca m ?_ rfl rfl (EW U9 rfl rfl rfl);rintro e I ⟨s,e',B,rfl,y,F⟩;simp only[XK,Xt,Xv,Xw];obtain⟨cs,k,b,u⟩:=F.cs;have f:(prog.info? 66).map (·.size)=some cs.length:=by rw[b];exact iAr
   refine hG I.heap.size λZ A=>?_
   refine hG (I.alloc (.cells z11.toArray 66)) λw4 a=>?_
   refine hG (w4.setCells Z 0 cs) λO t=>?_
   refine hG (O.setCells K (11*i) cs) λw6 z=>?_
   have T:=mk1 ((Mp.start I).new A a);have H:=mk1 (T.out.put 0 t rfl (by rw[b];rfl));have l:=((o.out.grow s).grow H.out.bl).put v k b (Xz o.out.2.2.1 y) (F.keep (Kq.of_below H.out.bl)) z;have Q:=mk2 l.1 l.2;clear o l F y s L m;refine PW.mv ?_;refine PW.va e' ?_;refine PW.va (.bool true) ?_;refine PW.al A a ?_;refine PW.st t k (T.out.th 0 rfl (by rw[b];rfl)) f u ?_;refine PW.va (.bool true) ?_;refine PW.dn ?_;refine Xy ?_;refine Xy ?_;refine PW.begin ?_;refine PW.mv ?_;refine PW.va (.bool false) ?_;refine PW.dn ?_;refine X7 rfl ?_;refine YR ?_;refine PW.begin (P:=prog) ?_;refine PW.mv ?_;refine PW.mv ?_;refine PW.ro (H.out.at_ 0).2.1 k uAr f ?_;refine PW.ns (UJ K i v O) ?_;refine PW.st z k Q.out.1 f u ?_;refine PW.dn ?_;refine PW.begin (P:=prog) ?_;refine PW.va (iZ (Yh.wrap ((i:Int)+1))) ?_;rw[J];go_wp2;go_roundg (gk-1)
   case measure=>omega
   case rel=>exact⟨i+1,by omega,rfl,Q.out.2⟩
  ·have r:¬(i:Int)<2:=by omega
   obtain rfl:i=2:=by omega
   refine Xy ?_;refine PW.begin ?_;refine PW.va (.bool false) ?_;refine PW.dn ?_;refine Xy ?_;refine X7 rfl ?_;refine yBh ?_;refine Xy (P:=prog) ?_;refine PW.begin ?_;refine PW.mv ?_;refine PW.va (sZ K 2 2) ?_;refine PW.va (.bool true) ?_;refine PW.dn ?_;refine Y5 ?_;refine XE (dQ 4 5 rfl _ _ rfl rfl) rfl ?_;exact⟨_,rfl,K,rfl,o.out⟩
end
section
open SPA
theorem UU(V:Nat->Bs):fsB V 2=V 0++V 1:=by
 show(#[]++V 0)++V 1=_;rw[Array.empty_append]
theorem pK{w:Xs}{g o:Nat}{A B:Bs}(h:Holds encB w g o (A++B)):Holds encB w g o A/\Holds encB w g (o+A.size) B:=by
 refine⟨?_,?_⟩
 ·have:=Holds.part (p:=0) (e:=A) h (by rw[Yg];omega) (λj k=>by
   rw[XD,getElem!_pos A j k,getElem!_pos (A++B) j (by rw[Yg];omega),yBq])
  exact this
 ·exact Holds.part (p:=A.size) (e:=B) h (by rw[Yg];exact Xx _) (λj k=>by
   rw[getElem!_pos B j k,getElem!_pos (A++B) (A.size+j) (by rw[Yg];omega),Array.getElem_append_right (by omega)];simp)
theorem SE{W:Xs}{g k:Nat}{V T:Nat->Bs}(b:∀s,(V s).size=33)(o:∀s,(T s).size=623)(h:Holds encB W g 0 (#[XN k]++fsB V 2++fsB T 2)):
 W.cell? ⟨g,0,none⟩=some (encB (XN k))/\(∀s,s<2->Holds encB W g (1+33*s) (V s))/\∀s,s<2->Holds encB W g (67+623*s) (T s):=by
 rw[UU,UU]at h;obtain⟨l,m⟩:=pK h;obtain⟨i,j⟩:=pK l;obtain⟨n,f⟩:=pK j;obtain⟨e,d⟩:=pK m;have z:(#[XN k]++(V 0++V 1)).size=67:=by rw[Yg,Yg,b,b];rfl
 rw[z]at e d;rw[b]at f;rw[o]at d;refine⟨(i 0 yDW).1,λs c=>?_,λs c=>?_⟩
 ·match s,c with
  | 0,_=>exact n
  | 1,_=>exact f
 ·match s,c with
  | 0,_=>exact e
  | 1,_=>exact d
theorem V0(g c:Nat)(d:1313<=c)(w:Xs):(Zk 23 (sZ g 1313 c) (some (iZ 1)) (some (iZ 67)) none).run prog w=.ok (.slice (some ⟨g,1,none⟩) 66 (c-1)) w:=by
 have k:¬c=1:=by omega
 have b:(67:Int)<=(c:Int):=by omega
 have e:¬c-1=0:=by omega
 go_simp
theorem QO(g c:Nat)(d:1313<=c)(w:Xs):(Zk 23 (sZ g 1313 c) (some (iZ 67)) none none).run prog w=.ok (.slice (some ⟨g,67,none⟩) 1246 (c-67)) w:=by
 have k:¬c=67:=by omega
 have b:(1313:Int)<=(c:Int):=by omega
 have e:¬c-67=0:=by omega
 go_simp
theorem WM(g c:Nat)(w:Xs):(Yi 23 (sZ g 1313 c) (iZ 0)).run prog w=.ok (jZ g) w:=by
 go_simp
variable {P:Nat}[NeZero P]
theorem Rf(C:Fld P)(g c k:Nat)(hc:1313<=c)(h8:1<=k)(h7:k<=3)(V T:Nat->Bs)(hV:∀s,(V s).size=33)(hT:∀s,(T s).size=623)(hp:∀s,∃p,rd P (V s)=some p)
 (h6:∀s (g o c:Nat) (w:Xs),g<w.heap.size->Holds encB w g o (T s)->623<=c->XH prog 106 #[.slice (some ⟨g,o,none⟩) 623 c] w (rZ w λe w'=>∃e',e=.tuple #[e',iZ 0]/\VrT w.heap.size (V s) e' w'))
 (w:Xs) (hg:g<w.heap.size) (hH:Holds encB w g 0 (#[XN k]++fsB V 2++fsB T 2)) :
 XH prog 30 #[sZ g 1313 c] w (rZ w λe w'=>∃K,e=.tuple #[sZ K 2 2,.bool true]/\w.heap.size<=K/\K<w'.heap.size/\∀s,s<2->w'.rangeAt K (33*s) (aA (V s))):=by
 obtain⟨c0,S,J⟩:=SE hV hT hH;have e8:encB (XN k)=.int .u8 k:=by
  show YQ .u8 _=_
  congr 1
  rw[<-Pm,IntKind.wrap_u8];omega
 rw[e8]at c0;have h1:Yh.wrap (k:Int)=(k:Int):=by rw[Zc];omega
 have HI:=mk1 (PV k h8 h7);have A:=mk3 S J hg;have X:=mk3 hV hp h6;clear hH S J e8;go_enter func30,ntmps30;refine Xy ?_;refine PW.begin ?_;refine PW.va (.slice none 0 0) ?_;refine PW.va (.bool false) ?_;refine PW.dn ?_;refine Xy ?_;refine Xy ?_;refine PW.begin ?_;refine PW.mv ?_;refine PW.va (iZ 1313) ?_;refine PW.va (.bool false) ?_;refine PW.mv ?_;refine PW.gd ?_;refine PW.mv ?_;refine PW.gd ?_;refine PW.ns (WM g c w) ?_;refine PW.gd ?_;refine PW.ce c0 kR ?_;refine PW.gd ?_;refine PW.va (iZ (Yh.wrap (k:Int))) ?_;rw[h1];refine PW.gd ?_;refine PW.gi (HI.out w) λw1 d=>?_
 refine PW.gd ?_;refine PW.va (.bool false) ?_;refine PW.va (.bool false) ?_;refine PW.dn ?_;refine X7 rfl ?_;refine YR ?_;refine Xy ?_;refine PW.begin ?_;refine PW.mv ?_;refine PW.ns (V0 g c hc w1) ?_;refine PW.ca (CB g 1 33 2 66 (c-1) w1 (by decide) rfl (by decide) (by omega) (by decide)) ?_;rintro e w2 ⟨m,t⟩;simp only[XK,Xt,Xv,Xw];have G:=d.trans (m.mono d.size);obtain⟨g2,c2,rfl⟩:=mT t (by decide);have hA:=Fp C g2 2 c2 (by decide) V w2 (bU t rfl).2.1 (λj F=>⟨chv g 1 33 j,jI t (by
  rw[Ys,yBg F];rfl),some ⟨g,1+33*j,none⟩,33,33,rfl,X.out.1 j,λ_=>⟨g,1+33*j,rfl,Xx _,Xz A.out.2.2 G.size,Holds.below (A.out.1 j F) G A.out.2.2⟩⟩)
 refine PW.ca hA ?_;rintro e w3 ⟨L,⟨-,K,rfl,r,U,M⟩|⟨⟨j,-,F⟩,-⟩⟩
 rotate_left
 ·obtain⟨p,b⟩:=X.out.2.1 j;rw[F]at b;cases b
 simp only[XK,Xt,Xv,Xw];have b3:=mk1 (G.trans (L.mono G.size));have Q:=mk3 (XB G.size r) U M;clear hA t d m L G r U M;refine PW.mv ?_;refine PW.va (sZ K 2 2) ?_;refine PW.va (.bool true) ?_;refine PW.va (sZ K 2 2) ?_;refine PW.va (.bool true) ?_;refine PW.dn ?_;refine Xy ?_;refine PW.begin ?_;refine PW.mv ?_;refine PW.ns (QO g c hc w3) ?_;refine PW.ca (CB g 67 623 2 1246 (c-67) w3 (by decide) rfl (by decide) (by omega) (by decide)) ?_;rintro e w4 ⟨a,n⟩;simp only[XK,Xt,Xv,Xw];obtain⟨g4,c4,rfl⟩:=mT n (by decide);have R:=b3.out.trans (a.mono b3.out.size);have hR:=Td g4 c4 V (λj=>chv g 67 623 j) w4 (bU n rfl).2.1 (λj F=>jI n (by
  rw[Ys,yBg F];rfl)) (λj=>⟨_,_,_,rfl⟩) (λs W f i=>T9 (V s) _ W λW' l=>by
   have b:=(R.trans (i.mono R.size)).trans (l.mono (XB R.size i.size));exact X.out.2.2 s g (67+623*s) 623 W' (Xz A.out.2.2 b.size) (Holds.below (A.out.2.1 s f) b A.out.2.2) (Xx _))
 refine PW.ca hR ?_;rintro e E ⟨K2,rfl,O⟩;simp only[XK,Xt,Xv,Xw];have q:=mk2 O (YP R a);clear hR n O a R;refine PW.mv ?_;refine PW.va (sZ K2 2 2) ?_;refine PW.va (.bool true) ?_;refine PW.va (sZ K2 2 2) ?_;refine PW.va (.bool true) ?_;refine PW.dn ?_;refine Xy ?_;refine Xy ?_;refine PW.begin ?_;refine PW.mv ?_;refine PW.va (.bool false) ?_;refine PW.mv ?_;refine PW.gd ?_;refine PW.mv ?_;refine PW.gd ?_;refine PW.va (.bool false) ?_;refine PW.va (.bool false) ?_;refine PW.dn ?_;refine X7 rfl ?_;refine YR ?_;have u:=q.out.1.1;have b5:=mk1 (q.out.2.1.trans (u.mono q.out.2.1.size));have RK:Hid (∀s,s<2->E.rangeAt K (33*s) (aA (V s))):=λs f=>by
  have b:=q.out.2.2.trans (u.mono q.out.2.2.size);exact range_below (Q.out.2.2 s f) b Q.out.2.1
 have lK:K<E.heap.size:=Xz Q.out.2.1 (XB q.out.2.2.size u.size);have HP:=mk1 q.out.1.2.2.2.2;have h5:=q.out.1.2.2.1;have r:=Q.out.1;have W0:=mk1 (XM E.heap.size E);clear q u Q b3 A HI;refine Xy ?_;refine Xy ?_;refine PW.begin ?_;refine PW.mv ?_;refine PW.va (iZ 2) ?_;refine PW.va (iZ 0) ?_;refine PW.dn ?_;refine Y6 ?_;go_loopg [43] 2 (λgk s43 wr=>∃s:Nat,s+gk=2/\s43=iZ s/\Hid (kZ E wr))
 case atStart=>exact⟨0,by omega,rfl,W0⟩
 case round =>
  clear W0;obtain⟨s,he,rfl,y⟩:=hrel;by_cases f:s<2
  ·have I:(s:Int)<2:=by omega
   have h9:Yh.wrap ((s:Int)+1)=((s+1:Nat):Int):=by rw[Zc];omega
   have b:=X.out.1 s;have lV:(aA (V s)).length=z33.length:=aB b;have iV:(prog.info? 51).map (·.size)=some (aA (V s)).length:=by rw[aB b];exact iCP
   refine hG wr.heap.size λk9 v=>?_
   refine hG (wr.alloc (.cells z33.toArray 51)) λw7 D=>?_
   refine hG (w7.setCells k9 0 (aA (V s))) λw8 z=>?_
   have M7:=mk1 ((Mp.start wr).new v D);have M8:=mk1 (M7.out.put 0 z rfl lV);have Y:=range_below (RK.out s f) y.out lK;rw[<-XD (33*s)]at Y;obtain⟨vp,l⟩:=hE (pvl (V s));obtain⟨ee,cs,B,h2,h4,h0,hi,h3⟩:=HP.out s f;have Z:(prog.info? 66).map (·.size)=some cs.length:=by rw[h4];exact iAr
   have H:Hid (∀W,XH prog 19 #[vp] W (rZ W λe w'=>ElQ (W.heap.size<=·) 33 w' e (V s)/\∃g,e=r33 g)):=by rw[<-l.out];exact λW=>eJ b W
   have x:=mk1 (y.out.trans (M8.out.bl.mono y.out.size));refine Xy ?_;refine PW.begin ?_;refine PW.va (.bool (decide ((s:Int)<2))) ?_;rw[decide_eq_true I];refine PW.dn ?_;refine Xy ?_;refine Yx rfl ?_;refine YR ?_;refine Xy ?_;refine Y6 ?_;refine Xy ?_;refine PW.begin ?_;refine PW.mv ?_;refine PW.ns (atP K 0 2 2 s f wr) ?_;refine PW.ro Y l uCP iV ?_;refine PW.al v D ?_;refine PW.va (iZ s) ?_;refine PW.st z l (M7.out.th 0 rfl lV) iV (bQ _) ?_;refine PW.dn ?_;clear Y M7 D z v;refine Xy ?_;refine AW.beg 7 7 ⟨λW=>kZ w8 W,λ_ _ i h=>h.trans (i.mono h.size),false⟩ ⟨rfl,rfl,rfl,Xx _,λ_ _=>rfl⟩ ?_;refine AW.ro 0 (λW i=>((M8.out.at_ 0).below i).2.1) l uCP iV ?_;refine AW.mv 2 ?_;refine AW.mv 3 ?_;refine AW.iv 4 (UJ K2 s f) ?_;refine AW.ro 5 (λW i=>range_below h0 (x.out.trans (i.mono x.out.size)) h5) h2 uAr Z ?_;refine AW.ca 1 (λ_=>H.out _) (λe w' h=>h.1) ?_;rintro e W1 ⟨d,N,ha,rfl⟩;simp only[XK,Xt,Xv,Xw];refine AW.gi 6 (λi=>h3.ver W1 _ (Kq.of_below (x.out.trans (i.mono x.out.size))) N.arg) λW2 m=>?_
   refine AW.nx 7 (.bool false) ?_;refine AW.dn λhJ=>?_
   have KC:=mk1 (x.out.trans (Below.mono hJ x.out.size));clear y x hJ N d m M8 H;refine X7 (P:=prog) rfl ?_;refine YR ?_;refine PW.begin (P:=prog) ?_;refine PW.va (iZ (Yh.wrap ((s:Int)+1))) ?_;rw[h9];go_wp2;go_roundg (gk-1)
   case measure=>omega
   case rel=>exact⟨s+1,by omega,rfl,KC⟩
  ·have I:¬(s:Int)<2:=by omega
   obtain rfl:s=2:=by omega
   refine Xy ?_;refine PW.begin ?_;refine PW.va (.bool false) ?_;refine PW.dn ?_;refine Xy ?_;refine X7 rfl ?_;refine yBh ?_;refine Xy (P:=prog) ?_;refine PW.begin ?_;refine PW.mv ?_;refine PW.va (sZ K 2 2) ?_;refine PW.va (.bool true) ?_;refine PW.dn ?_;refine Y5 ?_;refine XE (dQ 2 3 rfl _ _ rfl rfl) rfl ?_;exact⟨_,rfl,b5.out.trans (y.out.mono b5.out.size),K,rfl,r,Xz lK y.out.size,λs f=>range_below (RK.out s f) y.out lK⟩
end
section
open SPA
variable {P:Nat}[NeZero P]{N:Nat}
def tmP(f:Nat->Nat->Nat × Bs):Nat->List (Nat × Bs)
 | 0=>[]
 | i+1=>(tmP f i++[f i 0])++[f i 1]
def tmQ(f:Nat->Nat->Nat × Bs)(i:Nat):Nat->List (Nat × Bs)
 | 0=>tmP f i
 | s+1=>tmQ f i s++[f i s]
theorem Bc(f:Nat->Nat->Nat × Bs):∀i,(tmP f i).length=2*i
 | 0=>rfl
 | i+1=>by
  show((tmP f i++[f i 0])++[f i 1]).length=_;rw[XC,XC,Bc f i];simp only[Yq,Zr];omega
theorem FH(f:Nat->Nat->Nat × Bs)(i:Nat):∀s,(tmQ f i s).length=2*i+s
 | 0=>Bc f i
 | s+1=>by
  show(tmQ f i s++[f i s]).length=_;rw[XC,FH f i s];simp only[Yq,Zr];omega
theorem Jo{f:Nat->Nat->Nat × Bs}(h:∀i s,(f i s).2.size=33):∀i,∀x∈tmP f i,x.2.size=33
 | 0,x,hx=>by cases hx
 | i+1,x,hx=>by
  rcases Y3.1 hx with hx|hx
  ·rcases Y3.1 hx with hx|hx
   ·exact Jo h i x hx
   ·rw[YY.1 hx];exact h i 0
  ·rw[YY.1 hx];exact h i 1
theorem Jm{f:Nat->Nat->Nat × Bs}(h:∀i s,(f i s).2.size=33)(i:Nat):∀s,∀x∈tmQ f i s,x.2.size=33
 | 0,x,hx=>Jo h i x hx
 | s+1,x,hx=>by
  rcases Y3.1 hx with hx|hx
  ·exact Jm h i s x hx
  ·rw[YY.1 hx];exact h i s
theorem QC:(prog.underlying 23).map (·.isRow)=some false:=kR
theorem Jr(O:Ord N)(q:Option YW)(n c:Nat)(hn:n<=64)(V:Nat->Nat->Bs)(hV:∀i s,(V i s).size=33)(x:Nat->Xu)(X:Bs)(hX:X.size=33)(w:Xs)(hq:0<n->∃g,q=some (aZ g)/\g<w.heap.size/\∀i,i<n->w.cell? ⟨g,i,none⟩=some (x i))(a:∀i,∃q n c,x i=.slice q n c)
 (hR:∀i W,i<n->kZ w W->XH prog 30 #[x i] W (rZ W λe w'=>∃K,e=.tuple #[sZ K 2 2,.bool true]/\W.heap.size<=K/\K<w'.heap.size/\∀s,s<2->w'.rangeAt K (33*s) (aA (V i s))))
 (hP:∀(v:Xu) (W:Xs),SmZ 0 W v (tmP (λi s=>(sdW N s,V i s)) n)->(n=0->v=.slice none 0 0)->XH prog 33 #[v] W (rZ W λe w'=>e=pvl X)) :
 XH prog 13 #[.slice q n c] w (rZ w λe w'=>e=.tuple #[pvl X,.bool true]):=by
 obtain⟨f,hf⟩:=hE (λi s=>(sdW N s,V i s));rw[hf.out]at hP;have U:∀i s,(f i s).2.size=33:=λi s=>by rw[<-hf.out];exact hV i s
 have HS:=mk1 (λW=>wG O W);refine hG w.heap.size λm E=>?_
 refine hG (w.alloc (.cells z33.toArray 51)) λw1 D=>?_
 have K1:=mk1 ((Mp.start w).new E D);have Z:=mk3 hq a (YP hR hP);have S0:Hid (SmZ 0 w1 (.slice none 0 0) (tmP f 0)/\Mp w w1 [(m,z33)] []):=⟨X9 ⟨rfl,rfl⟩,K1.out⟩
 clear hq a hR hP K1;go_enter func13,ntmps13;refine Xy ?_;refine PW.begin ?_;refine PW.al E D ?_;refine PW.va (.bool false) ?_;refine PW.dn ?_;refine Xy ?_;refine PW.begin ?_;refine PW.va (.slice none 0 0) ?_;refine PW.dn ?_;refine Xy ?_;refine Xy ?_;refine PW.begin ?_;refine PW.mv ?_;refine PW.va (iZ n) ?_;refine PW.va (iZ 0) ?_;refine PW.dn ?_;clear D E;refine Y6 ?_;go_loopg [4,13] n (λgk s4 s13 wr=>∃i:Nat,i+gk=n/\s13=iZ i/\(i=0->s4=.slice none 0 0)/\Hid (SmZ 0 wr s4 (tmP f i)/\Mp w wr [(m,z33)] []))
 case atStart=>exact⟨0,by omega,rfl,λ_=>rfl,S0⟩
 case round =>
  clear S0;obtain⟨i,h7,rfl,hz,k⟩:=hrel;by_cases hi:i<n
  ·clear hz;have B:(i:Int)<(n:Int):=by omega
   have h2:Yh.wrap ((i:Int)+1)=((i+1:Nat):Int):=by rw[Zc];omega
   obtain⟨g,rfl,hg,hx⟩:=Z.out.1 (by omega);have cx:wr.cell? ⟨g,i,none⟩=some (x i):=by rw[k.out.2.bl.cell (p:=⟨g,i,none⟩) hg];exact hx i hi
   have A:=Z.out.2.2.1 i wr hi k.out.2.bl;obtain⟨q8,n8,c8,ex⟩:=Z.out.2.1 i;rw[ex]at cx A;clear hx;refine Xy ?_;refine PW.begin ?_;refine PW.va (.bool (decide ((i:Int)<(n:Int)))) ?_;rw[decide_eq_true B];refine PW.dn ?_;refine Xy ?_;refine Yx rfl ?_;refine YR ?_;refine Xy ?_;refine Y6 ?_;refine Xy ?_;refine PW.begin ?_;refine PW.ns (UK g n c i hi wr) ?_;refine PW.ce cx QC ?_;refine PW.va (.slice q8 n8 c8) ?_;refine PW.dn ?_;refine Xy ?_;refine PW.begin ?_;refine PW.mv ?_;refine PW.ca A ?_;rintro e z ⟨u,K,rfl,-,lK,rK⟩;simp only[XK,Xt,Xv,Xw];have G:=mk2 (k.out.1.grow u) (k.out.2.grow u);have RK:=mk1 rK;clear k cx A u rK;refine PW.mv ?_;refine PW.va (sZ K 2 2) ?_;refine PW.va (.bool true) ?_;refine PW.va (sZ K 2 2) ?_;refine PW.va (.bool true) ?_;refine PW.dn ?_;refine Xy ?_;refine Xy ?_;refine PW.begin ?_;refine PW.mv ?_;refine PW.va (.bool false) ?_;refine PW.dn ?_;refine X7 rfl ?_;refine YR ?_;refine Xy ?_;refine PW.begin ?_;refine PW.ca (HS.out z) ?_;rintro e w6 ⟨d,M,rfl,T,o⟩;simp only[XK,Xt,Xv,Xw];refine PW.va (iZ 2) ?_;refine PW.va (iZ 0) ?_;refine PW.dn ?_;obtain⟨h4,h9⟩:∃x,x=gk:=⟨_,rfl⟩
   have S6:Hid (SmZ 0 w6 u4 (tmQ f i 0)/\Mp w w6 [(m,z33),(M,sdC N 0++sdC N 1)] []/\kZ z w6):=⟨G.out.1.grow d,G.out.2.add d o T,d⟩
   clear G d T o;refine Y6 ?_;go_loopg [4,27] 2 (λgk s4 s27 wr=>∃s:Nat,s+gk=2/\s27=iZ s/\Hid (SmZ 0 wr s4 (tmQ f i s)/\Mp w wr [(m,z33),(M,sdC N 0++sdC N 1)] []/\kZ z wr))
   case atStart=>exact⟨0,by omega,rfl,S6⟩
   case round =>
    clear S6;obtain⟨s,h8,rfl,k⟩:=hrel;by_cases a:s<2
    ·have Q:(s:Int)<2:=by omega
     have h0:Yh.wrap ((s:Int)+1)=((s+1:Nat):Int):=by rw[Zc];omega
     have r:(V i s).size=33:=hV i s;have iV:(prog.info? 51).map (·.size)=some (aA (V i s)).length:=by rw[aB r];exact iCP
     have h3:f i s=(sdW N s,V i s):=by rw[<-hf.out]
     refine hG wr.heap.size λF b=>?_
     refine hG (wr.alloc (.cells z7.toArray 61)) λw7 l=>?_
     refine hG (w7.setCells F 0 (sdC N s)) λw8 j=>?_
     have M7:=mk1 (k.out.2.1.new b l);have H:=mk1 (M7.out.put 2 j);have Q8:=mk1 (((Mp.start wr).new b l).put 0 j).bl;have R0:=FS a (k.out.2.1.at_ 1);have R:=mk1 (k.out.2.2.trans (Q8.out.mono k.out.2.2.size));have S8:=mk1 (k.out.1.grow Q8.out);obtain⟨vs,J⟩:=hE (X6 (sdC N s).toArray);obtain⟨vp,L⟩:=hE (pvl (V i s));obtain⟨vw,I⟩:=hE (nv (sdW N s));have HT:Hid (∀W,XH prog 32 #[vp,vw] W (rZ W λe w'=>Sm W.heap.size w' e [f i s])):=by rw[<-L.out,<-I.out,h3];exact λW=>Au (V i s) r (sdW N s) W
     have RV:w8.rangeAt K (0+33*s) (aA (V i s)):=by
      rw[XD];exact range_below (RK.out s a) R.out lK
     have h6:K<w8.heap.size:=Xz lK R.out.size;refine Xy ?_;refine PW.begin ?_;refine PW.va (.bool (decide ((s:Int)<2))) ?_;rw[decide_eq_true Q];refine PW.dn ?_;refine Xy ?_;refine Yx rfl ?_;refine YR ?_;refine Xy ?_;refine Y6 ?_;refine Xy ?_;refine PW.begin ?_;refine PW.mv ?_;refine PW.ns (GA M s a wr) ?_;refine PW.ro R0 J uSd iSd ?_;refine PW.al b l ?_;refine PW.va (iZ s) ?_;refine PW.st j J (M7.out.th 2) iSd (Bh s) ?_;refine PW.dn ?_;clear k M7 R0 l j b Q8;refine AW.beg 9 9 ⟨λW=>kZ w8 W,λ_ _ C h=>h.trans (C.mono h.size),false⟩ ⟨rfl,rfl,rfl,Xx _,λ_ _=>rfl⟩ ?_;refine AW.mv 0 ?_;refine AW.mv 1 ?_;refine AW.mv 2 ?_;refine AW.iv 3 (atP K 0 2 2 s a) ?_;refine AW.ro 4 (λW C=>range_below RV C h6) L uCP iV ?_;refine AW.va 5 (oZ F 3) ?_;refine AW.ro 6 (λW C=>rnB (xs:=[.string (sdL s),.string (sdP s),.func (.func (sdA s)) #[] #[]]) ((H.out.at_ 2).below C).2.1 rfl) I rSc nSc ?_;refine AW.ca 7 (λ_=>HT.out _) (λe w' h=>h.1) ?_;rintro e W1 ⟨h5,Y⟩;simp only[XK,Xt,Xv,Xw];refine AW.ca 8 (λC=>cA 0 u4 e (tmQ f i s) [f i s] (by simp) (by rw[FH];omega) (show 1<=500 by decide) (Jm U i s) (λy hy=>by rw[YY.1 hy];exact U i s) W1 (S8.out.grow C) (X0 (Y.mono (Zh _)))) (λe w' h=>h.1) ?_;rintro e' W2 ⟨h1,S⟩;simp only[XK,Xt,Xv,Xw];refine AW.nx 9 e' ?_;refine AW.dn λhJ=>?_
     have t:kZ w8 W2:=hJ;have S9:Hid (SmZ 0 W2 e' (tmQ f i (s+1))/\Mp w W2 [(m,z33),(M,sdC N 0++sdC N 1)] []/\kZ z W2):=⟨X0 (S.mono (Zh _)),Mp.pop (x:=(F,sdC N s)) (H.out.grow t),R.out.trans (t.mono R.out.size)⟩
     clear S8 H R Y S h5 h1 hJ t RV HT;refine PW.begin (P:=prog) ?_;refine PW.va (iZ (Yh.wrap ((s:Int)+1))) ?_;rw[h0];go_wp2;go_roundg (gk-1)
     case measure=>omega
     case rel=>exact⟨s+1,by omega,rfl,S9⟩
    ·have Q:¬(s:Int)<2:=by omega
     obtain rfl:s=2:=by omega
     have S9:Hid (SmZ 0 wr u4 (tmP f (i+1))/\Mp w wr [(m,z33)] []):=⟨k.out.1,Mp.pop (x:=(M,sdC N 0++sdC N 1)) k.out.2.1⟩
     refine Xy ?_;refine PW.begin ?_;refine PW.va (.bool false) ?_;refine PW.dn ?_;refine Xy ?_;refine X7 rfl ?_;refine yBh ?_;refine PW.begin (P:=prog) ?_;refine PW.va (iZ (Yh.wrap ((i:Int)+1))) ?_;rw[h2];go_wp2;go_roundg (h4-1)
     case measure=>omega
     case rel=>exact⟨i+1,by omega,rfl,nofun,S9⟩
  ·have B:¬(i:Int)<(n:Int):=by omega
   obtain rfl:i=n:=by omega
   obtain⟨z,b⟩:=hE (pvl X);have d:=Z.out.2.2.2 u4 wr k.out.1 hz;clear hz;rw[b.out]at d⊢;have r:(prog.info? 51).map (·.size)=some (aA X).length:=by rw[aB hX];exact iCP
   have t:(aA X).length=z33.length:=aB hX;refine Xy ?_;refine PW.begin ?_;refine PW.va (.bool (decide ((i:Int)<(i:Int)))) ?_;rw[decide_eq_false B];refine PW.dn ?_;refine Xy ?_;refine X7 rfl ?_;refine yBh ?_;refine Xy (P:=prog) ?_;refine PW.begin ?_;refine PW.mv ?_;refine PW.gi d λw8 l=>?_
   refine hG (w8.setCells m 0 (aA X)) λu j=>?_
   have H:=mk1 (k.out.2.grow l);have o:=mk1 (H.out.put 0 j rfl t);refine PW.st j b (H.out.th 0 rfl t) r (bQ _) ?_;refine PW.va (.bool true) ?_;refine PW.dn ?_;refine Y5 ?_;refine XE (results_ct 2 3 51 rfl (show Row u m (aA X) from o.out.at_ 0) rfl rfl uCP r) rfl ?_;exact⟨_,rfl,o.out.bl,by rw[<-b.out];rfl⟩
end
section
namespace TG
def Row(W:Xs)(k:Nat)(vs:List Xu):Prop:=k<W.heap.size/\W.rangeAt k 0 vs/\W.there k 0 vs.length
theorem row_new(w:Xs)(c:List Xu)(T:Yd):Row (w.alloc (.cells c.toArray T)) w.heap.size c:=
 have h:=Made.alloc w c T
 ⟨h.lt,h.range,h.there⟩
theorem results_ct{P:YG}{c:Func}{tmps:Array Xu}{W:Xs}{k:Nat}{vs:List Xu}{v:Xu}(t u:Zs)(T:Yd)(f:c.results=#[.cell t T,.tmp u])(h:Row W k vs)(i:tmps[t]? = some (jZ k))(hv:tmps[u]? = some v)
 (b:(P.underlying T).map (·.isRow)=some true) (e:(P.info? T).map (·.size)=some vs.length):(results c tmps).run P W=.ok (.tuple #[.agg vs.toArray,v]) W:=by
 obtain⟨d,b,hd⟩:=XA.1 b;have j:=yAA (P:=P) W k 0 T vs d h.2.1 b hd e;have l:tmps.getD t Zp=jZ k:=by rw[XI,i];rfl
 have g:tmps.getD u Zp=v:=by rw[XI,hv];rfl
 unfold results;rw[f];simp only[ZP,yA3,yBc,l,g,asAddr];simp[XT,j]
theorem below2(w:Xs)(a b:Obj):kZ w ((w.alloc a).alloc b):=((XM _ _).alloc (Xx _) _).alloc (by rw[XF];exact Nat.le_succ _) _
end TG
namespace TG
def PS(w:Xs)(v:Xu)(T:Bs):Prop:=zY w v T.toList
def Slc(v:Xu):Prop:=∃q n c,v=.slice q n c
def Two(w:Xs)(r:Nat):Prop:=∃x y,Slc x/\Slc y/\Row w r [x,y]
def Ex(r K i:Nat)(w w':Xs):Prop:=kZ w w'\/(i=K/\Two w r/\∃x y,Slc x/\Slc y/\w'=w.setCells r 0 [x,y])
def Bx(b:Xs)(r d:Nat)(f c k:Xu)(e i g:Bs)(w:Xs):Prop:=kZ b w/\Row w d [c,k]/\Two w r/\PS w f e/\PS w c i/\PS w k g
def Fin2(r:Nat)(b k:Bs)(w:Xs):Prop:=∃x y,Row w r [x,y]/\PS w x b/\PS w y k
def Xq(w:Xs)(v:Xu)(b k:Bs):Prop:=∃x y,v=.agg #[x,y]/\PS w x b/\PS w y k
def F9(j:Xs)(r c:Nat)(d g f:Xu)(e b k:Bs)(ok:Bool):Flow where
 R i v w:=match i with
  | 0=>v=d
  | 1=>v=jZ c
  | 2=>v=g
  | 3=>PS w v (lP e b)
  | 4=>v=d
  | 5=>v=oZ c 1
  | 6=>v=f
  | 7=>PS w v (lP e k)
  | 8=>Xq w v (lP e b) (lP e k)
  | 9=>v=.bool ok
  | 10=>Fin2 r (lP e b) (lP e k) w
  | _=>v=.bool ok
 B _ w:=Bx j r c d g f e b k w
 E:=Ex r 10
 kill _:=[]
 killB _:=[]
end TG
end
section
variable {P:Nat}[NeZero P]{N:Nat}
def Gl:Bs:=iU [110,111,110,101] []
theorem Ep:Gl.size=32:=bV _ _
def eE(S:Nat->Bs)(a n:Nat):Bs:=
 if _h0:n=0 then Gl else if _h1:n=1 then yL (S a) else lP (eE S a (hf n)) (eE S (a+hf n) (n-hf n))
termination_by n
decreasing_by all_goals (have:=Lc (n:=n) (by omega);omega)
theorem NL(S:Nat->Bs)(a:Nat):eE S a 0=Gl:=by rw[eE,dif_pos rfl]
theorem NK(S:Nat->Bs)(a:Nat):eE S a 1=yL (S a):=by rw[eE,dif_neg (by decide),dif_pos rfl]
theorem NJ(S:Nat->Bs)(a n:Nat)(h:2<=n):eE S a n=lP (eE S a (hf n)) (eE S (a+hf n) (n-hf n)):=by rw[eE,dif_neg (by omega),dif_neg (by omega)]
theorem jO(S:Nat->Bs)(a n:Nat):(eE S a n).size=32:=by
 rw[eE];by_cases b:n=0
 ·rw[dif_pos b];exact Ep
 ·rw[dif_neg b];by_cases k:n=1
  ·rw[dif_pos k];exact ED _
  ·rw[dif_neg k];exact Er _ _
def Fv(w:Xs)(T:Bs)(e:Xu)(w':Xs):Prop:=kZ w w'/\∃r,e=sZ r 32 32/\w.heap.size<=r/\Holds encB w' r 0 T
theorem Bt{w:Xs}{r:Nat}{T:Bs}(k:T.size=32)(h:Holds encB w r 0 T):PartOk w (sZ r 32 32) T.toList:=
 ⟨_,r,0,32,T,by rw[k],rfl,by rw[k];exact Xx _,by rw[k];decide,X0 ⟨rfl,h⟩⟩
theorem EA(q:Option YW)(n c:Nat)(b:Bs)(w:Xs)(hv:PartOk w (.slice q n c) b.toList):XH prog 47 #[.slice q n c] w (Ret (Fv w (yL b))):=by
 obtain⟨g,d⟩:∃g,Hid (w.alloc (.cells #[.slice q n c] 23)=g):=⟨_,rfl⟩
 have p:=Made.alloc w [.slice q n c] 23;have k:Made w w.heap.size [.slice q n c] g:=by rw[<-d.out];exact p
 have s:=kQ ⟨#[108,101,97,102]⟩ (some (aZ w.heap.size)) 1 [b.toList] g (by decide) (Yy rfl) (X0 ⟨_,_,rfl,λj t=>by
  have f:j=0:=by simpa using t
  subst f;exact⟨_,k.range 0 _ rfl,hv.below k.bel⟩⟩)
 have i:Hid (kZ w g):=k.bel;clear p k hv;go_enter func47,ntmps47;go_wp2_with fail
 rw[d.out];refine s.mono ?_;rintro e m ⟨r,rfl,o,f,l⟩;have K:Hid (kZ w m/\w.heap.size<=r/\Holds encB m r 0 (yL b)):=⟨i.out.trans (f.mono i.out.size),XB i.out.size o,l⟩
 clear o f l s i d;go_wp2_with fail
 go_ret;exact⟨_,rfl,K.out.1,_,rfl,K.out.2.1,K.out.2.2⟩
theorem RI(q g:Option YW)(n c o l:Nat)(b s:Bs)(w:Xs)(hv:PartOk w (.slice q n c) b.toList)(i:PartOk w (.slice g o l) s.toList):XH prog 49 #[.slice q n c,.slice g o l] w (Ret (Fv w (lP b s))):=by
 obtain⟨m,d⟩:∃m,Hid (w.alloc (.cells #[.slice q n c,.slice g o l] 23)=m):=⟨_,rfl⟩
 have x:=Made.alloc w [.slice q n c,.slice g o l] 23;have k:Made w w.heap.size [.slice q n c,.slice g o l] m:=by rw[<-d.out];exact x
 have y:=kQ ⟨#[110,111,100,101]⟩ (some (aZ w.heap.size)) 2 [b.toList,s.toList] m (by decide) (Yy rfl) (X0 ⟨_,_,rfl,λj z=>by
  have f:j=0\/j=1:=by simp at z;omega
  rcases f with rfl|rfl
  ·exact⟨_,k.range 0 _ rfl,hv.below k.bel⟩
  ·exact⟨_,k.range 1 _ rfl,i.below k.bel⟩⟩)
 have p:Hid (kZ w m):=k.bel;clear x k hv i;go_enter func49,ntmps49;go_wp2_with fail
 rw[d.out];refine y.mono ?_;rintro e u ⟨r,rfl,v,f,t⟩;have K:Hid (kZ w u/\w.heap.size<=r/\Holds encB u r 0 (lP b s)):=⟨p.out.trans (f.mono p.out.size),XB p.out.size v,t⟩
 clear v f t y p d;go_wp2_with fail
 go_ret;exact⟨_,rfl,K.out.1,_,rfl,K.out.2.1,K.out.2.2⟩
theorem Lf(b d n c:Nat)(g:2<=n)(i:n<=1048576)(o:n<=c)(w:Xs):XH prog 48 #[.slice (some ⟨b,d,none⟩) n c] w (Ret λe w'=>Below w.heap.size w w'/\e=.tuple #[.slice (some ⟨b,d,none⟩) (hf n) c,.slice (some ⟨b,d+hf n,none⟩) (n-hf n) (c-hf n)]):=by
 have hh:=Sq n g i w;have f:=Lc g;generalize hf n=k at hh f⊢;have m:∀w:Xs,(Zk 27 (.slice (some ⟨b,d,none⟩) n c) none (some (.int .i64 k)) none).run prog w=.ok (.slice (some ⟨b,d,none⟩) k c) w:=λw=>by
  have l:(k:Int)<=c:=by omega
  go_simp
 have j:∀w:Xs,(Zk 27 (.slice (some ⟨b,d,none⟩) n c) (some (.int .i64 k)) none none).run prog w=.ok (.slice (some ⟨b,d+k,none⟩) (n-k) (c-k)) w:=λw=>by
  have l:(k:Int)<=n:=by omega
  have g:(n:Int)<=c:=by omega
  have p:¬c=k:=by omega
  have q:¬c-k=0:=by omega
  go_simp
 go_enter func48,ntmps48;go_wp2_with fail
 refine hh.mono ?_;rintro e w' ⟨rfl,rfl⟩;clear hh f;go_wp2_with fail
 go_quiet (fail);go_wp2
 go_ret2
 exact⟨_,rfl,⟨rfl,rfl,rfl,Xx _,λ_ _=>rfl⟩,rfl⟩
theorem Lists.part{w:Xs}{c b n k:Nat}{S:Nat->Bs}{a:Nat}(h:Lists w (some ⟨c,b,none⟩) n (λj=>S (a+j)))(l:k<=n):Lists w (some ⟨c,b+k,none⟩) (n-k) (λj=>S (a+k+j)):=λo=>by
 obtain⟨d,g,e,f,i⟩:=h (by omega);cases e
 refine⟨c,b+k,rfl,f,λj m=>?_⟩;have:=i (k+j) (by omega);rw[<-Zu]at this;show ∃v,_/\zY w v (S (a+k+j)).toList;rw[Zu a k j];exact this
theorem Re(S:Nat->Bs):∀(N n a:Nat) (q:Option YW) (c:Nat) (w:Xs),n<=N->n<=1048576->n<=c->Lists w q n (λj=>S (a+j))->XH prog 24 #[.slice q n c] w (Ret (Fv w (eE S a n))):=by
 intro N;induction N with
 | zero =>
  intro n a q c w hN _ _ _;obtain rfl:n=0:=by omega
  rw[NL];have d:=kQ ⟨#[110,111,110,101]⟩ none 0 [] w (by decide) (Yy rfl) (X9 rfl);go_enter func24,ntmps24;go_wp2_with fail
  refine d.mono ?_;rintro e f ⟨r,rfl,m,b,g⟩;have K:Hid (kZ w f/\w.heap.size<=r/\Holds encB f r 0 Gl):=⟨b,m,g⟩
  clear m b g d;go_wp2;go_ret;exact⟨_,rfl,K.out.1,_,rfl,K.out.2.1,K.out.2.2⟩
 | succ N ih =>
  intro n a q c w hN U Q i;by_cases h0:n=0
  ·exact ih n a q c w (by omega) U Q i
  obtain⟨B,G,rfl,Z,d⟩:=i (by omega);by_cases h1:n=1
  ·subst h1;rw[NK];obtain⟨v,hv,⟨t,s,p,rfl⟩,l⟩:=d 0 (by omega);have o:=EA t s p (S a) w l;have u:w.cell? ⟨B,G,none⟩=some (.slice t s p):=hv;clear l i d ih hv;go_enter func24,ntmps24;go_wp2_with fail
   refine o.mono ?_;rintro e f ⟨v2,rfl,b,r,rfl,m,g⟩;have K:Hid (kZ w f/\w.heap.size<=r/\Holds encB f r 0 (yL (S a))):=⟨b,m,g⟩
   clear m b g o;go_wp2;go_ret;exact⟨_,rfl,K.out.1,_,rfl,K.out.2.1,K.out.2.2⟩
  ·rw[NJ S a n (by omega)];have I:=Lc (n:=n) (by omega);have M:=Hid.mk2 (Lf B G n c (by omega) U Q w);have E:Hid (∀w',kZ w w'->XH prog 24 #[.slice (some ⟨B,G,none⟩) (hf n) c] w' (Ret (Fv w' (eE S a (hf n))))):=λw' J=>ih (hf n) a _ c w' (by omega) (by omega) (by omega) ((i.less (by omega)).below J)
   have A:Hid (∀w',kZ w w'->XH prog 24 #[.slice (some ⟨B,G+hf n,none⟩) (n-hf n) (c-hf n)] w' (Ret (Fv w' (eE S (a+hf n) (n-hf n))))):=λw' J=>ih (n-hf n) (a+hf n) _ (c-hf n) w' (by omega) (by omega) (by omega) ((i.part (by omega)).below J)
   have y:=jO S a (hf n);have s:=jO S (a+hf n) (n-hf n);generalize eE S a (hf n)=C at E y⊢;generalize eE S (a+hf n) (n-hf n)=O at A s⊢;have R:¬(n:Int)=1:=by omega
   have g0:((n:Int) == 1)=false:=by simpa using R
   have V:¬(n:Int)=0:=by omega
   have g3:((n:Int) == 0)=false:=by simpa using V
   clear i d ih I R V;generalize hf n=k at M E A;go_enter func24,ntmps24;go_wp2_with fail
   refine M.out.mono ?_;rintro e W ⟨v1,rfl,u,rfl⟩;have F:Hid (kZ w W):=u;clear u M;go_wp2_with fail
   refine(E.out W F.out).mono ?_;rintro e f ⟨v2,rfl,b,P,rfl,H,t⟩;have l:Hid (kZ w f/\Holds encB f P 0 C):=⟨F.out.trans (b.mono F.out.size),t⟩
   clear b H t F E;go_wp2_with fail
   refine(A.out f l.out.1).mono ?_;rintro e D ⟨v3,rfl,g,X,rfl,L,x⟩;have m:Hid (kZ w D/\Holds encB D P 0 C/\Holds encB D X 0 O):=⟨l.out.1.trans (g.mono l.out.1.size),Holds.below l.out.2 g (Holds.lt l.out.2 (by omega)),x⟩
   clear g L x l A;go_wp2_with fail
   refine(RI (some (aZ P)) (some (aZ X)) 32 32 32 32 C O D (Bt y m.out.2.1) (Bt s m.out.2.2)).mono ?_;rintro e Y ⟨v4,rfl,p,T,rfl,z,o⟩;have K:Hid (kZ w Y/\w.heap.size<=T/\Holds encB Y T 0 (lP C O)):=⟨m.out.1.trans (p.mono m.out.1.size),XB m.out.1.size z,o⟩
   clear p z o m;go_wp2;go_ret;exact⟨_,rfl,K.out.1,_,rfl,K.out.2.1,K.out.2.2⟩
def HL(W:Xs)(B U:Nat)(v:Xu)(L:List Bs):Prop:=
 (L=[]/\v=.slice none 0 0)\/∃(g cap:Nat) (vs:List Xu) (cur:Array Xu) (k:Nat->Nat),v=sZ g L.length cap/\vs.length=L.length/\0<L.length/\B<=g/\ListAt W g cap vs cur/\(∀j,j<L.length->vs[j]! = .slice (some ⟨k j,0,none⟩) 32 32/\B<=k j/\k j<U/\L[j]!.size=32/\Holds encB W (k j) 0 L[j]!)/\∀i j,i<j->j<L.length->k i<k j
theorem MB(S:Nat->Bs)(n:Nat)(q:Option YW)(c:Nat)(w:Xs)(i:n<=1024)(f:n<=c)(b:Lists w q n S):XH prog 8 #[.slice q n c] w (Ret λe w'=>∃v,e=.tuple #[v,iZ 0]/\Fv w (eE S 0 n) v w'):=by
 have hR:=Re S n n 0 q c w (Xx _) (by omega) f (by simpa using b);have g:¬(1024:Int)<(n:Int):=by omega
 clear b;go_enter func8,ntmps8;go_wp2_with fail
 refine hR.mono ?_;rintro e d ⟨v2,rfl,k⟩;have K:Hid (Fv w (eE S 0 n) v2 d):=k;clear k hR;go_wp2
 go_ret2
 exact⟨_,rfl,_,rfl,K.out⟩
end
section
open SPA
structure EnL(w W:Xs)(i:Nat)(v:Xu)(B:Nat->Bs):Prop where
 bl:kZ w W
 ex:∃xs,W.ownsRow w.heap.size 23 1 v i xs/\∀j,j<i->∃x,xs[j]? = some x/\ElQ (λg=>w.heap.size<=g/\v.ownBlock≠some g) 1313 W x (B j)
section
variable {w W W':Xs}{i:Nat}{v:Xu}{B:Nat->Bs}
theorem EnL.grow(h:EnL w W i v B)(k:kZ W W'):EnL w W' i v B:=by
 obtain⟨xs,b,e⟩:=h.ex;refine⟨h.bl.trans (k.mono h.bl.size),xs,bG b λg f=>k.block g (bU b f).2.1,λj d=>?_⟩;obtain⟨x,l,c⟩:=e j d;exact⟨x,l,c.keep (Kq.of_below k)⟩
theorem EnL.qn(h:EnL w W i v B):∀g,W.heap.size<=g->v.ownBlock≠some g:=λg b e=>by
 obtain⟨xs,k,-⟩:=h.ex;have:=(bU k e).2.1;omega
theorem EnL.app{x:Xu}{ga:Nat}(h:EnL w W i v B)(hx:ElQ (λg=>w.heap.size<=g/\v.ownBlock≠some g) 1313 W x (B i))(t:W.cell? ⟨ga,0,none⟩=some x)(E:i<=900):
 ∃d W',(YA #[27,27] 27 #[v,sZ ga 1 1]).run prog W=.ok d W'/\EnL w W' (i+1) d B/\W.heap.size<=W'.heap.size/\∀k,k<W.heap.size->v.ownBlock≠some k->W'.heap[k]? = W.heap[k]?:=by
 obtain⟨xs,n,A⟩:=h.ex;obtain⟨d,W',r,C,b⟩:=B7 n hx.one.2 t (by omega) h.bl.size;have p:∀g,g<W.heap.size->(w.heap.size<=g/\v.ownBlock≠some g)->w.heap.size<=g/\d.ownBlock≠some g:=λg c q=>⟨q.1,λe=>by
  rcases b.mv with m|⟨⟨l,m,f⟩,-⟩
  ·rw[m]at e;exact q.2 e
  ·rw[m]at e;have:=XS.inj e;omega⟩
 have kq:Kq (λg=>w.heap.size<=g/\d.ownBlock≠some g) W W':=⟨b.size,λg q c=>by
  rcases b.mv with m|⟨-,m⟩
  ·exact b.keep g c (by rw[<-m];exact q.2)
  ·exact m g c⟩
 have f:∀g,v.ownBlock=some g->w.heap.size<=g:=λg c=>(bU n c).1
 refine⟨d,W',r,⟨⟨b.os.trans h.bl.os,b.tape.trans h.bl.tape,b.output.trans h.bl.output,XB h.bl.size b.size,λg c=>(b.keep g (Xz c h.bl.size) λe=>by have:=f g e;omega).trans (h.bl.block g c)⟩,xs++[x],C,λj D=>?_⟩,b.size,λk a o=>b.keep k a o⟩;have s:xs.length=i:=by have:=n.1;omega
 by_cases l:j<i
 ·obtain⟨y,u,z⟩:=A j l;exact⟨y,by rw[XQ (by omega)];exact u,(z.mono2 p).keep kq⟩
 ·obtain rfl:j=i:=by omega
  exact⟨x,by rw[XR (by omega),s,yA8];rfl,(hx.mono2 p).keep kq⟩
theorem EnL.set{k:Nat}{us:List Xu}(h:EnL w W i v B)(n:k<w.heap.size):∃d xs,(W.setCells k 0 us).ownsRow d 23 1 v i xs/\∀j,j<i->∃x,xs[j]? = some x/\ElQ (λ_=>True) 1313 (W.setCells k 0 us) x (B j):=by
 obtain⟨xs,c,l⟩:=h.ex;refine⟨_,xs,bG c λg b=>aE k us 0 W g (by have:=(bU c b).1;omega),λj f=>?_⟩;obtain⟨x,m,e⟩:=l j f;exact⟨x,m,(e.keep ⟨by rw[setCells_size];exact Xx _,λg b _=>aE k us 0 W g (by have:=b.1;omega)⟩).mono2 λ_ _ _=>trivial⟩
theorem AA{Q:Nat->Prop}{n:Nat}{xs:List Xu}(d:W.ownsRow n 23 1 v i xs)(m:∀j,j<i->∃x,xs[j]? = some x/\ElQ Q 1313 W x (B j)):∃q c,v=.slice q i c/\i<=c/\Lists W q i B/\(0<i->∃g,q=some (aZ g)/\g<W.heap.size/\∀j,j<i->∃x,W.cell? ⟨g,j,none⟩=some x/\ElQ Q 1313 W x (B j)):=by
 rcases id d with⟨t,⟨rfl,s⟩|⟨g,cap,cur,rfl,-,-,o,-⟩⟩
 ·exact⟨none,0,by rw[s],by omega,λb=>absurd b (by omega),λb=>absurd b (by omega)⟩
 ·refine⟨_,cap,rfl,o,λb=>⟨g,0,rfl,(bU d rfl).2.1,λj e=>?_⟩,λb=>⟨g,rfl,(bU d rfl).2.1,λj e=>?_⟩⟩
  ·obtain⟨x,f,l⟩:=m j e;refine⟨x,by rw[XD];exact jI d f,?_⟩;obtain⟨k,c,rfl,u,r,-,-,p⟩:=l;exact⟨⟨_,_,_,rfl⟩,some (aZ k),k,0,c,B j,by rw[r],rfl,by omega,by omega,X0 ⟨rfl,p⟩⟩
  ·obtain⟨x,f,l⟩:=m j e;exact⟨x,jI d f,l⟩
theorem EnL.lists(h:EnL w W i v B):∃q c,v=.slice q i c/\i<=c/\Lists W q i B:=by
 obtain⟨xs,b,d⟩:=h.ex;obtain⟨q,c,f,k,e,-⟩:=AA b d;exact⟨q,c,f,k,e⟩
end
end
section
open SPA
variable {P:Nat}[NeZero P]{N:Nat}
def zcl:List Xu:=[iZ 0,.slice none 0 0,uZ 0,.slice none 0 0]
theorem uCl:(prog.underlying 29).map (·.isRow)=some true:=kR
theorem iCl:(prog.info? 29).map (·.size)=some 4:=kR
theorem OM(O:Ord N)(n c:Nat)(q:Option YW)(K A B:Nat->Nat)(hn:n<=64)(hK:∀i,1<=K i/\K i<=3)(hA:∀i,A i<4294967296)(hB:∀i,B i<4294967296)(T:aW A n<=aW B n)(J:Bs)(h3:J.size=32)(sq:Option YW)(sc:Nat)(F:Nat->Bs)(w:Xs)(hL:OpL w q n K A B)(hs:PartOk w (.slice sq 32 sc) J.toList)
 (hW:∀i W,i<n->kZ w W->XH prog 7 #[.slice sq 32 sc,.int .u32 i,.agg (opC (K i) (A i) (B i)).toArray] W (rZ W λe w'=>ElQ (W.heap.size<=·) 1313 w' e (F i))) :
 XH prog 4 #[.slice sq 32 sc,.slice q n c] w (rZ w λe w'=>∃v r b B0 xs,e=.tuple #[v,.agg #[iZ n,sZ r 32 32,uZ ((aW B n-aW A n:Nat):Int),b],iZ 0]/\(w'.ownsRow B0 23 1 v n xs/\∀j,j<n->∃x,xs[j]? = some x/\ElQ (λ_=>True) 1313 w' x (F j))/\Holds encB w' r 0 (eE F 0 n)/\r<w'.heap.size/\ElQ (λ_=>True) 32 w' b (bx (opA N (blW N J) n))):=by
 refine hG w.heap.size λk5 z=>?_
 refine hG (w.alloc (.cells zcl.toArray 29)) λw1 G=>?_
 have K1:=mk1 ((Mp.start w).new z G);have u:=mk1 (Vv O n c q K A B hn hK hA hB T w1 (hL.below K1.out.bl));have X:=mk1 (λ(W:Xs) (hb:kZ w W)=>Io O n hn J h3 sq sc W (hs.below hb));have HX:=mk3 hL hW (Ke O (blW N J) n);have h2:decide ((64:Int)<(n:Int))=false:=decide_eq_false (by omega);generalize hT:(aW B n-aW A n:Nat)=tot at u⊢;generalize opA N (blW N J) n=bl at HX X⊢;clear hL hW hs hK hA hB T;go_enter func4,ntmps4;refine Xy ?_;refine PW.begin ?_;refine PW.va (.slice none 0 0) ?_;refine PW.al z G ?_;refine PW.va (iZ 0) ?_;refine PW.dn ?_;refine Xy ?_;refine Xy ?_;refine PW.begin ?_;refine PW.mv ?_;refine PW.va (iZ 32) ?_;refine PW.va (.bool false) ?_;refine PW.dn ?_;refine X7 rfl ?_;refine YR ?_;refine Xy ?_;refine Xy ?_;refine PW.begin ?_;refine PW.mv ?_;refine PW.va (iZ n) ?_;refine PW.va (.bool (decide ((64:Int)<(n:Int)))) ?_;rw[h2];refine PW.dn ?_;refine X7 rfl ?_;refine YR ?_;refine Xy ?_;refine PW.begin ?_;refine PW.mv ?_;refine PW.gi u.out λY M=>?_
 refine PW.mv ?_;refine PW.va (uZ tot) ?_;refine PW.va (iZ 0) ?_;refine PW.va (uZ tot) ?_;refine PW.va (iZ 0) ?_;refine PW.dn ?_;refine Xy ?_;refine Xy ?_;refine PW.begin ?_;refine PW.mv ?_;refine PW.va (.bool false) ?_;refine PW.dn ?_;refine X7 rfl ?_;refine YR ?_;have H:=mk1 (K1.out.grow M);clear K1 u M G z;have E0:Hid (EnL Y Y 0 (.slice none 0 0) F):=⟨XM _ _,[],⟨rfl,X9 ⟨rfl,rfl⟩⟩,λj hj=>absurd hj (ZV _)⟩
 refine Xy ?_;refine Xy ?_;refine PW.begin ?_;refine PW.mv ?_;refine PW.va (iZ n) ?_;refine PW.va (iZ 0) ?_;refine PW.dn ?_;refine Y6 ?_;go_loopg [4,32] n (λgk s4 s32 wr=>∃i:Nat,i+gk=n/\s32=iZ i/\Hid (EnL Y wr i s4 F))
 case atStart=>exact⟨0,by omega,rfl,E0⟩
 case round =>
  clear E0;obtain⟨i,h9,rfl,m⟩:=hrel;by_cases hi:i<n
  ·have E:(i:Int)<(n:Int):=by omega
   have V:Yh.wrap ((i:Int)+1)=((i+1:Nat):Int):=by rw[Zc];omega
   have h6:yCd.wrap (i:Int)=(i:Int):=by rw[yDg];omega
   have bw:=mk1 (H.out.bl.trans (m.out.bl.mono H.out.bl.size));obtain⟨g,rfl,hg,Q⟩:=(HX.out.1.below bw.out) (by omega);refine hG wr.heap.size λh7 o=>?_
   refine hG (wr.alloc (.cells z3.toArray 26)) λw4 S=>?_
   refine hG (w4.setCells h7 0 (opC (K i) (A i) (B i))) λw5 I=>?_
   have M4:=mk1 ((Mp.start wr).new o S);have U:=mk1 (M4.out.put 0 I);have R0:=Q i hi;obtain⟨vo,f⟩:=hE (X6 (opC (K i) (A i) (B i)).toArray);have t:=HX.out.2.1 i w5 hi (bw.out.trans (U.out.bl.mono bw.out.size));rw[f.out]at t;have d:=mk1 (m.out.grow U.out.bl);clear Q m;refine Xy ?_;refine PW.begin ?_;refine PW.va (.bool (decide ((i:Int)<(n:Int)))) ?_;rw[decide_eq_true E];refine PW.dn ?_;refine Xy ?_;refine Yx rfl ?_;refine YR ?_;refine Xy ?_;refine Y6 ?_;refine Xy ?_;refine PW.begin ?_;refine PW.mv ?_;refine PW.ns (P0 g n c i hi wr) ?_;refine PW.ro R0 f uOp iOp ?_;refine PW.al o S ?_;refine PW.va (iZ i) ?_;refine PW.st I f (M4.out.th 0) iOp (Bv _ _ _) ?_;refine PW.dn ?_;refine PW.begin (P:=prog) ?_;refine PW.mv ?_;refine PW.mv ?_;refine PW.mv ?_;refine PW.va (.int .u32 (yCd.wrap (i:Int))) ?_;rw[h6];refine PW.ro (U.out.at_ 0).2.1 f uOp iOp ?_;refine PW.ca t ?_;rintro e y ⟨a,s⟩;simp only[XK,Xt,Xv,Xw];have D:=d.out.grow a;have l:=s.mono2 (Q':=λg=>Y.heap.size<=g/\u4.ownBlock≠some g) λg' _ L=>⟨XB d.out.bl.size L,d.out.qn g' L⟩
   have h4:∃p n c,e=.slice p n c:=by obtain⟨k,c,rfl,-⟩:=s;exact⟨_,_,_,rfl⟩
   have bs:=Xf e h4 y;have bb:=aC y (.cells #[e] 23);obtain⟨v',w8,Z,C,-,-⟩:=(D.grow bb).app (ga:=y.heap.size) (l.keep (Kq.of_below bb)) ((row_new y [e] 23).2.1 0 _ rfl) (by omega);refine hG y.heap.size λhe R=>?_
   refine hG (y.alloc (.cells #[e] 23)) λw7 h8=>?_
   rw[R.out,h8.out]at bs Z;have KF:=mk1 C;clear C D d s l a M4 U R0 t bb;refine PW.ns bs ?_;refine PW.ns Z ?_;refine PW.va v' ?_;refine PW.dn ?_;refine PW.begin (P:=prog) ?_;refine PW.va (iZ (Yh.wrap ((i:Int)+1))) ?_;rw[V];go_wp2;go_roundg (gk-1)
   case measure=>omega
   case rel=>exact⟨i+1,by omega,rfl,KF⟩
  ·have E:¬(i:Int)<(n:Int):=by omega
   obtain rfl:i=n:=by omega
   obtain⟨q4,c4,rfl,h0,R⟩:=m.out.lists;have V:=mk1 (MB F i q4 c4 wr (by omega) h0 R);have bw:=mk1 (H.out.bl.trans (m.out.bl.mono H.out.bl.size));have Rk:=mk1 ((H.out.at_ 0).below m.out.bl);have lk:=(H.out.at_ 0).1;have h5:=(H.out.lt (g:=k5) (by simp)).1;clear R;refine Xy ?_;refine PW.begin ?_;refine PW.va (.bool (decide ((i:Int)<(i:Int)))) ?_;rw[decide_eq_false E];refine PW.dn ?_;refine Xy ?_;refine X7 rfl ?_;refine yBh ?_;refine Xy (P:=prog) ?_;refine PW.begin ?_;refine PW.mv ?_;refine PW.ca V.out ?_;rintro e w8 ⟨v8,rfl,l,r,rfl,ha,I⟩;simp only[XK,Xt,Xv,Xw];refine PW.mv ?_;refine PW.va (sZ r 32 32) ?_;refine PW.va (iZ 0) ?_;refine PW.va (sZ r 32 32) ?_;refine PW.va (iZ 0) ?_;refine PW.dn ?_;obtain⟨vb,L⟩:=hE (nv bl);have a:=X.out w8 (bw.out.trans (l.mono bw.out.size));rw[L.out]at a;have Q:Hid (∀W,XH prog 10 #[vb] W (rZ W λe w'=>ElQ (W.heap.size<=·) 32 w' e (bx bl)/\∃g,e=r32 g)):=by rw[<-L.out];exact λW=>eI O HX.out.2.2 W
   refine Xy ?_;refine PW.begin ?_;refine PW.mv ?_;refine PW.mv ?_;refine PW.va (iZ i) ?_;refine PW.mv ?_;refine PW.mv ?_;refine PW.mv ?_;refine PW.mv ?_;refine PW.va (iZ i) ?_;refine PW.gi a λw9 o=>?_
   refine PW.ca (Q.out w9) ?_;rintro e y ⟨s,t,D,rfl⟩;simp only[XK,Xt,Xv,Xw];have bA:=o.trans (s.mono o.size);have bB:=l.trans (bA.mono l.size);refine PW.va (.agg #[iZ i,sZ r 32 32,uZ tot,r32 D]) ?_;refine PW.va (.slice q4 i c4) ?_;refine hG (y.setCells k5 0 [iZ i,sZ r 32 32,uZ tot,r32 D]) λf d=>?_
   have C:=Rk.out.below bB;have hc:Y.heap.size<=wr.heap.size:=m.out.bl.size;have h1:Hid (Row f k5 [iZ i,sZ r 32 32,uZ tot,r32 D]):=by rw[<-d.out];exact C.put rfl
   have F1:=(m.out.grow bB).set (us:=[iZ i,sZ r 32 32,uZ tot,r32 D]) lk;have Z:r<w8.heap.size:=Holds.lt I (by rw[jO];decide);have F2:Holds encB f r 0 (eE F 0 i):=by
    rw[<-d.out];exact eU (Holds.below I bA Z) (by omega)
   have F3:ElQ (λ_=>True) 32 f (r32 D) (bx bl):=by
    rw[<-d.out];exact(t.keep ⟨by rw[setCells_size];exact Xx _,λg hg _=>aE k5 _ 0 y g (by have:=l.size;have:=o.size;omega)⟩).mono2 λ_ _ _=>trivial
   have F4:kZ w f:=by
    rw[<-d.out];exact RG.below_setCells h5 _ _ _ (bw.out.trans (bB.mono bw.out.size))
   have F5:r<f.heap.size:=by
    rw[<-d.out,setCells_size];exact Xz Z bA.size
   rw[d.out]at F1;obtain⟨B0,xs,F1,S⟩:=F1;have U:=mk3 F4 (YP F1 S) (YP F2 (YP F5 F3));have th:y.there k5 0 4:=C.2.2;clear F1 S F2 F3 F4 F5 C bA bB t I l o s m Rk V a Q;refine PW.st (cs:=[iZ i,sZ r 32 32,uZ tot,r32 D]) d (Hid.mk' rfl) th iCl kR ?_;refine PW.va (iZ 0) ?_;refine PW.dn ?_;refine Y5 ?_;refine XE (Cp 4 5 6 29 rfl h1.out rfl rfl rfl uCl iCl) rfl ?_;exact⟨_,rfl,U.out.1,_,r,r32 D,B0,xs,rfl,U.out.2.1,U.out.2.2.1,U.out.2.2.2.1,U.out.2.2.2.2⟩
end
section
open SPA
section
variable {P:YG}{ops:Array Yo}{Q:Exit->Act->Xs->Prop}{p r:Nat}{J:Iv}{fuel:Nat}{o:Yo}{listed:Array Bool}{a a':Act}{w w':Xs}{d:Option Zs}{x v:Xu}{t:Zs}{T:Yd}{b off:Nat}{cs:List Xu}
theorem AG.va(i:Nat)(x:Xu)(h:AW P ops Q p r J fuel (listed.setIfInBounds i true) a' w)(ho:ops[i]? = some o:=by(simp only[Ye,Ya,Yc])<;>rfl)(hd:o.dst=d:=by rfl)(e:YS o (yielded ops a.tmps)=true:=by kernel_rfl)(hv:∀w,(Yb a.eval o).run P w=.ok (.value x) w:=by intro _;kernel_rfl)
 (f:a.put d x=a':=by(simp only[XK,Xt,Xv,Xw])<;>rfl) (k:aw1 ops p r (fw ops i) i listed=true:=by kernel_rfl) (b:∀c a w,Q (.panic c) (a.put o.dst x) w->Q (.panic c) a w:=by exact λ_ _ _ h=>h):AW P ops Q p r J (fuel+1) listed a w:=
 AW.take i (fw ops i) ho hd (X9 ⟨e,λw _=>hv w⟩) f k b h
theorem AG.iv(i:Nat){I:Sem Xu}(f:∀w,I.run P w=.ok x w)(h:AW P ops Q p r J fuel (listed.setIfInBounds i true) a' w)(ho:ops[i]? = some o:=by(simp only[Ye,Ya,Yc])<;>rfl)(hd:o.dst=d:=by rfl)(e:YS o (yielded ops a.tmps)=true:=by kernel_rfl)(g:Yb a.eval o=I >>= λv=>pure (ZN v):=by kernel_rfl)
 (j:a.put d x=a':=by(simp only[XK,Xt,Xv,Xw])<;>rfl) (k:aw1 ops p r (fw ops i) i listed=true:=by kernel_rfl) (b:∀c a w,Q (.panic c) (a.put o.dst x) w->Q (.panic c) a w:=by exact λ_ _ _ h=>h):AW P ops Q p r J (fuel+1) listed a w:=
 AW.take i (fw ops i) ho hd (X9 ⟨e,λw _=>by rw[g,XT,f w];rfl⟩) j k b h
theorem AG.ce(i:Nat)(g:(P.underlying T).map (·.isRow)=some false)(m:∀W,J.p W->W.cell? ⟨b,off,none⟩=some x)(h:AW P ops Q p r J fuel (listed.setIfInBounds i true) a' w)(ho:ops[i]? = some o:=by(simp only[Ye,Ya,Yc])<;>rfl)(hd:o.dst=d:=by rfl)(l:YS o (yielded ops a.tmps)=true:=by kernel_rfl)(k:o.op=.load T (.tmp t):=by rfl)(hx:a.eval (.tmp t)=oZ b off:=by rfl)
 (n:a.put d x=a':=by(simp only[XK,Xt,Xv,Xw])<;>rfl) (f:aw1 ops p r (qw ops J.b p r i) i listed=true:=by kernel_rfl) (j:∀c a w,Q (.panic c) (a.put o.dst x) w->Q (.panic c) a w:=by exact λ_ _ _ h=>h):AW P ops Q p r J (fuel+1) listed a w:=
 AW.take i (qw ops J.b p r i) ho hd (X9 ⟨l,λw e=>by
  unfold Yb;rw[k];dsimp only;rw[hx,XT,eN (m w (Sa.bel e)) g];rfl⟩) n f j h
end
end
end Go.Proofs.YtlofhpkoaljmeaaGreat
