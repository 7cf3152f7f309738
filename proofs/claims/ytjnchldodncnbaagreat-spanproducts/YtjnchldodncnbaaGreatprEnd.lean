import Derived.BigQuiet
import Derived.StillTailTactics
import Derived.Deep.LoopGhost
import Derived.ChangeOld
import Derived.Below
import Derived.WalkKit
import Derived.ProofKit
import Derived.OpenShut
import Derived.ShutString
import Derived.SliceStrings
import Derived.SizedLaws
import Derived.Test.YtjnchldodncnbaaGreatpr8
set_option linter.unusedVariables false
set_option linter.constructorNameAsVariable false
set_option linter.unusedSimpArgs false
set_option maxRecDepth 1000000
set_option maxHeartbeats 4000000
namespace Go.Proofs.YtjnchldodncnbaaGreat
open _root_.And renaming intro->U8
open _root_.Array renaming all_eq_true'->Vu,size_append->UA,size_setIfInBounds->Up
open _root_.ByteArray renaming empty->YZ,mk->XE
open _root_.Fin renaming ofNat->Vy
open _root_.Go renaming Addr->V5,Calls->TW,Oper->UI,Program->Vd,TypeId->Uw,Value->TC,World->TA,bodyPost_ret->TM,execOp->UD,wpList_load_mid->UL,wpList_store_mid->Ui
open _root_.Go.Act renaming put->Ug
open _root_.Go.Addr renaming add->XI
open _root_.Go.Builtin renaming append_->Ur
open _root_.Go.DataW renaming trod_lt->yBm
open _root_.Go.Instr renaming box->U6,indexAt->UP,sliceAt->VP
open _root_.Go.IntKind renaming u8->Yo
open _root_.Go.Lib renaming wpList_append_run->Vi
open _root_.Go.Next renaming value->Ww
open _root_.Go.RowKit.Below renaming refl->TX,trod->yBJ
open _root_.Go.Sem renaming run_bind->Ue
open _root_.Go.Value renaming agg->Um,cells->yBy,ownBlock->VO,slice->V1
open _root_.Go.World renaming cell?->WN,size_alloc->TQ
open _root_.List renaming drop->Vx,getElem?_append_left->UB,getElem?_append_right->U1,getElem?_eq_getElem->TZ,getElem?_eq_some_iff->T9,getElem?_map->UX,getElem?_range->Za,length_append->TT,length_cons->Uy,length_nil->WS,length_singleton->yAd,map_append->Ye,map_cons->V2,map_nil->Zx,mem_append->WA,mem_cons->U0,mem_of_getElem?->Vb,mem_singleton->XA,nodup_cons->Wy,not_mem_nil->Ud,range->US,range_succ->Ya,setIfInBounds_toArray->TD,set_cons_succ->TK,set_cons_zero->TL,size_toArray->UH,take->Vw
open _root_.Nat renaming add_mul->WE,add_sub_cancel->Yr,add_zero->VK,le_of_eq->WG,le_refl->TG,le_trans->TU,lt_irrefl->yBv,lt_of_le_of_lt->Zo,lt_of_lt_of_le->TF,lt_of_sub_eq_succ->Ws,mul_assoc->VV,mul_comm->Ut,not_lt_zero->VC,pow_le_pow_right->Ve,pow_pos->WR,pow_succ->Vk,pow_zero->Wx,reduceAdd->UJ,sub_self->Yg,two_mul->yBM,zero_add->TO,zero_le->VH
open _root_.Option renaming isSome_iff_exists->UT,map_eq_some_iff->TJ,some->Uc
open _root_.Or renaming inl->Ub,inr->T8
open _root_.Prod renaming mk->Vz
open _root_.UInt8 renaming ofNat->TV
open Go.Proofs.Tryz
section
open Go.RowKit Go.Sort Go.Deep SPA
variable {P:Nat}[NeZero P]{N:Nat}
abbrev NtQ(Q:Nat->Prop)(W:TA)(v:TC)(n:Nat)(a:Nat->Nat):Prop:=RwQ 4 (λj=>wn (a j)) Q W v n
theorem iFs:(prog.info? 112).map (·.size)=some rl1.toArray.size:=kR
theorem vH:rl1.toArray.all (·.oneCell')=true:=kR
theorem uNf:(prog.underlying 68).map (·.isRow)=some true:=u33
theorem NW:prog.underlying 67=some (.slice 68):=kR
theorem Rf:(prog.info? 68).map (λi=>(i.size,i.bytes,i.zero.map λz=>z.cells.size))=some (4,32,some 4):=kR
theorem NG{base k g:Nat}{v:TC}{xs:List TC}(t:Nat){W:TA}(b:W.ownsRow base 68 4 v k xs)(y:Row W g (wn t))(a:k<=1000000)(n:base<=W.heap.size):
 ∃c W',(Ur #[67,67] 67 #[v,.slice (some (aZ g)) 1 1]).run prog W=.ok c W'/\W'.ownsRow base 68 4 c (k+1) (xs++wn t)/\W.grownBy W' v.ownBlock:=by
 obtain⟨i,o,e⟩:=TJ.1 Rf;simp only[Vz.injEq]at e;obtain⟨x,m,q⟩:=e;obtain⟨z,p,d⟩:=TJ.1 q;obtain⟨c,W',s,r,w,-⟩:=run_append_own (P:=prog) W base 67 67 68 i z 4 32 NW o p x m d dC v k xs b (aZ g) 1 1 (wn t) rfl
  (λj u l=>by
   have:=y.2.1 j u l;rw[TO]at this;rw[show(⟨g,0,none⟩:V5).add j=⟨g,j,none⟩ by unfold XI;split<;>simp_all];exact this) (λu f=>Vu.1 (bT t) u (by simpa using f)) (by unfold maxLen;omega) oM n
 exact⟨c,W',s,r,w⟩
theorem atN(k o n c i:Nat)(b:i<n)(w:TA):(UP 67 (.slice (some ⟨k,o,none⟩) n c) (iZ i)).run prog w=.ok (.pointer (some ⟨k,o+4*i,none⟩)) w:=by
 go_simp
theorem Oc(b o n c k:Nat)(d:k<=c)(w:TA):(VP 67 (.slice (some ⟨b,o,none⟩) n c) none (some (iZ k)) none).run prog w=.ok (.slice (some ⟨b,o,none⟩) k c) w:=by
 go_simp
theorem Ob(b o n c k:Nat)(j:k<n)(d:n<=c)(w:TA):(VP 67 (.slice (some ⟨b,o,none⟩) n c) (some (iZ k)) none none).run prog w=.ok (.slice (some ⟨b,o+4*k,none⟩) (n-k) (c-k)) w:=by
 have i:¬(k:Int)<0:=oM;have f:(k:Int)<=(n:Int):=oM;have g:¬c=k:=oM;have e:=FN b o (4*k);go_simp
theorem NtQ.cut{Q:Nat->Prop}{W:TA}{v:TC}{m:Nat}{a:Nat->Nat}(h:NtQ Q W v (m+m) a)(e:0<m):∃vl b,(∀W,(VP 67 v none (some (iZ m)) none).run prog W=.ok vl W)/\(∀W,(VP 67 v (some (iZ m)) none none).run prog W=.ok b W)/\∀Q W,NtQ Q W v (m+m) a->NtQ Q W vl m a/\NtQ Q W b m λj=>a (m+j):=by
 obtain⟨g,o,c,rfl,d,-⟩:=h;have k:=Ob g o (m+m) c m oM d;rw[Yr]at k;exact⟨_,_,Oc g o (m+m) c m oM,k,λQ W h=>⟨h.low,h.high⟩⟩
theorem PtQ.cut{P:Nat}{Q:Nat->Prop}{W:TA}{v:TC}{m:Nat}{t:Nat->T3 P}(h:PtQ Q W v (m+m) t)(e:0<m):∃vl b,(∀W,(VP 71 v none (some (iZ m)) none).run prog W=.ok vl W)/\(∀W,(VP 71 v (some (iZ m)) none none).run prog W=.ok b W)/\∀Q W,PtQ Q W v (m+m) t->PtQ Q W vl m t/\PtQ Q W b m λj=>t (m+j):=by
 obtain⟨g,o,c,rfl,d,-⟩:=h;have k:=N9 g o (m+m) c m oM d;rw[Yr]at k;exact⟨_,_,Oa g o (m+m) c m oM,k,λQ W h=>⟨h.low,h.high⟩⟩
end
section
open Go.RowKit Go.Sort Go.Deep SPA
theorem dD{w k:TA}{g:Nat}{z:List TC}{T:Uw}(b:Hid (w.heap.size=g))(c:Hid (w.alloc (.cells z.toArray T)=k)):Hid (Below w.heap.size w k/\Row k g z):=by
 rw[<-c.out,<-b.out];exact⟨aD _ _,aE w _ _⟩
theorem jA{w k b:TA}{g:Nat}{z vs:List TC}{T:Uw}(c:Hid (w.heap.size=g))(f:Hid (w.alloc (.cells z.toArray T)=k))(e:Hid (k.setCells g 0 vs=b))(d:vs.length=z.length):Hid (k.there g 0 vs.toArray.size/\Below w.heap.size w b/\Row b g vs):=by
 have h:=(dD c f).out;rw[<-e.out];exact⟨by rw[UH,d];exact h.2.2.2,RG.below_setCells (by rw[c.out];exact TG _) _ _ _ h.1,h.2.put d⟩
theorem Row.th{W:TA}{k m:Nat}{b vs:List TC}(h:Row W k vs)(d:b.length=m)(c:vs.length=m):W.there k 0 b.toArray.size:=by
 rw[UH,d,<-c];exact h.2.2
variable {N:Nat}
theorem IA(O:Ord N)(a b:Fin N):Gives 55 #[rv1,nv a.val,nv b.val] (nv (a*b).val):=by rw[zU];exact OA O a.isLt b.isLt
theorem Nn(O:Ord N)(a b:Fin N):Gives 60 #[rv1,nv a.val,nv b.val] (nv (a+b).val):=by rw[Di];exact OE O a.isLt b.isLt
variable [NeZero N]
theorem RA(O:Ord N)(n:Nat)(h3:n<=64)(a b:Nat->Fin N)(va vb:TC)(w:TA)(Y:NtQ (λ_=>True) w va n λj=>(a j).val)(d:NtQ (λ_=>True) w vb n λj=>(b j).val):
 TW prog 26 #[va,vb] w (rZ w λe w'=>e=nv (Md.pr a b n).val):=by
 obtain⟨ga,P,ca,rfl,h5,-,z,J⟩:=Y;obtain⟨T,R,cb,rfl,h6,-,I,C⟩:=d;obtain⟨k,hk⟩:=hE (w.heap.size);obtain⟨w1,G⟩:=hE (w.alloc (.cells (wn 0).toArray 68));have S:=dD hk G;have y:=mk4 z I J C;have cT:Hid (∀j,Gives 55 #[rv1,nv (a j).val,nv (b j).val] (nv (a j*b j).val)/\Gives 60 #[rv1,nv (Md.pr a b j).val,nv (a j*b j).val] (nv (Md.pr a b (j+1)).val)):=λj=>⟨IA O _ _,Nn O (Md.pr a b j) (a j*b j)⟩
 have t0:Hid (wn 0=wn (Md.pr a b 0).val):=by show _=wn (0%N);rw[Nat.zero_mod]
 obtain⟨t,ht⟩:∃t:Nat->Nat,∀j,(Md.pr a b j).val=t j:=⟨_,λ_=>rfl⟩
 obtain⟨A,Y⟩:∃t:Nat->Nat,∀j,(a j).val=t j:=⟨_,λ_=>rfl⟩
 obtain⟨B,d⟩:∃t:Nat->Nat,∀j,(b j).val=t j:=⟨_,λ_=>rfl⟩
 obtain⟨M,hM⟩:∃t:Nat->Nat,∀j,(a j*b j).val=t j:=⟨_,λ_=>rfl⟩
 simp only[ht,Y,d,hM]at cT t0 y⊢;obtain⟨vq,H⟩:=hE (Um rl1.toArray);have cQ:Hid (Gives 49 #[] vq):=by rw[<-H.out];exact Kf
 have HN:=Hid.mk' h3;clear z I J C O ht Y d hM;go_enter func26,ntmps26;go_wp2_with (first|(refine alR 4 hk G ?_)|fail)
 refine(cQ w1).mono ?_;rintro e w2 ⟨uu,rfl,g,rfl⟩;obtain⟨p,q⟩:=hE (w2.heap.size);obtain⟨w3,x⟩:=hE (w2.alloc (.cells (RG.z 8).toArray 112));obtain⟨w4,D⟩:=hE (w3.setCells p 0 rl1);obtain⟨F,o⟩:=hE (w4.heap.size);obtain⟨Q,v⟩:=hE (w4.alloc (.cells (wn 0).toArray 68));have E:=jA q x D rfl;have FO:=dD o v;have r:=(g.trans (E.2.1.mono g.size)).trans (FO.1.mono (TU g.size E.2.1.size));have K5:Hid (Below w.heap.size w Q/\Row Q k (wn 0)/\Row Q p rl1/\Row Q F (wn (t 0))):=⟨S.1.trans (r.mono S.1.size),S.2.below r,E.2.2.below FO.1,by rw[<-t0.out];exact FO.2⟩
 have U:Hid (k<p/\p<F/\w.heap.size<=k):=⟨by have:=S.2.1;have:=g.size;have:=q.out;omega,by have:=E.2.2.1;have:=o.out;omega,by have:=hk.out;omega⟩
 clear g r cQ t0;go_wp2_with (first|(refine alR 5 q x ?_)|(refine Ui rfl 112 (.tmp 5) _ rfl p 0 rl1.toArray ?_ ?_ ?_ ?_ ?_ ?_;rfl;exact H.out.symm;exact E.1;exact iFs;exact vH;rw[show rl1.toArray.toList=rl1 from rfl,D.out])|(refine alR 6 o v ?_)|fail)
 go_loopg [7] n (λm s7 W=>∃i:Nat,i+m=n/\s7=iZ i/\Hid (Below w.heap.size w W/\Row W k (wn 0)/\Row W p rl1/\Row W F (wn (t i))))
 case atStart=>exact⟨0,oM,rfl,K5⟩
 case round =>
  obtain⟨i,h4,rfl,c⟩:=hrel;by_cases hi:i<n
  ·have h0:(i:Int)<(n:Int):=oM;have s:=Hid.mk' hi;go_wp2_with fail
   obtain⟨c1,c2⟩:=cT.out i;refine(RG.gwL [RG.pE rv1,RG.pE (nv (t i)),RG.pE rv1,RG.pE (.slice (some ⟨ga,P,none⟩) n ca),RG.pE (iZ i),RG.pE (.pointer (some ⟨ga,P+4*i,none⟩)),RG.pE (nv (A i)),RG.pE (.slice (some ⟨T,R,none⟩) n cb),RG.pE (iZ i),RG.pE (.pointer (some ⟨T,R+4*i,none⟩)),RG.pE (nv (B i)),RG.pE (nv (M i)),RG.pE (nv (t (i+1)))] (λW=>Below wr.heap.size wr W) (λW W' hb h=>h.trans (hb.mono h.size))).tail2 13 kR kR kR ⟨
    RG.gLo 5 (λW d=>(c.2.2.1.below d).2.1) uFq iFq,
    RG.gLo 6 (λW d=>(c.2.2.2.below d).2.1) u33 i33,
    RG.gLo 5 (λW d=>(c.2.2.1.below d).2.1) uFq iFq,
    RG.gO 0 (.slice (some ⟨ga,P,none⟩) n ca),
    RG.gO 7 (iZ i),
    RG.gX 3 18 4 19 (atN ga P n ca i s.out),
    RG.gLr 5 20 (λW d=>RG.range_below (y.2.2.1 i s.out) (c.1.trans (d.mono c.1.size)) y.1) u33 i33,
    RG.gO 1 (.slice (some ⟨T,R,none⟩) n cb),
    RG.gO 7 (iZ i),
    RG.gX 7 22 8 23 (atN T R n cb i s.out),
    RG.gLr 9 24 (λW d=>RG.range_below (y.2.2.2 i s.out) (c.1.trans (d.mono c.1.size)) y.2.1) u33 i33,
    RG.gC3 2 17 6 21 10 25 c1,
    RG.gC3 0 15 1 16 11 26 c2,yB5⟩ (TX _ _).drew ?_
   intro V W9 Z l;have K:=Z 12 dC;obtain⟨X,u⟩:=hE (W9.setCells F 0 (wn (t (i+1))));obtain⟨vt,f⟩:=hE (nv (t (i+1)));have r9:=Hid.mk' (c.2.2.2.below l);have L:Hid (Below w.heap.size w X/\Row X k (wn 0)/\Row X p rl1/\Row X F (wn (t (i+1)))):=by
    rw[<-u.out];have h1:=U.1;have h2:=U.2.1;exact⟨RG.below_setCells (by have:=U.2.2;omega) _ _ _ (c.1.trans (l.mono c.1.size)),(c.2.1.below l).other oM,(c.2.2.1.below l).other oM,r9.put rfl⟩
   dsimp only[RG.bW,UJ,Vw,Vx];simp only[Ug,TD,TK,TL];rw[K,show nv (t (i+1))=vt from f.out];go_wp2_with (first|(refine stR 6 u f r9.2.2 i33 (bT (t (i+1))) ?_)|fail)
   go_roundg (gk-1)
   case measure=>have:=s.out;omega
   case rel=>exact⟨i+1,by have:=s.out;omega,rfl,L⟩
  ·have h0:¬(i:Int)<(n:Int):=oM;obtain rfl:i=n:=oM;obtain⟨X,u⟩:=hE (wr.setCells k 0 (wn (t i)));obtain⟨vt,f⟩:=hE (nv (t i));have L:Hid (Below w.heap.size w X/\Row X k (wn (t i))):=by
    rw[<-u.out];exact⟨RG.below_setCells U.2.2 _ _ _ c.1,c.2.1.put rfl⟩
   go_wp2_with (first|(refine ldR 6 c.2.2.2.2.1 f u33 i33 ?_)|(refine stR 4 u f c.2.1.2.2 i33 (bT (t i)) ?_)|fail)
   refine TM (aL 4 68 rfl L.2 rfl u33 i33) rfl ?_;exact⟨_,rfl,L.1,rfl⟩
end
section
open Go.RowKit Go.Sort Go.Deep SPA
variable {P:Nat}[NeZero P]{N:Nat}[NeZero N]
def smT(a:Nat->Fin N)(k:Nat->T3 P):Nat->T3 P
 | 0=>(0,1,0)
 | n+1=>plF (smT a k n) (tmF (a n).val (k n) 256)
theorem EB(C:Fl3 P)(k:∀r:EC.Pt P,EC.On r->EC.mul N r=none)(c:N<=top)(a:Nat->Fin N)(b:Nat->T3 P)(X:Nat->OnP P):∀n,(∀j,j<n->FracT (b j) (X j).1)->FracT (smT a b n) ((aO C.toFld k).dt a X n).1
 | 0,_=>FracT.none
 | n+1,h=>(B8 C k (EB C k c a b X n λj d=>h j (Nat.lt_succ_of_lt d)) (yX C k c (a n) (h n (Nat.lt_succ_self n))).2).2
theorem Ij(C:Fl3 P)(b:∀r:EC.Pt P,EC.On r->EC.mul N r=none)(O:N<=top)(n:Nat)(h5:n<=64)(a:Nat->Fin N)(c:Nat->T3 P)(X:Nat->OnP P)(g:∀j,j<n->FracT (c j) (X j).1)(va vb:TC)(w:TA)(T:NtQ (λ_=>True) w va n λj=>(a j).val)(u:PtQ (λ_=>True) w vb n c):
 TW prog 24 #[va,vb] w (rZ w λe w'=>e=tv (smT a c n)):=by
 obtain⟨ga,L,Y,rfl,h3,-,B,I⟩:=T;obtain⟨S,Q,cb,rfl,h4,-,H,D⟩:=u;obtain⟨k,hk⟩:=hE (w.heap.size);obtain⟨w1,G⟩:=hE (w.alloc (.cells zP.toArray 74));have R:=dD hk G;have z:=mk4 B H I D;have cT:Hid (∀j,j<n->Gives 25 #[nv (a j).val,tv (c j)] (tv (tmF (a j).val (c j) 256))/\Gives 23 #[tv (smT a c j),tv (tmF (a j).val (c j) 256)] (tv (smT a c (j+1)))):=λj hj=>⟨(yX C b O (a j) (g j hj)).1,(B8 C b (EB C b O a c X j λi Z=>g i (Nat.lt_trans Z hj)) (yX C b O (a j) (g j hj)).2).1⟩
 have K:Hid (Gives 57 #[] (tv (smT a c 0))):=Eo C;obtain⟨t,ht⟩:=hE (smT a c);obtain⟨A,T⟩:∃t:Nat->Nat,∀j,(a j).val=t j:=⟨_,λ_=>rfl⟩
 obtain⟨M,hM⟩:∃t:Nat->T3 P,∀j,tmF (A j) (c j) 256=t j:=⟨_,λ_=>rfl⟩
 simp only[ht.out,T,hM]at cT K z⊢;obtain⟨v0,F⟩:=hE (tv (t 0));rw[F.out]at K;clear B H I D ht T hM g O;go_enter func24,ntmps24;go_wp2_with (first|(refine alR 4 hk G ?_)|fail)
 refine(K w1).mono ?_;rintro e w2 ⟨uu,rfl,l,rfl⟩;obtain⟨o,s⟩:=hE (w2.heap.size);obtain⟨w3,y⟩:=hE (w2.alloc (.cells zP.toArray 74));obtain⟨w4,E⟩:=hE (w3.setCells o 0 (tw (t 0)));have FO:=jA s y E rfl;have v:=l.trans (FO.2.1.mono l.size);have K5:Hid (Below w.heap.size w w4/\Row w4 k zP/\Row w4 o (tw (t 0))):=⟨R.1.trans (v.mono R.1.size),R.2.below v,FO.2.2⟩
 have HK:Hid (k<o/\w.heap.size<=k):=⟨by have:=R.2.1;have:=l.size;have:=s.out;omega,by have:=hk.out;omega⟩
 clear l v K;go_wp2_with (first|(refine alR 5 s y ?_)|(refine Ui rfl 74 (.tmp 5) _ rfl o 0 (tw (t 0)).toArray ?_ ?_ ?_ ?_ ?_ ?_;rfl;exact F.out.symm;exact FO.1;exact iP3;exact qE (t 0);rw[show(tw (t 0)).toArray.toList=tw (t 0) from rfl,E.out])|fail)
 go_loopg [6] n (λm s6 W=>∃i:Nat,i+m=n/\s6=iZ i/\Hid (Below w.heap.size w W/\Row W k zP/\Row W o (tw (t i))))
 case atStart=>exact⟨0,oM,rfl,K5⟩
 case round =>
  obtain⟨i,h2,rfl,d⟩:=hrel;by_cases Z:i<n
  ·have h0:(i:Int)<(n:Int):=oM;have q:=Hid.mk' Z;go_wp2_with fail
   obtain⟨c1,c2⟩:=cT.out i q.out;refine(RG.gwL [RG.pE (tv (t i)),RG.pE (.slice (some ⟨ga,L,none⟩) n Y),RG.pE (iZ i),RG.pE (.pointer (some ⟨ga,L+4*i,none⟩)),RG.pE (nv (A i)),RG.pE (.slice (some ⟨S,Q,none⟩) n cb),RG.pE (iZ i),RG.pE (.pointer (some ⟨S,Q+12*i,none⟩)),RG.pE (tv (c i)),RG.pE (tv (M i)),RG.pE (tv (t (i+1)))] (λW=>Below wr.heap.size wr W) (λW W' hb h=>h.trans (hb.mono h.size))).tail2 11 kR kR kR ⟨
    RG.gLo 5 (λW u=>(d.2.2.below u).2.1) uP3 iP3,
    RG.gO 0 (.slice (some ⟨ga,L,none⟩) n Y),
    RG.gO 6 (iZ i),
    RG.gX 1 15 2 16 (atN ga L n Y i q.out),
    RG.gLr 3 17 (λW u=>RG.range_below (z.2.2.1 i q.out) (d.1.trans (u.mono d.1.size)) z.1) u33 i33,
    RG.gO 1 (.slice (some ⟨S,Q,none⟩) n cb),
    RG.gO 6 (iZ i),
    RG.gX 5 19 6 20 (P8 S Q n cb i q.out),
    RG.gLr 7 21 (λW u=>RG.range_below (z.2.2.2 i q.out) (d.1.trans (u.mono d.1.size)) z.2.1) uP3 iP3,
    RG.gC2 4 18 8 22 c1,
    RG.gC2 0 14 9 23 c2,yB5⟩ (TX _ _).drew ?_
   intro V W9 U p;have hV:=U 10 dC;obtain⟨X,x⟩:=hE (W9.setCells o 0 (tw (t (i+1))));obtain⟨vt,f⟩:=hE (tv (t (i+1)));have r9:=Hid.mk' (d.2.2.below p);have J:Hid (Below w.heap.size w X/\Row X k zP/\Row X o (tw (t (i+1)))):=by
    rw[<-x.out];have h1:=HK.1;exact⟨RG.below_setCells (by have:=HK.2;omega) _ _ _ (d.1.trans (p.mono d.1.size)),(d.2.1.below p).other oM,r9.put ((uS _).trans (uS _).symm)⟩
   dsimp only[RG.bW,UJ,Vw,Vx];simp only[Ug,TD,TK,TL];rw[hV,show tv (t (i+1))=vt from f.out];go_wp2_with (first|(refine Ui rfl 74 (.tmp 5) _ rfl o 0 (tw (t (i+1))).toArray ?_ ?_ ?_ ?_ ?_ ?_;rfl;exact f.out.symm;exact r9.th (uS _) (uS _);exact iP3;exact qE (t (i+1));rw[show(tw (t (i+1))).toArray.toList=tw (t (i+1)) from rfl,x.out])|fail)
   go_roundg (gk-1)
   case measure=>have:=q.out;omega
   case rel=>exact⟨i+1,by have:=q.out;omega,rfl,J⟩
  ·have h0:¬(i:Int)<(n:Int):=oM;obtain rfl:i=n:=oM;obtain⟨X,x⟩:=hE (wr.setCells k 0 (tw (t i)));obtain⟨vt,f⟩:=hE (tv (t i));have J:Hid (Below w.heap.size w X/\Row X k (tw (t i))):=by
    rw[<-x.out];exact⟨RG.below_setCells HK.2 _ _ _ d.1,d.2.1.put kR⟩
   go_wp2_with (first|(refine ldR 5 d.2.2.2.1 f uP3 iP3 ?_)|(refine Ui rfl 74 (.tmp 4) _ rfl k 0 (tw (t i)).toArray ?_ ?_ ?_ ?_ ?_ ?_;rfl;exact f.out.symm;exact d.2.1.th (uS _) kR;exact iP3;exact qE (t i);rw[show(tw (t i)).toArray.toList=tw (t i) from rfl,x.out])|fail)
   refine TM (aL 4 74 rfl J.2 rfl uP3 iP3) rfl ?_;exact⟨_,rfl,J.1,rfl⟩
end
section
open Go.RowKit Go.Sort Go.Deep SPA
variable {P:Nat}[NeZero P]{N:Nat}
theorem EZ(O:Ord N)(X Y:Fin N)(n:Nat)(hn:0<n)(h8:n<=64)(a b:Nat->Fin N)(va vb:TC)(w:TA)(hA:NtQ (λ_=>True) w va n λj=>(a j).val)(c:NtQ (λ_=>True) w vb n λj=>(b j).val):
 TW prog 66 #[nv X.val,va,nv Y.val,vb] w (rZ w λe w'=>NtQ (w.heap.size<=·) w' e n λj=>(X*a j+Y*b j).val):=by
 obtain⟨ga,oa,ca,rfl,hc,-,J,h1⟩:=hA;obtain⟨gb,ob,cb,rfl,he,-,Z,K⟩:=c;obtain⟨k,hk⟩:=hE (w.heap.size);obtain⟨C,T⟩:=hE (w.alloc (.cells (wn X.val).toArray 68));have F1:=dD hk T;obtain⟨k1,h2⟩:=hE (C.heap.size);obtain⟨z,h0⟩:=hE (C.alloc (.cells (wn Y.val).toArray 68));have F2:=dD h2 h0;have R:=F1.1.trans (F2.1.mono F1.1.size);have K2:Hid (Below w.heap.size w z/\Row z k (wn X.val)/\Row z k1 (wn Y.val)):=⟨R,F1.2.below F2.1,F2.2⟩
 have G:=mk4 J Z h1 K;have cT:Hid (∀j,Gives 55 #[rv1,nv X.val,nv (a j).val] (nv (X*a j).val)/\Gives 55 #[rv1,nv Y.val,nv (b j).val] (nv (Y*b j).val)/\Gives 60 #[rv1,nv (X*a j).val,nv (Y*b j).val] (nv (X*a j+Y*b j).val)):=λj=>⟨IA O _ _,IA O _ _,Nn O _ _⟩
 obtain⟨t,ht⟩:∃t:Nat->Nat,∀j,(X*a j+Y*b j).val=t j:=⟨_,λ_=>rfl⟩
 obtain⟨A,hA⟩:∃t:Nat->Nat,∀j,(a j).val=t j:=⟨_,λ_=>rfl⟩
 obtain⟨B,c⟩:∃t:Nat->Nat,∀j,(b j).val=t j:=⟨_,λ_=>rfl⟩
 obtain⟨M,hM⟩:∃t:Nat->Nat,∀j,(X*a j).val=t j:=⟨_,λ_=>rfl⟩
 obtain⟨M2,P⟩:∃t:Nat->Nat,∀j,(Y*b j).val=t j:=⟨_,λ_=>rfl⟩
 simp only[ht,hA,c,hM,P]at cT G⊢;have B1:Hid ((U6 68 (nv X.val)).run prog w=.ok (pZ k) C):=by rw[<-T.out,<-hk.out];exact Fz X.val w
 have B2:Hid ((U6 68 (nv Y.val)).run prog C=.ok (pZ k1) z):=by rw[<-h0.out,<-h2.out];exact Fz Y.val C
 have HN:=mk2 hn h8;obtain⟨vx,I⟩:=hE (nv X.val);obtain⟨vy,h3⟩:=hE (nv Y.val);rw[I.out]at B1;rw[h3.out]at B2;rw[I.out,h3.out];obtain⟨vq,U⟩:=hE (Um rl1.toArray);have cQ:Hid (Gives 49 #[] vq):=by rw[<-U.out];exact Kf
 clear J Z h1 K O ht R hA c hM P;go_enter func66,ntmps66;go_wp2_with (first|(refine aM (u:=vx) (v:=pZ k) (w':=C) rfl 68 (.tmp 0) rfl ?_ ?_ ?_;rfl;exact B1.out)|(refine aM (u:=vy) (v:=pZ k1) (w':=z) rfl 68 (.tmp 2) rfl ?_ ?_ ?_;rfl;exact B2.out)|fail)
 refine(cQ z).mono ?_;rintro e w3 ⟨uu,rfl,r,rfl⟩;obtain⟨kq,Q⟩:=hE (w3.heap.size);obtain⟨w4,L⟩:=hE (w3.alloc (.cells (RG.z 8).toArray 112));obtain⟨d,F⟩:=hE (w4.setCells kq 0 rl1);have FQ:=jA Q L F rfl;have o:=r.trans (FQ.2.1.mono r.size);have l:Hid (Below w.heap.size w d/\Row d k (wn X.val)/\Row d k1 (wn Y.val)/\Row d kq rl1):=⟨K2.1.trans (o.mono K2.1.size),K2.2.1.below o,K2.2.2.below o,FQ.2.2⟩
 have K0:Hid (Below d.heap.size d d/\d.ownsRow d.heap.size 68 4 (.slice none 0 0) 0 (t6 (λj=>wn (t j)) 0)):=⟨TX _ _,rfl,Ub ⟨rfl,rfl⟩⟩
 clear r o cQ;go_wp2_with (first|(refine alR 9 Q L ?_)|(refine Ui rfl 112 (.tmp 9) _ rfl kq 0 rl1.toArray ?_ ?_ ?_ ?_ ?_ ?_;rfl;exact U.out.symm;exact FQ.1;exact iFs;exact vH;rw[show rl1.toArray.toList=rl1 from rfl,F.out])|fail)
 go_loopg [10,11] n (λm s10 s11 W=>∃i:Nat,i+m=n/\s11=iZ i/\Hid (Below d.heap.size d W/\W.ownsRow d.heap.size 68 4 s10 i (t6 (λj=>wn (t j)) i)))
 case atStart=>exact⟨0,oM,rfl,K0⟩
 case round =>
  obtain⟨i,ha,rfl,S⟩:=hrel;by_cases hi:i<n
  ·have h6:(i:Int)<(n:Int):=oM;have q:=Hid.mk' hi;go_wp2_with fail
   obtain⟨c1,c2,c3⟩:=cT.out i;have p:=Hid.mk' (λ(W:TA) (c:Below wr.heap.size wr W)=>S.1.trans (c.mono S.1.size));refine(RG.gwL [RG.pE u10,RG.pE rv1,RG.pE rv1,RG.pE (nv X.val),RG.pE (.slice (some ⟨ga,oa,none⟩) n ca),RG.pE (iZ i),RG.pE (.pointer (some ⟨ga,oa+4*i,none⟩)),RG.pE (nv (A i)),RG.pE (nv (M i)),RG.pE rv1,RG.pE (nv Y.val),RG.pE (.slice (some ⟨gb,ob,none⟩) n cb),RG.pE (iZ i),RG.pE (.pointer (some ⟨gb,ob+4*i,none⟩)),RG.pE (nv (B i)),RG.pE (nv (M2 i)),RG.pE (nv (t i)),RG.pB (wn (t i))] (λW=>Below wr.heap.size wr W) (λW W' hb h=>h.trans (hb.mono h.size))).tail2 18 kR kR kR ⟨
    RG.gO 10 u10,
    RG.gLo 9 (λW c=>(l.2.2.2.below (p W c)).2.1) uFq iFq,
    RG.gLo 9 (λW c=>(l.2.2.2.below (p W c)).2.1) uFq iFq,
    RG.gLo 4 (λW c=>(l.2.1.below (p W c)).2.1) uNf i33,
    RG.gO 1 (.slice (some ⟨ga,oa,none⟩) n ca),
    RG.gO 11 (iZ i),
    RG.gX 4 23 5 24 (atN ga oa n ca i q.out),
    RG.gLr 6 25 (λW c=>RG.range_below (G.2.2.1 i q.out) (l.1.trans ((p W c).mono l.1.size)) G.1) uNf i33,
    RG.gC3 2 21 3 22 7 26 c1,
    RG.gLo 9 (λW c=>(l.2.2.2.below (p W c)).2.1) uFq iFq,
    RG.gLo 6 (λW c=>(l.2.2.1.below (p W c)).2.1) uNf i33,
    RG.gO 3 (.slice (some ⟨gb,ob,none⟩) n cb),
    RG.gO 11 (iZ i),
    RG.gX 11 30 12 31 (atN gb ob n cb i q.out),
    RG.gLr 13 32 (λW c=>RG.range_below (G.2.2.2 i q.out) (l.1.trans ((p W c).mono l.1.size)) G.2.1) uNf i33,
    RG.gC3 9 28 10 29 14 33 c2,
    RG.gC3 1 20 8 27 15 34 c3,
    RG.Rn 16 35 (nv (t i)) (wn (t i)) 68 (λx W h=>h) (λW W' h _=>⟨_,rfl,h⟩),yB5⟩ (TX _ _).drew ?_
   intro V W9 D E;have h4:=D 0 dC;obtain⟨g8,H,r8⟩:∃g,V 17=.slice (some (aZ g)) 1 1/\Row W9 g (wn (t i)):=D 17 dC;have K9:=mk2 (p W9 E) (own_below S.2 E);obtain⟨v',W6,h5,h7,h9⟩:=NG (t i) K9.2 r8 (by have:=HN.2;have:=q.out;omega) K9.1.size;have HA:=Hid.mk' h5;have K6:=mk2 (below_grown (base:=0) K9.1 K9.2 h9) h7;dsimp only[RG.bW,UJ,Vw,Vx];simp only[Ug,TD,TK,TL];rw[h4,H];go_wp2_with (first|(refine jI (x:=u10) (y:=.slice (some (aZ g8)) 1 1) (v:=v') (w':=W6) rfl _ _ 67 rfl ?_ ?_ ?_ ?_;rfl;rfl;exact HA.out)|fail)
   go_roundg (gk-1)
   case measure=>have:=q.out;omega
   case rel=>exact⟨i+1,by have:=q.out;omega,rfl,K6⟩
  ·have h6:¬(i:Int)<(n:Int):=oM;obtain rfl:i=n:=oM;go_wp2;go_ret;exact⟨_,rfl,l.1.trans (S.1.mono l.1.size),(RwQ.of_own (s:=4) (f:=λj=>wn (t j)) (λ_=>rfl) S.2 HN.1).mono λg _ p=>TU l.1.size p⟩
end
section
open Go.RowKit Go.Sort Go.Deep SPA
variable {P:Nat}[NeZero P]{N:Nat}[NeZero N]
theorem Ie(C:Fl3 P)(O:Ord N)(k:∀r:EC.Pt P,EC.On r->EC.mul N r=none)(m:Nat)(i:m<=64)(a b:Nat->Fin N)(o th:Nat->T3 P)(g h:Nat->OnP P)(s:T3 P)(u:OnP P)(v:∀j,j<m->FracT (o j) (g j).1)(q:∀j,j<m->FracT (th j) (h j).1)(y:FracT s u.1):
 ∃(t1 t2 n l p:T3 P) (d:Nat),(∀W f c,NtQ (λ_=>True) W f m (λj=>(a j).val)->PtQ (λ_=>True) W c m o->TW prog 24 #[f,c] W (rZ W λe W'=>e=tv t1)) /\
  (∀W f c,NtQ (λ_=>True) W f m (λj=>(b j).val)->PtQ (λ_=>True) W c m th->TW prog 24 #[f,c] W (rZ W λe W'=>e=tv t2)) /\
  Gives 23 #[tv t1,tv t2] (tv n)/\(∀W f c,NtQ (λ_=>True) W f m (λj=>(a j).val)->NtQ (λ_=>True) W c m (λj=>(b j).val)->TW prog 26 #[f,c] W (rZ W λe W'=>e=nv d)) /\
  Gives 25 #[nv d,tv s] (tv l)/\Gives 23 #[tv n,tv l] (tv p)/\Gives 27 #[tv p] (.string ⟨wP ((aO C.toFld k).hd a b g h u m)⟩):=by
 have z:=EB C k O.le a o g m v;have x:=EB C k O.le b th h m q;have w:=B8 C k z x;have t:=yX C k O.le (Md.pr a b m) y;have p:=B8 C k w.2 t.2;exact⟨_,_,_,_,_,_,λW f c n l=>Ij C k O.le m i a o g v f c W n l,λW f c n l=>Ij C k O.le m i b th h q f c W n l,w.1,λW f c n l=>RA O m i a b f c W n l,t.1,p.1,C7 C p.2⟩
def QV(y k b:Nat)(v:Bool->TC)(g:Nat):Prop:=g≠y/\(g<k\/b<g)/\∀s,(v s).ownBlock≠some g
abbrev sN:TC:=.slice none 0 0
def up{α:Type}(f:Bool->α)(s:Bool)(x:α)(t:Bool):α:=if t=s then x else f t
structure Hr(w W:TA)(y k kq n:Nat)(i:Bool->Nat)(v:Bool->TC)(va vb vg vh:TC)(B:Bool->Nat->Bs)(L:Bs)(a b:Nat->Nat)(tg th:Nat->T3 P)(tu:T3 P)(rs:List TC):Prop where
 bl:Below w.heap.size w W
 y0:w.heap.size<=y
 yk:y<k
 kk:k+2<kq
 r0:Row W k (tw tu)
 r1:Row W (k+1) [sN,sN,sN,sN]
 r2:Row W (k+2) (v false :: v true :: rs)
 r3:Row W kq rl1
 tl:∀s,TlL (QV y k kq v) (kq+1) (i s) W (v s) (B s)
 ne:∀s t g,s≠t->(v s).ownBlock=some g->(v t).ownBlock≠some g
 la:NtQ (QV y k kq v) W va n a
 lb:NtQ (QV y k kq v) W vb n b
 lg:PtQ (QV y k kq v) W vg n tg
 lh:PtQ (QV y k kq v) W vh n th
 lo:SP.RLog W y L
section
variable {w W W':TA}{y k kq n:Nat}{i:Bool->Nat}{v:Bool->TC}{va vb vg vh:TC}{B:Bool->Nat->Bs}{L L':Bs}{a b:Nat->Nat}{tg th:Nat->T3 P}{tu:T3 P}{rs:List TC}
omit [NeZero P] in
theorem Hr.qn(h:Hr w W y k kq n i v va vb vg vh B L a b tg th tu rs)(g:Nat)(c:W.heap.size<=g):QV y k kq v g:=
 ⟨by have:=h.yk;have:=h.r0.1;omega,T8 (TF h.r3.1 c),λs e=>by have:=((h.tl s).lt e).2;omega⟩
omit [NeZero P] in
theorem Hr.any(h:Hr w W y k kq n i v va vb vg vh B L a b tg th tu rs)(d:Below w.heap.size w W')(q:Kq (QV y k kq v) W W')(c:∀g,k<=g->g<=kq->W'.heap[g]? = W.heap[g]?)(hv:∀s g,(v s).ownBlock=some g->W'.heap[g]? = W.heap[g]?)(e:SP.RLog W' y L'):Hr w W' y k kq n i v va vb vg vh B L' a b tg th tu rs:=by
 have:=h.kk;exact⟨d,h.y0,h.yk,h.kk,aN h.r0 q.size (c k oM oM),aN h.r1 q.size (c _ oM oM),aN h.r2 q.size (c _ oM oM),aN h.r3 q.size (c _ oM oM),λs=>(h.tl s).keep q (hv s),h.ne,h.la.keep q,h.lb.keep q,h.lg.keep q,h.lh.keep q,e⟩
omit [NeZero P] in
theorem Hr.grow(h:Hr w W y k kq n i v va vb vg vh B L a b tg th tu rs)(c:Below W.heap.size W W'):Hr w W' y k kq n i v va vb vg vh B L a b tg th tu rs:=
 h.any (h.bl.trans (c.mono h.bl.size)) (Kq.of_below c) (λg _ d=>c.block g (Zo d h.r3.1)) (λs g e=>c.block g ((h.tl s).lt e).2) (h.lo.below c)
omit [NeZero P] in
theorem Hr.say(h:Hr w W y k kq n i v va vb vg vh B L a b tg th tu rs)(d:SP.Only y 0 1 W W')(f:SP.RLog W' y L'):Hr w W' y k kq n i v va vb vg vh B L' a b tg th tu rs:=by
 have:=h.yk;have:=h.kk;exact h.any (h.bl.trans (qV d h.bl.size h.y0)) (Kq.of_only d λg c=>c.1) (λg j e=>d.block g (Zo e h.r3.1) oM) (λs g c=>d.block g ((h.tl s).lt c).2 (by have:=((h.tl s).lt c).1;omega)) f
omit [NeZero P] in
theorem Hr.app(s:Bool){x:TC}{ga:Nat}(h:Hr w W y k kq n i v va vb vg vh B L a b tg th tu rs)(O:ElQ (QV y k kq v) 33 W x (B s (i s)))(Q:W.cell? ⟨ga,0,none⟩=some x)(hi:i s<=900):
 ∃l W',(Ur #[24,24] 24 #[v s,.slice (some (aZ ga)) 1 1]).run prog W=.ok l W'/\(l.cells=#[l]/\l.oneCell'=true)/\W'.there (k+2) s.toNat 1/\Hr w (W'.setCells (k+2) s.toNat [l]) y k kq n (up i s (i s+1)) (up v s l) va vb vg vh B L a b tg th tu rs/\∀g vs,QV y k kq v g->Row W g vs->QV y k kq (up v s l) g/\Row (W'.setCells (k+2) s.toNat [l]) g vs:=by
 obtain⟨xs,z,u⟩:=(h.tl s).ex;obtain⟨l,W',Y,J,A⟩:=uK z O.one.2 Q oM h.r3.1;have h0:=h.kk;have S:=h.yk;have h3:=h.r3.1;have hw:=h.bl.size;have Z:=h.y0;have f:∀s g,(v s).ownBlock=some g->kq<g/\g<W.heap.size:=λs g d=>(h.tl s).lt d
 have C:∀g,g<W.heap.size->QV y k kq v g->QV y k kq (up v s l) g:=λg d q=>⟨q.1,q.2.1,λt e=>by
  unfold up at e;by_cases p:t=s
  ·rw[yB3 p]at e;rcases A.mv with m|⟨⟨T,m,R⟩,-⟩
   ·rw[m]at e;exact q.2.2 s e
   ·rw[m]at e;have:=Uc.inj e;omega
  ·rw[yB4 p]at e;exact q.2.2 t e⟩
 obtain⟨F,r⟩:∃X,X=W'.setCells (k+2) s.toNat [l]:=⟨_,rfl⟩
 have U:F.heap.size=W'.heap.size:=by rw[r,RG.setCells_size]
 have ho:∀g,g≠k+2->F.heap[g]? = W'.heap[g]?:=λg d=>by rw[r];exact RG.aG (k+2) _ _ W' g d
 have N:∀g,g<W.heap.size->g≠k+2->(v s).ownBlock≠some g->F.heap[g]? = W.heap[g]?:=λg d I V=>(ho g I).trans (A.keep g d V)
 have G:∀g,g<=kq->g≠k+2->F.heap[g]? = W.heap[g]?:=λg d I=>N g oM I λe=>by have:=f s g e;omega
 have q:Kq (QV y k kq (up v s l)) W F:=⟨by rw[U];exact A.size,λg q d=>(ho g (by have:=q.2.1;omega)).trans (by
  rcases A.mv with m|⟨-,m⟩
  ·exact A.keep g d (by rw[<-m];have:=q.2.2 s;unfold up at this;rwa[yB3 rfl]at this)
  ·exact m g d)⟩
 have E:=aN h.r2 A.size (A.keep (k+2) oM λe=>by have:=f s _ e;omega);have D:l.cells=#[l]/\l.oneCell'=true:=by
  rcases J with⟨-,⟨rfl,-⟩|⟨g,c,cur,rfl,-⟩⟩<;>exact⟨rfl,rfl⟩
 refine⟨l,W',Y,D,λj hj=>?_,?_⟩
 ·have:=E.2.2 s.toNat (by cases s<;>simp);obtain rfl:j=0:=oM;rwa[TO]at this
 rw[<-r];refine⟨?_,λg vs M H=>⟨C g H.1 M,aN H q.size (q.block g (C g H.1 M) H.1)⟩⟩;refine⟨?_,h.y0,h.yk,h.kk,aN h.r0 q.size (G k oM oM),aN h.r1 q.size (G _ oM oM),?_,aN h.r3 q.size (G _ oM oM),λt=>?_,λt K g p d e=>?_,(h.la.mono C).keep q,(h.lb.mono C).keep q,(h.lg.mono C).keep q,(h.lh.mono C).keep q,?_⟩
 ·rw[r];exact RG.below_setCells oM _ _ _ ⟨A.os.trans h.bl.os,A.tape.trans h.bl.tape,A.output.trans h.bl.output,TU h.bl.size A.size,λg d=>(A.keep g oM λe=>by have:=f s g e;omega).trans (h.bl.block g d)⟩
 ·have:=iN (x:=l) (o:=s.toNat) E (by cases s<;>simp);rw[<-r]at this;cases s<;>exact this
 ·unfold up;by_cases p:t=s
  ·subst p;rw[yB3 rfl,yB3 rfl];exact TlL.app u (by have:=z.1;omega) (bE J λg d=>ho g (by have:=(cN J d).1;omega)) O C q
  ·rw[yB4 p,yB4 p];exact((h.tl t).mono2 C).keep q λg d=>N g (f t g d).2 (by have:=(f t g d).1;omega) (h.ne t s g p d)
 ·unfold up at d e;have new:∀t,t≠s->∀g,l.ownBlock=some g->(v t).ownBlock≠some g:=λt p g d e=>by
   rcases A.mv with m|⟨⟨T,m,R⟩,-⟩
   ·rw[m]at d;exact h.ne s t g (Ne.symm p) d e
   ·rw[m]at d;have:=Uc.inj d;have:=(f t g e).2;omega
  by_cases z:t=s
  ·rw[yB3 z]at d;rw[yB4 (λu=>p (z.trans u.symm))]at e;exact new K (λu=>p (z.trans u.symm)) g d e
  ·rw[yB4 z]at d;by_cases u:K=s
   ·rw[yB3 u]at e;exact new t z g e d
   ·rw[yB4 u]at e;exact h.ne t K g p d e
 ·have e:=G y oM oM;refine⟨by rw[World.cell?_of_block (a:=⟨y,0,none⟩) e];exact h.lo.1,?_⟩;rw[World.frozen?_of_block (a:=⟨y,0,none⟩) e];exact h.lo.2
omit [NeZero P] in
theorem Hr.put{o:Nat}{x:TC}(h:Hr w W y k kq n i v va vb vg vh B L a b tg th tu rs)(ho:o<rs.length):Hr w (W.setCells (k+2) (o+2) [x]) y k kq n i v va vb vg vh B L a b tg th tu (rs.set o x)/\Kq (QV y k kq v) W (W.setCells (k+2) (o+2) [x]):=by
 have f:=h.kk;have d:=h.yk;have j:=h.y0;have q:Kq (QV y k kq v) W (W.setCells (k+2) (o+2) [x]):=Kq.set λg c e=>by have:=c.2.1;omega
 have e:∀g,g≠k+2->(W.setCells (k+2) (o+2) [x]).heap[g]? = W.heap[g]?:=λg c=>RG.aG (k+2) _ _ W g c
 exact⟨⟨RG.below_setCells oM _ _ _ h.bl,h.y0,h.yk,h.kk,aN h.r0 q.size (e k oM),aN h.r1 q.size (e _ oM),iN (o:=o+2) h.r2 (by simp;omega),aN h.r3 q.size (e _ oM),λs=>(h.tl s).keep q λg c=>e g (by have:=((h.tl s).lt c).1;omega),h.ne,h.la.keep q,h.lb.keep q,h.lg.keep q,h.lh.keep q,qM h.lo oM⟩,q⟩
end
namespace RG
variable {P:Vd}{ops:Array UI}{Q:Exit->Act->TA->Prop}{w:TA}{a0:Act}{G:Gw}{k:Nat}{o:UI}{v u v' z:TC}{f:FuncId}
theorem gD2(j:Nat)(t:Tmp)(b:Nat)(c:Tmp)(g:∀W,G.B W->TW P f #[v,u] W (rZ W λe W'=>e=v'))(l:∀x W,G.R j x W->x=v:=by exact λ_ _ h=>h)(d:∀x W,G.R b x W->x=u:=by exact λ_ _ h=>h)(r:∀W,G.R k v' W:=by exact λ_=>rfl)(hd:((bR o j,aV ops j),(bR o b,aV ops b))=((true,some t),(true,some c)):=by kernel_rfl)(p:∀x y W,(dW [t,c] o,(UD (evo (evl [(t,x),(c,y)])) o).run P W)=(true,.ok (.enter f #[x,y]) W):=by intro _ _ _;kernel_rfl):bK P Q G.flow ops a0 k o:=
 nD j t b c f (λx y=>#[x,y]) (λx y W q i n=>by
  rw[l x W q,d y W i];refine(g W n).mono ?_;rintro e W' ⟨a,rfl,m,rfl⟩;exact⟨_,rfl,m,r W'⟩) hd p
end RG
section
variable {P:Vd}{ops:Array UI}{rest:List UI}{op:UI}{a:Act}{w w':TA}{Q:Exit->Act->TA->Prop}{v:TC}{I:Sem TC}
theorem inR(t:Tmp)(d:Hid (I.run P w=.ok v w'))(h:wpList P ops Q rest (a.put op.dst v) w')(hd:op.dst=some t:=by rfl)(k:op.guard=none:=by rfl)(c:UD a.eval op=I >>= λv=>pure (Ww v):=by kernel_rfl):wpList P ops Q (op :: rest) a w:=
 wpList_plain k λK b=>by
  unfold Oper.wp;rw[c,Ue,d.out,Result.andThen_ok,Sem.run_pure];exact b _ _ h
end
omit [NeZero P] [NeZero N] in
theorem Fg{Q:Nat->Prop}{m:Nat}(X:Bs)(k:X.size=m)(W:TA)(j:∀g,W.heap.size<=g->Q g):∃x W',Hid ((convert 9 23 (.string ⟨X⟩)).run prog W=.ok x W')/\Below W.heap.size W W'/\ElQ Q m W' x X:=by
 obtain⟨c,W',f,d,e,b,i⟩:=Ff ⟨X⟩ W;exact⟨_,W',f,e,W.heap.size,c,by rw[<-k];rfl,by rw[<-k];exact d,k,j _ (TG _),i,b⟩
namespace RG
variable {P:Vd}{ops:Array UI}{Q:Exit->Act->TA->Prop}{w:TA}{a0:Act}{G:Gw}{k:Nat}{o:UI}{v u z q:TC}{f:FuncId}
theorem gD4(j:Nat)(t:Tmp)(g:Nat)(l:Tmp)(c:Nat)(b:Tmp)(i:Nat)(s:Tmp)(n:∀W,G.B W->TW P f #[v,u,z,q] W (rZ W λe W'=>G.R k e W'))(a:∀x W,G.R j x W->x=v:=by exact λ_ _ h=>h)(m:∀x W,G.R g x W->x=u:=by exact λ_ _ h=>h)(d:∀x W,G.R c x W->x=z:=by exact λ_ _ h=>h)(C:∀x W,G.R i x W->x=q:=by exact λ_ _ h=>h)(hd:((bR o j,aV ops j),(bR o g,aV ops g),(bR o c,aV ops c),(bR o i,aV ops i))=((true,some t),(true,some l),(true,some b),(true,some s)):=by kernel_rfl)(D:∀x y z u W,(dW [t,l,b,s] o,(UD (evo (evl [(t,x),(l,y),(b,z),(s,u)])) o).run P W)=(true,.ok (.enter f #[x,y,z,u]) W):=by intro _ _ _ _ _;kernel_rfl):bK P Q G.flow ops a0 k o:=
 Rl j t g l c b i s f (λx y z u=>#[x,y,z,u]) (λx y p F W H w E r B=>by
  rw[a x W H,m y W w,d p W E,C F W r];exact n W B) hd D
def pRw(s:Nat)(f:Nat->List TC)(Q:Nat->Prop)(n:Nat):S1:=⟨λv w=>RwQ s f Q w v n,λ_ _ _ k h=>h.keep (Kq.of_below k)⟩
end RG
omit [NeZero P] [NeZero N] in
theorem Hr.lists{w W:TA}{y k c n g:Nat}{i:Bool->Nat}{v:Bool->TC}{C s z D e m f j:TC}{B:Bool->Nat->Bs}{L:Bs}{a b q p:Nat->Nat}{x th d l:Nat->T3 P}{o:T3 P}{r:List TC}(h:Hr w W y k c n i v C s z D B L a b x th o r)(E:NtQ (QV y k c v) W e g q)(u:NtQ (QV y k c v) W m g p)(A:PtQ (QV y k c v) W f g d)(t:PtQ (QV y k c v) W j g l):Hr w W y k c g i v e m f j B L q p d l o r:=
 ⟨h.bl,h.y0,h.yk,h.kk,h.r0,h.r1,h.r2,h.r3,h.tl,h.ne,E,u,A,t,h.lo⟩
omit [NeZero P] [NeZero N] in
theorem Il{W:TA}{k o:Nat}{vs:List TC}(h:Row W k vs)(ho:o<vs.length):W.there k o 1:=λj b=>by
 have:=h.2.2 o ho;obtain rfl:j=0:=oM;rwa[TO]at this
omit [NeZero P] [NeZero N] in
theorem Hr.fin{w W:TA}{y k f n t:Nat}{v:Bool->TC}{C p x F vA vB:TC}{B:Bool->Nat->Bs}{L A o:Bs}{a b:Nat->Nat}{r th:Nat->T3 P}{u:T3 P}(h:Hr w W y k f n (λ_=>t) v C p x F B L a b r th u [vA,vB])(l:ElQ (QV y k f v) 32 W vA A)(j:ElQ (QV y k f v) 32 W vB o):
 Row (W.setCells (k+1) 0 [v false,v true,vA,vB]) (k+1) [v false,v true,vA,vB]/\(Below w.heap.size w (W.setCells (k+1) 0 [v false,v true,vA,vB])/\∃m i c d,Um #[v false,v true,vA,vB]=.agg #[m,i,c,d]/\TlL (λ_=>True) w.heap.size t (W.setCells (k+1) 0 [v false,v true,vA,vB]) m (B false)/\TlL (λ_=>True) w.heap.size t (W.setCells (k+1) 0 [v false,v true,vA,vB]) i (B true)/\ElQ (λ_=>True) 32 (W.setCells (k+1) 0 [v false,v true,vA,vB]) c A/\ElQ (λ_=>True) 32 (W.setCells (k+1) 0 [v false,v true,vA,vB]) d o)/\(#[v false,v true,vA,vB]:Array TC).all (·.oneCell')=true:=by
 have E:=h.kk;have m:=h.yk;have D:=h.y0;have e:∀g,g≠k+1->(W.setCells (k+1) 0 [v false,v true,vA,vB]).heap[g]? = W.heap[g]?:=λg c=>RG.aG (k+1) _ 0 W g c
 have q:Kq (QV y k f v) W (W.setCells (k+1) 0 [v false,v true,vA,vB]):=Kq.set λg c e=>by have:=c.2.1;omega
 have d:∀s,TlL (λ_=>True) w.heap.size t (W.setCells (k+1) 0 [v false,v true,vA,vB]) (v s) (B s):=λs=>by
  obtain⟨xs,i,z⟩:=(((h.tl s).keep q λg c=>e g (by have:=((h.tl s).lt c).1;omega)).mono2 (Q':=λ_=>True) λ_ _ _=>trivial).ex;exact⟨xs,own_base i oM,z⟩
 exact⟨h.r1.put rfl,⟨RG.below_setCells oM _ _ _ h.bl,_,_,_,_,rfl,d false,d true,(l.keep q).mono2 λ_ _ _=>trivial,(j.keep q).mono2 λ_ _ _=>trivial⟩,by simp[(h.tl false).one.2,(h.tl true).one.2,l.one.2,j.one.2]⟩
theorem Mo(C:Fl3 P)(O:Ord N)(f:∀r:EC.Pt P,EC.On r->EC.mul N r=none)(T:Nat)(hT:T<=6)(L:Md.Ps Bs (Fin N) (OnP P))(u:OnP P)(M:T3 P)(p th:Nat->T3 P)(hu:FracT M u.1)(F:∀j,j<2^T->FracT (p j) (L.g j).1)(hh:∀j,j<2^T->FracT (th j) (L.h j).1)(hs:L.s.size=32)
 (w0 w:TA) (y:Nat) (A:Below w0.heap.size w0 w) (hy:w0.heap.size<=y) (hl:SP.RLog w y L.s) (v1 v2 v3 v4:TC) (h1:NtQ (·≠y) w v1 (2^T) λj=>(L.a j).val) (h2:NtQ (·≠y) w v2 (2^T) λj=>(L.b j).val) (h3:PtQ (·≠y) w v3 (2^T) p) (h4:PtQ (·≠y) w v4 (2^T) th)
 (B:Bool->Nat->Bs) (n:∀j,B false j=wP ((aO C.toFld f).pLi (chF N) ivF u T L j)/\B true j=wP ((aO C.toFld f).pTi (chF N) ivF u T L j)) :
 TW prog 28 #[pZ y,v1,v2,v3,v4,tv M] w (rZ w0 λe w'=>∃vL vR vA vB,e=.agg #[vL,vR,vA,vB]/\TlL (λ_=>True) w0.heap.size T w' vL (B false)/\TlL (λ_=>True) w0.heap.size T w' vR (B true)/\ElQ (λ_=>True) 32 w' vA (bx (((aO C.toFld f).pst (chF N) ivF u T L T).a 0).val)/\ElQ (λ_=>True) 32 w' vB (bx (((aO C.toFld f).pst (chF N) ivF u T L T).b 0).val)):=by
 have bv:=hl.lt;obtain⟨k,hk⟩:=hE (w.heap.size);obtain⟨w1,ka⟩:=hE (w.alloc (.cells (tw M).toArray 74));obtain⟨w2,k8⟩:=hE (w1.alloc (.cells [sN,sN,sN,sN].toArray 26));obtain⟨w3,kx⟩:=hE (w2.alloc (.cells [sN,sN,sN,sN].toArray 26));have z1:Hid (w1.heap.size=k+1):=by show _=_;rw[<-ka.out,TQ,hk.out]
 have z2:Hid (w2.heap.size=k+2):=by show _=_;rw[<-k8.out,TQ,z1.out]
 have F1:=dD hk ka;have F2:=dD z1 k8;have F3:=dD z2 kx;have kp:=F2.1.trans (F3.1.mono F2.1.size);have R:=F1.1.trans (kp.mono F1.1.size);have B1:Hid ((U6 74 (tv M)).run prog w=.ok (pZ k) w1):=by rw[<-ka.out,<-hk.out];exact RL M w
 obtain⟨V,hV⟩:∃V:Nat->Md.Ps Bs (Fin N) (OnP P),V=λi=>(aO C.toFld f).pst (chF N) ivF u T L i:=⟨_,rfl⟩
 have HV:Hid (V 0=L/\∀i m s c,m=2^(T-(i+1))->chF N (V i).s ((aO C.toFld f).lf (V i).a (V i).b (V i).g (V i).h u m) ((aO C.toFld f).rt (V i).a (V i).b (V i).g (V i).h u m)=(s,c)->V (i+1)=⟨s,Md.fS c (ivF c) m (V i).a,Md.fS (ivF c) c m (V i).b,(aO C.toFld f).fP (ivF c) c m (V i).g,(aO C.toFld f).fP c (ivF c) m (V i).h⟩):=by
  rw[hV];refine⟨rfl,λi m s c hm hc=>?_⟩;show(aO C.toFld f).mY (chF N) ivF u (2^(T-(i+1))) _=_;unfold Md.mY Md.pL Md.pT;rw[<-hm,hc]
 have HB:Hid (∀i m,m=2^(T-(i+1))->B false i=wP ((aO C.toFld f).lf (V i).a (V i).b (V i).g (V i).h u m)/\B true i=wP ((aO C.toFld f).rt (V i).a (V i).b (V i).g (V i).h u m)):=by
  rw[hV];intro i m hm;rw[hm];exact n i
 rw[show(aO C.toFld f).pst (chF N) ivF u T L T=V T by rw[hV]];obtain⟨vq,kb⟩:=hE (Um rl1.toArray);have cQ:Hid (Gives 49 #[] vq):=by rw[<-kb.out];exact Kf
 have G:Hid (Ord N/\T<=6/\FracT M u.1):=⟨O,hT,hu⟩
 have hw:=mk3 F hh hs;have K3:Hid (Below w0.heap.size w0 w3/\Row w3 k (tw M)/\Row w3 (k+1) [sN,sN,sN,sN]/\Row w3 (k+2) [sN,sN,sN,sN]/\SP.RLog w3 y L.s):=⟨A.trans (R.mono A.size),F1.2.below kp,F2.2.below F3.1,F3.2,hl.below R⟩
 have KL:Hid (NtQ (λg=>g≠y/\g<k) w3 v1 (2^T) (λj=>(L.a j).val)/\NtQ (λg=>g≠y/\g<k) w3 v2 (2^T) (λj=>(L.b j).val)/\PtQ (λg=>g≠y/\g<k) w3 v3 (2^T) p/\PtQ (λg=>g≠y/\g<k) w3 v4 (2^T) th):=by
  have hq:∀g,g<w.heap.size->g≠y->g≠y/\g<k:=λg F h=>⟨h,by rw[<-hk.out];exact F⟩
  exact⟨(h1.mono hq).keep (Kq.of_below R),(h2.mono hq).keep (Kq.of_below R),(h3.mono hq).keep (Kq.of_below R),(h4.mono hq).keep (Kq.of_below R)⟩
 have HY:Hid (w0.heap.size<=y/\y<k):=⟨hy,by rw[<-hk.out];exact bv⟩
 obtain⟨vu,kj⟩:=hE (tv M);rw[kj.out]at B1;rw[kj.out];clear hT hu F hh hs A hy hl h1 h2 h3 h4 O hV n kp R bv F1;go_enter func28,ntmps28;go_wp2_with (first|(refine inR 11 B1 ?_)|(refine alR 12 z1 k8 ?_)|(refine alR 13 z2 kx ?_)|fail)
 refine(cQ w3).mono ?_;rintro e w4 ⟨uq,rfl,k7,rfl⟩;obtain⟨a,hz⟩:=hE (w4.heap.size);obtain⟨w5,b6⟩:=hE (w4.alloc (.cells (RG.z 8).toArray 112));obtain⟨w6,bj⟩:=hE (w5.setCells a 0 rl1);have FQ:=jA hz b6 bj rfl;have E:=k7.trans (FQ.2.1.mono k7.size);have K0:Hid (∃v p th,(∀j,j<2^(T-0)->FracT (p j) ((V 0).g j).1)/\(∀j,j<2^(T-0)->FracT (th j) ((V 0).h j).1)/\(V 0).s.size=32/\Hr w0 w6 y k a (2^(T-0)) (λ_=>0) v v1 v2 v3 v4 B (V 0).s (λj=>((V 0).a j).val) (λj=>((V 0).b j).val) p th M [sN,sN]):=by
  show ∃v p th,_;rw[HV.1,Nat.sub_zero];have b:k+2<a:=by have:=K3.2.2.2.1.1;have:=k7.size;have:=hz.out;omega
  have q:∀g,g<w3.heap.size->g≠y/\g<k->QV y k a (λ_=>sN) g:=λg _ h=>⟨h.1,Ub h.2,λs e=>by cases e⟩
  exact⟨λ_=>sN,p,th,hw.1,hw.2.1,hw.2.2,⟨K3.1.trans (E.mono K3.1.size),HY.1,HY.2,b,K3.2.1.below E,K3.2.2.1.below E,K3.2.2.2.1.below E,FQ.2.2,λs=>⟨[],⟨rfl,Ub ⟨rfl,rfl⟩⟩,λj hj=>absurd hj (VC _)⟩,λs t g _ e=>(by cases e),(KL.1.mono q).keep (Kq.of_below E),(KL.2.1.mono q).keep (Kq.of_below E),(KL.2.2.1.mono q).keep (Kq.of_below E),(KL.2.2.2.mono q).keep (Kq.of_below E),K3.2.2.2.2.below E⟩⟩
 clear k7 E cQ KL K3 HY hw F2 F3;go_wp2_with (first|(refine alR 14 hz b6 ?_)|(refine Ui rfl 112 (.tmp 14) _ rfl a 0 rl1.toArray ?_ ?_ ?_ ?_ ?_ ?_;rfl;exact kb.out.symm;exact FQ.1;exact iFs;exact vH;rw[show rl1.toArray.toList=rl1 from rfl,bj.out])|fail)
 simp only[Ug,TD,TK,TL];clear FQ b6 bj hz B1 ka k8 kx z1 z2 hk kj;go_loopg [1,2,3,4] T (λmm s1 s2 s3 s4 W=>∃i:Nat,i+mm=T/\Hid (∃v p th,(∀j,j<2^(T-i)->FracT (p j) ((V i).g j).1)/\(∀j,j<2^(T-i)->FracT (th j) ((V i).h j).1)/\(V i).s.size=32/\Hr w0 W y k a (2^(T-i)) (λ_=>i) v s1 s2 s3 s4 B (V i).s (λj=>((V i).a j).val) (λj=>((V i).b j).val) p th M [sN,sN]))
 case atStart=>exact⟨0,oM,K0⟩
 case round =>
  clear K0;obtain⟨i,d1,KM⟩:=hrel;by_cases hi:i<T
  ·have HI:=Hid.mk' hi;obtain⟨v,p,th,fg,fh,ht,I⟩:=KM.out;obtain⟨m,hm⟩:∃m,m=2^(T-(i+1)):=⟨_,rfl⟩
   have kv:2^(T-i)=m+m:=by rw[hm,show T-i=T-(i+1)+1 by omega,Vk];omega
   have H:Hid (m=2^(T-(i+1))/\0<m/\m+m<=64):=by
    refine⟨hm,by rw[hm];exact WR dC,?_⟩;rw[<-kv];exact TU (Ve dC (TU (Nat.sub_le _ _) G.2.1)) dC
   rw[kv]at fg fh I;have D:=mk3 fg fh ht;have C1:=Hid.mk' (I.la.cut H.2.1);have C2:=Hid.mk' (I.lb.cut H.2.1);have C3:=Hid.mk' (I.lg.cut H.2.1);have C4:=Hid.mk' (I.lh.cut H.2.1);obtain⟨g1,o1,c1,e1,-⟩:=I.la;obtain⟨g2,o2,c2,e2,-⟩:=I.lb;obtain⟨g3,o3,c3,e3,-⟩:=I.lg;obtain⟨g4,o4,c4,e4,-⟩:=I.lh;subst e1;subst e2;subst e3;subst e4;have b:=Hid.mk' I;have cq:((m+m:Nat):Int).tdiv 2=(m:Int):=Oz m;have cv:((m:Int)+(m:Int)).tdiv 2=(m:Int):=by have:=Oz m;rwa[Int.natCast_add]at this
   have cz:(m:Int)<=64:=by have:=H.2.2;omega
   have cu:(1:Int)<((m+m:Nat):Int):=by have:=H.2.1;omega
   have cx:(1:Int)<(m:Int)+(m:Int):=by have:=H.2.1;omega
   clear KM fg fh ht hm kv I hi;go_wp2_with fail
   clear cq cv cu cx;generalize V1 (some ⟨g1,o1,none⟩) (m+m) c1=A1 at b C1⊢;generalize V1 (some ⟨g2,o2,none⟩) (m+m) c2=A2 at b C2⊢;generalize V1 (some ⟨g3,o3,none⟩) (m+m) c3=A3 at b C3⊢;generalize V1 (some ⟨g4,o4,none⟩) (m+m) c4=A4 at b C4⊢;obtain⟨al,ah,kl,bk,na⟩:=C1.out;obtain⟨bl,bh,kt,b9,nb⟩:=C2.out;obtain⟨gl,gh,bq,ck,ng⟩:=C3.out;obtain⟨hl,hh,co,c7,nh⟩:=C4.out;clear C1 C2 C3 C4;obtain⟨t1,t2,t3,t4,t5,d,s1,s2,s3,s4,s5,s6,s7⟩:=Ie C G.1 f m (by have:=H.2.2;omega) (V i).a (λj=>(V i).b (m+j)) (λj=>p (m+j)) th (λj=>(V i).g (m+j)) (V i).h M u (λj hj=>D.1 (m+j) oM) (λj hj=>D.2.1 j oM) G.2.2;obtain⟨XL,k6⟩:=hE (wP ((aO C.toFld f).lf (V i).a (V i).b (V i).g (V i).h u m));have s7:Gives 27 #[tv t5] (.string ⟨XL⟩):=by rw[<-k6.out];exact s7
   refine(RG.gwL [RG.pE A1,RG.pE (iZ m),RG.pE al,RG.pE A3,RG.pE (iZ m),RG.pE gh,RG.pE (tv t1),RG.pE A2,RG.pE (iZ m),RG.pE bh,RG.pE A4,RG.pE (iZ m),RG.pE hl,RG.pE (tv t2),RG.pE (tv t3),RG.pE A1,RG.pE (iZ m),RG.pE al,RG.pE A2,RG.pE (iZ m),RG.pE bh,RG.pE (nv d),RG.pE (tv M),RG.pE (tv t4),RG.pE (tv t5),RG.pE (.string ⟨XL⟩)] (λW=>Below wr.heap.size wr W) (λW W' A h=>h.trans (A.mono h.size))).tail2 26 kR kR kR ⟨
    RG.gO 1 A1,
    RG.gO 15 (iZ m),
    RG.gX 0 27 1 28 kl,
    RG.gO 3 A3,
    RG.gO 15 (iZ m),
    RG.gX 3 30 4 31 ck,
    RG.gD2 2 29 5 32 (λW n=>s1 W _ _ ((na _ W (b.out.grow n).la).1.mono λ_ _ _=>trivial) ((ng _ W (b.out.grow n).lg).2.mono λ_ _ _=>trivial)),
    RG.gO 2 A2,
    RG.gO 15 (iZ m),
    RG.gX 7 34 8 35 b9,
    RG.gO 4 A4,
    RG.gO 15 (iZ m),
    RG.gX 10 37 11 38 co,
    RG.gD2 9 36 12 39 (λW n=>s2 W _ _ ((nb _ W (b.out.grow n).lb).2.mono λ_ _ _=>trivial) ((nh _ W (b.out.grow n).lh).1.mono λ_ _ _=>trivial)),
    RG.gC2 6 33 13 40 s3,
    RG.gO 1 A1,
    RG.gO 15 (iZ m),
    RG.gX 15 42 16 43 kl,
    RG.gO 2 A2,
    RG.gO 15 (iZ m),
    RG.gX 18 45 19 46 b9,
    RG.gD2 17 44 20 47 (λW n=>s4 W _ _ ((na _ W (b.out.grow n).la).1.mono λ_ _ _=>trivial) ((nb _ W (b.out.grow n).lb).2.mono λ_ _ _=>trivial)),
    RG.gLo 11 (λW n=>(b.out.grow n).r0.2.1) uP3 iP3,
    RG.gC2 21 48 22 49 s5,
    RG.gC2 14 41 23 50 s6,
    RG.wN 24 51 27 (λx=>#[x]) (λx W hx n=>by
     obtain rfl:x=tv t5:=hx;exact s7 W),yB5⟩ (TX _ _).drew ?_
   intro V9 Xa K l;have hV:=K 25 dC;have b:=Hid.mk' (b.out.grow l);dsimp only[RG.bW,UJ,Vw,Vx];simp only[Ug,TD,TK,TL];rw[hV];clear K l hV s1 s2 s3 s4 s5 s6 s7;go_wp2_with fail
   obtain⟨t1,t2,t3,t4,t5,d,s1,s2,s3,s4,s5,s6,s7⟩:=Ie C G.1 f m (by have:=H.2.2;omega) (λj=>(V i).a (m+j)) (V i).b p (λj=>th (m+j)) (V i).g (λj=>(V i).h (m+j)) M u (λj hj=>D.1 j oM) (λj hj=>D.2.1 (m+j) oM) G.2.2;obtain⟨XR,k9⟩:=hE (wP ((aO C.toFld f).rt (V i).a (V i).b (V i).g (V i).h u m));have s7:Gives 27 #[tv t5] (.string ⟨XR⟩):=by rw[<-k9.out];exact s7
   refine(RG.gwL [RG.pE A1,RG.pE (iZ m),RG.pE ah,RG.pE A3,RG.pE (iZ m),RG.pE gl,RG.pE (tv t1),RG.pE A2,RG.pE (iZ m),RG.pE bl,RG.pE A4,RG.pE (iZ m),RG.pE hh,RG.pE (tv t2),RG.pE (tv t3),RG.pE A1,RG.pE (iZ m),RG.pE ah,RG.pE A2,RG.pE (iZ m),RG.pE bl,RG.pE (nv d),RG.pE (tv M),RG.pE (tv t4),RG.pE (tv t5),RG.pE (.string ⟨XR⟩)] (λW=>Below Xa.heap.size Xa W) (λW W' A h=>h.trans (A.mono h.size))).tail2 26 kR kR kR ⟨
    RG.gO 1 A1,
    RG.gO 15 (iZ m),
    RG.gX 0 53 1 54 bk,
    RG.gO 3 A3,
    RG.gO 15 (iZ m),
    RG.gX 3 56 4 57 bq,
    RG.gD2 2 55 5 58 (λW n=>s1 W _ _ ((na _ W (b.out.grow n).la).2.mono λ_ _ _=>trivial) ((ng _ W (b.out.grow n).lg).1.mono λ_ _ _=>trivial)),
    RG.gO 2 A2,
    RG.gO 15 (iZ m),
    RG.gX 7 60 8 61 kt,
    RG.gO 4 A4,
    RG.gO 15 (iZ m),
    RG.gX 10 63 11 64 c7,
    RG.gD2 9 62 12 65 (λW n=>s2 W _ _ ((nb _ W (b.out.grow n).lb).1.mono λ_ _ _=>trivial) ((nh _ W (b.out.grow n).lh).2.mono λ_ _ _=>trivial)),
    RG.gC2 6 59 13 66 s3,
    RG.gO 1 A1,
    RG.gO 15 (iZ m),
    RG.gX 15 68 16 69 bk,
    RG.gO 2 A2,
    RG.gO 15 (iZ m),
    RG.gX 18 71 19 72 kt,
    RG.gD2 17 70 20 73 (λW n=>s4 W _ _ ((na _ W (b.out.grow n).la).2.mono λ_ _ _=>trivial) ((nb _ W (b.out.grow n).lb).1.mono λ_ _ _=>trivial)),
    RG.gLo 11 (λW n=>(b.out.grow n).r0.2.1) uP3 iP3,
    RG.gC2 21 74 22 75 s5,
    RG.gC2 14 67 23 76 s6,
    RG.wN 24 77 27 (λx=>#[x]) (λx W hx n=>by
     obtain rfl:x=tv t5:=hx;exact s7 W),yB5⟩ (TX _ _).drew ?_
   intro V9 Xb K l;have hV:=K 25 dC;have b:=Hid.mk' (b.out.grow l);dsimp only[RG.bW,UJ,Vw,Vx];simp only[Ug,TD,TK,TL];rw[hV];clear K l hV s1 s2 s3 s4 s5 s6 s7;go_wp2_with fail
   obtain⟨L1,kr⟩:=hE (SP.kU (V i).s [108,101,102,116] XL.toList);obtain⟨L2,b3⟩:=hE (SP.kU L1 [114,105,103,104,116] XR.toList);have z1:L1.size=32:=by rw[<-kr.out];exact SP.fL _ _ _
   have z2:L2.size=32:=by rw[<-b3.out];exact SP.fL _ _ _
   have sX:Hid (XL.size=33/\XR.size=33):=⟨by rw[<-k6.out];exact bX _,by rw[<-k9.out];exact bX _⟩
   refine(SP.lR y (V i).s ⟨#[108,101,102,116]⟩ ⟨XL⟩ Xb dC (by have:=sX.1;show XL.size<=_;omega) D.2.2 b.out.lo).mono ?_;rintro e X7 ⟨rfl,cn,b2⟩;rw[show SP.kU (V i).s (⟨#[108,101,102,116]⟩:ByteArray).data.toList (⟨XL⟩:ByteArray).data.toList=L1 from kr.out]at b2;have b:=Hid.mk' (b.out.say cn b2);clear cn b2;go_wp2_with fail
   refine(SP.lR y L1 ⟨#[114,105,103,104,116]⟩ ⟨XR⟩ X7 dC (by have:=sX.2;show XR.size<=_;omega) z1 b.out.lo).mono ?_;rintro e X8 ⟨rfl,cd,b5⟩;rw[show SP.kU L1 (⟨#[114,105,103,104,116]⟩:ByteArray).data.toList (⟨XR⟩:ByteArray).data.toList=L2 from b3.out]at b5;have b:=Hid.mk' (b.out.say cd b5);clear cd b5;obtain⟨L3,bi⟩:=hE (iK L2);have z3:L3.size=32:=by rw[<-bi.out];exact SP.fR _ _
   obtain⟨c,hc⟩:=hE (J3 N L2:Fin N);obtain⟨x,hx⟩:=hE (c.val);obtain⟨J,hn⟩:=hE ((ivF c).val);have cf:1<N:=by have:=G.1.n2;have:=Nat.mod_le N 18446744073709551616;omega
   have ci:kG (cha N L2)=x:=by rw[<-hx.out,<-hc.out];exact Fq cf L2 (uC G.1 _)
   have cC:=MH G.1 y L2 X8 z2 b.out.lo;rw[bi.out,ci]at cC;have HC:=Hid.mk' cC;have HZ:=mk3 z3 kr.out b3.out;clear cC ci cf z1 z2 z3;go_wp2_with fail
   refine HC.out.mono ?_;rintro e X9 ⟨uu,rfl,c6,bu,rfl⟩;have b:=Hid.mk' (b.out.say c6 bu);have cy:=b.out.qn;obtain⟨he,h0⟩:=hE (X9.heap.size);obtain⟨Xc,h5⟩:=hE (X9.alloc (.cells (wn 0).toArray 68));obtain⟨Xd,ba⟩:=hE (Xc.setCells he 0 (wn x));have FX:=jA h0 h5 ba rfl;obtain⟨vx,h8⟩:=hE (nv x);rw[h8.out];have b:=mk2 (b.out.grow FX.2.1) FX.2.2;obtain⟨dF,ki,kg⟩:=TJ.1 uFq;have kw:=mk2 ki kg;have cI:Hid (∀W,TW prog 62 #[uq,vx] W (rZ W λe w'=>e=nv J)):=by
    rw[<-kb.out,<-h8.out,<-hx.out,<-hn.out];exact OD G.1 c.isLt
   clear c6 bu HC;go_wp2_with (first|(refine alR 18 h0 h5 ?_)|(refine stR 18 ba h8 FX.1 i33 (bT x) ?_)|(refine UL rfl 112 (.tmp 14) rfl a 0 ?_ rl1 dF ?_ ?_ ?_ ?_ ?_;rfl;exact b.1.r3.2.1;exact kw.1;exact kw.2;exact iFq;rw[show Um rl1.toArray=uq from kb.out])|(refine ldR 18 b.2.2.1 h8 uNf i33 ?_)|fail)
   refine(cI.out Xd).mono ?_;rintro e Xe ⟨d0,rfl,hr,rfl⟩;obtain⟨h9,Z⟩:=hE (Xe.heap.size);have KG:Hid (QV y k a v he/\QV y k a v h9):=⟨cy he (WG h0.out),(b.1.grow hr).qn h9 (WG Z.out)⟩
   obtain⟨Xf,h7⟩:=hE (Xe.alloc (.cells (wn 0).toArray 68));obtain⟨Xg,h6⟩:=hE (Xf.setCells h9 0 (wn J));have FY:=jA Z h7 h6 rfl;obtain⟨vy,bf⟩:=hE (nv J);rw[bf.out];have bg:=hr.trans (FY.2.1.mono hr.size);have KR:=mk4 KG.1 (b.2.below bg) KG.2 FY.2.2;have b:=Hid.mk' (b.1.grow bg);have c0:Xg.cell? ⟨k+2,0,none⟩=some (v false):=b.out.r2.2.1 0 _ rfl;have km:i<=900:=by have:=G.2.1;have:=HI.out;omega
   obtain⟨xL,Y1,X,bd,eL⟩:=Fg (Q:=QV y k a v) XL sX.1 Xg (λg F=>b.out.qn g F);have hp:=Hid.mk' (MK eL Y1);obtain⟨Y2,k0⟩:=hE (Y1.alloc (.cells #[xL] 23));have br:Y2.cell? ⟨Y1.heap.size,0,none⟩=some xL:=by rw[<-k0.out];exact(aE Y1 [xL] 23).2.1 0 _ rfl
   have ko:Below Y1.heap.size Y1 Y2:=by rw[<-k0.out];exact aD _ _
   rw[k0.out]at hp;have bY:=bd.trans (ko.mono bd.size);have cj:ElQ (QV y k a v) 33 Y2 xL (B false i):=by rw[(HB.out i m H.1).1,k6.out];exact eL.keep (Kq.of_below ko)
   obtain⟨vL,Y3,ke,kc,bw,KY,ky⟩:=(b.out.grow bY).app false cj br km;obtain⟨Y4,ku⟩:=hE (Y3.setCells (k+2) 0 [vL]);rw[show Y3.setCells (k+2) false.toNat [vL]=Y4 from ku.out]at KY ky;have k1:=ky he _ KR.1 (KR.2.1.below bY);have k2:=ky h9 _ KR.2.2.1 (KR.2.2.2.below bY);have c1:Y4.cell? ⟨k+2,1,none⟩=some (v true):=KY.r2.2.1 1 _ rfl;obtain⟨xR,Z1,Y,bc,eR⟩:=Fg (Q:=QV y k a (up v false vL)) XR sX.2 Y4 (λg F=>KY.qn g F);have ha:=Hid.mk' (MK eR Z1);obtain⟨Z2,k5⟩:=hE (Z1.alloc (.cells #[xR] 23));have bp:Z2.cell? ⟨Z1.heap.size,0,none⟩=some xR:=by rw[<-k5.out];exact(aE Z1 [xR] 23).2.1 0 _ rfl
   have b8:Below Z1.heap.size Z1 Z2:=by rw[<-k5.out];exact aD _ _
   rw[k5.out]at ha;have bZ:=bc.trans (b8.mono bc.size);have c5:ElQ (QV y k a (up v false vL)) 33 Z2 xR (B true (up (λ_=>i) false (i+1) true)):=by rw[show B true (up (λ_=>i) false (i+1) true)=B true i from rfl,(HB.out i m H.1).2,k9.out];exact eR.keep (Kq.of_below b8)
   obtain⟨vR,Z3,kh,kd,bz,KZ,kz⟩:=(KY.grow bZ).app true c5 bp km;obtain⟨Z4,kn⟩:=hE (Z3.setCells (k+2) 1 [vR]);rw[show Z3.setCells (k+2) true.toNat [vR]=Z4 from kn.out]at KZ kz;have k3:=kz he _ k1.1 (k1.2.below bZ);have k4:=kz h9 _ k2.1 (k2.2.below bZ);obtain⟨v2,bt⟩:∃z,up (up v false vL) true vR=z:=⟨_,rfl⟩
   rw[bt]at KZ k3 k4;have ei:up (up (λ_=>i) false (i+1)) true (up (λ_=>i) false (i+1) true+1)=λ_=>i+1:=funext λs=>by cases s<;>rfl
   rw[show(up (λx=>i) false ((λx=>i) false+1))=up (λ_=>i) false (i+1) from rfl,ei]at KZ;have b:=mk3 KZ k3.2 k4.2;have ca:Hid ((Ur #[24,24] 24 #[v false,.slice (some ⟨Y1.heap.size,0,none⟩) 1 1]).run prog Y2=.ok vL Y3):=ke;have bn:Hid ((Ur #[24,24] 24 #[v true,.slice (some ⟨Z1.heap.size,0,none⟩) 1 1]).run prog Z2=.ok vR Z3):=kh;have HT:=mk2 bw bz;have HO:=mk2 kc kd;clear KZ KY k1 k2 k3 k4 kz ky eL eR cj c5 br bp bd ko bY bc b8 bZ ei ke kh bw bz kc kd km KR bg hr;go_wp2_with (first|(refine alR 19 Z h7 ?_)|(refine stR 19 h6 bf FY.1 i33 (bT J) ?_)|(refine inR 93 X ?_)|(refine inR 94 hp ?_)|(refine inR 95 ca ?_)|(refine inR 100 Y ?_)|(refine inR 101 ha ?_)|(refine inR 102 bn ?_)|(refine gK rfl 24 (.tmp 96) _ rfl (k+2) 0 vL ?_ ?_ HO.1.1 HO.1.2 HT.1 iLL ?_;rfl;rfl;rw[ku.out])|(refine gK rfl 24 (.tmp 103) _ rfl (k+2) 1 vR ?_ ?_ HO.2.1 HO.2.2 HT.2 iLL ?_;rfl;rfl;rw[kn.out])|fail)
   clear X Y hp ha ca bn HT HO c0 c1 FX FY h5 ba h7 h6 h0 Z h8 bf cI k0 ku k5 kn bt ki kg kw;have HX:Hid (x<top/\J<top):=⟨by rw[<-hx.out];exact TF c.isLt G.1.le,by rw[<-hn.out];exact TF (ivF c).isLt G.1.le⟩
   have S:m<=64:=by have:=H.2.2;omega
   have m1:Hid (∀W U vb,NtQ (λ_=>True) W U m (λj=>((V i).a j).val)->NtQ (λ_=>True) W vb m (λj=>((V i).a (m+j)).val)->TW prog 66 #[nv x,U,nv J,vb] W (rZ W λe w'=>NtQ (W.heap.size<=·) w' e m λj=>(Md.fS c (ivF c) m (V i).a j).val)):=by
    rw[<-hx.out,<-hn.out];exact λW U vb h1 h2=>EZ G.1 c (ivF c) m H.2.1 S (V i).a (λj=>(V i).a (m+j)) U vb W h1 h2
   have m2:Hid (∀W U vb,NtQ (λ_=>True) W U m (λj=>((V i).b j).val)->NtQ (λ_=>True) W vb m (λj=>((V i).b (m+j)).val)->TW prog 66 #[nv J,U,nv x,vb] W (rZ W λe w'=>NtQ (W.heap.size<=·) w' e m λj=>(Md.fS (ivF c) c m (V i).b j).val)):=by
    rw[<-hx.out,<-hn.out];exact λW U vb h1 h2=>EZ G.1 (ivF c) c m H.2.1 S (V i).b (λj=>(V i).b (m+j)) U vb W h1 h2
   have m3:=Hid.mk' (λW U vb h1 h2=>I1 C J x HX.2 HX.1 m H.2.1 S p (λj=>p (m+j)) _ _ (λj hj=>D.1 j oM) (λj hj=>D.1 (m+j) oM) U vb W h1 h2);have m4:=Hid.mk' (λW U vb h1 h2=>I1 C x J HX.1 HX.2 m H.2.1 S th (λj=>th (m+j)) _ _ (λj hj=>D.2.1 j oM) (λj hj=>D.2.1 (m+j) oM) U vb W h1 h2);refine(RG.gwL [RG.pE (nv x),RG.pE A1,RG.pE (iZ m),RG.pE al,RG.pE (nv J),RG.pE A1,RG.pE (iZ m),RG.pE ah,RG.pRw 4 (λj=>wn (Md.fS c (ivF c) m (V i).a j).val) (QV y k a v2) m] (λW=>Below Z4.heap.size Z4 W) (λW W' A h=>h.trans (A.mono h.size))).tail2 9 kR kR kR ⟨
    RG.gLo 18 (λW n=>(b.2.1.below n).2.1) uNf i33,
    RG.gO 1 A1,
    RG.gO 15 (iZ m),
    RG.gX 1 105 2 106 kl,
    RG.gLo 19 (λW n=>(b.2.2.below n).2.1) uNf i33,
    RG.gO 1 A1,
    RG.gO 15 (iZ m),
    RG.gX 5 109 6 110 bk,
    RG.gD4 0 104 3 107 4 108 7 111 (λW n=>by
     refine(m1.out W _ _ ((na _ W (b.1.grow n).la).1.mono λ_ _ _=>trivial) ((na _ W (b.1.grow n).la).2.mono λ_ _ _=>trivial)).mono ?_;rintro e W' ⟨uu,rfl,A,hq⟩;exact⟨_,rfl,A,hq.mono λg _ F=>(b.1.grow n).qn g F⟩),yB5⟩ (TX _ _).drew ?_
   intro V9 Xh K l;have N1:RwQ 4 (λj=>wn (Md.fS c (ivF c) m (V i).a j).val) (QV y k a v2) Xh (V9 8) m:=K 8 dC;have b:=mk3 (b.1.grow l) (b.2.1.below l) (b.2.2.below l);dsimp only[RG.bW,UJ,Vw,Vx];simp only[Ug,TD,TK,TL];generalize V9 8=n1 at N1⊢;have N1:=Hid.mk' N1;clear K l;go_wp2_with fail
   refine(RG.gwL [RG.pE (nv J),RG.pE A2,RG.pE (iZ m),RG.pE bl,RG.pE (nv x),RG.pE A2,RG.pE (iZ m),RG.pE bh,RG.pRw 4 (λj=>wn (Md.fS (ivF c) c m (V i).b j).val) (QV y k a v2) m] (λW=>Below Xh.heap.size Xh W) (λW W' A h=>h.trans (A.mono h.size))).tail2 9 kR kR kR ⟨
    RG.gLo 19 (λW n=>(b.2.2.below n).2.1) uNf i33,
    RG.gO 2 A2,
    RG.gO 15 (iZ m),
    RG.gX 1 114 2 115 kt,
    RG.gLo 18 (λW n=>(b.2.1.below n).2.1) uNf i33,
    RG.gO 2 A2,
    RG.gO 15 (iZ m),
    RG.gX 5 118 6 119 b9,
    RG.gD4 0 113 3 116 4 117 7 120 (λW n=>by
     refine(m2.out W _ _ ((nb _ W (b.1.grow n).lb).1.mono λ_ _ _=>trivial) ((nb _ W (b.1.grow n).lb).2.mono λ_ _ _=>trivial)).mono ?_;rintro e W' ⟨uu,rfl,A,hq⟩;exact⟨_,rfl,A,hq.mono λg _ F=>(b.1.grow n).qn g F⟩),yB5⟩ (TX _ _).drew ?_
   intro V9 Xi K l;have N2:RwQ 4 (λj=>wn (Md.fS (ivF c) c m (V i).b j).val) (QV y k a v2) Xi (V9 8) m:=K 8 dC;have b:=mk3 (b.1.grow l) (b.2.1.below l) (b.2.2.below l);have N1:=Hid.mk' (N1.out.keep (Kq.of_below l));dsimp only[RG.bW,UJ,Vw,Vx];simp only[Ug,TD,TK,TL];generalize V9 8=n2 at N2⊢;have N2:=Hid.mk' N2;clear K l;go_wp2_with fail
   refine(RG.gwL [RG.pE (nv J),RG.pE A3,RG.pE (iZ m),RG.pE gl,RG.pE (nv x),RG.pE A3,RG.pE (iZ m),RG.pE gh,RG.pRw 12 (λj=>tw (mxT J x p (λj=>p (m+j)) j)) (QV y k a v2) m] (λW=>Below Xi.heap.size Xi W) (λW W' A h=>h.trans (A.mono h.size))).tail2 9 kR kR kR ⟨
    RG.gLo 19 (λW n=>(b.2.2.below n).2.1) uNf i33,
    RG.gO 3 A3,
    RG.gO 15 (iZ m),
    RG.gX 1 123 2 124 bq,
    RG.gLo 18 (λW n=>(b.2.1.below n).2.1) uNf i33,
    RG.gO 3 A3,
    RG.gO 15 (iZ m),
    RG.gX 5 127 6 128 ck,
    RG.gD4 0 122 3 125 4 126 7 129 (λW n=>by
     refine(m3.out W _ _ ((ng _ W (b.1.grow n).lg).1.mono λ_ _ _=>trivial) ((ng _ W (b.1.grow n).lg).2.mono λ_ _ _=>trivial)).mono ?_;rintro e W' ⟨uu,rfl,A,hq⟩;exact⟨_,rfl,A,hq.mono λg _ F=>(b.1.grow n).qn g F⟩),yB5⟩ (TX _ _).drew ?_
   intro V9 Xj K l;have N3:RwQ 12 (λj=>tw (mxT J x p (λj=>p (m+j)) j)) (QV y k a v2) Xj (V9 8) m:=K 8 dC;have b:=mk3 (b.1.grow l) (b.2.1.below l) (b.2.2.below l);have N1:=Hid.mk' (N1.out.keep (Kq.of_below l));have N2:=Hid.mk' (N2.out.keep (Kq.of_below l));dsimp only[RG.bW,UJ,Vw,Vx];simp only[Ug,TD,TK,TL];generalize V9 8=n3 at N3⊢;have N3:=Hid.mk' N3;clear K l;go_wp2_with fail
   refine(RG.gwL [RG.pE (nv x),RG.pE A4,RG.pE (iZ m),RG.pE hl,RG.pE (nv J),RG.pE A4,RG.pE (iZ m),RG.pE hh,RG.pRw 12 (λj=>tw (mxT x J th (λj=>th (m+j)) j)) (QV y k a v2) m] (λW=>Below Xj.heap.size Xj W) (λW W' A h=>h.trans (A.mono h.size))).tail2 9 kR kR kR ⟨
    RG.gLo 18 (λW n=>(b.2.1.below n).2.1) uNf i33,
    RG.gO 4 A4,
    RG.gO 15 (iZ m),
    RG.gX 1 132 2 133 co,
    RG.gLo 19 (λW n=>(b.2.2.below n).2.1) uNf i33,
    RG.gO 4 A4,
    RG.gO 15 (iZ m),
    RG.gX 5 136 6 137 c7,
    RG.gD4 0 131 3 134 4 135 7 138 (λW n=>by
     refine(m4.out W _ _ ((nh _ W (b.1.grow n).lh).1.mono λ_ _ _=>trivial) ((nh _ W (b.1.grow n).lh).2.mono λ_ _ _=>trivial)).mono ?_;rintro e W' ⟨uu,rfl,A,hq⟩;exact⟨_,rfl,A,hq.mono λg _ F=>(b.1.grow n).qn g F⟩),yB5⟩ (TX _ _).drew ?_
   intro V9 Xk K l;have N4:RwQ 12 (λj=>tw (mxT x J th (λj=>th (m+j)) j)) (QV y k a v2) Xk (V9 8) m:=K 8 dC;have b:=mk3 (b.1.grow l) (b.2.1.below l) (b.2.2.below l);have N1:=Hid.mk' (N1.out.keep (Kq.of_below l));have N2:=Hid.mk' (N2.out.keep (Kq.of_below l));have N3:=Hid.mk' (N3.out.keep (Kq.of_below l));dsimp only[RG.bW,UJ,Vw,Vx];simp only[Ug,TD,TK,TL];generalize V9 8=n4 at N4⊢;have N4:=Hid.mk' N4;clear K l;go_wp2_with fail
   have c9:Hid (∃v p th,(∀j,j<2^(T-(i+1))->FracT (p j) ((V (i+1)).g j).1)/\(∀j,j<2^(T-(i+1))->FracT (th j) ((V (i+1)).h j).1)/\(V (i+1)).s.size=32/\Hr w0 Xk y k a (2^(T-(i+1))) (λ_=>i+1) v n1 n2 n3 n4 B (V (i+1)).s (λj=>((V (i+1)).a j).val) (λj=>((V (i+1)).b j).val) p th M [sN,sN]):=by
    have cp:chF N (V i).s ((aO C.toFld f).lf (V i).a (V i).b (V i).g (V i).h u m) ((aO C.toFld f).rt (V i).a (V i).b (V i).g (V i).h u m)=(L3,c):=by
     unfold chF;dsimp only;rw[show Go.Proofs.YtjnchldodncnbaaGreat.wr ((aO C.toFld f).lf (V i).a (V i).b (V i).g (V i).h u m).1=XL from k6.out,show Go.Proofs.YtjnchldodncnbaaGreat.wr ((aO C.toFld f).rt (V i).a (V i).b (V i).g (V i).h u m).1=XR from k9.out];unfold mR;rw[HZ.2.1,HZ.2.2,bi.out,hc.out]
    have ct:=HV.2 i m L3 c H.1 cp;have c8:∀(z1 z2:Fin N) (t:Nat->T3 P) (g:Nat->OnP P),(∀j,j<m+m->FracT (t j) (g j).1)->∀j,j<m->FracT (mxT z1.val z2.val t (λj=>t (m+j)) j) ((aO C.toFld f).fP z1 z2 m g j).1:=λz1 z2 t g hf j hj=>(B8 C f (yX C f G.1.le z1 (hf j oM)).2 (yX C f G.1.le z2 (hf (m+j) oM)).2).2
    have e1:=hx.out;have e2:=hn.out;subst e1;subst e2;show ∃v p th,_;rw[ct,<-H.1];exact⟨v2,_,_,c8 (ivF c) c p _ D.1,c8 c (ivF c) th _ D.2.1,HZ.1,b.1.lists N1.out N2.out N3.out N4.out⟩
   go_roundg (gk-1)
   case measure=>have:=HI.out;omega
   case rel=>exact⟨i+1,by have:=HI.out;omega,c9⟩
  ·obtain rfl:i=T:=oM;obtain⟨v,p,th,fg,fh,ht,I⟩:=KM.out;rw[Yg,Wx]at I;obtain⟨a0,bm⟩:=hE ((V i).a 0).val;obtain⟨b0,b7⟩:=hE ((V i).b 0).val;obtain⟨g1,o1,c1,e1,-,q1,l1,r1⟩:=I.la;obtain⟨g2,o2,c2,e2,-,q2,l2,r2⟩:=I.lb;have r1:=r1 0 oM;have r2:=r2 0 oM;rw[Nat.mul_zero,VK]at r1 r2;dsimp only at r1 r2;rw[bm.out]at r1;rw[b7.out]at r2;subst e1;subst e2;have cA:Hid (Gives 63 #[nv a0] (.string ⟨bx a0⟩)):=by rw[<-bm.out];exact Bz G.1 ((V i).a 0).isLt
   have cB:Hid (Gives 63 #[nv b0] (.string ⟨bx b0⟩)):=by rw[<-b7.out];exact Bz G.1 ((V i).b 0).isLt
   obtain⟨U,ce⟩:=hE (nv a0);obtain⟨vb,bs⟩:=hE (nv b0);rw[ce.out]at cA;rw[bs.out]at cB;have b:=mk3 I r1 (U8 (U8 q1 l1) (U8 q2 (U8 l2 r2)));clear I r1 r2 q1 q2 l1 l2 fg fh ht KM;go_wp2_with (first|(refine ldR 141 b.2.1 ce uNf i33 ?_)|fail)
   refine(cA wr).mono ?_;rintro e Xa ⟨uu,rfl,S,rfl⟩;have KA:=b.1.grow S;obtain⟨D,Xb,X,bb,eA⟩:=Fg (Q:=QV y k a v) (bx a0) (gJ _) Xa (λg F=>KA.qn g F);have kk:=KA.grow bb;obtain⟨Xc,h5⟩:=hE (Xb.setCells (k+2) 2 [D]);obtain⟨KB,J⟩:=kk.put (o:=0) (x:=D) dC;rw[show Xb.setCells (k+2) (0+2) [D]=Xc from h5.out]at KB J;have b4:=S.trans (bb.mono S.size);have rb:Hid (Xc.rangeAt g2 o2 (wn b0)):=Kq.range J b.2.2.2.1 (TF b.2.2.2.2.1 b4.size) (RG.range_below b.2.2.2.2.2 b4 b.2.2.2.2.1);have HA:=mk3 eA.one (Il (o:=2) kk.r2 (Ws rfl)) (eA.keep J);have KB:=Hid.mk' KB;clear KA kk bb eA J b4 S b;go_wp2_with (first|(refine inR 144 X ?_)|(refine gK rfl 23 (.tmp 145) _ rfl (k+2) 2 D ?_ ?_ HA.1.1 HA.1.2 HA.2.1 iB1 ?_;rfl;rfl;rw[h5.out])|(refine ldR 147 rb.out bs uNf i33 ?_)|fail)
   refine(cB Xc).mono ?_;rintro e Xd ⟨uu,rfl,H,rfl⟩;have KC:=KB.out.grow H;obtain⟨l,Xe,Y,be,eB⟩:=Fg (Q:=QV y k a v) (bx b0) (gJ _) Xd (λg F=>KC.qn g F);have KD:=KC.grow be;obtain⟨Xf,h7⟩:=hE (Xe.setCells (k+2) 3 [l]);obtain⟨KE,K⟩:=KD.put (o:=1) (x:=l) (Ws rfl);rw[show Xe.setCells (k+2) (1+2) [l]=Xf from h7.out]at KE K;have HB:=mk2 eB.one (Il (o:=3) KD.r2 (Ws rfl));have KF:=KE.fin (vA:=D) (vB:=l) ((HA.2.2.keep (Kq.of_below (H.trans (be.mono H.size)))).keep K) (eB.keep K);have KR:=mk2 (show Row Xf (k+2) [v false,v true,D,l] from KE.r2) KE.r1;obtain⟨Xg,h6⟩:=hE (Xf.setCells (k+1) 0 [v false,v true,D,l]);rw[h6.out,<-bm.out,<-b7.out]at KF;have KF:=Hid.mk' KF;obtain⟨dI,kf,Z⟩:=TJ.1 qD;have cg:=mk2 kf Z;obtain⟨vO,bo⟩:=hE (Um #[v false,v true,D,l]);clear KC KD KE be eB K H KB kf Z;go_wp2_with (first|(refine inR 150 Y ?_)|(refine gK rfl 23 (.tmp 151) _ rfl (k+2) 3 l ?_ ?_ HB.1.1 HB.1.2 HB.2 iB1 ?_;rfl;rfl;rw[h7.out])|(refine UL rfl 26 (.tmp 13) rfl (k+2) 0 ?_ [v false,v true,D,l] dI ?_ ?_ ?_ ?_ ?_;rfl;exact KR.1.2.1;exact cg.1;exact cg.2;exact jN;rw[show Um [v false,v true,D,l].toArray=vO from bo.out])|(refine Ui rfl 26 (.tmp 12) _ rfl (k+1) 0 #[v false,v true,D,l] ?_ ?_ ?_ ?_ ?_ ?_;rfl;exact bo.symm;exact KR.2.2.2;exact jN;exact KF.2.2;rw[show(#[v false,v true,D,l]:Array TC).toList=[v false,v true,D,l] from rfl,h6.out])|fail)
   refine TM (aL 12 26 rfl KF.1 rfl qD jN) rfl ?_;exact⟨_,rfl,KF.2.1⟩
end
section
open Go.RowKit Go.Sort Go.Deep SPA
theorem Qc{base k g:Nat}{v:TC}{xs:List TC}(t:Nat){W:TA}(b:W.ownsRow base 68 4 v k xs)(o:Row W g (wn t))(F:k<=1000)(s:base<=W.heap.size):
 ∃d W',(Ur #[67,67] 67 #[v,.slice (some (aZ g)) 1 1]).run prog W=.ok d W'/\W'.ownsRow base 68 4 d (k+1) (xs++wn t)/\Ap1 W W' v d:=by
 obtain⟨d,W',n,B,e⟩:=NG t b o oM s;obtain⟨i,w,m⟩:=TJ.1 Rf;simp only[Vz.injEq]at m;obtain⟨D,E,a⟩:=m;obtain⟨z,y,C⟩:=TJ.1 a;have p:∀(j:Nat) u,(wn t)[j]? = some u->W.cell? ((⟨g,0,none⟩:V5).add j)=some u:=λj u r=>by
  rw[mF,TO];have:=o.2.1 j u r;rwa[TO]at this
 have x:=pJ (c:=1) NW w y D oM b (Src.ofSlice (P:=prog) (size:=4) W NW (aZ g) 1 1 (wn t) rfl p (λu q=>Vu.1 (bT t) u (by simpa using q))) oM n;refine⟨d,W',n,B,e.os,e.tape,e.output,e.size,λg l hv=>e.block g l (λh=>hv h.symm),?_⟩;rcases x with h|⟨h,f⟩
 ·exact Ub h
 ·exact T8 ⟨⟨_,h,TG _⟩,λg l=>f.block g l⟩
structure NwL(w W:TA)(k i j:Nat)(v u:TC)(f h:Nat->List TC):Prop where
 bl:Below w.heap.size w W
 kk:w.heap.size=k
 r:Row W k [sN,sN,sN,sN]
 lv:W.ownsRow (k+1) 68 4 v i (t6 f i)
 lu:W.ownsRow (k+1) 68 4 u j (t6 h j)
 ne:∀g,v.ownBlock=some g->u.ownBlock≠some g
section
variable {w W W':TA}{k i j:Nat}{v u:TC}{f h:Nat->List TC}
theorem NwL.swap(H:NwL w W k i j v u f h):NwL w W k j i u v h f:=⟨H.bl,H.kk,H.r,H.lu,H.lv,λg c b=>H.ne g b c⟩
theorem NwL.grow(H:NwL w W k i j v u f h)(b:Below W.heap.size W W'):NwL w W' k i j v u f h:=
 ⟨H.bl.trans (b.mono H.bl.size),H.kk,H.r.below b,own_below H.lv b,own_below H.lu b,H.ne⟩
theorem NwL.app{t g:Nat}(H:NwL w W k i j v u f h)(r:Row W g (wn t))(hf:f i=wn t)(o:i<=1000):
 ∃l W',Hid ((Ur #[67,67] 67 #[v,.slice (some (aZ g)) 1 1]).run prog W=.ok l W')/\NwL w W' k (i+1) j l u f h/\∀g vs,k<g->v.ownBlock≠some g->Row W g vs->Row W' g vs:=by
 obtain⟨l,W',q,p,A⟩:=Qc t H.lv r o H.r.1;have hv:∀g,v.ownBlock=some g->k+1<=g:=λg b=>(cN H.lv b).1
 have y:=H.bl.size;have z:=H.kk;refine⟨l,W',q,⟨⟨A.os.trans H.bl.os,A.tape.trans H.bl.tape,A.output.trans H.bl.output,TU H.bl.size A.size,λg b=>(A.keep g oM λe=>by have:=hv g e;omega).trans (H.bl.block g b)⟩,H.kk,aN H.r A.size (A.keep k H.r.1 λe=>by have:=hv k e;omega),by rw[t6,hf];exact p,bE H.lu λg b=>A.keep g (cN H.lu b).2.1 λe=>H.ne g e b,λg c d=>?_⟩,λg vs c d n=>aN n A.size (A.keep g n.1 d)⟩;rcases A.mv with m|⟨⟨x,m,s⟩,-⟩
 ·rw[m]at c;exact H.ne g c d
 ·rw[m]at c;have:=Uc.inj c;have:=(cN H.lu d).2.1;omega
end
theorem Mk(T:Nat)(k:T<=6):(hvT ((2^T:Nat):Int)).2=true:=by
 match T,k with
 | 0,_|1,_|2,_|3,_|4,_|5,_|6,_=>rfl
theorem NA(n:Nat)(w:TA):(Instr.buildSlice 67 1 #[(0,nv n)]).run prog w=.ok (.slice (some ⟨w.heap.size,0,none⟩) 1 1) (w.alloc (.cells (wn n).toArray 68)):=kR
variable {P:Nat}[NeZero P]{N:Nat}[NeZero N]
omit [NeZero P] [NeZero N] in
theorem Oo{w W:TA}{k t e:Nat}{A B:Bs}{u Rb:Nat->Bs}{d c vA vB:TC}(H:w.heap.size=k)(z:k<e)(E:Below w.heap.size w W)(m:Row W k [.slice none 0 0,.slice none 0 0,.slice none 0 0,.slice none 0 0])(n:TlL (λ_=>True) e t W d u)(v:TlL (λ_=>True) e t W c Rb)(r:ElQ (λ_=>True) 32 W vA A)(p:ElQ (λ_=>True) 32 W vB B):
 Row (W.setCells k 0 [d,c,vA,vB]) k [d,c,vA,vB]/\(#[d,c,vA,vB]:Array TC).all (·.oneCell')=true/\Below w.heap.size w (W.setCells k 0 [d,c,vA,vB])/\TlL (λ_=>True) w.heap.size t (W.setCells k 0 [d,c,vA,vB]) d u/\TlL (λ_=>True) w.heap.size t (W.setCells k 0 [d,c,vA,vB]) c Rb/\ElQ (λ_=>True) 32 (W.setCells k 0 [d,c,vA,vB]) vA A/\ElQ (λ_=>True) 32 (W.setCells k 0 [d,c,vA,vB]) vB B:=by
 have i:∀g,g≠k->(W.setCells k 0 [d,c,vA,vB]).heap[g]? = W.heap[g]?:=λg l=>RG.aG k _ 0 W g l
 have q:Kq (·≠k) W (W.setCells k 0 [d,c,vA,vB]):=Kq.set λg h=>h
 have s:∀ {o:TC}{B:Nat->Bs},TlL (λ_=>True) e t W o B->TlL (λ_=>True) w.heap.size t (W.setCells k 0 [d,c,vA,vB]) o B:=λf=>by
  obtain⟨xs,l,F⟩:=f.ex;refine⟨xs,own_base (bE l λg G=>i g (by have:=(f.lt G).1;omega)) oM,λj D=>?_⟩;obtain⟨x,C,y⟩:=F j D;exact⟨x,C,((y.off oM m).keep q).mono2 λ_ _ _=>trivial⟩
 have el:∀ {x:TC}{b:Bs},ElQ (λ_=>True) 32 W x b->ElQ (λ_=>True) 32 (W.setCells k 0 [d,c,vA,vB]) x b:=λf=>((f.off oM m).keep q).mono2 λ_ _ _=>trivial
 exact⟨m.put rfl,by simp[n.one.2,v.one.2,r.one.2,p.one.2],RG.below_setCells (WG H) _ _ _ E,s n,s v,el r,el p⟩
omit [NeZero P] [NeZero N] in
theorem RwQ.congr{s n:Nat}{f g:Nat->List TC}{Q:Nat->Prop}{W:TA}{v:TC}(h:RwQ s f Q W v n)(hf:∀j,j<n->f j=g j):RwQ s g Q W v n:=by
 obtain⟨a,b,c,m,i,l,e,d⟩:=h;exact⟨a,b,c,m,i,l,e,λj k=>by rw[<-hf j k];exact d j k⟩
omit [NeZero P] in
theorem Iv{b:Bs}(h:(rq N b).isSome=true):nuV b=(rdN N b).val:=by
 obtain⟨m,k⟩:=UT.1 h;rw[EH h,k];exact(QC k).symm
def okT(N:Nat)(k b:Nat->Bs)(j:Nat):Prop:=(rq N (k j)).isSome=true/\(rq N (b j)).isSome=true
theorem LH(C:Fl3 P)(O:Ord N)(u:∀r:EC.Pt P,EC.On r->EC.mul N r=none)(o:ByteArray)(h4:o.size<=16384)(T:Nat)(hT:T<=6)(g1 o1 c1 g2 o2 c2:Nat)(m c:Nat->Bs)(w:TA)(h1:g1<w.heap.size/\∀j,j<2^T->w.cell? ⟨g1,o1+j,none⟩=some (.string ⟨m j⟩))(h2:g2<w.heap.size/\∀j,j<2^T->w.cell? ⟨g2,o2+j,none⟩=some (.string ⟨c j⟩))
 (B:Bool->Nat->Bs) (X:Bs) (hX:Hid (wP (hidX C.toFld u (λj=>rdN N (m j)) (λj=>rdN N (c j)) (2^T))=X)) (q0:Md.Ps Bs (Fin N) (OnP P)) (HQ:Hid (q0.a=(λj=>rdN N (m j))/\q0.b=(λj=>rdN N (c j))/\q0.g=gPt C.toFld ⟨#[108,101,102,116]⟩/\q0.h=gPt C.toFld ⟨#[114,105,103,104,116]⟩/\q0.s=vV o.data.toList X)) (K:∀j,B false j=wP ((aO C.toFld u).pLi (chF N) ivF (uPt C.toFld) T q0 j)/\B true j=wP ((aO C.toFld u).pTi (chF N) ivF (uPt C.toFld) T q0 j)) :
 TW prog 6 #[.string o,.slice (some ⟨g1,o1,none⟩) (2^T) c1,.slice (some ⟨g2,o2,none⟩) (2^T) c2] w (rZ w λe w'=>((¬(∀j,j<2^T->okT N m c j)/\e=.tuple #[.string ⟨#[]⟩,.agg #[sN,sN,sN,sN],iZ 3])\/((∀j,j<2^T->okT N m c j)/\∃vL vR vA vB,e=.tuple #[.string ⟨X⟩,.agg #[vL,vR,vA,vB],iZ 0]/\TlL (λ_=>True) w.heap.size T w' vL (B false)/\TlL (λ_=>True) w.heap.size T w' vR (B true)/\ElQ (λ_=>True) 32 w' vA (bx (((aO C.toFld u).pst (chF N) ivF (uPt C.toFld) T q0 T).a 0).val)/\ElQ (λ_=>True) 32 w' vB (bx (((aO C.toFld u).pst (chF N) ivF (uPt C.toFld) T q0 T).b 0).val)))):=by
 obtain⟨k,hk⟩:=hE (w.heap.size);obtain⟨w1,k1⟩:=hE (w.alloc (.cells [sN,sN,sN,sN].toArray 26));have F1:=dD hk k1;have hF:=Jo ((2^T:Nat):Int);rw[Mk T hT]at hF;obtain⟨n,hn⟩:∃n,2^T=n:=⟨_,rfl⟩
 have HN:Hid (0<n/\n<=64):=⟨by rw[<-hn];exact WR dC,by rw[<-hn];exact TU (Ve dC hT) dC⟩
 have Hn:=Hid.mk' hn;have S:=mk4 O h4 hT K;rw[hn]at h1 h2 hF;have HC:=mk2 h1 h2;have cF:=Hid.mk' hF;rw[hn];have Q:Hid (NwL w w1 k 0 0 sN sN (λj=>wn (nuV (m j))) (λj=>wn (nuV (c j)))):=⟨F1.1,hk.out,F1.2,⟨rfl,Ub ⟨rfl,rfl⟩⟩,⟨rfl,Ub ⟨rfl,rfl⟩⟩,λg e=>by cases e⟩
 have ke:n<=64:=HN.2;have k7:∀j,j<n->Hid (Gives 20 #[.string ⟨m j⟩] (.tuple #[nv (nuV (m j)),.bool (rq N (m j)).isSome])/\Gives 20 #[.string ⟨c j⟩] (.tuple #[nv (nuV (c j)),.bool (rq N (c j)).isSome])):=λj _=>⟨EM O ⟨m j⟩,EM O ⟨c j⟩⟩
 have k6:=Hid.mk' k7;clear hF K hn h1 h2 F1 k7 hT h4 O;go_enter func6,ntmps6;go_wp2_with (first|(refine alR 7 hk k1 ?_)|fail)
 refine(cF w1).mono ?_;rintro e w2 ⟨uu,rfl,G,rfl⟩;have K2:=Hid.mk' (Q.out.grow G);clear G Q cF;go_wp2_with fail
 go_loopg [10,11,12] n (λmm s10 s11 s12 W=>∃i:Nat,i+mm=n/\s12=iZ i/\Hid (NwL w W k i i s10 s11 (λj=>wn (nuV (m j))) (λj=>wn (nuV (c j)))/\∀j,j<i->okT N m c j))
 case atStart=>exact⟨0,oM,rfl,K2.out,λj hj=>absurd hj (VC _)⟩
 case round =>
  obtain⟨i,kd,rfl,M⟩:=hrel;by_cases hi:i<n
  ·have kc:(i:Int)<(n:Int):=oM;have HI:=Hid.mk' hi;have ca:wr.cell? ⟨g1,o1+i,none⟩=some (.string ⟨m i⟩):=by rw[M.1.bl.cell (p:=⟨g1,o1+i,none⟩) HC.1.1];exact HC.1.2 i hi
   obtain⟨a,ha⟩:=hE (nuV (m i));obtain⟨b,hb⟩:=hE (nuV (c i));obtain⟨oa,Y⟩:=hE ((rq N (m i)).isSome);obtain⟨ob,hm⟩:=hE ((rq N (c i)).isSome);obtain⟨va,I⟩:=hE (nv a);obtain⟨vb,F⟩:=hE (nv b);have cA:Hid (Gives 20 #[.string ⟨m i⟩] (.tuple #[va,.bool oa])):=by rw[<-I.out,<-ha.out,<-Y.out];exact(k6.out i hi).1
   have cB:Hid (Gives 20 #[.string ⟨c i⟩] (.tuple #[vb,.bool ob])):=by rw[<-F.out,<-hb.out,<-hm.out];exact(k6.out i hi).2
   go_wp2_with fail
   refine(cA wr).mono ?_;rintro e X1 ⟨uu,rfl,z,rfl⟩;obtain⟨k9,D⟩:=hE (X1.heap.size);obtain⟨X2,U⟩:=hE (X1.alloc (.cells (wn 0).toArray 68));obtain⟨X3,R⟩:=hE (X2.setCells k9 0 (wn a));have FX:=jA D U R rfl;have hq:=z.trans (FX.2.1.mono z.size);have K3:=mk2 (M.1.grow hq) FX.2.2;have cb:X3.cell? ⟨g2,o2+i,none⟩=some (.string ⟨c i⟩):=by rw[K3.1.bl.cell (p:=⟨g2,o2+i,none⟩) HC.2.1];exact HC.2.2 i hi
   clear z hq ca;go_wp2_with (first|(refine alR 13 D U ?_)|(refine stR 13 R I FX.1 i33 (bT a) ?_)|fail)
   refine(cB X3).mono ?_;rintro e X4 ⟨uu,rfl,E,rfl⟩;obtain⟨H,v⟩:=hE (X4.heap.size);obtain⟨X5,Z⟩:=hE (X4.alloc (.cells (wn 0).toArray 68));obtain⟨X6,hp⟩:=hE (X5.setCells H 0 (wn b));have FY:=jA v Z hp rfl;have V:=E.trans (FY.2.1.mono E.size);have hr:k<H/\u10.ownBlock≠some H:=⟨by have:=(K3.1.grow E).r.1;have:=v.out;omega,λe=>by have:=(cN (K3.1.grow E).lv e).2.1;have:=v.out;omega⟩
   have q:=mk4 (K3.1.grow V) (K3.2.below V) FY.2.2 hr;clear E V cb K3 hr FX U R D;by_cases A:oa=true/\ob=true
   case neg =>
    have kb:Hid (¬(∀j,j<n->okT N m c j)):=λh=>A (by rw[<-Y.out,<-hm.out];exact h i HI.out)
    have L:oa=false\/(oa=true/\ob=false):=by
     revert A;cases oa<;>cases ob<;>simp
    clear A;obtain⟨Xz,J⟩:=hE (X6.setCells k 0 [sN,sN,sN,sN]);have KZ:Hid (Row Xz k [sN,sN,sN,sN]/\Below w.heap.size w Xz):=by rw[<-J.out];exact⟨q.1.r.put rfl,RG.below_setCells (WG q.1.kk) _ _ _ q.1.bl⟩
    rcases L with rfl|⟨rfl,rfl⟩
    all_goals
     go_wp2_with (first|(refine alR 15 v Z ?_)|(refine stR 15 hp F FY.1 i33 (bT b) ?_)|(refine Ui rfl 26 (.tmp 7) _ rfl k 0 #[sN,sN,sN,sN] ?_ ?_ ?_ ?_ ?_ ?_;rfl;rfl;exact q.1.r.2.2;exact jN;kernel_rfl;rw[show(#[sN,sN,sN,sN]:Array TC).toList=[sN,sN,sN,sN] from rfl,J.out])|fail)
     refine TM (fM 6 7 8 26 rfl KZ.1 rfl rfl rfl qD jN) rfl ?_;exact⟨_,rfl,KZ.2,Ub ⟨kb.out,rfl⟩⟩
   case pos =>
   obtain⟨rfl,rfl⟩:=A;have L:=Hid.mk' (NA a X6);obtain⟨Y1,hw⟩:=hE (X6.alloc (.cells (wn a).toArray 68));have FA:Hid (Below X6.heap.size X6 Y1/\Row Y1 X6.heap.size (wn a)):=dD rfl hw;rw[hw.out,I.out]at L;obtain⟨v',Y2,k2,K7,kp⟩:=(q.1.grow FA.1).app (t:=a) FA.2 (by show wn (nuV (m i))=wn a;rw[ha.out]) oM;have k3:=kp H _ q.2.2.2.1 q.2.2.2.2 (q.2.2.1.below FA.1);have J:=Hid.mk' (NA b Y2);obtain⟨Z1,ht⟩:=hE (Y2.alloc (.cells (wn b).toArray 68));have FB:Hid (Below Y2.heap.size Y2 Z1/\Row Z1 Y2.heap.size (wn b)):=dD rfl ht;rw[ht.out,F.out]at J;obtain⟨u',Z2,hu,K8,-⟩:=(K7.grow FB.1).swap.app (t:=b) FB.2 (by show wn (nuV (c i))=wn b;rw[hb.out]) oM;have KR:=mk2 q.2.1.2.1 k3.2.1;have KE:Hid (NwL w Z2 k (i+1) (i+1) v' u' (λj=>wn (nuV (m j))) (λj=>wn (nuV (c j)))/\∀j,j<i+1->okT N m c j):=⟨K8.swap,λj hj=>by
    by_cases e:j=i
    ·subst e;exact⟨Y.out,hm.out⟩
    ·exact M.2 j oM⟩
   clear K7 K8 kp k3 FA FB q M;go_wp2_with (first|(refine alR 15 v Z ?_)|(refine stR 15 hp F FY.1 i33 (bT b) ?_)|(refine ldR 13 KR.1 I uNf i33 ?_)|(refine inR 65 L ?_)|(refine inR 66 k2 ?_)|(refine ldR 15 KR.2 F uNf i33 ?_)|(refine inR 69 J ?_)|(refine inR 70 hu ?_)|fail)
   go_roundg (gk-1)
   case measure=>have:=HI.out;omega
   case rel=>exact⟨i+1,by have:=HI.out;omega,rfl,KE⟩
  ·have kc:¬(i:Int)<(n:Int):=oM;obtain rfl:i=n:=oM;have ka:=Hid.mk' M.2;have Q:Hid (Below w.heap.size w wr/\Row wr k [sN,sN,sN,sN]/\NtQ (k < ·) wr u10 i (λj=>(rdN N (m j)).val)/\NtQ (k < ·) wr u11 i (λj=>(rdN N (c j)).val)):=⟨M.1.bl,M.1.r,(RwQ.of_own (s:=4) (f:=λj=>wn (nuV (m j))) (λ_=>rfl) M.1.lv HN.1).congr λj hj=>by rw[Iv (M.2 j hj).1],(RwQ.of_own (s:=4) (f:=λj=>wn (nuV (c j))) (λ_=>rfl) M.1.lu HN.1).congr λj hj=>by rw[Iv (M.2 j hj).2]⟩
   have k8:=Hid.mk' M.1.kk;clear M K2 hi;go_wp2_with fail
   refine(FD C ⟨#[108,101,102,116]⟩ dC i HN.1 HN.2 wr).mono ?_;rintro e W1 ⟨V,rfl,z,hG,-⟩;go_wp2_with fail
   refine(FD C ⟨#[114,105,103,104,116]⟩ dC i HN.1 HN.2 W1).mono ?_;rintro e W2 ⟨R,rfl,G,hH,-⟩;obtain⟨A,hl⟩:=hE (inT P);obtain⟨vt,h7⟩:=hE (tv A);have cI:Hid (Gives 22 #[] vt):=by rw[<-h7.out,<-hl.out];exact I7 C
   have fu:Hid (FracT A (uPt C.toFld).1):=by rw[<-hl.out];exact⟨B7 C.toFld _ _,(uPt C.toFld).2⟩
   go_wp2_with fail
   refine(cI W2).mono ?_;rintro e W3 ⟨uu,rfl,L,rfl⟩;obtain⟨v,H⟩:=hE (W3.heap.size);obtain⟨W4,h9⟩:=hE (W3.alloc (.cells zP.toArray 74));obtain⟨W5,he⟩:=hE (W4.setCells v 0 (tw A));have FU:=jA H h9 he rfl;have h8:=G.trans ((L.trans (FU.2.1.mono L.size)).mono G.size);have k4:=L.trans (FU.2.1.mono L.size);have U:=z.trans (h8.mono z.size);have D:Hid (Below w.heap.size w W5/\Row W5 k [sN,sN,sN,sN]/\NtQ (k < ·) W5 u10 i (λj=>(rdN N (m j)).val)/\NtQ (k < ·) W5 u11 i (λj=>(rdN N (c j)).val)/\PtQ (k < ·) W5 V i (bsP P ⟨#[108,101,102,116]⟩)/\PtQ (k < ·) W5 R i (bsP P ⟨#[114,105,103,104,116]⟩)/\Row W5 v (tw A)/\k<v):=⟨Q.1.trans (U.mono Q.1.size),Q.2.1.below U,Q.2.2.1.keep (Kq.of_below U),Q.2.2.2.keep (Kq.of_below U),(hG.mono λg _ hg=>TF Q.2.1.1 hg).keep (Kq.of_below h8),(hH.mono λg _ hg=>TF Q.2.1.1 (TU z.size hg)).keep (Kq.of_below k4),FU.2.2,by have:=(((Q.2.1.below z).below G).below L).1;have:=H.out;omega⟩
   clear z G L h8 k4 U hG hH Q cI;go_wp2_with (first|(refine alR 19 H h9 ?_)|(refine Ui rfl 74 (.tmp 19) _ rfl v 0 (tw A).toArray ?_ ?_ ?_ ?_ ?_ ?_;rfl;exact h7.out.symm;exact FU.1;exact iP3;exact qE A;rw[show(tw A).toArray.toList=tw A from rfl,he.out])|fail)
   clear FU h9 he H h7 hl;have fb:∀(h0:ByteArray) (j:Nat),FracT (bsP P h0 j) (gPt C.toFld h0 j).1:=λh0 j=>⟨B7 C.toFld _ _,(gPt C.toFld h0 j).2⟩
   obtain⟨t1,t2,t3,t4,t5,d,s1,s2,s3,s4,s5,s6,s7⟩:=Ie C S.1 u i HN.2 (λj=>rdN N (m j)) (λj=>rdN N (c j)) (bsP P ⟨#[108,101,102,116]⟩) (bsP P ⟨#[114,105,103,104,116]⟩) (gPt C.toFld ⟨#[108,101,102,116]⟩) (gPt C.toFld ⟨#[114,105,103,104,116]⟩) A (uPt C.toFld) (λj _=>fb _ j) (λj _=>fb _ j) fu.out;have s7:Gives 27 #[tv t5] (.string ⟨X⟩):=by rw[<-hX.out,Hn.out];exact s7
   refine(RG.gwL [RG.pE u10,RG.pE V,RG.pE (tv t1),RG.pE u11,RG.pE R,RG.pE (tv t2),RG.pE (tv t3),RG.pE u10,RG.pE u11,RG.pE (nv d),RG.pE (tv A),RG.pE (tv t4),RG.pE (tv t5),RG.pE (.string ⟨X⟩)] (λW=>Below W5.heap.size W5 W) (λW W' hb h=>h.trans (hb.mono h.size))).tail2 14 kR kR kR ⟨
    RG.gO 10 u10,
    RG.gO 17 V,
    RG.gD2 0 78 1 79 (λW K=>s1 W _ _ ((D.2.2.1.keep (Kq.of_below K)).mono λ_ _ _=>trivial) ((D.2.2.2.2.1.keep (Kq.of_below K)).mono λ_ _ _=>trivial)),
    RG.gO 11 u11,
    RG.gO 18 R,
    RG.gD2 3 81 4 82 (λW K=>s2 W _ _ ((D.2.2.2.1.keep (Kq.of_below K)).mono λ_ _ _=>trivial) ((D.2.2.2.2.2.1.keep (Kq.of_below K)).mono λ_ _ _=>trivial)),
    RG.gC2 2 80 5 83 s3,
    RG.gO 10 u10,
    RG.gO 11 u11,
    RG.gD2 7 85 8 86 (λW K=>s4 W _ _ ((D.2.2.1.keep (Kq.of_below K)).mono λ_ _ _=>trivial) ((D.2.2.2.1.keep (Kq.of_below K)).mono λ_ _ _=>trivial)),
    RG.gLo 19 (λW K=>(D.2.2.2.2.2.2.1.below K).2.1) uP3 iP3,
    RG.gC2 9 87 10 88 s5,
    RG.gC2 6 84 11 89 s6,
    RG.wN 12 90 27 (λx=>#[x]) (λx W E K=>by
     obtain rfl:x=tv t5:=E;exact s7 W),yB5⟩ (TX _ _).drew ?_
   intro V9 Z hR E;have hV:=hR 13 dC;have q:=mk7 (D.1.trans (E.mono D.1.size)) (D.2.1.below E) (D.2.2.1.keep (Kq.of_below E)) (D.2.2.2.1.keep (Kq.of_below E)) (D.2.2.2.2.1.keep (Kq.of_below E)) (D.2.2.2.2.2.1.keep (Kq.of_below E)) (U8 (D.2.2.2.2.2.2.1.below E) D.2.2.2.2.2.2.2);dsimp only[RG.bW,UJ,Vw,Vx];simp only[Ug,TD,TK,TL];rw[hV];clear hR E hV s1 s2 s3 s4 s5 s6 s7 D;go_wp2_with fail
   have sX:X.size=33:=by rw[<-hX.out];exact bX _
   obtain⟨dP,h5,h6⟩:=TJ.1 uP3;have Y:Z.drew.rangeAt v 0 (tw A):=q.2.2.2.2.2.2.1.2.1;refine anyS.begin (λ_ W=>W.rangeAt v 0 (tw A)) kR ?_;have bS:∀(p:Nat),Bef (λ_ W=>World.rangeAt W v 0 (tw A)) p Z.drew:=λp=>⟨#[],by simp,Y⟩
   refine anyS.val (i:=0) (d:=some 92) (x:=.string ⟨X⟩) rfl 11 (λ_ _ h=>h) (bS 11) Y ?_;simp only[Ug,TD,TK,TL];refine anyS.val (i:=1) (d:=some 93) (x:=.string o) rfl 11 (λ_ _ h=>h) (bS 11) Y ?_;simp only[Ug,TD,TK,TL];refine anyS.val (i:=2) (d:=some 94) (x:=.string ⟨X⟩) rfl 11 (λ_ _ h=>h) (bS 11) Y ?_;simp only[Ug,TD,TK,TL];refine anyS.val (i:=4) (d:=some 96) (x:=u10) rfl 11 (λ_ _ h=>h) (bS 11) Y ?_;simp only[Ug,TD,TK,TL];refine anyS.val (i:=5) (d:=some 97) (x:=u11) rfl 11 (λ_ _ h=>h) (bS 11) Y ?_;simp only[Ug,TD,TK,TL];refine anyS.val (i:=6) (d:=some 98) (x:=V) rfl 11 (λ_ _ h=>h) (bS 11) Y ?_;simp only[Ug,TD,TK,TL];refine anyS.val (i:=7) (d:=some 99) (x:=R) rfl 11 (λ_ _ h=>h) (bS 11) Y ?_;simp only[Ug,TD,TK,TL];refine anyS.row (i:=8) (d:=some 100) (cs:=tw A) rfl 11 (λ_ _ h=>h) 74 19 v 0 dP rfl h5 h6 iP3 (λW ⟨l,e,h⟩=>h) (bS 11) Y ?_;simp only[Ug,TD,TK,TL];clear bS;refine anyS.cal (i:=3) (d:=some 95) rfl (Df o ⟨X⟩ S.2.1 (by show X.size<=_;omega) Z.drew) ?_;rintro xl Wl ⟨k5,y,rfl,hy,hz⟩;have F:Below Z.heap.size Z Wl:=((TX Z.heap.size Z).drew).trans k5;have hs:Z.heap.size<=y:=hy;have Sl:Wl.rangeAt v 0 (tw A):=(q.2.2.2.2.2.2.1.below F).2.1;refine⟨Sl,?_⟩;simp only[Ug,TD,TK,TL];have ny:∀g,g<Z.heap.size->k<g->g≠y:=λg hg _ e=>oM
   have hc:=Mo C S.1 u T S.2.2.1 q0 (uPt C.toFld) A (bsP P ⟨#[108,101,102,116]⟩) (bsP P ⟨#[114,105,103,104,116]⟩) fu.out (λj _=>by rw[HQ.2.2.1];exact fb _ j) (λj _=>by rw[HQ.2.2.2.1];exact fb _ j) (by rw[HQ.2.2.2.2];exact yR _ _) Z Wl y F hs (by rw[HQ.2.2.2.2];exact hz) u10 u11 V R (by rw[Hn.out,HQ.1];exact(q.2.2.1.mono ny).keep (Kq.of_below F)) (by rw[Hn.out,HQ.2.1];exact(q.2.2.2.1.mono ny).keep (Kq.of_below F)) (by rw[Hn.out];exact(q.2.2.2.2.1.mono ny).keep (Kq.of_below F)) (by rw[Hn.out];exact(q.2.2.2.2.2.1.mono ny).keep (Kq.of_below F)) B S.2.2.2;refine anyS.cal (i:=9) (d:=some 101) rfl hc ?_;rintro xv Wv ⟨h3,vL,vR,vA,vB,rfl,tL,tR,eA,eB⟩;have hh:Row Wv k [.slice none 0 0,.slice none 0 0,.slice none 0 0,.slice none 0 0]:=q.2.1.below h3;have J:=Oo k8.out q.2.1.1 (q.1.trans (h3.mono q.1.size)) hh tL tR eA eB;have I:=q.2.2.2.2.2.2.1.below h3;have Sw:(Wv.setCells k 0 [vL,vR,vA,vB]).rangeAt v 0 (tw A):=(I.other (by have:=q.2.2.2.2.2.2.2;omega)).2.1;refine⟨I.2.1,?_⟩;clear hc ny F hs hz k5 Sl Y tL tR eA eB;simp only[Ug,TD,TK,TL];refine anyS.nxt (i:=10) (d:=some 6) (x:=.string ⟨X⟩) rfl I.2.1 ?_;simp only[Ug,TD,TK,TL];refine anyS.sta (i:=11) (d:=none) rfl 26 (.tmp 7) (.tmp 101) rfl k 0 #[vL,vR,vA,vB] J.2.1 hh.2.2 jN Sw ?_;simp only[Ug,TD,TK,TL];refine anyS.nxt (i:=12) (d:=some 8) (x:=iZ 0) rfl Sw ?_;simp only[Ug,TD,TK,TL];refine anyS.fin kR ?_ _;intro WZ k0;rw[<-k0]at J;have KZ:=Hid.mk' J;clear J k0 Sw I hh h3 h5 h6;go_wp2_with fail
   refine TM (fM 6 7 8 26 rfl KZ.1 rfl rfl rfl qD jN) rfl ?_;exact⟨_,rfl,KZ.2.2.1,T8 ⟨ka.out,vL,vR,vA,vB,rfl,KZ.2.2.2.1,KZ.2.2.2.2.1,KZ.2.2.2.2.2.1,KZ.2.2.2.2.2.2⟩⟩
end
section
open Go.RowKit Go.Sort Go.Deep SPA
variable {P:Nat}[NeZero P]{N:Nat}
theorem LG(c:ByteArray)(n o z x:Nat)(u v:Option V5)(h:¬((hvT (n:Int)).2=true/\n=o))(w:TA):TW prog 6 #[.string c,.slice u n z,.slice v o x] w (rZ w λe w'=>e=.tuple #[.string ⟨#[]⟩,.agg #[sN,sN,sN,sN],iZ 2]):=by
 obtain⟨k,p⟩:=hE (w.heap.size);obtain⟨s,f⟩:=hE (w.alloc (.cells [sN,sN,sN,sN].toArray 26));have l:=dD p f;have i:=Hid.mk' (Jo (n:Int));obtain⟨ok,m⟩:=hE ((hvT (n:Int)).2);rw[m.out]at i h;have j:ok=false\/(ok=true/\¬(n:Int)=(o:Int)):=by
  cases ok with
  | false=>exact Ub rfl
  | true=>exact T8 ⟨rfl,λe=>h ⟨rfl,oM⟩⟩
 clear h;go_enter func6,ntmps6;go_wp2_with (first|(refine alR 7 p f ?_)|fail)
 refine(i s).mono ?_;rintro e y ⟨a,rfl,b,rfl⟩;have g:=mk2 (l.1.trans (b.mono l.1.size)) (l.2.below b);obtain⟨q,d⟩:=hE (y.setCells k 0 [sN,sN,sN,sN]);have r:Hid (Row q k [sN,sN,sN,sN]/\Below w.heap.size w q):=by rw[<-d.out];exact⟨g.2.put rfl,RG.below_setCells (WG p.out) _ _ _ g.1⟩
 clear b i;rcases j with rfl|⟨rfl,t⟩
 all_goals
  go_wp2_with (first|(refine Ui rfl 26 (.tmp 7) _ rfl k 0 #[sN,sN,sN,sN] ?_ ?_ ?_ ?_ ?_ ?_;rfl;rfl;exact g.2.2.2;exact jN;kernel_rfl;rw[show(#[sN,sN,sN,sN]:Array TC).toList=[sN,sN,sN,sN] from rfl,d.out])|fail)
  refine TM (fM 6 7 8 26 rfl r.1 rfl rfl rfl qD jN) rfl ?_;exact⟨_,rfl,r.2,rfl⟩
end
section
open Go.RowKit Go.Sort Go.Deep SPA
theorem LL(c:ByteArray)(n o z x:Nat)(u v:Option V5)(h:¬((hvT (n:Int)).2=true/\n=o))(w:TA):TW prog 4 #[.string c,.slice u n z,.slice v o x] w (rZ w λe w'=>e=.tuple #[sN,.agg #[sN,sN,sN,sN],iZ 2]):=by
 obtain⟨k,p⟩:=hE (w.heap.size);obtain⟨s,f⟩:=hE (w.alloc (.cells [sN,sN,sN,sN].toArray 26));have l:=dD p f;have i:=Hid.mk' (Jc (n:Int));obtain⟨ok,m⟩:=hE ((hvT (n:Int)).2);rw[m.out]at i h;have j:ok=false\/(ok=true/\¬(n:Int)=(o:Int)):=by
  cases ok with
  | false=>exact Ub rfl
  | true=>exact T8 ⟨rfl,λe=>h ⟨rfl,oM⟩⟩
 clear h;go_enter func4,ntmps4;go_wp2_with (first|(refine alR 7 p f ?_)|fail)
 refine(i s).mono ?_;rintro e y ⟨a,rfl,b,rfl⟩;have g:=mk2 (l.1.trans (b.mono l.1.size)) (l.2.below b);obtain⟨q,d⟩:=hE (y.setCells k 0 [sN,sN,sN,sN]);have r:Hid (Row q k [sN,sN,sN,sN]/\Below w.heap.size w q):=by rw[<-d.out];exact⟨g.2.put rfl,RG.below_setCells (WG p.out) _ _ _ g.1⟩
 clear b i;rcases j with rfl|⟨rfl,t⟩
 all_goals
  go_wp2_with (first|(refine Ui rfl 26 (.tmp 7) _ rfl k 0 #[sN,sN,sN,sN] ?_ ?_ ?_ ?_ ?_ ?_;rfl;rfl;exact g.2.2.2;exact jN;kernel_rfl;rw[show(#[sN,sN,sN,sN]:Array TC).toList=[sN,sN,sN,sN] from rfl,d.out])|fail)
  refine TM (fM 6 7 8 26 rfl r.1 rfl rfl rfl qD jN) rfl ?_;exact⟨_,rfl,r.2,rfl⟩
variable {N:Nat}
theorem J7(O:Ord N)(n cap:Nat)(f:n<=512)(q:Option V5)(L:Nat->Bs)(w:TA)(m:Args w q n L):TW prog 11 #[(.func (.func 12) #[] #[]),.slice q n cap] w (rZ w λe w'=>∃s ok,e=.tuple #[s,.bool ok]/\(ok=true↔∀j,j<n->(rq N (L j)).isSome=true)):=by
 refine(FK O n cap f q L w m).mono ?_;rintro e w' ⟨v,rfl,h⟩;rcases h with⟨⟨j,b,g⟩,l⟩|⟨b,k,o,d,p,rfl⟩
 ·obtain⟨i,rfl⟩:=l;exact⟨_,rfl,i,_,_,rfl,λe=>Bool.noConfusion e,λc=>by have:=c j b;rw[g]at this;cases this⟩
 ·exact⟨_,rfl,d.bel,_,_,rfl,λ_=>b,λ_=>rfl⟩
theorem LK(O:Ord N)(d:ByteArray)(n M I:Nat)(u x:Option V5)(T:n<=64)(l:(hvT (n:Int)).2=true)(z v:Nat->Bs)(w:TA)(t:Args w u n z)(G:Args w x n v)(h:¬(∀j,j<n->(rq N (z j)).isSome=true/\(rq N (v j)).isSome=true)):TW prog 4 #[.string d,.slice u n M,.slice x n I] w (rZ w λe w'=>e=.tuple #[sN,.agg #[sN,sN,sN,sN],iZ 3]):=by
 obtain⟨k,E⟩:=hE (w.heap.size);obtain⟨P,r⟩:=hE (w.alloc (.cells [sN,sN,sN,sN].toArray 26));have C:=dD E r;have a:=Hid.mk' (Jc (n:Int));rw[l]at a;have K:=Hid.mk' (λ(W:TA) (y:Below w.heap.size w W)=>J7 O n M (by omega) u z W (jS t y));have F:=Hid.mk' (λ(W:TA) (y:Below w.heap.size w W)=>J7 O n I (by omega) x v W (jS G y));have A:=Hid.mk' h;clear h t G;go_enter func4,ntmps4;go_wp2_with (first|(refine alR 7 E r ?_)|fail)
 refine(a P).mono ?_;rintro e S ⟨L,rfl,c,rfl⟩;have s:=mk2 (C.1.trans (c.mono C.1.size)) (C.2.below c);clear c a;go_wp2_with fail
 refine(K S s.1).mono ?_;rintro e Q ⟨L,rfl,g,s1,b,rfl,m⟩;have i:=mk3 (s.1.trans (g.mono s.1.size)) (s.2.below g) m;clear g m K;go_wp2_with fail
 refine(F Q i.1).mono ?_;rintro e R ⟨L,rfl,f,s2,q,rfl,o⟩;have D:=mk2 (i.1.trans (f.mono i.1.size)) (i.2.1.below f);have B:b=false\/(b=true/\q=false):=by
  have p:=A.out;have t:=i.2.2;cases b with
  | false=>exact Ub rfl
  | true =>
   cases q with
   | false=>exact T8 ⟨rfl,rfl⟩
   | true=>exact absurd (λj H=>⟨t.1 rfl j H,o.1 rfl j H⟩) p
 obtain⟨H,p⟩:=hE (R.setCells k 0 [sN,sN,sN,sN]);have J:Hid (Row H k [sN,sN,sN,sN]/\Below w.heap.size w H):=by rw[<-p.out];exact⟨D.2.put rfl,RG.below_setCells (WG E.out) _ _ _ D.1⟩
 clear f o F i;rcases B with rfl|⟨rfl,rfl⟩
 all_goals
  go_wp2_with (first|(refine Ui rfl 26 (.tmp 7) _ rfl k 0 #[sN,sN,sN,sN] ?_ ?_ ?_ ?_ ?_ ?_;rfl;rfl;exact D.2.2.2;exact jN;kernel_rfl;rw[show(#[sN,sN,sN,sN]:Array TC).toList=[sN,sN,sN,sN] from rfl,p.out])|fail)
  refine TM (fM 6 7 8 26 rfl J.1 rfl rfl rfl qD jN) rfl ?_;exact⟨_,rfl,J.2,rfl⟩
end
section
open Go.RowKit Go.Sort Go.Deep
variable {P:Nat}[NeZero P]{N:Nat}
def nF(i j:Nat):UInt8:=TV ((i*37+j)%253) ^^^ 90
theorem yZ(i j:Nat):bits .xor .u8 (((i:Int)*37+(j:Int))%253) 90=SP.ub (nF i j):=by
 have H:∀j:Fin 253,bits .xor .u8 (j.val:Int) 90=SP.ub (TV j.val ^^^ 90):=by decide +kernel
 have:=H ⟨(i*37+j)%253,Nat.mod_lt _ (by decide)⟩;have e:(((i*37+j)%253:Nat):Int)=((i:Int)*37+(j:Int))%253:=by omega
 simp only[e]at this;exact this
theorem AZ(x:UInt8):Yo.wrap (SP.ub x+1)=SP.ub (x+1):=by
 have H:∀j:Fin 256,Yo.wrap ((j.val:Int)+1)=(((TV j.val+1).toNat:Nat):Int):=by decide +kernel
 have:=H ⟨x.toNat,x.toNat_lt⟩;unfold SP.ub;simp only[UInt8.ofNat_toNat]at this;exact this
def flQ(b:SP.Bs)(i:Nat):Nat->SP.Bs
 | 0=>b
 | j+1=>flQ b i j++#[nF i j]
theorem fA(b:SP.Bs)(i:Nat):∀j,(flQ b i j).size=b.size+j
 | 0=>rfl
 | j+1=>by rw[flQ,UA,fA b i j];rfl
theorem zH(a x:SP.Bs)(k:Nat)(h:k<a.size):(a++x)[k]! = a[k]!:=by
 rw[getElem!_pos (a++x) k (by rw[UA];omega),getElem!_pos a k h,Array.getElem_append_left h]
theorem E5(b:SP.Bs)(i k:Nat)(c:k<b.size):∀j,(flQ b i j)[k]! = b[k]!
 | 0=>rfl
 | j+1=>by rw[flQ,zH _ _ _ (by rw[fA];omega),E5 b i k c j]
theorem Cc(b:SP.Bs)(i k:Nat):∀j,k<j->(flQ b i j)[b.size+k]! = nF i k
 | 0,h=>absurd h (by omega)
 | j+1,h=>by
  rw[flQ];by_cases e:k=j
  ·subst e;rw[getElem!_pos (flQ b i k++#[nF i k]) (b.size+k) (by rw[UA,fA];show _<_+1;omega),Array.getElem_append_right (by rw[fA];omega)];simp[fA]
  ·rw[zH _ _ _ (by rw[fA];omega),Cc b i k j (by omega)]
theorem MA(b:SP.Bs)(i j:Nat):∃x,flQ b i j=b++x:=by
 induction j with
 | zero=>exact⟨#[],by rw[Array.append_empty];rfl⟩
 | succ j ih =>
  obtain⟨x,k⟩:=ih;exact⟨x++#[nF i j],by rw[flQ,k,Array.append_assoc]⟩
def rB(b:SP.Bs):Nat->SP.Bs
 | 0=>b
 | k+1=>(rB b k).setIfInBounds k (b[k]!+1)
theorem gW(b:SP.Bs):∀k,(rB b k).size=b.size
 | 0=>rfl
 | k+1=>by rw[rB,Up,gW b k]
theorem Al(b:SP.Bs):∀k j,k<=b.size->j<b.size->(rB b k)[j]! = if j<k then b[j]!+1 else b[j]!
 | 0,j,_,_=>by simp[rB]
 | k+1,j,hk,hj=>by
  have c:j<((rB b k).setIfInBounds k (b[k]!+1)).size:=by rw[Up,gW];exact hj
  rw[rB,getElem!_pos _ j c,Array.getElem_setIfInBounds (by rw[gW];exact hj)];by_cases e:k=j
  ·subst e;rw[yB3 rfl,yB3 (by omega)]
  ·rw[yB4 e,<-getElem!_pos (rB b k) j (by rw[gW];exact hj),Al b k j (by omega) hj];by_cases h:j<k
   ·rw[yB3 h,yB3 (by omega)]
   ·rw[yB4 h,yB4 (by omega)]
def T2Q(T:Nat->SP.Bs)(i k:Nat):Nat->SP.Bs:=λj=>if j<i then rB (T j) (T j).size else if j=i then rB (T j) k else T j
theorem J9(T:Nat->SP.Bs):T2Q T 0 0=T:=by
 funext j;unfold T2Q;rw[yB4 (by omega)];by_cases h:j=0
 ·rw[yB3 h];rfl
 ·rw[yB4 h]
theorem Ka(T:Nat->SP.Bs)(i:Nat):T2Q T i (T i).size=T2Q T (i+1) 0:=by
 funext j;unfold T2Q;by_cases h:j<i
 ·rw[yB3 h,yB3 (by omega)]
 ·rw[yB4 h];by_cases k:j=i
  ·rw[yB3 k,yB3 (by omega),k]
  ·rw[yB4 k,yB4 (by omega)];by_cases b:j=i+1
   ·rw[yB3 b];rfl
   ·rw[yB4 b]
theorem AN(T:Nat->SP.Bs)(i k:Nat):T2Q T i k i=rB (T i) k:=by unfold T2Q;rw[yB4 (by omega),yB3 rfl]
theorem Kb(T:Nat->SP.Bs)(i k j:Nat)(h:j≠i):T2Q T i (k+1) j=T2Q T i k j:=by
 unfold T2Q;rw[yB4 h,yB4 h]
theorem eK(T:Nat->SP.Bs)(i k j:Nat):(T2Q T i k j).size=(T j).size:=by
 unfold T2Q;split
 ·exact gW _ _
 ·split
  ·exact gW _ _
  ·rfl
theorem MW(T:Nat->SP.Bs)(n j:Nat)(h:j<n):T2Q T n 0 j=rB (T j) (T j).size:=by unfold T2Q;rw[yB3 h]
structure ARow(w:TA)(B kl n:Nat)(V:Nat->TC):Prop where
 cell:∀j,j<n->w.cell? ⟨kl,j,none⟩=some (V j)
 kb:0<n->kl<w.heap.size
 ne:∀j,j<n->(V j).ownBlock≠some kl
 inj:∀j j',j<n->j'<n->j≠j'->∀g,(V j).ownBlock=some g->(V j').ownBlock≠some g
 lt:∀j,j<n->∀g,(V j).ownBlock=some g->B<=g/\g<w.heap.size
structure AS(w W:TA)(B kl n:Nat)(V:Nat->TC)(T:Nat->SP.Bs)(sv:TC)(m:Nat)(S:Nat->SP.Bs):Prop where
 bl:Below B w W
 sz:w.heap.size<=W.heap.size
 kl0:0<n->W.heap[kl]? = w.heap[kl]?
 own:∀j,j<n->OwQ W w.heap.size B (V j) (T j)
 sl:W.ownsRow w.heap.size 9 1 sv m ((US m).map λj=>.string ⟨S j⟩)
theorem AS.cell{w W:TA}{B k n m:Nat}{V:Nat->TC}{T S:Nat->SP.Bs}{b:TC}(h:AS w W B k n V T b m S)(d:ARow w B k n V){j:Nat}(c:j<n):W.cell? ⟨k,j,none⟩=some (V j):=by
 have:W.cell? ⟨k,j,none⟩=w.cell? ⟨k,j,none⟩:=by unfold WN;rw[h.kl0 (by omega)]
 rw[this];exact d.cell j c
theorem AS.drew{w W:TA}{B b n m:Nat}{V:Nat->TC}{T S:Nat->SP.Bs}{k:TC}(h:AS w W B b n V T k m S):AS w W.drew B b n V T k m S:=⟨⟨h.bl.os,h.bl.tape,h.bl.output,h.bl.size,h.bl.block⟩,h.sz,h.kl0,h.own,h.sl⟩
theorem Pm:(prog.info? 9).map (λi=>(i.size,i.bytes,i.zero.map λz=>z.cells.size))=some (1,16,some 1):=by kernel_rfl
theorem Qn:prog.underlying 22=some (.slice 9):=by kernel_rfl
theorem AS.push{w W:TA}{B d n m:Nat}{V:Nat->TC}{T S:Nat->SP.Bs}{l:TC}(h:AS w W B d n V T l m S)(q:ARow w B d n V)(v:B<=w.heap.size)(y:m<=1000000){x:ByteArray}(t:x=⟨S m⟩):
 ∃c W',(Ur #[22,22] 22 #[l,.slice (some ⟨W.heap.size,0,none⟩) 1 1]).run prog (W.alloc (.cells #[.string x] 9))=.ok c W'/\AS w W' B d n V T c (m+1) S:=by
 have s:=h.sz;obtain⟨c,W',u,r,k⟩:=vW Qn Pm (by omega) h.sl (x:=.string x) rfl (by omega) s;have f:∀g,g<w.heap.size->l.ownBlock≠some g:=λg b e=>by
  have:=(cN h.sl e).1;omega
 have i:∀g,g<w.heap.size->W'.heap[g]? = W.heap[g]?:=λg b=>k.keep g (by omega) (f g b)
 refine⟨c,W',u,⟨by rw[k.os,h.bl.os],by rw[k.tape,h.bl.tape],by rw[k.output,h.bl.output],TU h.bl.size k.size,λg b=>?_⟩,by have:=k.size;omega,λo=>?_,λj p=>?_,?_⟩
 ·rw[i g (by omega),h.bl.block g b]
 ·rw[i d (q.kb o),h.kl0 o]
 ·exact(h.own j p).keep k.size (λg b=>i g (q.lt j p g b).2)
 ·rw[Ya,Ye];rw[t]at r;exact r
theorem AS.set{w W:TA}{B p n m i k g c:Nat}{V:Nat->TC}{T S:Nat->SP.Bs}{v:TC}{x:UInt8}(h:AS w W B p n V (T2Q T i k) v m S)(f:ARow w B p n V)(l:i<n)(hv:V i=.slice (some (aZ g)) (T i).size c)(s:k<(T i).size)(a:x=(T i)[k]!+1):AS w (W.setCell ⟨g,k,none⟩ (SP.encB x)) B p n V (T2Q T i (k+1)) v m S:=by
 have ho:=h.own i l;have t:(V i).ownBlock=some g:=by rw[hv];rfl
 obtain⟨D,E⟩:=f.lt i l g t;have C:=eK T i k i;have s1:W.heap.size<=(W.setCell ⟨g,k,none⟩ (SP.encB x)).heap.size:=by rw[World.size_setCell];exact TG _
 have o:∀y,y<W.heap.size->y≠g->(W.setCell ⟨g,k,none⟩ (SP.encB x)).heap[y]? = W.heap[y]?:=λy _ q=>heap_setCell_other W ⟨g,k,none⟩ y _ q
 have z:=h.sz;refine⟨⟨h.bl.os,h.bl.tape,h.bl.output,TU h.bl.size s1,λy d=>?_⟩,TU z s1,λu=>?_,λj r=>?_,?_⟩
 ·rw[o y (by omega) (by omega),h.bl.block y d]
 ·have:=f.kb u;rw[o p (by omega) (λe=>f.ne i l (by rw[t,e])),h.kl0 u]
 ·by_cases e:j=i
  ·subst e;rw[hv,AN]at ho;have b:(rB (T j) k).size=(T j).size:=gW _ _;rw[hv,AN,rB,<-a];rw[<-b]at ho⊢;exact ho.set (by rw[b];exact s)
  ·rw[Kb _ _ _ _ e];refine(h.own j r).keep s1 (λy d=>o y (by have:=(f.lt j r y d).2;omega) (λb=>?_));rw[b]at d;exact f.inj j i r l e g d t
 ·refine bE h.sl (λy d=>?_);have:=cN h.sl d;exact o y this.2.1 (by omega)
end
section
open Go.RowKit Go.Sort Go.Deep
structure AG(w W:TA)(B kl n:Nat)(V:Nat->TC)(T:Nat->SP.Bs)(sv:TC)(S:Nat->SP.Bs)(gv:TC)(i o:Nat)(U:Nat->TC):Prop where
 bl:Below B w W
 sz:w.heap.size<=W.heap.size
 kl0:0<n->W.heap[kl]? = w.heap[kl]?
 own:∀j,o<=j->j<n->OwQ W w.heap.size B (V j) (T j)
 rv:∀j,j<n->RV W w.heap.size (V j) (T j)
 sl:W.ownsRow w.heap.size 9 1 sv n ((US n).map λj=>.string ⟨S j⟩)
 gl:W.ownsRow w.heap.size 23 1 gv i ((US i).map U)
 uv:∀j,j<i->RV W w.heap.size (U j) (flQ (T j) j 80)
 ud:∀j,j<i->(U j).ownBlock=(V j).ownBlock\/∃g,(U j).ownBlock=some g/\w.heap.size<=g
variable {w W:TA}{B kl n i o:Nat}{V U:Nat->TC}{T S:Nat->SP.Bs}{sv gv u:TC}
theorem AG.cell(h:AG w W B kl n V T sv S gv i o U)(k:ARow w B kl n V){j:Nat}(b:j<n):W.cell? ⟨kl,j,none⟩=some (V j):=by
 have:W.cell? ⟨kl,j,none⟩=w.cell? ⟨kl,j,none⟩:=by unfold WN;rw[h.kl0 (by omega)]
 rw[this];exact k.cell j b
theorem AG.drewN(h:AG w W B kl n V T sv S gv i o U)(q:Nat):AG w (W.drewN q) B kl n V T sv S gv i o U:=⟨⟨h.bl.os,h.bl.tape,h.bl.output,h.bl.size,h.bl.block⟩,h.sz,h.kl0,h.own,h.rv,h.sl,h.gl,h.uv,h.ud⟩
theorem AG.begin(h:AS w W B kl n V T sv n S):AG w W B kl n V T sv S (.slice none 0 0) 0 0 U:=
 ⟨h.bl,h.sz,h.kl0,λj _ k=>h.own j k,λj k=>RV.of (h.own j k),h.sl,⟨rfl,Ub ⟨rfl,rfl⟩⟩,λj k=>absurd k (VC _),λj k=>absurd k (VC _)⟩
structure AJ(w W:TA)(B kl n:Nat)(V:Nat->TC)(T:Nat->SP.Bs)(sv:TC)(S:Nat->SP.Bs)(gv:TC)(i:Nat)(U:Nat->TC)(u:TC)(j:Nat):Prop where
 ag:AG w W B kl n V T sv S gv i (i+1) U
 cu:OwQ W w.heap.size B u (flQ (T i) i j)
 cd:u.ownBlock=(V i).ownBlock\/∃g,u.ownBlock=some g/\w.heap.size<=g
 un:∀k,k<i->∀g,(U k).ownBlock=some g->u.ownBlock≠some g
theorem AJ.begin(h:AG w W B kl n V T sv S gv i i U)(l:ARow w B kl n V)(d:i<n):AJ w W B kl n V T sv S gv i U (V i) 0:=by
 refine⟨⟨h.bl,h.sz,h.kl0,λj c f=>h.own j (by omega) f,h.rv,h.sl,h.gl,h.uv,h.ud⟩,h.own i (TG _) d,Ub rfl,λk m g b e=>?_⟩;have p:=l.lt i d g e;rcases h.ud k m with c|⟨o,c,f⟩
 ·rw[c]at b;exact l.inj k i (by omega) d (by omega) g b e
 ·rw[c]at b;have:=Uc.inj b;omega
theorem AJ.push{j:Nat}(h:AJ w W B kl n V T sv S gv i U u j)(t:ARow w B kl n V)(F:i<n)(L:i<n)(H:(T i).size+j<=1000000)(N:B<=w.heap.size){x:TC}(I:x=SP.encB (nF i j)):
 ∃s W',(Ur #[23,23] 23 #[u,.slice (some ⟨W.heap.size,0,none⟩) 1 1]).run prog (W.alloc (.cells #[x] 5))=.ok s W'/\AJ w W' B kl n V T sv S gv i U s (j+1):=by
 have a:=h.ag;have O:=a.sz;subst I;obtain⟨s,W',K,J,l⟩:=h.cu.app (x:=nF i j) (by rw[fA];omega) (by omega);have q:OwQ W' w.heap.size B s (flQ (T i) i (j+1)):=J;have z:∀g,u.ownBlock=some g->B<=g/\TyQ W w.heap.size g:=λg b=>h.cu.lt b
 have C:∀k,k<n->k≠i->∀g,(V k).ownBlock=some g->u.ownBlock≠some g:=λk f v g b e=>by
  rcases h.cd with d|⟨D,d,m⟩
  ·rw[d]at e;exact t.inj k i f F v g b e
  ·rw[d]at e;have e':=Uc.inj e;have:=(t.lt k f g b).2;omega
 have o:=l.size;refine⟨s,W',K,⟨⟨⟨by rw[l.os,a.bl.os],by rw[l.tape,a.bl.tape],by rw[l.output,a.bl.output],TU a.bl.size l.size,λg b=>?_⟩,by omega,λA=>?_,λk d m=>?_,λk f=>?_,?_,?_,λk f=>?_,a.ud⟩,q,?_,λk f g b=>?_⟩⟩
 ·rw[l.keep g (by omega) (λe=>by have:=(z g e).1;omega),a.bl.block g b]
 ·have f:=t.kb A;rw[l.keep kl (by omega) (λe=>by
   rcases h.cd with d|⟨D,d,m⟩
   ·exact t.ne i F (by rw[<-d];exact e)
   ·rw[d]at e;have:=Uc.inj e;omega),a.kl0 A]
 ·exact(a.own k d m).keep o (λg b=>l.keep g ((a.own k d m).lt b).2.1 (C k m (by omega) g b))
 ·by_cases e:k=i
  ·subst e;rcases l.mv with d|⟨-,d⟩
   ·by_cases E:u.ownBlock=(V k).ownBlock
    ·rcases id (a.rv k f)with m|⟨g,c,m,-⟩
     ·exact Ub m
     ·obtain⟨P,y⟩:=MA (T k) k (j+1);have p:s.ownBlock=some g:=by rw[d,E,m];rfl
      have G:=RV.of q;rw[y]at G;rcases id G with⟨-,e⟩|⟨r,Q,e,t2,M⟩
      ·rw[e]at p;cases p
      ·rw[e]at p;obtain rfl:r=g:=Uc.inj p;exact T8 ⟨r,c,m,t2,Am M⟩
    ·exact(a.rv k f).keep o (λg b=>l.keep g ((a.rv k f).typ b).1 (λe=>E (by rw[e,b])))
   ·exact(a.rv k f).keep o (λg b=>d g ((a.rv k f).typ b).1)
  ·exact(a.rv k f).keep o (λg b=>l.keep g ((a.rv k f).typ b).1 (C k f e g b))
 ·refine bE a.sl (λg b=>?_);obtain⟨p,r,cur,y⟩:=cN a.sl b;exact l.keep g r (λe=>(z g e).2.ne p y (by decide) rfl)
 ·refine bE a.gl (λg b=>?_);obtain⟨p,r,cur,y⟩:=cN a.gl b;exact l.keep g r (λe=>(z g e).2.ne p y (by decide) rfl)
 ·exact(a.uv k f).keep o (λg b=>l.keep g ((a.uv k f).typ b).1 (h.un k f g b))
 ·rcases l.mv with d|⟨⟨g,d,m⟩,-⟩
  ·rw[d];exact h.cd
  ·exact T8 ⟨g,d,by omega⟩
 ·rcases l.mv with d|⟨⟨D,d,m⟩,-⟩
  ·rw[d];exact h.un k f g b
  ·rw[d];intro e;have e':=Uc.inj e;have:=((a.uv k f).typ b).1;omega
theorem AJ.done(h:AJ w W B kl n V T sv S gv i U u 80)(A:ARow w B kl n V)(J:i<n)(r:i<=1000000)(I:B<=w.heap.size):
 ∃o W',(Ur #[24,24] 24 #[gv,.slice (some ⟨W.heap.size,0,none⟩) 1 1]).run prog (W.alloc (.cells #[u] 23))=.ok o W'/\AG w W' B kl n V T sv S o (i+1) (i+1) (λk=>if k=i then u else U k):=by
 have a:=h.ag;have E:=a.sz;have z:RV W w.heap.size u (flQ (T i) i 80):=RV.of h.cu;obtain⟨o,W',G,F,f⟩:=vW uQ DC (by omega) a.gl (x:=u) (by
  obtain⟨q,c,rfl⟩:=z.slice;rfl) (by omega) E
 have s:∀g,gv.ownBlock=some g->w.heap.size<=g/\g<W.heap.size/\∃cur,W.heap[g]? = some (.cells cur 23 (0,0)):=λg d=>cN a.gl d
 have l:=f.size;have old:∀g,g<w.heap.size->W'.heap[g]? = W.heap[g]?:=λg d=>f.keep g (by omega) (λe=>by have:=(s g e).1;omega)
 have t:∀ {v:TC}{b:SP.Bs},RV W w.heap.size v b->RV W' w.heap.size v b:=λhv=>hv.keep l (λg d=>by
  have m:=hv.typ d;exact f.keep g m.1 (λe=>by
   obtain⟨p,-,j,e3⟩:=s g e;exact m.ne p e3 (by decide) rfl))
 refine⟨o,W',G,⟨⟨by rw[f.os,a.bl.os],by rw[f.tape,a.bl.tape],by rw[f.output,a.bl.output],TU a.bl.size f.size,λg d=>?_⟩,by omega,λr=>?_,λk H y=>?_,λk m=>t (a.rv k m),?_,?_,λk m=>?_,λk m=>?_⟩⟩
 ·rw[old g (by omega),a.bl.block g d]
 ·rw[old kl (A.kb r),a.kl0 r]
 ·exact(a.own k H y).keep l (λg d=>old g (A.lt k y g d).2)
 ·refine bE a.sl (λg d=>?_);obtain⟨-,C,cur,D⟩:=cN a.sl d;exact f.keep g C (λe=>by
   obtain⟨-,-,j,e3⟩:=s g e;rw[D]at e3;injection e3 with e3
   injection e3 with _ e3 _
   cases e3)
 ·rw[Ya,Ye];have p:(US i).map (λk=>if k=i then u else U k)=(US i).map U:=by
   refine List.map_congr_left λk m=>?_
   have:=List.mem_range.1 m;rw[yB4 (by omega)]
  rw[p];simp only[V2,Zx,yB3];exact F
 ·by_cases e:k=i
  ·subst e;rw[yB3 rfl];exact t z
  ·rw[yB4 e];exact t (a.uv k (by omega))
 ·by_cases e:k=i
  ·subst e;rw[yB3 rfl];exact h.cd
  ·rw[yB4 e];exact a.ud k (by omega)
end
section
open Go.RowKit Go.Sort Go.Deep
variable {P:Nat}[NeZero P]{N:Nat}
structure LookQ(W:TA)(kl gs gg p:Nat)(qv qu:Option V5)(m cv cu:Nat)(s:ByteArray)(b b3:SP.Bs)(L:Nat):Prop where
 cl:W.cell? ⟨kl,p,none⟩=some (.slice qv m cv)
 cs:W.cell? ⟨gs,p,none⟩=some (.string s)
 cg:W.cell? ⟨gg,p,none⟩=some (.slice qu (m+80) cu)
 hl:RV W L (.slice qv m cv) b
 hg:RV W L (.slice qu (m+80) cu) b3
theorem LookQ.drewN{W:TA}{g c d p m e j L:Nat}{k i:Option V5}{s:ByteArray}{b f:SP.Bs}(h:LookQ W g c d p k i m e j s b f L)(q:Nat):LookQ (W.drewN q) g c d p k i m e j s b f L:=⟨h.cl,h.cs,h.cg,h.hl,h.hg⟩
theorem O7:prog.follows .mixedOrders=true:=by kernel_rfl
theorem yT{W:TA}{base n g c:Nat}{e:Uw}{xs:List TC}(h:W.ownsRow base e 1 (.slice (some (aZ g)) n c) n xs){j:Nat}{u:TC}(k:xs[j]? = some u):W.cell? ⟨g,j,none⟩=some u:=by
 have:=h.cells (g:=g) rfl j u k;rw[mF,TO]at this;exact this
theorem yS{W:TA}{base n:Nat}{e:Uw}{v:TC}{xs:List TC}(h:W.ownsRow base e 1 v n xs)(k:0<n):∃g c,v=.slice (some (aZ g)) n c:=by
 rcases h with⟨-,⟨-,b⟩|⟨g,cap,cur,rfl,-⟩⟩
 ·omega
 ·exact⟨g,cap,rfl⟩
theorem Qk(z n c B:Nat)(q:Option V5)(V:Nat->TC)(T:Nat->SP.Bs)(w:TA)(hn:n<=5000)(hq:0<n->q=some ⟨z,0,none⟩)(hA:ARow w B z n V)(hO:∀j,j<n->OwQ w w.heap.size B (V j) (T j))(hT:∀j,j<n->(T j).size<=100000)(Q:B<=w.heap.size):
 TW prog 8 #[.slice q n c] w (λe w'=>e=.returned (.bool true)/\Below B w w'):=by
 have N:=Hid.mkP hA;have HT:=Hid.mkP hT;have HQ:=Hid.mkP hq;have A0:Hid (AS w w B z n V T (.slice none 0 0) 0 T):=⟨TX _ _,TG _,λ_=>rfl,hO,⟨rfl,Ub ⟨rfl,rfl⟩⟩⟩
 clear hA hO hq hT;go_enter func8,ntmps8;go_wp2;go_loopg [3,4] n (λgk s3 s4 wr=>∃(i:Nat) (F:TC),i+gk=n/\F=s3/\s4=.int .i64 i/\Hid (AS w wr B z n V T F i T))
 case atStart=>exact⟨0,_,TO _,rfl,rfl,A0⟩
 case round =>
  clear A0;obtain⟨i,F,hi,rfl,rfl,HS⟩:=hrel;by_cases d:i<n
  ·have J:(i:Int)<(n:Int):=by omega
   obtain rfl:=HQ.out (by omega);have C:=HS.out.cell N.out d;have hpt:=(RV.of (HS.out.own i d)).pt;obtain⟨S,cv,hv,-⟩:=id hpt;rw[hv]at C hpt;have l:=hpt.conv;obtain⟨P,O,o,f⟩:=HS.out.push N.out Q (by omega) (x:=⟨T i⟩) rfl;have t:=Hid.mkP f;generalize (⟨T i⟩:ByteArray)=s at l o;generalize Array.size (T i)=m at C l;clear f hpt hv HS;go_wp2_with (at_builtin;refine Vi _ rfl _ _ 22 22 rfl _ _ rfl rfl _ _ o ?_)
   go_roundg (gk-1)
   case measure=>omega
   case rel=>exact⟨i+1,_,by omega,rfl,rfl,t⟩
  ·have G:¬(i:Int)<(n:Int):=by omega
   obtain rfl:i=n:=by omega
   have r:Hid (AS w wr B z i V (T2Q T 0 0) F i T):=by rw[J9];exact HS
   clear HS hi d;go_wp2;clear G;go_loopg [5] i (λgk s5 wr=>∃k:Nat,k+gk=i/\s5=.int .i64 k/\Hid (AS w wr B z i V (T2Q T k 0) F i T))
   case atStart=>exact⟨0,TO _,rfl,r⟩
   case round =>
    clear r;obtain⟨k,hk,rfl,r⟩:=hrel;by_cases d:k<i
    ·have J:(k:Int)<(i:Int):=by omega
     obtain rfl:=HQ.out (by omega);have hm:(T k).size<=100000:=HT.out k d;obtain⟨m,l⟩:∃m,Hid ((T k).size=m):=⟨_,rfl⟩
     rw[l.out]at hm;obtain⟨S,cv,hv⟩:=(RV.of (r.out.own k d)).slice;rw[eK,l.out]at hv;have D:=Hid.mkP hv;clear hv;go_wp2;go_loopg [6] m (λK s6 wr=>∃j:Nat,j+K=m/\s6=.int .i64 j/\Hid (AS w wr B z i V (T2Q T k j) F i T))
     case atStart=>exact⟨0,TO _,rfl,r⟩
     case round =>
      clear r;obtain⟨j,I,rfl,r⟩:=hrel;have C:=r.out.cell N.out d;rw[D.out]at C;by_cases y:j<m
      ·have A:(j:Int)<(m:Int):=by omega
       obtain⟨x,E⟩:∃x,(T k)[j]! = x:=⟨_,rfl⟩
       obtain⟨g,H,W,a,M⟩:=(RV.of (r.out.own k d)).at (k:=j) (by rw[eK,l.out];exact y);rw[AN,Al _ _ _ (by rw[l.out];omega) (by rw[l.out];omega),yB4 (by omega),E]at a;have L:V k=.slice (some ⟨g,0,none⟩) (T k).size H:=by rw[W,eK]
       rw[D.out,l.out]at L;injection L with e3 _ e4
       subst e3 e4;have hw:=AZ x;have v:Hid (AS w (wr.setCell ⟨g,j,none⟩ (SP.encB (x+1))) B z i V (T2Q T k (j+1)) F i T):=r.out.set N.out d (by rw[D.out,l.out]) (by rw[l.out];exact y) (by rw[E]);unfold SP.encB at a v;clear r E W;generalize SP.ub x=u at a hw;go_wp2_with fail
       go_still_tail 14,O7;go_wp2;go_roundg (gk-1)
       case measure=>omega
       case rel=>exact⟨j+1,by omega,rfl,v.out.drew⟩
      ·have A:¬(j:Int)<(m:Int):=by omega
       obtain rfl:j=m:=by omega
       have v:Hid (AS w wr B z i V (T2Q T (k+1) 0) F i T):=by
        rw[<-Ka,l.out];exact r
       clear r;go_wp2;go_roundg (i-(k+1))
       case measure=>omega
       case rel=>exact⟨k+1,by omega,rfl,v⟩
    ·have G:¬(k:Int)<(i:Int):=by omega
     obtain rfl:k=i:=by omega
     have h4:Hid (AG w wr B z k V (T2Q T k 0) F T (.slice none 0 0) 0 0 (λ_=>undef)):=AG.begin r.out;clear d hk r;go_wp2;clear G;go_loopg [7,8] k (λgk s7 s8 wr=>∃(i:Nat) (R:TC) (U:Nat->TC),i+gk=k/\R=s7/\s8=.int .i64 i/\Hid (AG w wr B z k V (T2Q T k 0) F T R i i U))
     case atStart=>exact⟨0,_,_,TO _,rfl,rfl,h4⟩
     case round =>
      clear h4;obtain⟨i,R,U,hi,rfl,rfl,E⟩:=hrel;by_cases d:i<k
      ·have J:(i:Int)<(k:Int):=by omega
       obtain rfl:=HQ.out (by omega);have C:=E.out.cell N.out d;obtain⟨S,cv,hv⟩:=(E.out.rv i d).slice;have v:Hid (AJ w wr B z k V (T2Q T k 0) F T R i U (V i) 0):=AJ.begin E.out N.out d;have hm:(T2Q T k 0 i).size<=100000:=by rw[eK];exact HT.out i d
       obtain⟨m,K⟩:∃m,Hid ((T2Q T k 0 i).size=m):=⟨_,rfl⟩
       rw[hv,K.out]at C v;rw[K.out]at hm;clear hv E;go_wp2;clear C;go_loopg [9,10] 80 (λgk s9 s10 wr=>∃(j:Nat) (a:TC),j+gk=80/\a=s9/\s10=.int .i64 j/\Hid (AJ w wr B z k V (T2Q T k 0) F T R i U a j))
       case atStart=>exact⟨0,_,TO _,rfl,rfl,v⟩
       case round =>
        clear v;obtain⟨j,a,I,rfl,rfl,D⟩:=hrel;by_cases y:j<80
        ·have A:(j:Int)<80:=by omega
         have hf:=yZ i j;obtain⟨P,O,o,f⟩:=D.out.push N.out d d (by rw[K.out];omega) Q (x:=.int .u8 (SP.ub (nF i j))) rfl;have t:=Hid.mkP f;clear f D;generalize SP.ub (nF i j)=u at hf o;go_wp2_with (at_builtin;refine Vi _ rfl _ _ 23 23 rfl _ _ rfl rfl _ _ o ?_)
         go_roundg (gk-1)
         case measure=>omega
         case rel=>exact⟨j+1,_,by omega,rfl,rfl,t⟩
        ·have A:¬(j:Int)<80:=by omega
         obtain rfl:j=80:=by omega
         obtain⟨X,cb,M⟩:∃q c,a=.slice q (m+80) c:=by
          have Z:RV wr w.heap.size a (flQ (T2Q T k 0 i) i 80):=RV.of D.out.cu;obtain⟨q,c,H⟩:=Z.slice;rw[fA,K.out]at H;exact⟨q,c,H⟩
         subst M;obtain⟨P,O,o,f⟩:=D.out.done N.out d (by omega) Q;have t:=Hid.mkP f;clear f D;go_wp2_with (at_builtin;refine Vi _ rfl _ _ 24 24 rfl _ _ rfl rfl _ _ o ?_)
         go_roundg (k-(i+1))
         case measure=>omega
         case rel=>exact⟨i+1,_,_,by omega,rfl,rfl,t⟩
      ·have G:¬(i:Int)<(k:Int):=by omega
       obtain rfl:i=k:=by omega
       clear d hi;go_wp2;clear G;go_loopg [11] i (λgk s11 wr=>∃p:Nat,p+gk=i/\s11=.int .i64 p/\Hid (AG w wr B z i V (T2Q T i 0) F T R i i U))
       case atStart=>exact⟨0,TO _,rfl,E⟩
       case round =>
        clear E;obtain⟨p,hp,rfl,o⟩:=hrel;by_cases d:p<i
        ·have J:(p:Int)<(i:Int):=by omega
         obtain rfl:=HQ.out (by omega);obtain⟨Y,cs,rfl⟩:=yS o.out.sl (by omega);obtain⟨X,cg,rfl⟩:=yS o.out.gl (by omega);have C:wr.cell? ⟨Y,p,none⟩=some (.string ⟨T p⟩):=yT o.out.sl (by rw[UX,Za d];rfl);have a:wr.cell? ⟨X,p,none⟩=some (U p):=yT o.out.gl (by rw[UX,Za d];rfl);have D:=o.out.cell N.out d;have M:=o.out.rv p d;have O:=o.out.uv p d;obtain⟨S,cv,hv⟩:=M.slice;obtain⟨qu,cu,hu⟩:=O.slice;have hm:(T p).size<=100000:=HT.out p d;obtain⟨m,l⟩:∃m,(T p).size=m:=⟨_,rfl⟩
         rw[eK,l]at hv;rw[fA,eK,l]at hu;rw[hv]at D M;rw[hu]at a O;rw[l]at hm;have f:Hid (LookQ wr z Y X p S qu m cv cu ⟨T p⟩ (T2Q T i 0 p) (flQ (T2Q T i 0 p) p 80) w.heap.size):=⟨D,C,a,M,O⟩
         have P:Hid (∀j,j<m->(T2Q T i 0 p)[j]! = (T p)[j]!+1):=λj I=>by rw[MW _ _ _ d,Al _ _ _ (TG _) (by rw[l];exact I),yB3 (by rw[l];exact I)]
         have h3:Hid (∀j,j<m->(flQ (T2Q T i 0 p) p 80)[j]! = (T p)[j]!+1):=λj I=>by
          rw[E5 _ _ _ (by rw[eK,l];exact I)];exact P.out j I
         have h0:Hid (∀j,j<80->(flQ (T2Q T i 0 p) p 80)[m+j]! = nF p j):=λj I=>by
          have:=Cc (T2Q T i 0 p) p j 80 I;rw[eK,l]at this;exact this
         have K:Hid ((T2Q T i 0 p).size=m/\(flQ (T2Q T i 0 p) p 80).size=m+80):=⟨by rw[eK,l],by rw[fA,eK,l]⟩
         generalize flQ (T2Q T i 0 p) p 80=b3 at f h3 h0 K;obtain⟨b,hb⟩:∃b,T2Q T i 0 p=b:=⟨_,rfl⟩
         rw[hb]at f P K;obtain⟨s,hs⟩:∃s:ByteArray,s=⟨T p⟩:=⟨_,rfl⟩
         rw[<-hs]at f C;have ha:s.size=m:=by rw[hs];exact l
         have h6:Hid (∀j (h:j<s.size),s[j]=(T p)[j]!):=λj h=>by
          subst hs;have t:j<(T p).size:=h;rw[getElem!_pos (T p) j t];rfl
         clear O M hs hb hv hu l;go_wp2_with fail
         go_quiet (fail);have t:=Hid.mkP (o.out.drewN nq);have v:=Hid.mkP (f.out.drewN nq);clear o f C a D;generalize wr.drewN nq=w6 at t v⊢;go_wp2;go_loopg [12] m (λgk s12 wr=>∃j:Nat,j+gk=m/\s12=.int .i64 j/\Hid (AG w wr B z i V (T2Q T i 0) (.slice (some ⟨Y,0,none⟩) i cs) T (.slice (some ⟨X,0,none⟩) i cg) i i U)/\Hid (LookQ wr z Y X p S qu m cv cu s b b3 w.heap.size))
         case atStart=>exact⟨0,TO _,rfl,t,v⟩
         case round =>
          clear t v;obtain⟨j,I,rfl,o,f⟩:=hrel;have C:=f.out.cs;by_cases y:j<m
          ·have A:(j:Int)<(m:Int):=by omega
           have h5:j<s.size:=by omega
           have h9:(j:Int)<(s.size:Int):=by omega
           have h7:(j:Int)<(m:Int)+80:=by omega
           have D:=f.out.cl;have a:=f.out.cg;obtain⟨g1,c1,W,Z,-⟩:=f.out.hl.at (k:=j) (by rw[K.out.1];exact y);obtain⟨g2,c2,L,H,-⟩:=f.out.hg.at (k:=j) (by rw[K.out.2];omega);rw[P.out j y]at Z;rw[h3.out j y]at H;injection W with W _ _
           injection L with L _ _
           have hw:Yo.wrap ((s[j].toNat:Int)+1)=SP.ub ((T p)[j]!+1):=by rw[h6.out j h5];exact AZ _
           unfold SP.encB at Z H;generalize SP.ub ((T p)[j]!+1)=u at Z H hw;rw[W]at D;rw[L]at a;go_wp2_with fail
           go_quiet (fail);have t:=Hid.mkP (o.out.drewN nq);have v:=Hid.mkP (f.out.drewN nq);clear o f C a D Z H hw;generalize wr.drewN nq=w7 at t v⊢;go_wp2;go_roundg (gk-1)
           case measure=>omega
           case rel=>exact⟨j+1,by omega,rfl,t,v⟩
          ·have A:¬(j:Int)<(m:Int):=by omega
           have h8:¬(j:Int)<(s.size:Int):=by omega
           go_wp2;clear C A;go_loopg [13] 80 (λgk s13 wr=>∃j:Nat,j+gk=80/\s13=.int .i64 j/\Hid (AG w wr B z i V (T2Q T i 0) (.slice (some ⟨Y,0,none⟩) i cs) T (.slice (some ⟨X,0,none⟩) i cg) i i U)/\Hid (LookQ wr z Y X p S qu m cv cu s b b3 w.heap.size))
           case atStart=>exact⟨0,TO _,rfl,o,f⟩
           case round =>
            clear o f I y;obtain⟨j,I,rfl,o,f⟩:=hrel;by_cases y:j<80
            ·have A:(j:Int)<80:=by omega
             have C:=f.out.cs;have a:=f.out.cg;obtain⟨Z,W⟩:∃Z,m+j=Z:=⟨_,rfl⟩
             have i1:(s.size:Int)+(j:Int)=(Z:Int):=by omega
             have i2:(Z:Int)<(m:Int)+80:=by omega
             obtain⟨g2,c2,L,H,-⟩:=f.out.hg.at (k:=Z) (by rw[K.out.2];omega);injection L with L _ _
             rw[L]at a;rw[<-W,h0.out j y,W]at H;have hf:=yZ p j;unfold SP.encB at H;generalize SP.ub (nF p j)=u at H hf;go_wp2_with fail
             go_quiet (fail);have t:=Hid.mkP (o.out.drewN nq);have v:=Hid.mkP (f.out.drewN nq);clear o f C a H hf;generalize wr.drewN nq=w7 at t v⊢;go_wp2;go_roundg (gk-1)
             case measure=>omega
             case rel=>exact⟨j+1,by omega,rfl,t,v⟩
            ·have A:¬(j:Int)<80:=by omega
             go_wp2;go_roundg (i-(p+1))
             case measure=>omega
             case rel=>exact⟨p+1,by omega,rfl,o⟩
        ·have G:¬(p:Int)<(i:Int):=by omega
         go_wp2;go_ret;exact⟨rfl,o.out.bl⟩
theorem fl3:∃(P:Nat) (_:NeZero P),Fl3 P:=by
 obtain⟨P,l,i,g⟩:=EC.cur;have j:P=Go.Proofs.YtjnchldodncnbaaGreat.p0:=by rw[i];decide +kernel
 have d:=Td;have c:=QE;have b:2<=Go.Proofs.YtjnchldodncnbaaGreat.p0%18446744073709551616:=dK;have k:Go.Proofs.YtjnchldodncnbaaGreat.p0/4%18446744073709551616<18446744073709551615:=dK;have e:Go.Proofs.YtjnchldodncnbaaGreat.p0%4=3:=dK;have f:7<Go.Proofs.YtjnchldodncnbaaGreat.p0:=dK;rw[<-j]at d c b k e f;exact⟨P,l,⟨⟨d,g,b,k,e,f⟩,c⟩⟩
end
namespace EC
variable {P:Nat}[NeZero P]
def fo{α:Type}(x:Fin P)(f:Fin P->α):α:=
 match x.val with
 | 0=>f (Vy P 0)
 | n+1=>f (Vy P (n+1))
theorem Rs{α:Type}(x:Fin P)(f:Fin P->α):fo x f=f x:=by
 have k:Vy P x.val=x:=Fin.ext (Nat.mod_eq_of_lt x.isLt);unfold fo;split
 ·next h=>rw[h]at k;rw[k]
 ·next n h=>rw[h]at k;rw[k]
def runs(u v:Fin P)(e:Nat):Nat->Fin P->Fin P->Fin P->Bool
 | 0,_,_,z=>decide (z=0)
 | k+1,x,y,z=>fo (twX x y) λX=>fo (twY x y) λY=>fo (twZ y z) λZ =>
  if e/2^k%2=1 then
   if Z=0 then false else
   fo (dA X 1) λd=>fo (eU Y 1) λg=>fo (dA u Z) λbx=>fo (eU v Z) λf =>
   if d=bx/\g=f then false else
   fo (plX d g bx f) λa=>fo (plY d g bx f) λb=>fo (plZ Z 1 d bx) λc=>runs u v e k a b c
  else runs u v e k X Y Z
theorem Ds(C:Cur P):(1:Fin P)≠0:=λh=>C.two (by
 calc (2:Fin P)=2*1:=by grobner
  _=0:=by rw[h];grobner)
theorem Aa(C:Cur P){u v:Fin P}(c:On (some (u,v)))(e:Nat):∀(k m:Nat) (x y z:Fin P),Jac x y z (mul m (some (u,v)))->runs u v e k x y z=true->mul (m*2^k+e%2^k) (some (u,v))=none
 | 0,m,x,y,z,hj,h=>by
  have b:=of_decide_eq_true h;rw[Wx,Nat.mod_one,Nat.mul_one,VK];exact hj.zero C b
 | k+1,m,x,y,z,hj,h=>by
  have p:=cU C c m;have i:=hj.twice C p;rw[<-mul_add C c]at i;have n:e%2^(k+1)=e/2^k%2*2^k+e%2^k:=by
   rw[Vk,Nat.mod_mul,Ut (2^k) (e/2^k%2),Nat.add_comm]
  have o:2^(k+1)=2*2^k:=by rw[Vk,Ut]
  unfold runs at h;simp only[Rs]at h;by_cases b:e/2^k%2=1
  ·rw[yB3 b]at h;by_cases g:twZ y z=0
   ·rw[yB3 g]at h;cases h
   ·rw[yB4 g]at h;have l:Jac u v 1 (some (u,v)):=⟨Ds C,by grobner,by grobner⟩
    rcases i.plus C (cU C c _) l c g (Ds C)with⟨d,j,-⟩|⟨d,j⟩
    ·rw[yB3 ⟨d,j⟩]at h;cases h
    ·rw[yB4 d]at h;have f:=Aa C c e k (m+m+1) _ _ _ j h;rw[n,b,o];rw[show m*(2*2^k)+(1*2^k+e%2^k)=(m+m+1)*2^k+e%2^k by
      rw[WE,WE,<-VV,Ut m 2,yBM,WE];omega]
     exact f
  ·rw[yB4 b]at h;have d:e/2^k%2=0:=oM;have f:=Aa C c e k (m+m) _ _ _ i h;rw[n,d,o];rw[show m*(2*2^k)+(0*2^k+e%2^k)=(m+m)*2^k+e%2^k by
    rw[<-VV,Ut m 2,yBM];omega]
   exact f
def pL:Nat:=115792089237316195423570985008687907853269984665640564039457584007908834671663
def nL:Nat:=115792089237316195423570985008687907852837564279074904382605163141518161494337
instance:NeZero pL:=⟨dK⟩
theorem Oj:runs (P:=pL) (Vy pL 55066263022277343669578718895168534326250603453777594175500187360389116729240) (Vy pL 32670510020758816978083085130507043184471273380659243275938904335757337482424) nL 255 (Vy pL 55066263022277343669578718895168534326250603453777594175500187360389116729240) (Vy pL 32670510020758816978083085130507043184471273380659243275938904335757337482424) 1=true:=dK
theorem Lj:2*pL+1<3*nL:=dK
theorem Pw:1*2^255+nL%2^255=nL:=dK
theorem order(C:Cur P)(b:P=pL)(k:On (some (Vy P 55066263022277343669578718895168534326250603453777594175500187360389116729240,Vy P 32670510020758816978083085130507043184471273380659243275938904335757337482424))){r:Pt P}(c:On r):mul nL r=none:=by
 subst b;refine IQ C (n:=nL) NT.pN Lj k (λh=>by cases h) ?_ c;have h:=Aa C k nL 255 1 _ _ 1 (by
  show Jac _ _ 1 (add none _);rw[lD];exact⟨Ds C,by grobner,by grobner⟩) Oj
 rwa[Pw]at h
end EC
section
theorem IJ:Go.Proofs.YtjnchldodncnbaaGreat.p1=EC.nL:=dK
variable {P:Nat}[NeZero P]
theorem order2(C:Fld P)(r:EC.Pt P)(b:EC.On r):EC.mul Go.Proofs.YtjnchldodncnbaaGreat.p1 r=none:=by
 rw[IJ];have k:P=EC.pL:=by
  rw[C.eq];rfl
 exact EC.order C.cur k (Jj C) b
end
section
open Go.RowKit Go.Sort Go.Deep SPA
def prT(t:Nat)(k Rb:Nat->Bs)(A B X:Bs)(j:Nat):Bs:=if j<t then k j else if j<t+t then Rb (j-t) else if j=t+t then A else if j=t+t+1 then B else X
structure InP(W:TA)(t:Nat)(T:Nat->Bs)(l r x y:Sv)(ys zs:List TC):Prop where
 vl:VL W l.q l.n ys
 vr:VL W r.q r.n zs
 nl:l.n=t
 nr:r.n=t
 ps:∀j,j<t+t+2->∃u,(ys++zs++[x.v,y.v])[j]? = some u/\Pt W u (T j)
theorem InP.below{W W':TA}{t:Nat}{T:Nat->Bs}{l r x y:Sv}{ys b:List TC}(h:InP W t T l r x y ys b)(k:Below W.heap.size W W'):InP W' t T l r x y ys b:=
 ⟨h.vl.below k,h.vr.below k,h.nl,h.nr,λj d=>by
  obtain⟨u,e,c⟩:=h.ps j d;exact⟨u,e,c.below k⟩⟩
structure Rws(w W:TA)(m:Nat)(T:Nat->Bs)(us:List TC):Prop where
 len:us.length=m
 ow:∀j,j<m->∃u,us[j]? = some u/\OwQ W W.heap.size w.heap.size u (T j)/\(T j).size<=100
 inj:∀(j j':Nat) (u u':TC),us[j]? = some u->us[j']? = some u'->j≠j'->∀g,u.ownBlock=some g->u'.ownBlock≠some g
theorem OwQ.up{W W':TA}{B:Nat}{v:TC}{b:Bs}(h:OwQ W W.heap.size B v b)(k:Below W.heap.size W W'):OwQ W' W'.heap.size B v b:=by
 rcases h with h|⟨g,i,d,e,c,j⟩
 ·exact Ub (bE h λg f=>k.block g (cN h f).2.1)
 ·exact T8 ⟨g,i,d,TF e k.size,TF c k.size,BW j (k.block g c)⟩
theorem Rws.below{w W W':TA}{m:Nat}{T:Nat->Bs}{k:List TC}(h:Rws w W m T k)(e:Below W.heap.size W W'):Rws w W' m T k:=
 ⟨h.len,λj c=>by
  obtain⟨u,f,b,d⟩:=h.ow j c;exact⟨u,f,b.up e,d⟩,h.inj⟩
theorem OR(W:TA)(B:Nat):OwQ W W.heap.size B sN #[]:=Ub ⟨rfl,Ub ⟨rfl,rfl⟩⟩
theorem MV{w i W:TA}{m g c:Nat}{T:Nat->Bs}{f:List TC}(h:Rws w i m T f)(v:m<=100)(t:w.heap.size<=i.heap.size)(n:GLs i W (.slice (some (aZ g)) m c) f):
 TW prog 8 #[.slice (some (aZ g)) m c] W (λe w'=>e=.returned (.bool true)/\Below w.heap.size W w'):=by
 have x:=h.len;obtain⟨q,cap,e,l,d⟩:=n.lt;obtain rfl:=Uc.inj (congrArg VO e);have l:i.heap.size<=g:=l;have d:g<W.heap.size:=d;have b:∀j,j<m->f[j]? = some f[j]!:=λj k=>by rw[getElem!_pos f j (by omega)];exact TZ _
 have o:∀j,j<m->OwQ i i.heap.size w.heap.size f[j]! (T j)/\(T j).size<=100:=λj k=>by
  obtain⟨u,p,r⟩:=h.ow j k;rw[b j k]at p;obtain rfl:=Uc.inj p;exact r
 refine Qk g m c w.heap.size _ (λj=>f[j]!) T W oM (λ_=>rfl) ⟨λj k=>n.cell j _ (b j k),λ_=>d,λj k e=>?_,λj r k p s q e=>h.inj j r _ _ (b j k) (b r p) s q e,λj k q e=>?_⟩ (λj k=>(o j k).1.up n.bl) (λj k=>TU (o j k).2 dC) (TU t n.bl.size)
 ·have:=((o j k).1.lt e).2.1;omega
 ·have:=(o j k).1.lt e;exact⟨this.1,TF this.2.1 n.bl.size⟩
section
variable {W:TA}{t B:Nat}{T:Nat->Bs}
theorem Hg{v:TC}{xs:List TC}(h:W.ownsRow B 23 1 v t xs)(b:∀u∈xs,u.oneCell'=true):∃s:Sv,v=s.v/\s.n=t/\VL W s.q s.n xs:=by
 have k:xs.length=t:=by have:=h.1;omega
 rcases id h with⟨-,⟨rfl,d⟩|⟨g,cap,cur,rfl,i,l,f⟩⟩
 ·subst d;exact⟨⟨none,0,0⟩,rfl,rfl,k,λ_=>rfl,Ub (List.eq_nil_of_length_eq_zero k),b⟩
 ·refine⟨⟨_,t,cap⟩,rfl,rfl,k,λe=>(by cases e),T8 ⟨g,0,rfl,(cN h rfl).2.1,λj u c=>?_⟩,b⟩;have:=h.cells (g:=g) rfl j u c;rw[mF]at this;exact this
end
theorem wS{Q:Nat->Prop}{m:Nat}{W:TA}{u:TC}{b:Bs}(h:ElQ Q m W u b):Pt W u b:=by
 obtain⟨k,c,e,j,d,i,g,f⟩:=h;exact⟨_,c,by rw[d];exact e,T8 ⟨k,0,rfl,g,f⟩⟩
theorem Jv{Q:Nat->Prop}{m:Nat}{W:TA}{u:TC}{b:Bs}(h:ElQ Q m W u b):∃s:Sv,u=s.v:=by
 obtain⟨k,c,d,-⟩:=h;exact⟨⟨_,_,_⟩,d⟩
theorem IH{W:TA}{t:Nat}{f Rb:Nat->Bs}{A B X:Bs}{ys k:List TC}{x y:TC}{p:TC->Bs->Prop}(l1:ys.length=t)(l2:k.length=t)(m:∀j,j<t->∃u,ys[j]? = some u/\p u (f j))(i:∀j,j<t->∃u,k[j]? = some u/\p u (Rb j))(l:p x A)(g:p y B):
 ∀j,j<t+t+2->∃u,(ys++k++[x,y])[j]? = some u/\p u (prT t f Rb A B X j):=λj d=>by
 unfold prT;by_cases a:j<t
 ·obtain⟨u,d,e⟩:=m j a;exact⟨u,by rw[UB (by rw[TT];omega),UB oM];exact d,by rw[yB3 a];exact e⟩
 by_cases b:j<t+t
 ·obtain⟨u,d,e⟩:=i (j-t) oM;exact⟨u,by rw[UB (by rw[TT];omega),U1 oM,l1];exact d,by rw[yB4 a,yB3 b];exact e⟩
 by_cases c:j=t+t
 ·exact⟨x,by rw[U1 (by rw[TT];omega),TT,show j-(ys.length+k.length)=0 by omega];rfl,by rw[yB4 a,yB4 b,yB3 c];exact l⟩
 ·exact⟨y,by rw[U1 (by rw[TT];omega),TT,show j-(ys.length+k.length)=1 by omega];rfl,by rw[yB4 a,yB4 b,yB4 c,yB3 oM];exact g⟩
theorem InP.of{W:TA}{B t:Nat}{f Rb:Nat->Bs}{A p X:Bs}{n g vA vB:TC}(D:TlL (λ_=>True) B t W n f)(G:TlL (λ_=>True) B t W g Rb)(w:ElQ (λ_=>True) 32 W vA A)(q:ElQ (λ_=>True) 32 W vB p):∃(l r x y:Sv) (ys d:List TC),n=l.v/\g=r.v/\vA=x.v/\vB=y.v/\InP W t (prT t f Rb A p X) l r x y ys d/\W.ownsRow B 23 1 n t ys/\W.ownsRow B 23 1 g t d:=by
 obtain⟨ys,i,z⟩:=D.ex;obtain⟨d,m,v⟩:=G.ex;have l1:ys.length=t:=by have:=i.1;omega
 have l2:d.length=t:=by have:=m.1;omega
 have one:∀ {o:List TC}{f:Nat->Bs},o.length=t->(∀j,j<t->∃x,o[j]? = some x/\ElQ (λ_=>True) 33 W x (f j))->∀u∈o,u.oneCell'=true:=λI h u E=>by
  obtain⟨j,b,e⟩:=List.mem_iff_getElem.1 E;obtain⟨x,k,c⟩:=h j oM;rw[TZ b,e]at k;obtain rfl:=Uc.inj k;exact c.one.2
 obtain⟨l,a,F,v1⟩:=Hg i (one l1 z);obtain⟨r,H,C,v2⟩:=Hg m (one l2 v);obtain⟨x,e3⟩:=Jv w;obtain⟨y,s⟩:=Jv q;refine⟨l,r,x,y,ys,d,a,H,e3,s,⟨v1,v2,F,C,?_⟩,i,m⟩;rw[<-e3,<-s];exact IH (W:=W) l1 l2 (λj b=>by obtain⟨u,k,c⟩:=z j b;exact⟨u,k,wS c⟩) (λj b=>by obtain⟨u,k,c⟩:=v j b;exact⟨u,k,wS c⟩) (wS w) (wS q)
theorem Ju{Q:Nat->Prop}{m:Nat}{W:TA}{u:TC}{b:Bs}(h:ElQ Q m W u b):b.size=m:=by
 obtain⟨k,c,f,e,d,-⟩:=h;exact d
theorem Jw{Q:Nat->Prop}{m B g:Nat}{W:TA}{u:TC}{b:Bs}(h:ElQ Q m W u b)(e:u=.slice (some (aZ g)) m m)(d:B<=g/\g<W.heap.size):OwQ W W.heap.size B u b:=by
 obtain⟨k,c,f,o,i,n,l,j⟩:=h;rw[e]at f;obtain rfl:=Uc.inj (congrArg VO f);exact T8 ⟨g,by rw[i];exact e,d.1,d.2,d.2,j⟩
def rBl(l m:List Nat)(c b k:Nat):List Nat:=l++m++[c,b]++[k]
theorem Ae{l m:List Nat}{c b k j:Nat}{u:TC}(h:(l.map r33++m.map r33++[r32 c,r32 b]++[r33 k])[j]? = some u):(rBl l m c b k)[j]? = u.ownBlock/\u.ownBlock≠none:=by
 have e:(rBl l m c b k).map some=(l.map r33++m.map r33++[r32 c,r32 b]++[r33 k]).map VO:=by
  simp only[rBl,Ye,List.map_map,V2,Zx];rfl
 have d:((rBl l m c b k).map some)[j]? = some u.ownBlock:=by rw[e,UX,h];rfl
 rw[UX]at d;obtain⟨g,f,i⟩:=TJ.1 d;rw[f,<-i];exact⟨rfl,λe=>by cases e⟩
theorem Ot{l m:List Nat}{c b k:Nat}(h:(k :: c :: b :: (l++m)).Nodup):(rBl l m c b k).Nodup:=by
 unfold rBl;simp only[List.nodup_append,WA,not_or,XA,Wy,Ud,not_false_eq_true,List.nodup_nil,and_true,true_and,U0]at *;grind
theorem Oi{w W:TA}{t:Nat}{X A B:Bs}{I Rb:Nat->Bs}{e:TC}(h:PiR w t X I Rb A B e W):
 ∃(vp:TC) (l r x y:Sv) (ys G:List TC),e=.tuple #[vp,.agg #[l.v,r.v,x.v,y.v],iZ 0]/\(∃q n c,vp=.slice q n c)/\InP W t (prT t I Rb A B X) l r x y ys G/\Pt W vp X/\Rws w W (t+t+3) (prT t I Rb A B X) (ys++G++[x.v,y.v]++[vp]):=by
 obtain⟨vp,vL,vR,vA,vB,rfl,K,T,Z,hA,Y⟩:=h.ex;obtain⟨i,B0,rfl,D,h0,z,v,l,m,rfl,rfl,nd,R,O,F⟩:=h.dj _ _ _ _ _ rfl;have a:i<W.heap.size:=by
  obtain⟨g,c,C,-,-,-,k,-⟩:=K;obtain rfl:=Uc.inj (congrArg VO C);exact k
 obtain⟨sl,sr,sx,sy,ys,G,C,M,e3,s,hI,p1,V⟩:=InP.of (X:=X) T Z hA Y;obtain rfl:=m6 R p1;obtain rfl:=m6 O V;have U:t+t+2=(l.map r33++m.map r33++[sx.v,sy.v]).length:=by
  have k:=p1.1;have d:=V.1;simp only[TT,Uy,WS];omega
 have E:∀g,g∈rBl l m z v i->w.heap.size<=g/\g<W.heap.size:=λg H=>by
  have k:g=i\/g∈z :: v :: (l++m):=by
   unfold rBl at H;simp only[WA,U0,Ud,or_false]at H⊢;grind
  rcases k with rfl|k
  ·exact⟨D,a⟩
  ·have:=F g k;omega
 have S:(rBl l m z v i).Nodup:=Ot (by
  rw[Wy];exact⟨λe=>by have:=(F i e).1;omega,nd⟩)
 refine⟨_,sl,sr,sx,sy,_,_,(by rw[C,M,<-e3,<-s];rfl),⟨_,_,_,rfl⟩,hI,wS K,by simp only[TT,List.length_map,Uy,WS]at U⊢;omega,λj J=>?_,λj j' u u' o d hn g C M=>?_⟩
 ·rw[<-e3,<-s];have P:∀u,(l.map r33++m.map r33++[r32 z,r32 v]++[r33 i])[j]? = some u->∀g,u.ownBlock=some g->w.heap.size<=g/\g<W.heap.size:=λu o g H=>by
   have:=(Ae o).1;rw[H]at this;exact E g (Vb this)
  by_cases L:j<t+t+2
  ·obtain⟨ys,q1,c1⟩:=T.ex;obtain⟨G,N,c2⟩:=Z.ex;obtain rfl:=m6 R q1;obtain rfl:=m6 O N;have l1:(l.map r33).length=t:=by have:=R.1;omega
   have l2:(m.map r33).length=t:=by have:=O.1;omega
   obtain⟨u,o,Q,mm,g,k,f,k3⟩:=IH (W:=W) (X:=X) (p:=λu b=>(∃Q m g,ElQ Q m W u b/\u=.slice (some (aZ g)) m m/\m<=100)) l1 l2 (λj J=>by
    obtain⟨u,k,f⟩:=c1 j J;rw[UX]at k;obtain⟨g,-,rfl⟩:=TJ.1 k;exact⟨_,by rw[UX];exact k,_,_,g,f,rfl,dC⟩) (λj J=>by
    obtain⟨u,k,f⟩:=c2 j J;rw[UX]at k;obtain⟨g,-,rfl⟩:=TJ.1 k;exact⟨_,by rw[UX];exact k,_,_,g,f,rfl,dC⟩) ⟨_,_,z,hA,rfl,dC⟩ ⟨_,_,v,Y,rfl,dC⟩ j L
   have d:(l.map r33++m.map r33++[r32 z,r32 v]++[r33 i])[j]? = some u:=by rw[UB (by rw[e3,s];omega)];exact o
   exact⟨u,d,Jw k f (P u d g (by rw[f];rfl)),by rw[Ju k];exact k3⟩
  ·have N:j=t+t+2:=oM;refine⟨r33 i,by rw[U1 (by rw[e3,s];omega),e3,s,<-U,N,Yg];rfl,?_⟩;have:prT t I Rb A B X j=X:=by
    unfold prT;rw[yB4 oM,yB4 oM,yB4 oM,yB4 oM]
   rw[this];exact⟨Jw K rfl ⟨D,a⟩,by rw[Ju K];decide⟩
 ·rw[<-e3,<-s]at o d;have k:=(Ae o).1;have f:=(Ae d).1;rw[C]at k;rw[M]at f;obtain⟨P,N⟩:=T9.1 k;obtain⟨y3,L⟩:=T9.1 f;exact hn ((List.getElem_inj S).1 (N.trans L.symm))
def zSv:Sv:=⟨none,0,0⟩
theorem EU(w W:TA):InP W 0 (λ_=>#[]) zSv zSv zSv zSv [] []/\Pt W sN #[]/\Rws w W 3 (λ_=>#[]) ([]++[]++[zSv.v,zSv.v]++[sN]):=by
 have c:Pt W sN #[]:=⟨none,0,rfl,Ub rfl⟩
 have hv:VL W zSv.q zSv.n []:=⟨rfl,λ_=>rfl,Ub rfl,λu k=>by cases k⟩
 refine⟨⟨hv,hv,rfl,rfl,λj b=>⟨sN,?_,c⟩⟩,c,rfl,λj b=>⟨sN,?_,OR W _,VH _⟩,λj f u e k _ _ g d=>?_⟩
 ·match j,b with
  | 0,_=>rfl
  | 1,_=>rfl
 ·match j,b with
  | 0,_=>rfl
  | 1,_=>rfl
  | 2,_=>rfl
 ·have:u=sN:=by
   have:=Vb k;simpa[zSv,Sv.v]using this
  subst this;cases d
def Tx(w:TA)(q:Option V5)(n:Nat)(S:Nat->Bs):Prop:=0<n->∃g o,q=some ⟨g,o,none⟩/\g<w.heap.size/\∀j,j<n->w.cell? ⟨g,o+j,none⟩=some (.string ⟨S j⟩)
theorem Tx.below{w b:TA}{q:Option V5}{n:Nat}{S:Nat->Bs}(h:Tx w q n S)(c:Below w.heap.size w b):Tx b q n S:=λd=>by
 obtain⟨g,o,i,k,f⟩:=h d;exact⟨g,o,i,TF k c.size,λj e=>by rw[c.cell (p:=⟨g,o+j,none⟩) k];exact f j e⟩
def PrA(W:TA)(t:Nat)(T:Nat->Bs)(X:Bs)(c:Int)(e:TC)(w':TA):Prop:=Below W.heap.size W w'/\∃(vp:TC) (l r x y:Sv) (ys k:List TC),e=.tuple #[vp,.agg #[l.v,r.v,x.v,y.v],iZ c]/\(∃q n c,vp=.slice q n c)/\InP w' t T l r x y ys k/\Pt w' vp X/\Rws W w' (t+t+3) T (ys++k++[x.v,y.v]++[vp])
def RfA(W:TA)(t:Nat)(T:Nat->Bs)(X:Bs)(c:Int)(e:TC)(w':TA):Prop:=Below W.heap.size W w'/\∃(l r x y:Sv) (ys k:List TC),e=.tuple #[.string ⟨X⟩,.agg #[l.v,r.v,x.v,y.v],iZ c]/\InP w' t T l r x y ys k
structure BoP(label:ByteArray)(n n':Nat)(SA SB:Nat->Bs)(t:Nat)(T:Nat->Bs)(X:Bs)(c:Int):Prop where
 pr:∀(W:TA) (q1 q2:Option V5) (c1 c2:Nat),Args W q1 n SA->Args W q2 n' SB->TW prog 4 #[.string label,.slice q1 n c1,.slice q2 n' c2] W (Ret (PrA W t T X c))
 rf:∀(W:TA) (q1 q2:Option V5) (c1 c2:Nat),Tx W q1 n SA->Tx W q2 n' SB->TW prog 6 #[.string label,.slice q1 n c1,.slice q2 n' c2] W (Ret (RfA W t T X c))
 tl:t<=6
theorem EO{W:TA}{c:Int}{e:TC}{w':TA}(h:Below W.heap.size W w'/\e=.tuple #[sN,.agg #[sN,sN,sN,sN],iZ c]):PrA W 0 (λ_=>#[]) #[] c e w':=by
 obtain⟨d,k,b⟩:=EU W w';exact⟨h.1,sN,zSv,zSv,zSv,zSv,[],[],h.2,⟨_,_,_,rfl⟩,d,k,b⟩
theorem EF{W:TA}{c:Int}{e:TC}{w':TA}(h:Below W.heap.size W w'/\e=.tuple #[.string ⟨#[]⟩,.agg #[sN,sN,sN,sN],iZ c]):RfA W 0 (λ_=>#[]) #[] c e w':=⟨h.1,zSv,zSv,zSv,zSv,[],[],h.2,(EU W w').1⟩
theorem kW{F:Nat}{args:Array TC}{w:TA}{p q:TC->TA->Prop}(h:TW prog F args w (Ret p))(k:∀e w',p e w'->q e w'):TW prog F args w (Ret q):=h.mono (by
 rintro e w' ⟨v,rfl,b⟩;exact⟨v,rfl,k _ _ b⟩)
theorem KI(f g:Nat->Bs):∃B:Bool->Nat->Bs,∀j,B false j=f j/\B true j=g j:=⟨λb=>cond b g f,λj=>⟨rfl,rfl⟩⟩
section
variable {P:Nat}[NeZero P]{N:Nat}[NeZero N]
omit [NeZero N] in
theorem OH(L:Bs)(a b:Nat->Fin N)(g h:Nat->OnP P):Hid ((⟨L,a,b,g,h⟩:Md.Ps Bs (Fin N) (OnP P)).a=a/\(⟨L,a,b,g,h⟩:Md.Ps Bs (Fin N) (OnP P)).b=b/\(⟨L,a,b,g,h⟩:Md.Ps Bs (Fin N) (OnP P)).g=g/\(⟨L,a,b,g,h⟩:Md.Ps Bs (Fin N) (OnP P)).h=h/\(⟨L,a,b,g,h⟩:Md.Ps Bs (Fin N) (OnP P)).s=L):=⟨rfl,rfl,rfl,rfl,rfl⟩
theorem PZ(C:Fl3 P)(O:Ord N)(d:∀r:EC.Pt P,EC.On r->EC.mul N r=none)(hP:NT.IsP N)(k:ByteArray)(U:k.size<=4096)(n J:Nat)(g f:Nat->Bs):∃t T X c,BoP k n J g f t T X c:=by
 by_cases hf:(hvT (n:Int)).2=true/\n=J
 ·obtain⟨E,rfl⟩:=hf;have s:=Pq (n:Int);have F:=Pr E;generalize (hvT (n:Int)).1=t at s F;obtain rfl:n=2^t:=by exact_mod_cast F
  have K:0<2^t:=WR dC;have R:2^t<=64:=TU (Ve dC s) dC;have hv:∀ {b:Bs},(rq N b).isSome=true->rq N b=some (rdN N b).val:=λ{b} h=>by
   obtain⟨v,hv⟩:=UT.1 h;rw[EH h,hv];rfl
  obtain⟨B,w⟩:∃B:Bool->Nat->Bs,∀j,B false j=wP ((aO C.toFld d).pLi (chF N) ivF (uPt C.toFld) t (qBeg C.toFld k.data.toList (wP (hidX C.toFld d (λj=>rdN N (g j)) (λj=>rdN N (f j)) (2^t))) (λj=>rdN N (g j)) (λj=>rdN N (f j))) j)/\B true j=wP ((aO C.toFld d).pTi (chF N) ivF (uPt C.toFld) t (qBeg C.toFld k.data.toList (wP (hidX C.toFld d (λj=>rdN N (g j)) (λj=>rdN N (f j)) (2^t))) (λj=>rdN N (g j)) (λj=>rdN N (f j))) j):=KI _ _;have A:=λ(W:TA) (z a m D H i:Nat) u q=>LH C O d k oM t s z a m D H i g f W u q B (wP (hidX C.toFld d (λj=>rdN N (g j)) (λj=>rdN N (f j)) (2^t))) rfl (qBeg C.toFld k.data.toList (wP (hidX C.toFld d (λj=>rdN N (g j)) (λj=>rdN N (f j)) (2^t))) (λj=>rdN N (g j)) (λj=>rdN N (f j))) (OH _ _ _ _ _) w
  by_cases I:∀j,j<2^t->okT N g f j
  ·have L:=λ(W:TA) (o p:Option V5) (m i:Nat) (u:Args W o (2^t) g) (q:Args W p (2^t) f)=>LM C.toFld O d hP t s k oM (λj=>rdN N (g j)) (λj=>rdN N (f j)) g f o p m i W u q (λj Q=>hv (I j Q).1) (λj Q=>hv (I j Q).2) (B false) (B true) (λj=>(w j).1) (λj=>(w j).2)
   clear w;generalize bx (((aO C.toFld d).pst (chF N) ivF (uPt C.toFld) t (qBeg C.toFld k.data.toList (wP (hidX C.toFld d (λj=>rdN N (g j)) (λj=>rdN N (f j)) (2^t))) (λj=>rdN N (g j)) (λj=>rdN N (f j))) t).a 0).val=Y at L A;generalize bx (((aO C.toFld d).pst (chF N) ivF (uPt C.toFld) t (qBeg C.toFld k.data.toList (wP (hidX C.toFld d (λj=>rdN N (g j)) (λj=>rdN N (f j)) (2^t))) (λj=>rdN N (g j)) (λj=>rdN N (f j))) t).b 0).val=BB at L A;generalize wP (hidX C.toFld d (λj=>rdN N (g j)) (λj=>rdN N (f j)) (2^t))=X at L A;refine⟨t,prT t (B false) (B true) Y BB X,X,0,λW o p m i u q=>kW (L W o p m i u q) λe w' h=>⟨h.bl,Oi h⟩,λW o p m i u q=>?_,s⟩;obtain⟨z,a,rfl,M⟩:=u K;obtain⟨D,H,rfl,S⟩:=q K;refine kW (A W z a m D H i M S) λe w' h=>⟨h.1,?_⟩
   rcases h.2 with⟨G,-⟩|⟨-,vL,vR,vA,vB,rfl,V,hR,hA,w⟩
   ·exact absurd I G
   ·obtain⟨l,r,x,y,ys,Z,rfl,rfl,rfl,rfl,hI,-⟩:=InP.of (X:=X) V hR hA w;exact⟨l,r,x,y,ys,Z,rfl,hI⟩
  ·refine⟨0,λ_=>#[],#[],3,λW o p m i u q=>kW (LK O k (2^t) m i o p R E g f W u q I) λe w' h=>EO h,λW o p m i u q=>?_,VH _⟩;obtain⟨z,a,rfl,M⟩:=u K;obtain⟨D,H,rfl,S⟩:=q K;refine kW (A W z a m D H i M S) λe w' h=>?_
   rcases h.2 with⟨-,G⟩|⟨G,-⟩
   ·exact EF ⟨h.1,G⟩
   ·exact absurd G I
 ·exact⟨0,λ_=>#[],#[],2,λW o p m i _ _=>kW (LL k n J m i o p hf W) λe w' h=>EO h,λW o p m i _ _=>kW (LG k n J m i o p hf W) λe w' h=>EF h,VH _⟩
end
theorem SR:Ord Go.Proofs.YtjnchldodncnbaaGreat.p1:=⟨Tc,QD,dK,dK⟩
theorem OI:NT.IsP Go.Proofs.YtjnchldodncnbaaGreat.p1:=by
 rw[IJ];exact NT.pN
theorem PY(k:ByteArray)(b:k.size<=4096)(n f:Nat)(e d:Nat->Bs):∃t T X c,BoP k n f e d t T X c:=by
 obtain⟨P,i,C⟩:=fl3;have g:NeZero Go.Proofs.YtjnchldodncnbaaGreat.p1:=⟨dK⟩
 exact PZ C SR (order2 C.toFld) OI k b n f e d
end
section
open Go.RowKit Go.Sort Go.Deep SPA
variable {P:Nat}[NeZero P]{N:Nat}
def SLx(w W:TA)(i:Nat)(v:TC)(S:Nat->Bs):Prop:=Below w.heap.size w W/\∃xs,W.ownsRow w.heap.size 23 1 v i xs/\∀j,j<i->∃g c,xs[j]? = some (.slice (some (aZ g)) (S j).size c)/\(S j).size<=c/\v.ownBlock≠some g/\g<W.heap.size/\Holds encB W g 0 (S j)
theorem SLx.app{w wr W:TA}{i c:Nat}{v:TC}{S:Nat->Bs}(h:SLx w wr i v S)(F:i<=1000)(A:Below wr.heap.size wr W)(s:wr.heap.size<W.heap.size)(B:(S i).size<=c)(E:Holds encB W wr.heap.size 0 (S i)):
 ∃o w',(Ur #[24,24] 24 #[v,.slice (some ⟨W.heap.size,0,none⟩) 1 1]).run prog (W.alloc (.cells #[.slice (some ⟨wr.heap.size,0,none⟩) (S i).size c] 23))=.ok o w'/\SLx w w' (i+1) o S:=by
 obtain⟨m,xs,n,G⟩:=h;obtain⟨q,l⟩:=hE (W.alloc (.cells #[.slice (some ⟨wr.heap.size,0,none⟩) (S i).size c] 23));have u:Below W.heap.size W q:=by rw[<-l.out];exact bU _ _
 have d:=A.trans (u.mono A.size);have H:q.ownsRow w.heap.size 23 1 v i xs:=bE n λg r=>d.block g (cN n r).2.1
 obtain⟨o,w',J,I,b⟩:=uK (x:=.slice (some ⟨wr.heap.size,0,none⟩) (S i).size c) (ga:=W.heap.size) H rfl (by rw[<-l.out];exact iC W _ _ 0 _ rfl) F (TU m.size d.size);rw[l.out];have M:=u.size;have hv:∀g,g<q.heap.size->v.ownBlock≠some g->o.ownBlock≠some g:=λg r D e=>by
  rcases b.mv with k|⟨⟨f,t,z⟩,-⟩
  ·rw[k]at e;exact D e
  ·rw[t]at e;obtain rfl:=Uc.inj e;omega
 have l1:xs.length=i:=by have:=n.1;omega
 refine⟨o,w',J,⟨?_,?_,?_,?_,λg r=>?_⟩,_,I,λj L=>?_⟩
 ·rw[b.os,d.os,m.os]
 ·rw[b.tape,d.tape,m.tape]
 ·rw[b.output,d.output,m.output]
 ·exact TU m.size (TU d.size b.size)
 ·have k:=m.size;have z:=d.size;rw[b.keep g (by omega) (λe=>by have:=(cN n e).1;omega),d.block g (by omega)];exact m.block g r
 ·by_cases y:j<i
  ·obtain⟨g,C,t,z,p,a,K⟩:=G j y;have f:g<q.heap.size:=TF a d.size;exact⟨g,C,by rw[UB oM];exact t,z,hv g f p,TF f b.size,BW K (by rw[b.keep g f p,d.block g a])⟩
  ·obtain rfl:j=i:=oM;have p:v.ownBlock≠some wr.heap.size:=λe=>by have:=(cN n e).2.1;omega
   have f:wr.heap.size<q.heap.size:=oM;exact⟨wr.heap.size,c,by rw[U1 oM,l1,Yg];rfl,B,hv _ f p,TF f b.size,BW E (by rw[b.keep _ f p,u.block _ s])⟩
theorem SLx.args{w W:TA}{n:Nat}{v:TC}{S:Nat->Bs}(h:SLx w W n v S):∃q c,v=.slice q n c/\Args W q n S:=by
 obtain⟨r,xs,k,f⟩:=h;rcases id k with⟨-,⟨rfl,rfl⟩|⟨g,cap,cur,rfl,o,p,l⟩⟩
 ·exact⟨none,0,rfl,λh=>absurd h (yBv 0)⟩
 ·refine⟨_,cap,rfl,λ_=>⟨g,rfl,(cN k rfl).2.1,λj d=>?_⟩⟩;obtain⟨gx,c,b,s,-,e,i⟩:=f j d;have:=k.cells (g:=g) rfl j _ b;rw[mF,TO]at this;exact⟨_,this,_,_,c,rfl,rfl,λm=>⟨gx,0,rfl,oM,e,i⟩⟩
theorem Po(g o n c i:Nat)(b:i<n)(w:TA):(UP 22 (.slice (some ⟨g,o,none⟩) n c) (iZ i)).run prog w=.ok (.pointer (some ⟨g,o+i,none⟩)) w:=by
 have d:¬(i:Int)<0:=oM;have k:(i:Int)<(n:Int):=oM;go_simp
def ScR(w:TA)(n:Nat)(S:Nat->Bs)(e:TC)(w':TA):Prop:=Below w.heap.size w w'/\∃q c,e=.slice q n c/\Args w' q n S
theorem yM(q:Option V5)(n c:Nat)(S:Nat->Bs)(w:TA)(H:n<=20)(B:Tx w q n S):TW prog 5 #[.slice q n c] w (Ret (ScR w n S)):=by
 have D:=mk1 B;clear B;go_enter func5,ntmps5;go_wp2;go_loopg [3,4] n (λg s3 s4 W=>∃(i:Nat) (v:TC),i+g=n/\v=s3/\s4=iZ i/\Hid (SLx w W i v S))
 case atStart=>exact⟨0,_,oM,rfl,rfl,TX _ _,[],⟨rfl,Ub ⟨rfl,rfl⟩⟩,λj F=>absurd F (VC _)⟩
 case round =>
  obtain⟨i,v,E,rfl,rfl,t⟩:=hrel;by_cases A:i<n
  ·have z:(i:Int)<(n:Int):=oM;obtain⟨y,x,rfl,o,a⟩:=D.out oM;have hv:wr.cell? ⟨y,x+i,none⟩=some (.string ⟨S i⟩):=by rw[t.1.cell (p:=⟨y,x+i,none⟩) o];exact a i A
   have C:=Po y x n c i A;obtain⟨cap,J,d,k,r,l,b⟩:=Ff ⟨S i⟩ wr;obtain⟨I,G,f,e⟩:=SLx.app t.out oM r b k l;have u:=mk1 e;change _=Result.ok (V1 _ (S i).size cap) _ at d;clear a o e r l b k;generalize (S i).size=m at d f;generalize (XE (S i))=s at hv d;go_wp2_with (at_builtin;refine Vi _ rfl _ _ 24 24 rfl _ _ rfl rfl _ _ f ?_)
   go_roundg (gk-1)
   case measure=>omega
   case rel=>exact⟨i+1,_,oM,rfl,rfl,u⟩
  ·have z:¬(i:Int)<(n:Int):=oM;obtain rfl:i=n:=oM;go_wp2;go_ret;exact⟨_,rfl,t.1,t.out.args⟩
theorem Od{W:TA}{t:Nat}{T:Nat->Bs}{l r x y b e g i:Sv}{ys q d c:List TC}(h:InP W t T l r x y ys q)(k:InP W t T b e g i d c)(s:t<=6):TW prog 7 #[.agg #[l.v,r.v,x.v,y.v],.agg #[b.v,e.v,g.v,i.v]] W λe' w'=>e'=.returned (.bool true)/\Below W.heap.size W w':=
 Be l r x y b e g i W h.vl h.vr k.vl k.vr (by rw[h.nl];omega) (by rw[h.nr];omega) (by rw[h.nl,k.nl]) (by rw[h.nr,k.nr]) λj f=>by
  rw[h.nl,h.nr]at f;obtain⟨u,o,n⟩:=h.ps j f;obtain⟨p,b1,m⟩:=k.ps j f;exact⟨u,p,_,o,b1,n,m⟩
theorem JF{k:Vd}{o:UI}{ev:Operand->TC}{T b:Uw}{x v:TC}{w w':TA}(h:(convert T b x).run k w=.ok v w')(c:UD ev o=convert T b x >>= λv=>pure (Ww v):=by kernel_rfl):(UD ev o).run k w=.ok (.value v) w':=by
 rw[c,Ue,h];rfl
theorem RU{W k:TA}{v vp:TC}{f:List TC}{m:Nat}(h:GLs W k v f)(j:f.length=m)(n:vp.oneCell'=true)(o:m<=1000):∃ga b g c d,v=.slice (some (aZ ga)) m b/\(Ur #[24,24] 24 #[.slice (some (aZ ga)) m b,.slice (some ⟨k.heap.size,0,none⟩) 1 1]).run prog (k.alloc (.cells #[vp] 23))=.ok (.slice (some (aZ g)) (m+1) c) d/\GLs W d (.slice (some (aZ g)) (m+1) c) (f++[vp]):=by
 obtain⟨p,d,i,e⟩:=(h.below (bU k (.cells #[vp] 23))).app (c:=1) (Hk k [vp] 23 λu l=>by rw[XA.1 l];exact n) (by rw[yAd];omega);obtain⟨g,c,rfl,-⟩:=e.lt;obtain⟨ga,b,rfl,-⟩:=h.lt;rw[TT,j]at i e;rw[j];exact⟨ga,b,g,c,d,rfl,i,e⟩
theorem IG(b:ByteArray)(q1 q2:Option V5)(n q c1 c2:Nat)(SA SB:Nat->Bs)(w:TA)(h1:Tx w q1 n SA)(h2:Tx w q2 q SB):
 TW prog 3 #[.string b,.slice q1 n c1,.slice q2 q c2] w λe w'=>e=.returned (.bool true)/\Below w.heap.size w w':=by
 have P:=mk2 h1 h2;clear h1 h2;by_cases hl:(b.size:Int) > 4096
 ·go_enter func3,ntmps3;go_wp2;go_ret;exact⟨rfl,TX _ _⟩
 by_cases hn:(n:Int) > 20
 ·go_enter func3,ntmps3;go_wp2;go_ret;exact⟨rfl,TX _ _⟩
 by_cases ht:(q:Int) > 20
 ·go_enter func3,ntmps3;go_wp2;go_ret;exact⟨rfl,TX _ _⟩
 obtain⟨t,T,X,cd,h0⟩:=PY b oM n q SA SB;have Q:=mk1 h0;clear h0;go_enter func3,ntmps3;go_wp2;go_loopg [7] n (λgk s7 wr=>∃i:Nat,i+gk=n/\s7=iZ i/\w=wr)
 case atStart=>exact⟨0,oM,rfl,rfl⟩
 case round =>
  obtain⟨i,hi,rfl,rfl⟩:=hrel;by_cases j:i<n
  ·have f:(i:Int)<(n:Int):=oM;obtain⟨g,o,rfl,-,c⟩:=P.1 oM;have hv:=c i j;have d:=Po g o n c1 i j;generalize XE (SA i)=s at hv;clear c;by_cases p:(s.size:Int) > 64
   ·go_wp2;go_ret;exact⟨rfl,TX _ _⟩
   ·go_wp2;go_roundg (gk-1)
    case measure=>omega
    case rel=>exact⟨i+1,oM,rfl,rfl⟩
  ·have f:¬(i:Int)<(n:Int):=oM;go_wp2;go_loopg [8] q (λgk s8 wr=>∃i:Nat,i+gk=q/\s8=iZ i/\w=wr)
   case atStart=>exact⟨0,oM,rfl,rfl⟩
   case round =>
    clear j f hi;obtain⟨i,hi,rfl,rfl⟩:=hrel;by_cases j:i<q
    ·have f:(i:Int)<(q:Int):=oM;obtain⟨g,o,rfl,-,c⟩:=P.2 oM;have hv:=c i j;have d:=Po g o q c2 i j;generalize XE (SB i)=s at hv;clear c;by_cases p:(s.size:Int) > 64
     ·go_wp2;go_ret;exact⟨rfl,TX _ _⟩
     ·go_wp2;go_roundg (q-(i+1))
      case measure=>omega
      case rel=>exact⟨i+1,oM,rfl,rfl⟩
    ·have f:¬(i:Int)<(q:Int):=oM;have cA:=mk1 (yM q1 n c1 SA w oM P.1);have cB:=mk1 (λ(W:TA) (hb:Below w.heap.size w W)=>yM q2 q c2 SB W oM (P.2.below hb));go_wp2_with fail
     refine cA.mono ?_;rintro e w1 ⟨uu,rfl,ha,qa,ca,rfl,h3⟩;have B1:=mk2 ha h3;clear ha h3 cA;go_wp2_with fail
     refine(cB w1 B1.1).mono ?_;rintro e w2 ⟨uu,rfl,M,qb,cb,rfl,h4⟩;have cP:=mk1 (Q.pr w2 qa qb ca cb (jS B1.2 M) h4);have B2:=mk1 (B1.1.trans (M.mono B1.1.size));clear M h4 cB B1;go_wp2_with fail
     refine cP.mono ?_;rintro e w3 ⟨uu,rfl,J,vp,l,r,x,y,ys,zs,rfl,⟨qp,np,pc,rfl⟩,hI,hX,hR⟩;obtain⟨k,hk⟩:=hE (w3.heap.size);obtain⟨w4,K⟩:=hE (w3.alloc (.cells [sN,sN,sN,sN].toArray 26));obtain⟨w5,A⟩:=hE (w4.setCells k 0 [l.v,r.v,x.v,y.v]);have F4:=dD hk K;have u:Below w3.heap.size w3 w5:=by rw[<-A.out];exact RG.below_setCells (WG hk.out) _ _ _ F4.1
     have r5:Row w5 k [l.v,r.v,x.v,y.v]:=by rw[<-A.out];exact F4.2.put rfl
     have I:=J.trans (u.mono J.size);have a:=mk6 (B2.trans (I.mono B2.size)) r5 (hI.below u) (hX.below u) (hR.below u) I.size;obtain⟨vI,hvI⟩:=hE (Um #[l.v,r.v,x.v,y.v]);rw[hvI.out];obtain⟨dI,D,F⟩:=TJ.1 qD;have hp:=mk2 D F;clear J hI hX hR u r5 I D F cP;go_wp2_with (first|(refine alR 10 hk K ?_)|(refine Ui rfl 26 (.tmp 10) _ rfl k 0 #[l.v,r.v,x.v,y.v] ?_ ?_ ?_ ?_ ?_ ?_;rfl;exact hvI.out.symm;exact F4.2.2.2;exact jN;kernel_rfl;rw[show(#[l.v,r.v,x.v,y.v]:Array TC).toList=[l.v,r.v,x.v,y.v] from rfl,A.out])|fail)
     refine(Q.rf w5 q1 q2 c1 c2 (P.1.below a.1) (P.2.below a.1)).mono ?_;rintro e w6 ⟨uu,rfl,O,U,V,R,S,hs,hr,rfl,h7⟩;obtain⟨k2,N⟩:=hE (w6.heap.size);obtain⟨w7,H⟩:=hE (w6.alloc (.cells [sN,sN,sN,sN].toArray 26));obtain⟨w8,C⟩:=hE (w7.setCells k2 0 [U.v,V.v,R.v,S.v]);have F7:=dD N H;have b68:Below w6.heap.size w6 w8:=by rw[<-C.out];exact RG.below_setCells (WG N.out) _ _ _ F7.1
     have r8:Row w8 k2 [U.v,V.v,R.v,S.v]:=by rw[<-C.out];exact F7.2.put rfl
     have d:=O.trans (b68.mono O.size);have p:=mk7 (a.1.trans (d.mono a.1.size)) (a.2.1.below d) (a.2.2.1.below d) (a.2.2.2.1.below d) (a.2.2.2.2.1.below d) (TU a.2.2.2.2.2 d.size) (U8 r8 (h7.below b68));obtain⟨vJ,B⟩:=hE (Um #[U.v,V.v,R.v,S.v]);have cS:Hid (TW prog 7 #[vI,vJ] w8 λe' w'=>e'=.returned (.bool true)/\Below w8.heap.size w8 w'):=by
      rw[<-hvI.out,<-B.out];exact Od p.2.2.1 p.2.2.2.2.2.2.2 Q.tl
     rw[B.out];clear O h7 b68 r8 d a F4 K A;go_wp2_with (first|(refine alR 13 N H ?_)|(refine Ui rfl 26 (.tmp 13) _ rfl k2 0 #[U.v,V.v,R.v,S.v] ?_ ?_ ?_ ?_ ?_ ?_;rfl;exact B.out.symm;exact F7.2.2.2;exact jN;kernel_rfl;rw[show(#[U.v,V.v,R.v,S.v]:Array TC).toList=[U.v,V.v,R.v,S.v] from rfl,C.out])|(refine ldR 10 p.2.1.2.1 hvI qD jN ?_)|(refine ldR 13 p.2.2.2.2.2.2.1.2.1 B qD jN ?_)|fail)
     refine cS.mono ?_;rintro e w9 ⟨rfl,c⟩;have z:=mk6 (p.1.trans (c.mono p.1.size)) (p.2.1.below c) (p.2.2.1.below c) (p.2.2.2.1.below c).conv (p.2.2.2.2.1.below c) (TU p.2.2.2.2.2.1 c.size);have cL:Hid (TW prog 9 #[vI] w9 λe w'=>∃v,e=.returned v/\GLs w9 w' v (ys++zs++[x.v,y.v])):=by
      rw[<-hvI.out];exact Ak w9 z.2.2.1.vl z.2.2.1.vr (by rw[z.2.2.1.nl];have:=Q.tl;omega) (by rw[z.2.2.1.nr];have:=Q.tl;omega)
     clear c p cS F7 H C;go_wp2_with (first|(refine cG (v:=.string ⟨X⟩) (w':=w9) rfl (.convert 23 9 (.tmp 76)) rfl ?_ ?_;exact JF z.2.2.2.1)|(refine ldR 10 z.2.1.2.1 hvI qD jN ?_)|fail)
     refine cL.mono ?_;rintro e wa ⟨va,rfl,h8⟩;obtain⟨m,hm⟩:=hE (t+t+2);have E:(ys++zs++[x.v,y.v]).length=m:=by
      have:=z.2.2.2.2.1.len;rw[TT,yAd]at this;have:=hm.out;omega
     have Y:Hid (Rws w2 w9 (m+1) T (ys++zs++[x.v,y.v]++[.slice qp np pc])):=by rw[<-hm.out];exact z.2.2.2.2.1
     have hh:m<=14:=by have:=Q.tl;have:=hm.out;omega
     obtain⟨ga,pa,gb,hq,wb,rfl,L,G⟩:=RU (vp:=.slice qp np pc) h8 E rfl (by omega);have h9:=mk1 (MV Y.out (by omega) z.2.2.2.2.2 G);obtain⟨kz,h5⟩:=hE (wa.heap.size);obtain⟨wz,Z⟩:=hE (wa.alloc (.cells #[.slice qp np pc] 23));rw[h5.out,Z.out]at L;have hg:=mk1 L;have hj:=mk1 (z.1.trans (G.bl.mono z.1.size));generalize m+1=m1 at hg h9;clear h8 G L E cL hm Y hh;go_wp2_with (first|(refine gQ (v:=.slice (some (aZ kz)) 1 1) (w':=wz) rfl (.buildSlice 24 1 #[(0,.tmp 80)]) rfl ?_ ?_;(rw[<-Z.out,<-h5.out];kernel_rfl))|(at_builtin;refine Vi wz rfl _ _ _ _ rfl _ _ rfl rfl _ _ hg.out ?_)|fail)
     refine h9.mono ?_;rintro e wc ⟨rfl,he⟩;have HC:=mk1 (hj.trans (he.mono B2.size));clear he;go_wp2;go_ret;exact⟨rfl,HC.out⟩
end
/-
  THE ROW OF 'SpanProducts' round its walk: a text, two lists of texts.
-/
namespace spanProducts
open Go.ChangeShapes Go.WideShapes Go.ChangeAt Go.RowKit
open Go.ChangeMaps (open_string shut_string)
theorem own:ownKnob prog.godebug=none:=kR
theorem laidOut:laidOutB prog=true:=kR
theorem cells9:prog.cellsOf 9=1:=kR
theorem Ez{H:Type}{enc:Uw × TC->H}{W:TA}{n:Nat}{q:Option V5}{m k:Nat}{x:DataW H × List MemPlace}(hf:DataW.trod enc prog W 0 (λ_=>true) true n 22 [.slice q m k]=some x):∃S,Tx W q m S:=by
 rcases open_strings underlying22 underlying9 cells9 hf with⟨e,p⟩|⟨a,l,c,o,e,_,w,v,r,p,d,s⟩
 ·simp at e;obtain⟨rfl,rfl,rfl⟩:=e;exact⟨λ_=>#[],λh=>absurd h (yBv 0)⟩
 ·simp at e;obtain⟨rfl,rfl,rfl⟩:=e;simp only[if_true]at r;refine⟨λj=>(o.getD j YZ).data,λt=>?_⟩;obtain⟨b,off,g⟩:=a;have f:g=none:=by simpa[XI]using World.cell?_spot (d 0 oM)
  subst f;have i:∀j,j<m->W.cell? ⟨b,off+j,none⟩=some (.string (o.getD j YZ)):=λj u=>by rw[<-d j oM,mF]
  exact⟨b,off,rfl,World.block_lt_of_cell? _ _ (i 0 t),i⟩
theorem lifted(A:Os)(b:A.Started)(H:Type)(enc:Uw × TC->H):
 ReturnsInHanded {} Tryz.checked A 3 .any (Rows.spanProductsSpec.pre6 enc prog Tryz.f3 Rows.spanProductsRow.domain false) (Rows.spanProductsSpec.post enc prog Tryz.f3 false true false false):=by
 refine returnsInHanded_of_change (C:=Tryz.checked) own b kR func3
  (ChangeSpec.witness6 (enc:=enc) (C:=Tryz.checked) false ⟨#[],#[.string YZ,.slice none 0 0,.slice none 0 0],[]⟩ 8 kR kR kR kR) ?_
 intro W base args Q gs j c E a _;have k:=c;have s:=E;obtain⟨p,q,w,S,rfl,h5,h4⟩:=E;have G:DataW.TrodAll enc prog W 0 (λ_=>true) true Tryz.f3.params.toList args.toList Q p:=w;rw[params3]at G k;obtain⟨v0,R,d0,J,p0,q0,o,rfl,rfl,V,Y⟩:=trodAll_cons G;obtain⟨v1,Z,d1,h3,p1,q1,rfl,rfl,rfl,B,L⟩:=trodAll_cons Y;obtain⟨v2,K,d2,M,P,q2,rfl,rfl,rfl,D,T⟩:=trodAll_cons L;obtain⟨rfl,rfl,rfl⟩:=trodAll_nil T;obtain rfl:args=#[v0,v1,v2]:=by cases args;simp_all
 obtain⟨rfl,rfl⟩:=trodVars_none S;obtain⟨X,Q6,i,rfl⟩:=okWide_slice underlying22 (k 1 22 v1 rfl rfl);obtain⟨N,g,f,rfl⟩:=okWide_slice underlying22 (k 2 22 v2 rfl rfl);have F:=B;have z:=D;have r:∀x∈p1,x.block<W.heap.size:=by obtain⟨m,v⟩:=F;exact yBm m _ _ _ v
 have t:∀x∈P,x.block<W.heap.size:=by obtain⟨m,v⟩:=z;exact yBm m _ _ _ v
 obtain⟨a0,rfl,rfl,rfl,I⟩:=open_string underlying9 (k 0 9 v0 rfl rfl) V;obtain⟨f1,n⟩:=B;obtain⟨f2,u⟩:=D;obtain⟨SA,y⟩:=Ez (by simpa[yBy]using n);obtain⟨O,l⟩:=Ez (by simpa[yBy]using u);refine(IG a0 X N Q6 g i f SA O W y l).mono λe W' ⟨U,d⟩=>?_
 subst U;exact⟨_,rfl,_,_,_,[],_,[],s,trodAll_mk1 (shut_bool underlying4 _),trodAll_cons_mk (shut_string underlying9 I) (trodAll_cons_mk (yBJ laidOut kR (of_decide_eq_true kR) F d r) (trodAll_cons_mk (yBJ laidOut kR (of_decide_eq_true kR) z d t) trodAll_mk0)),rfl,d.frame _,λh=>by cases h⟩
theorem over:Rows.spanProductsRow.holds Tryz.pinned (OpenSpec.ofChange Rows.spanProductsSpec):=
 OpenClaim.holds_of_wide 3 Tryz.f3 rfl rfl rfl rfl rfl rfl rfl ⟨rfl,rfl,rfl,rfl,rfl⟩ rfl rfl rfl rfl rfl kR func3 kR
  (of_decide_eq_true kR) (by unfold Func.isWrapper;first|(rw[yB3 dK];kernel_rfl)|(rw[yB4 dK];exact⟨rfl,rfl⟩))
  (λb k H enc _=>lifted b k H enc)
theorem proved:Rows.SpanProductsSaid:=
 over
end spanProducts
section
theorem spanProducts_holds:Rows.SpanProductsSaid:=spanProducts.proved
#print axioms spanProducts_holds
end
end Go.Proofs.YtjnchldodncnbaaGreat
